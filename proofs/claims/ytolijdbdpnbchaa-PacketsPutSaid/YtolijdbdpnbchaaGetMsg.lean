/-
  messages.Get.
  messages.Get: the walk.
-/
import Derived.Test.YtolijdbdpnbchaaMsgWalk
import Derived.Recover
import Derived.Deep.RegionHeld
namespace Go.Proofs.Ytolijdbdpnbchaa
open Go.RowKit
set_option linter.unusedVariables false

theorem run_isErrno (c : Int) (w : World) : (Instr.typeAssert (.iface 38 (.int .i64 c)) 20 38 true).run Try.prog w = .ok (.tuple #[.int .i64 c, .bool true]) w := by kernel_rfl
theorem run_isErrno_nil (w : World) : (Instr.typeAssert .nilIface 20 38 true).run Try.prog w = .ok (.tuple #[.int .i64 0, .bool false]) w := by kernel_rfl

theorem mzero_one : ∀ u ∈ mzero, u.oneCell' = true := by unfold mzero; exact mone rfl rfl rfl
theorem frame37 (a b d i t x u : Value) : (#[a, b, d] : Array Value) ++ (((((((Array.replicate 10 undef).setIfInBounds 3 i).setIfInBounds 4 t).setIfInBounds 2 t).setIfInBounds 5 x).setIfInBounds 6 u).setIfInBounds 0 x).setIfInBounds 1 u = #[a, b, d, x, u, t, i, t, x, u, undef, undef, undef] := by kernel_rfl

set_option maxRecDepth 100000 in
set_option maxHeartbeats 1000000 in
theorem catch_panics (g : Nat) (c : Int) (cs₀ : List Value) (x y : Int) (w : World) (h0 : Row w g 31 cs₀) (hl : cs₀.length = 39) (h1 : Row w (g + 1) 3 [.int .i64 x]) (h2 : Row w (g + 2) 38 [.int .i64 y]) :
    CallsD Try.prog 71 #[.pointer (some ⟨g, 0, none⟩), .pointer (some ⟨g + 1, 0, none⟩), .pointer (some ⟨g + 2, 0, none⟩)] (.panicking ({ v := .iface 38 (.int .i64 c), recovered := false } :: [])) w fun e u' w' =>
      e = .returned (.tuple #[]) ∧ u' = .panicking ({ v := .iface 38 (.int .i64 c), recovered := true } :: []) ∧ Row w' g 31 mzero ∧ Row w' (g + 1) 3 [.int .i64 0] ∧ Row w' (g + 2) 38 [.int .i64 c] ∧ Below g w w' := by
  refine callsD_of_wpS Try.func71 rfl fun c₀ cs hu => ?_
  apply wpS_seq
  apply wpS_region
  simp [wpOpsS, go_sem, run_isErrno, recoverD, hu, Try.ntmps71, Exit.thenS]
  refine wpS_of_wp ?_
  rw [frame37]
  have HS := Lib.hid (show (Try.prog.info? 31).map (·.size) = some mzero.length from size_msg)
  have H0 := Lib.hid h0
  have H1 := Lib.hid h1
  have H2 := Lib.hid h2
  have HL := Lib.hid (show cs₀.length = mzero.length by rw [hl]; rfl)
  clear h0 h1 h2 hl
  go_wp2_with ((with_reducible show wpList _ _ _ ({ dst := none, op := Op.store 31 _ _, type := _, pos := _, after := _, guard := _ } :: _) _ _); go_must (refine wpList_store_whole rfl 31 (.tmp 0) (.tmp 11) rfl g _ mzero H0.out HS.out HL.out mzero_one ?_ ?_ ?_; go_simp; (go_simp; kernel_rfl); intro w1 hr1 ht1; have c1 := (ht1.row H1.out (by omega)).cell 0; have f1 := (ht1.row H1.out (by omega)).frozen 0; have c1 : w1.cell? ⟨g + 1, 0, none⟩ = some (.int .i64 x) := c1; have ht2 := turned_setCell w1 ⟨g + 1, 0, none⟩ (.int .i64 0); have c2 := (ht2.row (ht1.row H2.out (by omega)) (show g + 2 ≠ g + 1 by omega)).cell 0; have f2 := (ht2.row (ht1.row H2.out (by omega)) (show g + 2 ≠ g + 1 by omega)).frozen 0; have c2 : (w1.setCell ⟨g + 1, 0, none⟩ (.int .i64 0)).cell? ⟨g + 2, 0, none⟩ = some (.int .i64 y) := c2; have HT1 := Lib.hid ht1; have HR1 := Lib.hid hr1; have HT2 := Lib.hid ht2; clear ht1 hr1 ht2))
  have q1 := HT1.out.row H1.out (show g + 1 ≠ g by omega)
  have q2 := HT1.out.row H2.out (show g + 2 ≠ g by omega)
  have ht3 := turned_setCell (w1.setCell ⟨g + 1, 0, none⟩ (.int .i64 0)) ⟨g + 2, 0, none⟩ (.int .i64 c)
  refine ⟨rfl, _, rfl, .tuple #[], by simp [results, Try.results71], rfl, rfl, ?_, ?_, ?_, ?_⟩
  · exact (HR1.out.far (show g ≠ g + 1 by omega) _).far (show g ≠ g + 2 by omega) _
  · exact (q1.set_ 0 _).far (show g + 1 ≠ g + 2 by omega) _
  · exact (q2.far (show g + 2 ≠ g + 1 by omega) _).set_ 0 _
  · exact ((HT1.out.below (Nat.le_refl _)).setCell (show g ≤ g + 1 by omega) _).setCell (show g ≤ g + 2 by omega) _

set_option maxRecDepth 100000 in
set_option maxHeartbeats 1000000 in
theorem catch_idle (p0 p1 p2 : Addr) (w : World) :
    CallsD Try.prog 71 #[.pointer (some p0), .pointer (some p1), .pointer (some p2)] .returning w fun e u' w' => e = .returned (.tuple #[]) ∧ u' = .returning ∧ w' = w := by
  refine callsD_of_wpS Try.func71 rfl fun c₀ cs hu => ?_
  apply wpS_seq
  apply wpS_region
  simp [wpOpsS, go_sem, run_isErrno_nil, recoverD, hu, Try.ntmps71, Exit.thenS]
  refine wpS_of_wp ?_
  rw [frame37]
  go_wp2_with fail
  exact ⟨rfl, .returning, by rw [← hu], .tuple #[], by simp [results, Try.results71], rfl, rfl, rfl⟩

theorem front_first : FromFront pFirst := by
  intro zs x r h
  unfold pFirst at h
  split at h
  · cases h
  · rename_i e1
    split at h
    · cases h
    · split at h
      · split at h
        · cases h
        · rename_i e2
          cases h
          exact (front_octet _ _ _ e1).trans (front_octet _ _ _ e2)
      · cases h
        exact front_octet _ _ _ e1
theorem front_looks (v0 : Bool) : FromFront (pLooks v0) := by
  intro zs x r h
  unfold pLooks at h
  split at h
  · exact front_list front_look _ _ _ h
  · cases h
    exact Left.refl _
theorem front_msg : FromFront pMsg := by
  intro zs m r h
  unfold pMsg at h
  split at h
  · cases h
  rename_i e1
  split at h
  · cases h
  rename_i e2
  split at h
  · cases h
  rename_i e3
  split at h
  · cases h
  rename_i e4
  split at h
  · cases h
  rename_i e5
  split at h
  · cases h
  rename_i e6
  split at h
  · cases h
  rename_i e7
  cases h
  exact ((((((front_first _ _ _ e1).trans (front_octet _ _ _ e2)).trans (front_octet _ _ _ e3)).trans (front_list (front_take 32) _ _ _ e4)).trans (front_take 32 _ _ _ e5)).trans (front_list front_in _ _ _ e6)).trans (front_looks _ _ _ _ e7)

/-- what Get leaves -/
def GetDone (w : World) (zs : List Int) (e : Ending) (w' : World) : Prop :=
  (∃ m r q lo, pMsg zs = .ok (m, r) ∧ e = .returned (.tuple #[.agg (Raw.cells q m).toArray, .int .i64 ((zs.length : Int) - r.length), .int .i64 0]) ∧ w.heap.size ≤ lo ∧ MsgV w' lo w'.heap.size q m ∧ Below w.heap.size w w') ∨
  (∃ c, pMsg zs = .error c ∧ e = .returned (.tuple #[.agg mzero.toArray, .int .i64 0, .int .i64 c]) ∧ Below w.heap.size w w')

theorem size_mz : (Try.prog.info? 31).map (·.size) = some mzero.length := size_msg

section
variable {P : Program}
theorem run_loadVar_one (w : World) (a : Addr) (ty : TypeId) (v : Value) (d : TypeDesc) (hu : P.underlying ty = some d) (hd : d.isRow = false) (hc : w.cell? a = some v) : (loadVar ty a).run P w = .ok v w := by
  have hagg : (isAgg ty).run P w = .ok false w := by
    unfold isAgg
    rw [Sem.run_bind, run_underlying hu w]
    cases d <;> simp_all
  simp only [loadVar, Sem.run_bind, hagg, Result.andThen_ok]
  simp [load, Sem.run, hc]
theorem results_three {fn : Func} {p0 p1 p2 : Tmp} {t0 t1 t2 : TypeId} (h : fn.results = #[.cell p0 t0, .cell p1 t1, .cell p2 t2]) (tmps : Array Value) (w : World) (a0 a1 a2 : Addr) (v0 v1 v2 : Value)
    (h0 : tmps.getD p0 undef = .pointer (some a0)) (h1 : tmps.getD p1 undef = .pointer (some a1)) (h2 : tmps.getD p2 undef = .pointer (some a2))
    (l0 : (loadVar t0 a0).run P w = .ok v0 w) (l1 : (loadVar t1 a1).run P w = .ok v1 w) (l2 : (loadVar t2 a2).run P w = .ok v2 w) :
    (results fn tmps).run P w = .ok (.tuple #[v0, v1, v2]) w := by
  have h0' : tmps[p0]?.getD undef = .pointer (some a0) := by simpa using h0
  have h1' : tmps[p1]?.getD undef = .pointer (some a1) := by simpa using h1
  have h2' : tmps[p2]?.getD undef = .pointer (some a2) := by simpa using h2
  simp [results, h, h0', h1', h2', asAddr, l0, l1, l2]

theorem wp_store_whole {op : Oper} {a : Act} {w : World} {K : Act → World → Prop} {Q : Exit → Act → World → Prop} (ty : TypeId) (x y : Operand) (ho : op.op = .store ty x y)
    (g : Nat) (c cs : List Value) (hr : Row w g ty c) (hi : (P.info? ty).map (·.size) = some cs.length) (hl : c.length = cs.length) (h1 : ∀ u ∈ cs, u.oneCell' = true)
    (hx : a.eval x = .pointer (some ⟨g, 0, none⟩)) (hy : a.eval y = .agg cs.toArray)
    (h : ∀ w', Row w' g ty cs → Turned w w' g → K (a.put op.dst undef) w') : op.wp P a w K Q := by
  unfold Oper.wp execOp
  simp only [ho, hx, hy, Sem.run_bind, Sem.run_pure, run_storeAt_whole w g ty c cs hr hi hl h1, Result.andThen_ok]
  exact h _ (row_setRow hr cs) (turned_setRow w g _)
end

theorem leaves_same {P : Program} {fn : Func} {t t' : Array Value} {R : Ending → World → Prop} (h : ∀ w, (results fn t').run P w = (results fn t).run P w) : ∀ (ds : List Deferred) (u : FrameMode) (w : World), Leaves P fn t' R ds u w → Leaves P fn t R ds u w
  | [], .returning, w, ⟨v, hr, hR⟩ => ⟨v, (h w) ▸ hr, hR⟩
  | [], .panicking c, w, hR => hR
  | [], .run, w, hR => hR
  | d :: ds, u, w, ⟨hu, fv, cap, f, args, ht, hi, hc⟩ => ⟨hu, fv, cap, f, args, ht, hi, hc.mono fun e u' w' he => by
      cases e with
      | returned v => exact leaves_same h ds _ _ he
      | panicked c => exact leaves_same h ds _ _ he
      | outgrown => exact he⟩

theorem getD_put (t : Array Value) (d a : Nat) (v : Value) (h : d ≠ a) : (t.setIfInBounds d v).getD a undef = t.getD a undef := by
  simp [Array.getElem?_setIfInBounds_ne h]

theorem put_quiet {K : Act → World → Prop} {R : Ending → World → Prop} (d : Nat) (hd : 5 ≤ d) (v : Value) : ∀ c a w, Exit.then K (bodyPostD Try.prog Try.f61 R) (.panic c) (a.put (some d) v) w → Exit.then K (bodyPostD Try.prog Try.f61 R) (.panic c) a w := by
  intro c a w h
  refine leaves_same (t' := (a.put (some d) v).tmps) (fun w => ?_) _ _ _ h
  simp only [results, Try.results61]
  simp only [Act.put, List.mapM_toArray, List.mapM_cons, List.mapM_nil, getD_put _ d 2 v (by omega), getD_put _ d 3 v (by omega), getD_put _ d 4 v (by omega)]

/-- 'wpAnyH_take', the operations a list: the operation comes out written out -/
theorem takeL {P : Program} {L : List Oper} {Q : Exit → Act → World → Prop} {md : Region.Mode} {S : World → Prop} {i : Nat} {oi : Oper} {v : Value} {fuel : Nat} {listed : Array Bool} {a : Act} {w : World} (hi : L[i]? = some oi)
    (hs : Region.noSelect L.toArray = true) (hf : Region.free md L.toArray listed i = true) (hr : (Region.ready md L.toArray listed).contains i = true)
    (hQ : ∀ c a w, Q (.panic c) (a.put oi.dst v) w → Q (.panic c) a w) (hy : YieldsIf P L.toArray S oi v a) (hS : S w)
    (h : wpAnyH P md L.toArray Q S fuel (listed.setIfInBounds i true) (a.put oi.dst v) w) : wpAnyH P md L.toArray Q S (fuel + 1) listed a w :=
  wpAnyH_take (by simpa using hi) hs hf hr hQ hy hS h
/-- 'AllReadyH.cons', likewise, for one operation -/
theorem readyL {P : Program} {L : List Oper} {Q : Exit → Act → World → Prop} {md : Region.Mode} {S : World → Prop} {i : Nat} {o : Oper} {fuel : Nat} {listed : Array Bool} {a : Act} {w : World} (ho : L[i]? = some o) (hr : Region.ready md L.toArray listed = [i])
    (hw : Region.wanted o (yielded L.toArray a.tmps) = true)
    (h : ∀ K' : Act → World → Prop, Shut (∀ a w, S w → wpAnyH P md L.toArray Q S fuel (listed.setIfInBounds i true) a w → K' a w) → Oper.wp P o a w K' Q) : wpAnyH P md L.toArray Q S (fuel + 1) listed a w :=
  wpAnyH_ready hr (by simp) (AllReadyH.cons (by simpa using ho) (fun K hK => by
    rw [if_pos hw]
    exact h K (fun a w hS hW => hK a w hS fun _ => hW)) AllReadyH.nil)

/-- what stays while Get's last statement is carried out -/
structure Last (g p : Nat) (cs : List Value) (v : Value) (w : World) : Prop where
  c : w.cell? ⟨p, 0, none⟩ = some v
  r : w.rangeAt g 0 cs

set_option maxRecDepth 100000 in
set_option maxHeartbeats 600000 in
theorem get_ (A : Option Addr) (n c B : Nat) (zs : List Int) (w : World) (hs : Sees w B A n (bv zs)) (hB : B ≤ w.heap.size) (hnc : n ≤ c) (hc : c ≤ maxLen) (hz : AllBytes zs) :
    Calls Try.prog 61 #[.slice A n c] w (GetDone w zs) := by
  have hn : zs.length = n := by have := hs.len; rwa [bv_length] at this
  subst hn
  have hmf : ∀ (fn : Fn) (first cap : Array Value) (w : World), (Instr.makeFunc fn first cap).run Try.prog w = .ok (.func fn first cap) w := fun _ _ _ _ => rfl
  obtain ⟨w3, hw3⟩ : ∃ w3, w3 = ((((w.alloc (.cells mzero.toArray 31)).alloc (.cells #[.int .i64 0] 3)).alloc (.cells #[.int .i64 0] 38)).alloc (.cells #[.slice A zs.length c] 118)) := ⟨_, rfl⟩
  have hsz3 : w3.heap.size = w.heap.size + 4 := by rw [hw3]; simp
  have r0 : Row w3 w.heap.size 31 mzero := by rw [hw3]; exact (((Row.new w _ mzero).alloc _).alloc _).alloc _
  have r1 : Row w3 (w.heap.size + 1) 3 [.int .i64 0] := by rw [hw3]; exact ((Row.new' _ _ [.int .i64 0] (by simp)).alloc _).alloc _
  have r2 : Row w3 (w.heap.size + 2) 38 [.int .i64 0] := by rw [hw3]; exact (Row.new' _ _ [.int .i64 0] (by simp)).alloc _
  have r3 : Row w3 (w.heap.size + 3) 118 [.slice A zs.length c] := by rw [hw3]; exact Row.new' _ _ [.slice A zs.length c] (by simp)
  have b3 : Below w.heap.size w w3 := by rw [hw3]; exact ((((Below.refl _ w).alloc (Nat.le_refl _) _).alloc (by simp) _).alloc (by simp; omega) _).alloc (by simp; omega) _
  have hrd : RdIn w3 (w.heap.size + 3) B zs := ⟨A, c, r3, hs.below (b3.mono hB), hnc, hc⟩
  have HM := Lib.hid (message_ (w.heap.size + 3) B zs w3 hrd (by omega) hz)
  have R0 := Lib.hid r0
  have R1 := Lib.hid r1
  have R2 := Lib.hid r2
  have B3 := Lib.hid b3
  have HSZ := Lib.hid hsz3
  have HN := Lib.hid (show zs.length ≤ maxLen by omega)
  have HM' : ∀ W, W = w3 → Hid (Calls Try.prog 72 #[.pointer (some ⟨w.heap.size + 1 + 1 + 1, 0, none⟩)] W (MsgDone w3 (w.heap.size + 1 + 1 + 1) B zs)) := by rintro _ rfl; exact HM
  have HWW := Lib.hid HM'
  have HW3 := Lib.hid hw3
  clear r0 r1 r2 r3 b3 hrd hsz3 hs HM HM' hw3
  go_enter_defers Try.func61, Try.ntmps61
  go_wp2_with fail
  refine (HWW.out _ (by rw [HW3.out]; kernel_rfl)).out.mono ?_
  rintro e w4 (⟨m, r, v, hP, rfl, ⟨q, rfl, hv⟩, hr, hb⟩ | ⟨x, hP, rfl, hb⟩)
  · have hl39 := cells_len (q := q) hv.recent
    have HSM := Lib.hid (show (Try.prog.info? 31).map (·.size) = some (q.cells m).length by rw [size_msg, hl39])
    have hr0 := hb.row R0.out (by omega)
    have hr1 := hb.row R1.out (by omega)
    have hr2 := hb.row R2.out (by omega)
    have HR0 := Lib.hid hr0
    have HR1 := Lib.hid hr1
    have HR2 := Lib.hid hr2
    have HRD := Lib.hid hr
    have HV := Lib.hid hv
    have HP := Lib.hid hP
    have HB4 := Lib.hid (B3.out.trans (hb.below (show w.heap.size ≤ w.heap.size + 3 by omega) (by rw [HSZ.out]; omega)))
    have HS4 := Lib.hid hb.size
    have HL39 := Lib.hid hl39
    clear hr0 hr1 hr2 hr hv hP hb hl39
    go_wp2_with ((with_reducible show wpList _ _ _ ({ dst := none, op := Op.store 31 _ _, type := _, pos := _, after := _, guard := _ } :: _) _ _); go_must (refine wpList_store_whole rfl 31 (.tmp 2) (.tmp 11) rfl w.heap.size mzero (q.cells m) HR0.out HSM.out (by rw [HL39.out]; rfl) cells_one ?_ ?_ ?_; go_simp; go_simp; intro w5 hr5 ht5; have HR5 := Lib.hid hr5; have HT5 := Lib.hid ht5; clear hr5 ht5))
    obtain ⟨A', c', e1, e2, e3, e4⟩ := HRD.out.is
    have hr5p := HT5.out.row e1 (show w.heap.size + 1 + 1 + 1 ≠ w.heap.size by omega)
    have hS5 : Last w.heap.size (w.heap.size + 1 + 1 + 1) (q.cells m) (.slice A' r.length c') w5.drew := ⟨hr5p.drew.cell 0, fun j u hu => by rw [HR5.out.drew.cell, Nat.zero_add]; exact hu⟩
    have HS5 := Lib.hid hS5
    have hr51 : Row w5 (w.heap.size + 1) 3 [.int .i64 0] := HT5.out.row HR1.out (by omega)
    have hr52 : Row w5 (w.heap.size + 1 + 1) 38 [.int .i64 0] := HT5.out.row HR2.out (by omega)
    have HR51 := Lib.hid hr51
    have HR52 := Lib.hid hr52
    clear hr5p hS5 e1 e2 hr51 hr52
    refine wp_region_held (S := Last w.heap.size (w.heap.size + 1 + 1 + 1) (q.cells m) (.slice A' r.length c')) (by kernel_rfl) ?_
    try (change wpAnyH _ _ _ _ _ _ _ _ (World.drew _))
    refine takeL (i := 0) (v := .agg (q.cells m).toArray) rfl (by kernel_rfl) (by kernel_rfl) (by kernel_rfl) (put_quiet 12 (by omega) _) (yieldsIf_load_mid (by rfl) 31 (.tmp 2) rfl w.heap.size 0 (by go_simp) (q.cells m) _ (fun w hw => hw.r) Try.underlying31 rfl HSM.out) HS5.out ?_
    refine takeL (i := 1) (v := ?_) rfl (by kernel_rfl) (by kernel_rfl) (by kernel_rfl) (put_quiet 13 (by omega) _) (Or.inl ⟨by rfl, ?_⟩) HS5.out ?_
    rotate_left
    · intro w hw
      go_simp
      try with_reducible rfl
    try simp only [Act.put, List.setIfInBounds_toArray, List.set_cons_zero, List.set_cons_succ]
    refine takeL (i := 2) (v := ?_) rfl (by kernel_rfl) (by kernel_rfl) (by kernel_rfl) (put_quiet 14 (by omega) _) (Or.inl ⟨by rfl, ?_⟩) HS5.out ?_
    rotate_left
    · intro w hw
      go_simp
      try with_reducible rfl
    try simp only [Act.put, List.setIfInBounds_toArray, List.set_cons_zero, List.set_cons_succ]
    refine takeL (i := 3) (v := ?_) rfl (by kernel_rfl) (by kernel_rfl) (by kernel_rfl) (put_quiet 15 (by omega) _) (Or.inl ⟨by rfl, ?_⟩) HS5.out ?_
    rotate_left
    · intro w hw
      go_simp
      try with_reducible rfl
    try simp only [Act.put, List.setIfInBounds_toArray, List.set_cons_zero, List.set_cons_succ]
    refine takeL (i := 4) (v := ?_) rfl (by kernel_rfl) (by kernel_rfl) (by kernel_rfl) (put_quiet 16 (by omega) _) (Or.inl ⟨by rfl, ?_⟩) HS5.out ?_
    rotate_left
    · intro w hw
      go_simp
      try with_reducible rfl
    try simp only [Act.put, List.setIfInBounds_toArray, List.set_cons_zero, List.set_cons_succ]
    refine takeL (i := 5) (v := ?_) rfl (by kernel_rfl) (by kernel_rfl) (by kernel_rfl) (put_quiet 17 (by omega) _) (Or.inl ⟨by rfl, ?_⟩) HS5.out ?_
    rotate_left
    · intro w hw
      go_simp
      try with_reducible rfl
    try simp only [Act.put, List.setIfInBounds_toArray, List.set_cons_zero, List.set_cons_succ]
    refine takeL (i := 6) (v := ?_) rfl (by kernel_rfl) (by kernel_rfl) (by kernel_rfl) (put_quiet 18 (by omega) _) (Or.inl ⟨by rfl, ?_⟩) HS5.out ?_
    rotate_left
    · intro w hw
      have hc := hw.c
      go_simp
      try with_reducible rfl
    try simp only [Act.put, List.setIfInBounds_toArray, List.set_cons_zero, List.set_cons_succ]
    refine takeL (i := 7) (v := ?_) rfl (by kernel_rfl) (by kernel_rfl) (by kernel_rfl) (put_quiet 19 (by omega) _) (Or.inl ⟨by rfl, ?_⟩) HS5.out ?_
    rotate_left
    · intro w hw
      go_simp
      try with_reducible rfl
    try simp only [Act.put, List.setIfInBounds_toArray, List.set_cons_zero, List.set_cons_succ]
    refine takeL (i := 8) (v := ?_) rfl (by kernel_rfl) (by kernel_rfl) (by kernel_rfl) (put_quiet 20 (by omega) _) (Or.inl ⟨by rfl, ?_⟩) HS5.out ?_
    rotate_left
    · intro w hw
      go_simp
      try with_reducible rfl
    try simp only [Act.put, List.setIfInBounds_toArray, List.set_cons_zero, List.set_cons_succ]
    clear hmf
    refine readyL (i := 9) rfl (by kernel_rfl) (by kernel_rfl) fun K hK => ?_
    have HD := Lib.hid HR5.out.drew
    refine wp_store_whole (P := Try.prog) (w := w5.drew) (K := K) 31 (.tmp 2) (.tmp 12) ?_ w.heap.size (q.cells m) (q.cells m) HD.out HSM.out ?_ ?_ ?_ ?_ ?_
    · rfl
    · rfl
    · exact cells_one
    · go_simp
    · go_simp
    intro w6 hr6 ht6
    have hS6 : Last w.heap.size (w.heap.size + 1 + 1 + 1) (q.cells m) (.slice A' r.length c') w6 := ⟨(World.cell?_of_block (ht6.block (w.heap.size + 1 + 1 + 1) (by omega))).trans HS5.out.c, fun j u hu => by rw [hr6.cell, Nat.zero_add]; exact hu⟩
    have hr61 := ht6.row HR51.out.drew (by omega)
    have hr62 := ht6.row HR52.out.drew (by omega)
    have c1 : w6.cell? ⟨w.heap.size + 1, 0, none⟩ = some (.int .i64 0) := hr61.cell 0
    have f1 := hr61.frozen 0
    have HR6 := Lib.hid hr6
    have HT6 := Lib.hid ht6
    have HR61 := Lib.hid hr61
    have HR62 := Lib.hid hr62
    have HS6 := Lib.hid hS6
    refine hK.out _ _ hS6 ?_
    clear hK K hr6 ht6 hr61 hr62 hS6
    refine readyL (i := 10) rfl (by kernel_rfl) (by kernel_rfl) fun K hK => ?_
    have HK := Lib.hid hK.out
    clear hK
    go_simp
    have hle := (front_msg _ _ _ HP.out).le
    have hmx := HN.out
    unfold maxLen at hmx
    have hwr : IntKind.i64.wrap ((zs.length : Int) - r.length) = (zs.length : Int) - r.length := by rw [IntKind.wrap_i64]; omega
    have ht7 := turned_setCell w6 ⟨w.heap.size + 1, 0, none⟩ (.int .i64 (IntKind.i64.wrap ((zs.length : Int) - r.length)))
    have hr71 : Row _ (w.heap.size + 1) 3 [.int .i64 (IntKind.i64.wrap ((zs.length : Int) - r.length))] := HR61.out.set_ 0 _
    rw [hwr] at ht7 hr71 ⊢
    have hr7 := ht7.row HR6.out (show w.heap.size ≠ w.heap.size + 1 by omega)
    have hr72 := ht7.row HR62.out (show w.heap.size + 1 + 1 ≠ w.heap.size + 1 by omega)
    have hS7 : Last w.heap.size (w.heap.size + 1 + 1 + 1) (q.cells m) (.slice A' r.length c') (w6.setCell ⟨w.heap.size + 1, 0, none⟩ (.int .i64 ((zs.length : Int) - r.length))) :=
      ⟨(World.cell?_of_block (ht7.block (w.heap.size + 1 + 1 + 1) (show w.heap.size + 1 + 1 + 1 ≠ w.heap.size + 1 by omega))).trans HS6.out.c, fun j u hu => by rw [hr7.cell, Nat.zero_add]; exact hu⟩
    refine HK.out _ _ hS7 ?_
    clear HK K c1 f1 hwr hmx hle
    generalize (w6.setCell ⟨w.heap.size + 1, 0, none⟩ (.int .i64 ((zs.length : Int) - r.length))) = w7 at *
    have HT7 := Lib.hid ht7
    have HR71 := Lib.hid hr71
    have HR7 := Lib.hid hr7
    have HR72 := Lib.hid hr72
    have HS7 := Lib.hid hS7
    have c2 : w7.cell? ⟨w.heap.size + 1 + 1, 0, none⟩ = some (.int .i64 0) := hr72.cell 0
    have f2 := hr72.frozen 0
    clear ht7 hr71 hr7 hr72 hS7
    refine readyL (i := 11) rfl (by kernel_rfl) (by kernel_rfl) fun K hK => ?_
    have HK := Lib.hid hK.out
    clear hK
    go_simp
    have ht8 := turned_setCell w7 ⟨w.heap.size + 1 + 1, 0, none⟩ (.int .i64 0)
    have hr82 : Row _ (w.heap.size + 1 + 1) 38 [.int .i64 0] := HR72.out.set_ 0 _
    have hr8 := ht8.row HR7.out (show w.heap.size ≠ w.heap.size + 1 + 1 by omega)
    have hr81 := ht8.row HR71.out (show w.heap.size + 1 ≠ w.heap.size + 1 + 1 by omega)
    have hS8 : Last w.heap.size (w.heap.size + 1 + 1 + 1) (q.cells m) (.slice A' r.length c') (w7.setCell ⟨w.heap.size + 1 + 1, 0, none⟩ (.int .i64 0)) :=
      ⟨(World.cell?_of_block (ht8.block (w.heap.size + 1 + 1 + 1) (show w.heap.size + 1 + 1 + 1 ≠ w.heap.size + 1 + 1 by omega))).trans HS7.out.c, fun j u hu => by rw [hr8.cell, Nat.zero_add]; exact hu⟩
    refine HK.out _ _ hS8 ?_
    clear HK K c2 f2
    generalize (w7.setCell ⟨w.heap.size + 1 + 1, 0, none⟩ (.int .i64 0)) = w8 at *
    have HT8 := Lib.hid ht8
    have HR81 := Lib.hid hr81
    have HR8 := Lib.hid hr8
    have HR82 := Lib.hid hr82
    clear ht8 hr81 hr8 hr82 hS8
    refine wpAnyH_done (by kernel_rfl) ?_ _
    go_wp2_with fail
    refine leaves_cons (f := 71) (args := #[.pointer (some ⟨w.heap.size, 0, none⟩), .pointer (some ⟨w.heap.size + 1, 0, none⟩), .pointer (some ⟨w.heap.size + 1 + 1, 0, none⟩)]) (by simp) (by simp [go_sem]) ?_
    refine (catch_idle _ _ _ _).mono ?_
    rintro e u' w9 ⟨rfl, rfl, rfl⟩
    refine ⟨_, results_three (h := rfl) _ w9 ⟨w.heap.size, 0, none⟩ ⟨w.heap.size + 1, 0, none⟩ ⟨w.heap.size + 1 + 1, 0, none⟩ _ _ _ (by rfl) (by rfl) (by rfl) (run_loadVar_row w9 w.heap.size 31 31 (q.cells m).toArray (0, 0) _ HR8.out.is Try.underlying31 rfl (by rw [List.size_toArray]; exact HSM.out)) (run_loadVar_one w9 _ 3 _ _ Try.underlying3 rfl (HR81.out.cell 0)) (run_loadVar_one w9 _ 38 _ _ Try.underlying38 rfl (HR82.out.cell 0)), ?_⟩
    have e3 := HSZ.out
    have e5 := HT5.out.size
    have e6 : w6.heap.size = w5.heap.size := HT6.out.size
    have e7 := HT7.out.size
    have e8 := HT8.out.size
    have t6 : Turned w5 w6 w.heap.size := ⟨HT6.out.os, HT6.out.tape, HT6.out.output, HT6.out.size, HT6.out.block⟩
    have v5 := HV.out.turned HT5.out (by omega)
    have v6 := v5.turned t6 (by omega)
    have v7 := v6.turned HT7.out (show w.heap.size + 1 < w3.heap.size by omega)
    have v8 := v7.turned HT8.out (show w.heap.size + 1 + 1 < w3.heap.size by omega)
    refine .inl ⟨m, r, q, w3.heap.size, HP.out, rfl, by omega, v8.more (by omega), ?_⟩
    exact (((HB4.out.trans (HT5.out.below (Nat.le_refl _))).trans (t6.below (Nat.le_refl _))).trans (HT7.out.below (show w.heap.size ≤ w.heap.size + 1 by omega))).trans (HT8.out.below (show w.heap.size ≤ w.heap.size + 1 + 1 by omega))
  · have hr0 := hb.row R0.out (by omega)
    have hr1 := hb.row R1.out (by omega)
    have hr2 := hb.row R2.out (by omega)
    have hb4 := B3.out.trans (hb.below (show w.heap.size ≤ w.heap.size + 3 by omega) (by rw [HSZ.out]; omega))
    refine leaves_cons (f := 71) (args := #[.pointer (some ⟨w.heap.size, 0, none⟩), .pointer (some ⟨w.heap.size + 1, 0, none⟩), .pointer (some ⟨w.heap.size + 1 + 1, 0, none⟩)]) (by simp) (by simp [go_sem]) ?_
    refine (catch_panics w.heap.size x mzero 0 0 w4 hr0 (mlen zero32_len) hr1 hr2).mono ?_
    rintro e u' w5 ⟨rfl, rfl, h0, h1, h2, hb5⟩
    refine ⟨_, results_three (h := rfl) _ w5 ⟨w.heap.size, 0, none⟩ ⟨w.heap.size + 1, 0, none⟩ ⟨w.heap.size + 1 + 1, 0, none⟩ _ _ _ (by rfl) (by rfl) (by rfl) (run_loadVar_row w5 w.heap.size 31 31 mzero.toArray (0, 0) _ h0.is Try.underlying31 rfl (by rw [List.size_toArray]; exact size_mz)) (run_loadVar_one w5 _ 3 _ _ Try.underlying3 rfl (h1.cell 0)) (run_loadVar_one w5 _ 38 _ _ Try.underlying38 rfl (h2.cell 0)), ?_⟩
    exact .inr ⟨x, hP, rfl, hb4.trans hb5⟩
end Go.Proofs.Ytolijdbdpnbchaa
