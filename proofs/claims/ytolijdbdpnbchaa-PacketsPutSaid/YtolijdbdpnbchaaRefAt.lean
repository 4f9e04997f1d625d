/-
  ferryhouseref03.Get: what is known of its blocks while it works.
-/
import Derived.Test.YtolijdbdpnbchaaSteps
import Derived.Test.YtolijdbdpnbchaaIsIn
import Derived.Test.YtolijdbdpnbchaaSameZero
import Derived.Deep.RegionHeld2
import Derived.Deep.CutBlock
import Derived.Laws.Tables
namespace Go.Proofs.Ytolijdbdpnbchaa
open Go.RowKit
set_option linter.unusedVariables false

/-- a message in the making, w0 the world ahead: its result's block, its taker's, its own -/
structure RAt (w0 w : World) (B : Nat) (zs : List Int) (cs : List Value) (s : St) : Prop where
  row : Row w (w0.heap.size + 1 + 1) 31 cs
  res : Row w w0.heap.size 31 mzero
  tk : TkIn w (w0.heap.size + 1) B zs s
  below : Below w0.heap.size w0 w

section
variable {w0 w w' : World} {B : Nat} {zs : List Int} {cs cs' : List Value} {s s' : St}
theorem RAt.call (h : RAt w0 w B zs cs s) (hb : But (w0.heap.size + 1) w w') (ht : TkIn w' (w0.heap.size + 1) B zs s') : RAt w0 w' B zs cs s' :=
  ⟨hb.row h.row (by omega), hb.row h.res (by omega), ht, h.below.trans (hb.below (by omega) h.below.size)⟩
theorem RAt.set {k : Nat} {v : Value} (h : RAt w0 w B zs cs s) (hB : B ≤ w0.heap.size) (hr : Row (w.setCell ⟨w0.heap.size + 1 + 1, k, none⟩ v) (w0.heap.size + 1 + 1) 31 cs') : RAt w0 (w.setCell ⟨w0.heap.size + 1 + 1, k, none⟩ v) B zs cs' s :=
  ⟨hr, (turned_setCell w ⟨w0.heap.size + 1 + 1, k, none⟩ v).row h.res (by simp; omega), h.tk.turned (turned_setCell w ⟨w0.heap.size + 1 + 1, k, none⟩ v) (by simp) (by simp; omega), h.below.trans ((turned_setCell w ⟨w0.heap.size + 1 + 1, k, none⟩ v).below (by simp; omega))⟩
theorem RAt.turned (h : RAt w0 w B zs cs s) (hB : B ≤ w0.heap.size) (hr : Row w' (w0.heap.size + 1 + 1) 31 cs') (ht : Turned w w' (w0.heap.size + 1 + 1)) : RAt w0 w' B zs cs' s :=
  ⟨hr, ht.row h.res (by omega), h.tk.turned ht (by omega) (by omega), h.below.trans (ht.below (by omega))⟩
theorem RAt.drewN (h : RAt w0 w B zs cs s) (k : Nat) : RAt w0 (w.drewN k) B zs cs s := ⟨h.row.drewN k, h.res.drewN k, h.tk.drewN k, below_drewN h.below k⟩
end

/-- the number in a taker's third cell -/
def ecode : St → Int
  | .ok _ => 0
  | .error c => c

theorem TkIn.ecell {w : World} {p B : Nat} {zs : List Int} {s : St} (h : TkIn w p B zs s) : w.cell? ⟨p, 2, none⟩ = some (.int .i64 (ecode s)) ∧ ((ecode s = 0 ∧ ∃ r, s = .ok r) ∨ (ecode s ≠ 0 ∧ ∃ c, s = .error c)) := by
  obtain ⟨A, c, k, e, hr, _, _, _, _, h4⟩ := h.is
  have h2 : w.cell? ⟨p, 2, none⟩ = some (.int .i64 e) := hr.cell 2
  rcases h4 with ⟨rfl, rfl⟩ | ⟨rfl, he⟩
  · exact ⟨h2, .inl ⟨rfl, _, rfl⟩⟩
  · exact ⟨h2, .inr ⟨he, _, rfl⟩⟩

theorem rat_first {w w1 : World} {B c : Nat} {A : Option Addr} {zs : List Int} {C : Array Value} (hx : Sees w B A zs.length (bv zs)) (hnc : zs.length ≤ c ∧ (A = none → c = 0)) (hc : c ≤ maxLen) (hB : B ≤ w.heap.size)
    (hr : Row w1 ((w.alloc (.cells C 31)).alloc (.cells #[.slice A zs.length c, .int .i64 0, .int .i64 0] 104)).heap.size 31 mzero)
    (hb : Below ((w.alloc (.cells C 31)).alloc (.cells #[.slice A zs.length c, .int .i64 0, .int .i64 0] 104)).heap.size ((w.alloc (.cells C 31)).alloc (.cells #[.slice A zs.length c, .int .i64 0, .int .i64 0] 104)) w1)
    (hC : C = mzero.toArray := by rfl) : RAt w w1 B zs mzero (.ok zs) := by
  subst hC
  have h0 : Row ((w.alloc (.cells mzero.toArray 31)).alloc (.cells #[.slice A zs.length c, .int .i64 0, .int .i64 0] 104)) w.heap.size 31 mzero := (Row.new w _ _).alloc _
  have h1 : Row ((w.alloc (.cells mzero.toArray 31)).alloc (.cells #[.slice A zs.length c, .int .i64 0, .int .i64 0] 104)) (w.heap.size + 1) 104 [.slice A zs.length c, .int .i64 0, .int .i64 0] := Row.new' _ _ _ (by simp)
  have h2 : Below w.heap.size w ((w.alloc (.cells mzero.toArray 31)).alloc (.cells #[.slice A zs.length c, .int .i64 0, .int .i64 0] 104)) := ((Below.refl _ _).alloc (Nat.le_refl _) _).alloc (by simp) _
  have hz : ((w.alloc (.cells mzero.toArray 31)).alloc (.cells #[.slice A zs.length c, .int .i64 0, .int .i64 0] 104)).heap.size = w.heap.size + 1 + 1 := by simp
  rw [hz] at hr hb
  have hb2 := h2.trans (hb.mono (by omega))
  exact ⟨hr, h0.below hb (by omega), ⟨A, c, 0, 0, h1.below hb (by omega), hx.below (hb2.mono hB), hnc, hc, by omega, .inl ⟨rfl, rfl⟩⟩, hb2⟩

theorem step_octet {zs r : List Int} {x a : Int} {s : St} (h : Step pOctet (.ok zs) x s) (hp : pOctet zs = .ok (a, r)) : x = a ∧ s = .ok r := by
  unfold Step at h
  simp only [hp] at h
  exact h
theorem step_octet_no {zs : List Int} {x k : Int} {s : St} (h : Step pOctet (.ok zs) x s) (hp : pOctet zs = .error k) : s = .error k := by
  unfold Step at h
  simp only [hp] at h
  exact h

/-- what Get tells: its message, of its own blocks; or the error -/
def RefGot (w : World) (zs : List Int) (e : Ending) (w' : World) : Prop :=
  Below w.heap.size w w' ∧ ((∃ m r q, pMsg zs = .ok (m, r) ∧ e = .returned (.tuple #[.agg (q.cells m).toArray, .int .i64 ((zs.length - r.length : Nat) : Int), .int .i64 0]) ∧ MsgV w' w.heap.size w'.heap.size q m) ∨
    ∃ k, pMsg zs = .error k ∧ e = .returned (.tuple #[.agg mzero.toArray, .int .i64 0, .int .i64 k]))

/-- two that may come up -/
theorem readyL2 {P : Program} {L : List Oper} {Q : Exit → Act → World → Prop} {md : Region.Mode} {S : World → Prop} {i j : Nat} {o o' : Oper} {fuel : Nat} {listed : Array Bool} {a : Act} {w : World} (ho : L[i]? = some o) (ho' : L[j]? = some o') (hr : Region.ready md L.toArray listed = [i, j])
    (hw : Region.wanted o (yielded L.toArray a.tmps) = true) (hw' : Region.wanted o' (yielded L.toArray a.tmps) = true)
    (h : ∀ K' : Act → World → Prop, Shut (∀ a w, S w → wpAnyH P md L.toArray Q S fuel (listed.setIfInBounds i true) a w → K' a w) → Oper.wp P o a w K' Q)
    (h' : ∀ K' : Act → World → Prop, Shut (∀ a w, S w → wpAnyH P md L.toArray Q S fuel (listed.setIfInBounds j true) a w → K' a w) → Oper.wp P o' a w K' Q) : wpAnyH P md L.toArray Q S (fuel + 1) listed a w :=
  wpAnyH_ready hr (by simp) (AllReadyH.cons (by simpa using ho) (fun K hK => by
    rw [if_pos hw]
    exact h K (fun a w hS hW => hK a w hS fun _ => hW)) (AllReadyH.cons (by simpa using ho') (fun K hK => by
    rw [if_pos hw']
    exact h' K (fun a w hS hW => hK a w hS fun _ => hW)) AllReadyH.nil))

section
variable {P : Program}
/-- 'wpList_buildOne' as one step -/
theorem wp_buildOne {o : Oper} {a : Act} {w : World} {K : Act → World → Prop} {Q : Exit → Act → World → Prop} (t e : TypeId) (y : Operand) (ho : o.op = .buildSlice t 1 #[(0, y)])
    (cs : List Value) (z : Value) (size bytes : Nat) (hu : P.underlying t = some (.slice e)) (hi : (P.info? e).map (fun i => (i.zero, i.size, i.bytes)) = some (some z, size, bytes)) (hzs : z.cells.size = size) (hs0 : 0 < size) (hs1 : size ≤ 1000)
    (hcs : cs.length = size) (hy : a.eval y = .agg cs.toArray)
    (h : K (a.put o.dst (.slice (some ⟨w.heap.size, 0, none⟩) 1 1)) (w.alloc (.cells cs.toArray e))) : o.wp P a w K Q := by
  obtain ⟨ie, hie, h1, h2, _⟩ := info_parts hi
  subst h2
  refine wp_buildSlice t e 1 _ ho cs.toArray ie z hu hie h1 (by omega) (by omega) ?_ h
  have := Go.Great.fill_whole (s := ie.size) hs0 [Value.agg cs.toArray] ((Array.range (1 * ie.size)).map (z.cells[· % z.cells.size]!)) (by simp [Value.cells, hcs]) (by simp)
  simpa [hy, Value.cells] using this

/-- 'wpList_addRow' as one step -/
theorem wp_addRow {w0 : World} {c : Array Value} {o : Oper} {a : Act} {K : Act → World → Prop} {Q : Exit → Act → World → Prop} (s x : Operand) (t : TypeId)
    (ho : o.op = .call { callee := .builtin .append, args := #[s, x], argTypes := #[t, t] })
    (base : Nat) (e : TypeId) (z : Value) (size bytes : Nat) (ht : P.underlying t = some (.slice e)) (hi : (P.info? e).map (fun i => (i.zero, i.size, i.bytes)) = some (some z, size, bytes)) (hzs : z.cells.size = size) (hs0 : 0 < size)
    (v : Value) (n : Nat) (xs cs : List Value) (cc : Nat) (hcs : cs.length = size) (h1 : ∀ u ∈ cs, u.oneCell' = true) (hc : c = cs.toArray) (hs : a.eval s = v) (hown : w0.ownsRow base e size v n xs)
    (hx : a.eval x = .slice (some ⟨w0.heap.size, 0, none⟩) 1 cc) (hbase : base ≤ w0.heap.size) (hnm : n + 1 ≤ maxLen) (hbytes : (n + 1) * bytes ≤ 140737488355328)
    (h : ∀ v' w', w'.ownsRow base e size v' (n + 1) (xs ++ cs) → Grew w0 w' v v' → K (a.put o.dst v') w') : o.wp P a (w0.alloc (.cells c e)) K Q := by
  subst hc
  obtain ⟨i0, hi, hz0, hz1, hz2⟩ := info_parts hi
  have hr := Row.new w0 e cs
  obtain ⟨v', w', hrun, h2, h3, _, h5⟩ := run_append_own_at (P := P) (w0.alloc (.cells cs.toArray e)) base t o.type e i0 z size bytes ht hi hz0 hz1 hz2 hzs hs0 v n xs (hown.alloc _) ⟨w0.heap.size, 0, none⟩ 1 cc cs (by omega)
    (fun j u hu => by rw [addr_row, hr.cell]; simpa using hu) h1 hnm hbytes (by simp; omega)
  unfold Oper.wp execOp
  simp only [ho, resolve, invoke, builtin, Sem.run_bind, Sem.run_pure, Result.andThen_ok, List.map_toArray, List.map_cons, List.map_nil, hs, hx, hrun]
  refine h v' w' h2 ((Grew.of_below ((Below.refl _ w0).alloc (Nat.le_refl _) _) v).trans ⟨h3, fun k hk => ?_⟩)
  rcases h5 with h5 | h5
  · exact .inl (h5 ▸ hk)
  · rw [h5] at hk
    cases hk
    exact .inr (Nat.le_refl _)
end

/-- the lists of a message in the making -/
structure Loop3 {α : Type} (EV : World → Nat → Nat → List Value → α → Prop) (e size : Nat) (one : List Int → PR α) (w0 : World) (B : Nat) (zs : List Int) (f : Value → List Value) (s0 : St) (lo k : Nat) (s : St) (V : Value) (w : World) (l : List α) : Prop where
  len : l.length = k
  step : Step (pMany one k) s0 l s
  at_ : RAt w0 w B zs (f V) s
  list : ∃ css L R, LV EV e size w lo V l css L R
  lo : lo ≤ w.heap.size

theorem RAt.grew {w0 w w' : World} {B : Nat} {zs : List Int} {cs : List Value} {s : St} {v v' : Value} {lo n size : Nat} {e : TypeId} {xs : List Value} (h : RAt w0 w B zs cs s) (hg : Grew w w' v v') (ho : w.ownsRow lo e size v n xs) (hlo : w0.heap.size + 1 + 1 < lo) (hB : B ≤ w0.heap.size) : RAt w0 w' B zs cs s := by
  have hne : ∀ g, g < lo → some g ≠ v.ownBlock := fun g hg e' => by
    have := (ho.lt g e'.symm).1
    omega
  refine ⟨hg.row h.row (hne _ (by omega)), hg.row h.res (hne _ (by omega)), h.tk.grown hg.grown (hne _ (by omega)) (fun k hk => ?_) (by omega), h.below.trans ((Below.refl _ w).grown hg.grown h.below.size fun k hk => ?_)⟩
  · have := (ho.lt k hk).1
    omega
  · have := (ho.lt k hk).1
    omega

theorem own_formN {w : World} {base : Nat} {e : TypeId} {size : Nat} {v : Value} {n : Nat} {xs : List Value} (h : w.ownsRow base e size v n xs) : ∃ A c, v = .slice A n c := by
  rcases h.2 with ⟨rfl, rfl⟩ | ⟨g, cap, cur, rfl, _⟩
  · exact ⟨_, _, rfl⟩
  · exact ⟨_, _, rfl⟩

theorem LVR.grew {α : Type} {EV : World → Nat → Nat → List Value → α → Prop} {e size : Nat} {w w' : World} {lo hi : Nat} {v : Value} {l : List α} {lo2 n size2 : Nat} {e2 : TypeId} {u u' : Value} {xs : List Value}
    (h : LVR EV e size w lo hi v l) (hg : Grew w w' u u') (ho : w.ownsRow lo2 e2 size2 u n xs) (hh : hi ≤ lo2) : LVR EV e size w' lo hi v l := by
  obtain ⟨w0, css, L, R, h1, h2, h3, h4⟩ := h
  have := hg.size
  refine ⟨w0, css, L, R, h1, h2, by omega, fun k a b => (hg.grown.block k (by omega) fun e' => ?_).trans (h4 k a b)⟩
  have := (ho.lt k e'.symm).1
  omega

theorem results_cell_two {P : Program} {fn : Func} {p t u : Tmp} {ty : TypeId} (h : fn.results = #[.cell p ty, .tmp t, .tmp u]) (tmps : Array Value) (w : World) (a0 : Addr) (v0 v1 v2 : Value) (h0 : tmps.getD p undef = .pointer (some a0)) (l0 : (loadVar ty a0).run P w = .ok v0 w)
    (h1 : tmps.getD t undef = v1) (h2 : tmps.getD u undef = v2) : (results fn tmps).run P w = .ok (.tuple #[v0, v1, v2]) w := by
  have h0' : tmps[p]?.getD undef = .pointer (some a0) := by simpa using h0
  have h1' : tmps[t]?.getD undef = v1 := by simpa using h1
  have h2' : tmps[u]?.getD undef = v2 := by simpa using h2
  simp [results, h, h0', h1', h2', asAddr, l0]

theorem TkIn.acell {w : World} {p B : Nat} {zs r : List Int} (h : TkIn w p B zs (.ok r)) : w.cell? ⟨p, 1, none⟩ = some (.int .i64 ((zs.length - r.length : Nat) : Int)) := by
  obtain ⟨A, c, k, e, hr, _, _, _, h3, h4⟩ := h.is
  have h2 : w.cell? ⟨p, 1, none⟩ = some (.int .i64 k) := hr.cell 1
  rcases h4 with ⟨h4, _⟩ | ⟨h4, _⟩
  · cases h4
    rw [h2, List.length_drop, show zs.length - (zs.length - k) = k by omega]
  · cases h4

/-- what stays while Get's last statement is carried out -/
structure Last3 (g : Nat) (p : Addr) (cs : List Value) (v : Value) (w : World) : Prop where
  c : w.cell? p = some v
  r : w.rangeAt g 0 cs

theorem built_look (l : List Value) (hl : l.length = 32) : Try.prog.built 93 [(0, .agg l.toArray)] = some (l ++ [Value.slice none 0 0, Value.slice none 0 0]).toArray := by
  obtain ⟨f, rfl⟩ : ∃ f : Fin 32 → Value, l = List.ofFn f := ⟨fun i => l.getD i undef, by
    refine List.ext_getElem (by simpa using hl) fun i h1 h2 => ?_
    rw [List.getElem_ofFn, List.getD_eq_getElem?_getD, List.getElem?_eq_getElem h1]
    rfl⟩
  kernel_rfl
theorem wpList_build_look {ops : Array Oper} {rest : List Oper} {o : Oper} {a : Act} {w : World} {Q : Exit → Act → World → Prop} (hg : o.guard = none) (y : Operand) (ho : o.op = .build 93 #[(0, y)])
    (l : List Value) (hl : l.length = 32) (hy : a.eval y = .agg l.toArray) (h : wpList Try.prog ops Q rest (a.put o.dst (.agg (l ++ [Value.slice none 0 0, Value.slice none 0 0]).toArray)) w) : wpList Try.prog ops Q (o :: rest) a w := by
  have hb : Try.prog.built 93 ((#[(0, y)] : Array (Nat × Operand)).map fun (i, x) => (i, a.eval x)).toList = some (l ++ [Value.slice none 0 0, Value.slice none 0 0]).toArray := by
    simp only [List.map_toArray, List.map_cons, List.map_nil, hy]
    exact built_look l hl
  exact wpList_build hg _ _ ho (by rw [hb]; rfl) (by rw [hb]; exact h)
theorem lset32 {w : World} {g t : Nat} {tab : List Int} {a b : Value} (h : Row w g t (bv tab ++ [a, b])) (ht : tab.length = 32) (v : Value) : Row (w.setCell ⟨g, 32, none⟩ v) g t (bv tab ++ [v, b]) := by
  have e := h.set_ 32 v
  rw [List.set_append_right _ _ (by rw [bv_length, ht]; omega), bv_length, ht] at e
  exact e
theorem lset33 {w : World} {g t : Nat} {tab : List Int} {a b : Value} (h : Row w g t (bv tab ++ [a, b])) (ht : tab.length = 32) (v : Value) : Row (w.setCell ⟨g, 33, none⟩ v) g t (bv tab ++ [a, v]) := by
  have e := h.set_ 33 v
  rw [List.set_append_right _ _ (by rw [bv_length, ht]; omega), bv_length, ht] at e
  exact e

theorem look_one (t : List Int) {a b : Value} (ha : a.oneCell' = true) (hb : b.oneCell' = true) : ∀ u ∈ bv t ++ [a, b], u.oneCell' = true := by
  intro u hu
  rcases List.mem_append.1 hu with hu | hu
  · exact bv_one t u hu
  · simp only [List.mem_cons, List.not_mem_nil, or_false] at hu
    rcases hu with rfl | rfl <;> assumption

/-- one more of them -/
theorem Loop3.snoc {α : Type} {EV : World → Nat → Nat → List Value → α → Prop} {e size : Nat} {one : List Int → PR α} {w0 w w1 w3 : World} {B : Nat} {zs : List Int} {f : Value → List Value} {s0 s s' : St} {lo k c : Nat} {V v3 : Value} {l : List α} {x : α} {css : List (List Value)} {cs : List Value} {L R : Nat → Nat}
    (h : Loop3 EV e size one w0 B zs f s0 lo k s V w l) (hS : Stays EV) (hlo : w0.heap.size + 1 + 1 < lo) (hB : B ≤ w0.heap.size) (hv : LV EV e size w lo V l css L R) (hb : But (w0.heap.size + 1) w w1) (he : EV w1 w.heap.size w1.heap.size cs x) (hs : Step one s x s') (ht : TkIn w1 (w0.heap.size + 1) B zs s')
    (hg : Grew w1 w3 V v3) (h3 : w3.ownsRow lo e size v3 (l.length + 1) (css.flatten ++ cs))
    (hf : ∀ w V V', Row w (w0.heap.size + 1 + 1) 31 (f V) → Row (w.setCell ⟨w0.heap.size + 1 + 1, c, none⟩ V') (w0.heap.size + 1 + 1) 31 (f V')) :
    Loop3 EV e size one w0 B zs f s0 lo (k + 1) s' v3 (w3.setCell ⟨w0.heap.size + 1 + 1, c, none⟩ v3) (l ++ [x]) := by
  have h1 := h.at_.call hb ht
  have hv1 : w1.ownsRow lo e size V l.length css.flatten := (hv.but hS hb (by omega)).own
  have h2 := h1.grew hg hv1 hlo hB
  have hT := turned_setCell w3 ⟨w0.heap.size + 1 + 1, c, none⟩ v3
  have hz1 := hb.size
  have hz3 := hg.size
  refine ⟨by simp [h.len], h.step.many1 hs, h2.set hB (hf _ V v3 h2.row), ⟨_, _, _, (hv.snoc hS hb (by omega) h.lo he hg h3).but hS (But.of_turned hT) (by simpa using hlo)⟩, ?_⟩
  rw [hT.size]
  have := h.lo
  omega
theorem Loop3.fail {α : Type} {EV : World → Nat → Nat → List Value → α → Prop} {e size : Nat} {one : List Int → PR α} {w0 w : World} {B : Nat} {zs : List Int} {f : Value → List Value} {s0 : St} {lo k n : Nat} {V : Value} {l : List α} {c : Int}
    (h : Loop3 EV e size one w0 B zs f s0 lo k (.error c) V w l) (hk : k ≤ n) : Step (pMany one n) s0 l (.error c) := h.step.many_fail hk l
end Go.Proofs.Ytolijdbdpnbchaa
