/-
  Lists of elements of many cells that a call makes one by one, each with lists of its own behind it: what is known of them; the walk's arms.
-/
import Derived.Test.YtolijdbdpnbchaaReadIn
import Derived.Great.BuildSlice
namespace Go.Proofs.Ytolijdbdpnbchaa
open Go.RowKit
set_option linter.unusedVariables false

section
variable {P : Program}
/-- a slice literal of one element of many cells -/
theorem wpList_buildOne {ops : Array Oper} {rest : List Oper} {o : Oper} {a : Act} {w : World} {Q : Exit → Act → World → Prop} (hg : o.guard = none) (t e : TypeId) (y : Operand) (ho : o.op = .buildSlice t 1 #[(0, y)])
    (cs : List Value) (z : Value) (size bytes : Nat) (hu : P.underlying t = some (.slice e)) (hi : (P.info? e).map (fun i => (i.zero, i.size, i.bytes)) = some (some z, size, bytes)) (hzs : z.cells.size = size) (hs0 : 0 < size) (hs1 : size ≤ 1000)
    (hcs : cs.length = size) (hy : a.eval y = .agg cs.toArray)
    (h : wpList P ops Q rest (a.put o.dst (.slice (some ⟨w.heap.size, 0, none⟩) 1 1)) (w.alloc (.cells cs.toArray e))) : wpList P ops Q (o :: rest) a w := by
  obtain ⟨ie, hie, h1, h2, _⟩ := info_parts hi
  subst h2
  refine wpList_buildSlice hg t e 1 _ ho cs.toArray ie z hu hie h1 (by omega) (by omega) ?_ h
  have := Go.Great.fill_whole (s := ie.size) hs0 [Value.agg cs.toArray] ((Array.range (1 * ie.size)).map (z.cells[· % z.cells.size]!)) (by simp [Value.cells, hcs]) (by simp)
  simpa [hy, Value.cells] using this

/-- append of an element that has just been laid, onto a row of one's own -/
theorem wpList_addRow {w0 : World} {c : Array Value} {ops : Array Oper} {rest : List Oper} {o : Oper} {a : Act} {Q : Exit → Act → World → Prop} (hgd : o.guard = none) (s x : Operand) (t : TypeId)
    (ho : o.op = .call { callee := .builtin .append, args := #[s, x], argTypes := #[t, t] })
    (base : Nat) (e : TypeId) (z : Value) (size bytes : Nat) (ht : P.underlying t = some (.slice e)) (hi : (P.info? e).map (fun i => (i.zero, i.size, i.bytes)) = some (some z, size, bytes)) (hzs : z.cells.size = size) (hs0 : 0 < size)
    (v : Value) (n : Nat) (xs cs : List Value) (cc : Nat) (hcs : cs.length = size) (h1 : ∀ u ∈ cs, u.oneCell' = true) (hc : c = cs.toArray) (hs : a.eval s = v) (hown : w0.ownsRow base e size v n xs)
    (hx : a.eval x = .slice (some ⟨w0.heap.size, 0, none⟩) 1 cc) (hbase : base ≤ w0.heap.size) (hnm : n + 1 ≤ maxLen) (hbytes : (n + 1) * bytes ≤ 140737488355328)
    (h : ∀ v' w', w'.ownsRow base e size v' (n + 1) (xs ++ cs) → Grew w0 w' v v' → wpList P ops Q rest (a.put o.dst v') w') : wpList P ops Q (o :: rest) a (w0.alloc (.cells c e)) := by
  subst hc
  obtain ⟨i0, hi, hz0, hz1, hz2⟩ := info_parts hi
  have hr := Row.new w0 e cs
  refine wpList_plain hgd fun K hK => ?_
  obtain ⟨v', w', hrun, h2, h3, _, h5⟩ := run_append_own_at (P := P) (w0.alloc (.cells cs.toArray e)) base t o.type e i0 z size bytes ht hi hz0 hz1 hz2 hzs hs0 v n xs (hown.alloc _) ⟨w0.heap.size, 0, none⟩ 1 cc cs (by omega)
    (fun j u hu => by rw [addr_row, hr.cell]; simpa using hu) h1 hnm hbytes (by simp; omega)
  unfold Oper.wp execOp
  simp only [ho, resolve, invoke, builtin, Sem.run_bind, Sem.run_pure, Result.andThen_ok, List.map_toArray, List.map_cons, List.map_nil, hs, hx, hrun]
  refine hK _ _ (h v' w' h2 ((Grew.of_below ((Below.refl _ w0).alloc (Nat.le_refl _) _) v).trans ⟨h3, fun k hk => ?_⟩))
  rcases h5 with h5 | h5
  · exact .inl (h5 ▸ hk)
  · rw [h5] at hk
    cases hk
    exact .inr (Nat.le_refl _)
end

/-- what is told of an element by its own blocks alone -/
def Stays {α : Type} (EV : World → Nat → Nat → List Value → α → Prop) : Prop :=
  ∀ w w' lo hi cs x, (∀ k, lo ≤ k → k < hi → w'.heap[k]? = w.heap[k]?) → EV w lo hi cs x → EV w' lo hi cs x

theorem stays_in : Stays InV := by
  rintro w w' lo hi cs x hk ⟨va, vd, mid, h1, h2, h3, h4, h5⟩
  exact ⟨va, vd, mid, h1, h2, h3, h4.stay fun k a b => hk k a (by omega), h5.stay fun k a b => hk k (by omega) b⟩
theorem stays_look : Stays LookV := by
  rintro w w' lo hi cs x hk ⟨va, vd, mid, h1, h0, h2, h3, h4, h5⟩
  exact ⟨va, vd, mid, h1, h0, h2, h3, h4.stay fun k a b => hk k a (by omega), h5.stay fun k a b => hk k (by omega) b⟩
theorem stays_key : Stays KeyV := fun w w' lo hi cs x hk h => h

/-- a list of the call's own: its row, from block lo on; its elements' own blocks, rising -/
structure LV {α : Type} (EV : World → Nat → Nat → List Value → α → Prop) (e size : Nat) (w : World) (lo : Nat) (v : Value) (l : List α) (css : List (List Value)) (L R : Nat → Nat) : Prop where
  own : w.ownsRow lo e size v l.length css.flatten
  len : css.length = l.length
  rise : ∀ i, i + 1 < l.length → R i ≤ L (i + 1)
  each : ∀ i cs x, css[i]? = some cs → l[i]? = some x → lo ≤ L i ∧ L i ≤ R i ∧ R i ≤ w.heap.size ∧ EV w (L i) (R i) cs x ∧ ∀ g, v.ownBlock = some g → g < L i ∨ R i ≤ g

section
variable {α : Type} {EV : World → Nat → Nat → List Value → α → Prop} {e size : Nat} {w w' : World} {lo : Nat} {v : Value} {l : List α} {css : List (List Value)} {L R : Nat → Nat}
theorem LV.none (h : w.ownsRow lo e size v 0 []) : LV EV e size w lo v [] [] L R := ⟨h, rfl, fun i hi => by simp at hi, fun i cs x hi => by simp at hi⟩
theorem LV.lt (h : LV EV e size w lo v l css L R) : ∀ k, v.ownBlock = some k → lo ≤ k ∧ k < w.heap.size := h.own.lt
theorem LV.form (h : LV EV e size w lo v l css L R) : ∃ A c, v = .slice A l.length c := by
  rcases h.own.2 with ⟨rfl, h2⟩ | ⟨g, cap, cur, rfl, _⟩
  · exact ⟨_, _, by rw [h2]⟩
  · exact ⟨_, _, rfl⟩
/-- all its blocks as they were -/
theorem LV.stay (hS : Stays EV) (h : LV EV e size w lo v l css L R) (hz : w.heap.size ≤ w'.heap.size) (hk : ∀ k, lo ≤ k → k < w.heap.size → w'.heap[k]? = w.heap[k]?) : LV EV e size w' lo v l css L R := by
  refine ⟨⟨h.own.1, ?_⟩, h.len, h.rise, fun i cs x hi hx => ?_⟩
  · rcases h.own.2 with h2 | ⟨g, cap, cur, hv, hg, hh, r⟩
    · exact .inl h2
    · exact .inr ⟨g, cap, cur, hv, hg, (hk g hg (Array.getElem?_eq_some_iff.1 hh).1).trans hh, r⟩
  · obtain ⟨h1, h2, h3, h4, h5⟩ := h.each i cs x hi hx
    exact ⟨h1, h2, by omega, hS _ _ _ _ _ _ (fun k a b => hk k (by omega) (by omega)) h4, h5⟩
theorem LV.but {p : Nat} (hS : Stays EV) (h : LV EV e size w lo v l css L R) (hb : But p w w') (hp : p < lo) : LV EV e size w' lo v l css L R :=
  h.stay hS hb.size fun k h1 h2 => hb.block k h2 (by omega)
/-- one more: read in w1, appended in w3 -/
theorem LV.snoc {p : Nat} {w1 w3 : World} {v3 : Value} {x : α} {cs : List Value} (hS : Stays EV) (h : LV EV e size w lo v l css L R) (hb : But p w w1) (hp : p < lo) (hlo : lo ≤ w.heap.size)
    (he : EV w1 w.heap.size w1.heap.size cs x) (hg : Grew w1 w3 v v3) (h3 : w3.ownsRow lo e size v3 (l.length + 1) (css.flatten ++ cs)) :
    LV EV e size w3 lo v3 (l ++ [x]) (css ++ [cs]) (fun i => if i = l.length then w.heap.size else L i) (fun i => if i = l.length then w1.heap.size else R i) := by
  have hz1 := hb.size
  have hz3 := hg.size
  have hlt := h.lt
  refine ⟨by simpa using h3, by simp [h.len], fun i hi => ?_, fun i c y hi hy => ?_⟩
  · simp only [List.length_append, List.length_singleton] at hi
    have hil : i < l.length := by omega
    simp only [Nat.ne_of_lt hil, if_false]
    split
    · obtain ⟨_, _, h3', _, _⟩ := h.each i _ _ (List.getElem?_eq_getElem (by rw [h.len]; exact hil)) (List.getElem?_eq_getElem hil)
      exact h3'
    · exact h.rise i (by omega)
  · by_cases hil : i < l.length
    · rw [List.getElem?_append_left (by rw [h.len]; exact hil)] at hi
      rw [List.getElem?_append_left hil] at hy
      obtain ⟨h1, h2, h3', h4, h5⟩ := h.each i c y hi hy
      simp only [Nat.ne_of_lt hil, if_false]
      refine ⟨h1, h2, by omega, hS w w3 _ _ _ _ (fun k a b => ?_) h4, fun g hg' => ?_⟩
      · exact (hg.grown.block k (by omega) fun e' => by
          have := h5 k e'.symm
          omega).trans (hb.block k (by omega) (by omega))
      · rcases hg.fresh g hg' with h6 | h6
        · exact h5 g h6
        · right; omega
    · have hi' : i = l.length := by
        have := (List.getElem?_eq_some_iff.1 hy).1
        simp at this
        omega
      subst hi'
      have hc : cs = c := by
        rw [List.getElem?_append_right (by rw [h.len]; exact Nat.le_refl _), h.len] at hi
        simpa using hi
      have hx : x = y := by
        rw [List.getElem?_append_right (Nat.le_refl _)] at hy
        simpa using hy
      subst hc
      subst hx
      simp only [if_true]
      refine ⟨hlo, hz1, hz3, hS w1 w3 _ _ _ _ (fun k a b => ?_) he, fun g hg' => ?_⟩
      · exact hg.grown.block k b fun e' => by have := (hlt k e'.symm).2; omega
      · rcases hg.fresh g hg' with h6 | h6
        · have := (hlt g h6).2; omega
        · exact .inr h6
theorem RdIn.grewV {p B : Nat} {v' : Value} {n : Nat} {xs : List Value} {zs : List Int} (h : RdIn w p B zs) (hg : Grew w w' v v') (ho : w.ownsRow lo e size v n xs) (hp : p < lo) (hB : B ≤ p) (hlo : lo ≤ w.heap.size) : RdIn w' p B zs := by
  obtain ⟨A, c, q1, q2, q3, q4⟩ := h.is
  have hb := hg.below ho hlo
  exact ⟨A, c, q1.below hb hp, q2.below (hb.mono (by omega)), q3, q4⟩
theorem But.grewV {p : Nat} {v' : Value} {n : Nat} {xs : List Value} (hg : Grew w w' v v') (ho : w.ownsRow lo e size v n xs) (b : World) (hb : But p b w) (hlo : b.heap.size ≤ lo) : But p b w' :=
  ⟨hg.grown.os.trans hb.os, hg.grown.tape.trans hb.tape, hg.grown.output.trans hb.output, Nat.le_trans hb.size hg.size, fun k hk hne =>
    (hg.grown.block k (Nat.lt_of_lt_of_le hk hb.size) fun e => by have := (ho.lt k e.symm).1; omega).trans (hb.block k hk hne)⟩
end
end Go.Proofs.Ytolijdbdpnbchaa
