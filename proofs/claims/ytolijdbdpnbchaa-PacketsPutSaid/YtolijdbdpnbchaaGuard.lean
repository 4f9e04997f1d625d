/-
  The arms for operations that stand under a guard that says yes.
-/
import Derived.Test.YtolijdbdpnbchaaMany
namespace Go.Proofs.Ytolijdbdpnbchaa
open Go.RowKit
set_option linter.unusedVariables false

section
variable {P : Program} {ops : Array Oper} {rest : List Oper} {o : Oper} {a : Act} {Q : Exit → Act → World → Prop}
theorem wpList_addBg {w : World} (hw : Region.wanted o (yielded ops a.tmps) = true) (s x : Operand) (t : TypeId)
    (ho : o.op = .call { callee := .builtin .append, args := #[s, x], argTypes := #[t, t] })
    (base : Nat) (ht : P.underlying t = some (.slice 5)) (hi : (P.info? 5).map (fun i => (i.zero, i.size, i.bytes)) = some (some (.int .u8 0), 1, 1))
    (v : Value) (xs : List Int) (hs : a.eval s = v) (hown : OwnB w base v xs) (B : Nat) (A : Option Addr) (m c : Nat) (news : List Int) (hx : a.eval x = .slice A m c) (hr : Sees w B A m (bv news))
    (hbase : base ≤ w.heap.size) (hnm : (xs ++ news).length ≤ 1099511627776)
    (h : ∀ v' w', OwnB w' base v' (xs ++ news) → Grew w w' v v' → wpList P ops Q rest (a.put o.dst v') w') : wpList P ops Q (o :: rest) a w := by
  obtain ⟨i0, hi, hz0, hz1, hz2⟩ := info_parts hi
  have hm : news.length = m := by have := hr.len; rwa [bv_length] at this
  subst hm
  have hl : xs.length + news.length ≤ 1099511627776 := by simpa using hnm
  refine BigFrame.wpList_want hw fun K hK => ?_
  refine wp_append_sees s x ho ht hi hz0 hz1 hz2 rfl hs hown hx hr (bv_one news) (by unfold maxLen; omega) (by omega) hbase ?_
  intro v' w' ho' hg hat
  refine hK _ _ (h v' w' ?_ ⟨hg, fun k hk => ?_⟩)
  · have := ho'
    unfold OwnB
    rw [bv_append]
    simpa using this
  · rcases hat with hat | hat
    · exact .inl (hat ▸ hk)
    · rw [hat] at hk
      cases hk
      exact .inr (Nat.le_refl _)
theorem wpList_addLitg {w0 : World} {c : Array Value} (hw : Region.wanted o (yielded ops a.tmps) = true) (s x : Operand) (t : TypeId)
    (ho : o.op = .call { callee := .builtin .append, args := #[s, x], argTypes := #[t, t] })
    (base : Nat) (ht : P.underlying t = some (.slice 5)) (hi : (P.info? 5).map (fun i => (i.zero, i.size, i.bytes)) = some (some (.int .u8 0), 1, 1))
    (v : Value) (xs news : List Int) (cc : Nat) (hc : c = (bv news).toArray) (hs : a.eval s = v) (hown : OwnB w0 base v xs) (hx : a.eval x = .slice (some ⟨w0.heap.size, 0, none⟩) news.length cc)
    (hbase : base ≤ w0.heap.size) (hnm : (xs ++ news).length ≤ 1099511627776)
    (h : ∀ v' w', OwnB w' base v' (xs ++ news) → Grew w0 w' v v' → wpList P ops Q rest (a.put o.dst v') w') : wpList P ops Q (o :: rest) a (w0.alloc (.cells c 5)) := by
  subst hc
  have hr := (Row.new w0 5 (bv news)).sees0
  rw [bv_length] at hr
  refine wpList_addBg hw s x t ho base ht hi v xs hs (hown.alloc _) _ _ _ cc news hx hr (by simp; omega) hnm ?_
  intro v' w' ho' hg'
  exact h v' w' ho' ((Grew.of_below ((Below.refl _ w0).alloc (Nat.le_refl _) _) v).trans hg')
end
end Go.Proofs.Ytolijdbdpnbchaa
