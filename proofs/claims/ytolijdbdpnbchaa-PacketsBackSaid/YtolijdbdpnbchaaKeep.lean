/-
  'append(v, x...)' onto a row of the call's own: what v shows stays.
-/
import Derived.Test.YtolijdbdpnbchaaMany
import Derived.Laws.Append
import Derived.Laws.AppendOwn
namespace Go.Proofs.Ytolijdbdpnbchaa
open Go.RowKit
set_option linter.unusedVariables false

section
variable {P : Program} {w : World} {base : Nat} {t ty e : TypeId} {i : TypeInfo} {z : Value} {bytes : Nat} {v : Value} {n m c B : Nat} {A : Option Addr} {xs news : List Value}

theorem append_keeps (ht : P.underlying t = some (.slice e)) (hi : P.info? e = some i) (hz : i.zero = some z) (hsize : i.size = 1) (hby : i.bytes = bytes)
    (hown : w.ownsRow base e 1 v n xs) (hr : Sees w B A m news) (h1 : ∀ u ∈ news, u.oneCell' = true) (hnm : n + m ≤ maxLen) (hbytes : (n + m) * bytes ≤ 140737488355328) (c : Nat)
    {v' : Value} {w' : World} (hrun : (Builtin.append_ #[t, t] ty #[v, .slice A m c]).run P w = .ok v' w') (A0 : Option Addr) (c0 : Nat) (hv : v = .slice A0 n c0) : Sees w' w'.heap.size A0 n xs := by
  have hseen : Sees w w.heap.size A0 n xs := by subst hv; exact Sees.of_own hown
  cases A with
  | none =>
    have hn : news = [] := by
      cases news with
      | nil => rfl
      | cons u r =>
        obtain ⟨a, h, _⟩ := hr.cell 0 u rfl
        cases h
    subst hn
    obtain rfl : m = 0 := by simpa using hr.len.symm
    rw [run_append_nothing ht hi hown c] at hrun
    cases hrun
    exact hseen
  | some ad =>
    have hnews : ∀ j u, news[j]? = some u → w.cell? (ad.add j) = some u := fun j u hu => by
      obtain ⟨a, h, _, hc⟩ := hr.cell j u hu
      cases h
      exact hc
    have hml := hr.len
    rcases hown.2 with ⟨h2, rfl⟩ | ⟨g, cap, cur, h2, hg, hh, hnc, hcm, hcs, htk⟩
    · have : xs = [] := by have := hown.1; simpa using this
      subst this
      exact Sees.nil _ _ _
    · rw [hv] at h2
      cases h2
      by_cases hroom : n + m ≤ c0
      · have hrm := run_append_room (P := P) w t ty e i ht hi g n c0 cur hh ad m c news (by rw [hml, hsize]; omega) hnews h1 hroom (by rw [hsize]; omega)
        rw [hv, hrm] at hrun
        cases hrun
        have hcell : ∀ j u, xs[j]? = some u → (w.setRow g (cur.toList.take (n * i.size) ++ news ++ cur.toList.drop (n * i.size + news.length)).toArray).cell? ⟨g, j, none⟩ = some u := fun j u hu => by
          have hj := (List.getElem?_eq_some_iff.1 hu).1
          have hx := hown.1
          rw [cell_of_row _ g j _ e (0, 0) (setRow_heap w g cur _ e _ hh)]
          rw [List.getElem?_toArray, List.append_assoc, List.getElem?_append_left (by rw [List.length_take, Array.length_toList, hsize]; omega)]
          have := htk
          rw [hsize]
          rw [this]
          exact hu
        exact ⟨by rw [hown.1]; omega, fun j u hu => ⟨_, rfl, by have := (Array.getElem?_eq_some_iff.1 hh).1; simpa [World.setRow] using this, by rw [addr_row, Nat.zero_add]; exact hcell j u hu⟩⟩
      · have hgr := run_append_grow (P := P) w t ty e i z ht hi hz ⟨g, 0, none⟩ n c0 xs (by rw [hown.1, hsize]) (fun j u hu => by
            obtain ⟨a, e1, _, hc⟩ := hseen.cell j u hu
            cases e1
            exact hc) ad m c news (by rw [hml, hsize]; omega) hnews (by omega) (by unfold maxLen at hnm; omega) (by rw [hby]; exact growslice_fits (by omega) hbytes)
        rw [hv, hgr] at hrun
        cases hrun
        exact ((hseen.drew).alloc (Nat.le_refl _) _).more (by simp)
end

/-- append of what is seen, onto a row of one's own, that keeps what it shows: the walk's arm -/
theorem wpList_addBK {P : Program} {w : World} {ops : Array Oper} {rest : List Oper} {o : Oper} {a : Act} {Q : Exit → Act → World → Prop} (hgd : o.guard = none) (s x : Operand) (t : TypeId)
    (ho : o.op = .call { callee := .builtin .append, args := #[s, x], argTypes := #[t, t] })
    (base : Nat) (ht : P.underlying t = some (.slice 5)) (hi : (P.info? 5).map (fun i => (i.zero, i.size, i.bytes)) = some (some (.int .u8 0), 1, 1))
    (A0 : Option Addr) (c0 : Nat) (xs : List Int) (hs : a.eval s = .slice A0 xs.length c0) (hown : OwnB w base (.slice A0 xs.length c0) xs) (B : Nat) (A : Option Addr) (m c : Nat) (news : List Int) (hx : a.eval x = .slice A m c) (hr : Sees w B A m (bv news))
    (hbase : base ≤ w.heap.size) (hnm : (xs ++ news).length ≤ 1099511627776)
    (h : ∀ v' w', OwnB w' base v' (xs ++ news) → Grew w w' (.slice A0 xs.length c0) v' → Sees w' w'.heap.size A0 xs.length (bv xs) → wpList P ops Q rest (a.put o.dst v') w') : wpList P ops Q (o :: rest) a w := by
  obtain ⟨i0, hi, hz0, hz1, hz2⟩ := info_parts hi
  have hm : news.length = m := by have := hr.len; rwa [bv_length] at this
  subst hm
  have hl : xs.length + news.length ≤ 1099511627776 := by simpa using hnm
  obtain ⟨v', w', hrun, h2, h3, h4⟩ := run_append_sees (P := P) (ty := o.type) ht hi hz0 hz1 hz2 rfl hown hr (bv_one news) (by unfold maxLen; omega) (by omega) hbase c
  have hk := append_keeps (P := P) ht hi hz0 hz1 hz2 hown hr (bv_one news) (by unfold maxLen; omega) (by omega) c hrun A0 c0 rfl
  refine wpList_plain hgd fun K hK => ?_
  unfold Oper.wp execOp
  simp only [ho, resolve, invoke, builtin, Sem.run_bind, Sem.run_pure, Result.andThen_ok, List.map_toArray, List.map_cons, List.map_nil, hs, hx, hrun]
  refine hK _ _ (h v' w' ?_ ⟨h3, fun k hk => ?_⟩ hk)
  · unfold OwnB
    rw [bv_append]
    simpa using h2
  · rcases h4 with h4 | h4
    · exact .inl (h4 ▸ hk)
    · rw [h4] at hk
      cases hk
      exact .inr (Nat.le_refl _)
end Go.Proofs.Ytolijdbdpnbchaa
