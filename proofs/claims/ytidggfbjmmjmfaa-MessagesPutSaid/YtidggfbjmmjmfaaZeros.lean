/-
  'append(x, make([]byte, n)...)': the model's own operation, brought back to an append of noughts that lie somewhere in memory.
-/
import Derived.Test.YtidggfbjmmjmfaaMany
namespace Go.Proofs.Ytidggfbjmmjmfaa
open Go.RowKit
set_option linter.unusedVariables false

section
variable {P : Program}
theorem zeroCells_one (z : Value) (n : Nat) : Builtin.zeroCells #[z] n = (List.replicate n z).toArray := by
  apply Array.ext_getElem?
  intro i
  simp [Builtin.zeroCells]
  by_cases h : i < n
  · simp [h, Nat.mod_one]
  · simp [h]

theorem run_append_noughts (w : World) (t it ty e : TypeId) (k : IntKind) (i : TypeInfo) (z : Value) (ht : P.underlying t = some (.slice e)) (hit : P.underlying it = some (.int k)) (hi : P.info? e = some i) (hz : i.zero = some z)
    (hsize : i.size = 1) (hby : i.bytes = 1) (hzc : z.cells = #[z]) (A : Option Addr) (n cap m : Nat) (ad : Addr) (c : Nat) (hnews : ∀ j, j < m → w.cell? (ad.add j) = some z) (h0 : 0 < m) (hm : n + m ≤ 1099511627776)
    (hold : ∀ a, A = some a → ∃ olds : List Value, olds.length = n ∧ ∀ j u, olds[j]? = some u → w.cell? (a.add j) = some u) :
    (Builtin.append_ #[t, it] ty #[.slice A n cap, .int .i64 (m : Int)]).run P w = (Builtin.append_ #[t, t] ty #[.slice A n cap, .slice (some ad) m c]).run P w := by
  have hw : IntKind.i64.wrap (m : Int) = m := by rw [IntKind.wrap_i64]; omega
  have h1 : ¬ ((m : Int) < 0) := by omega
  have h2 : ¬ (281474976710656 < (m : Int)) := by omega
  have h3 : ¬ (m = 0) := by omega
  have h4 : ¬ (9223372036854775807 < ((n : Int) + (m : Int))) := by omega
  have hl : ∀ w' : World, w'.heap = w.heap → (loadCells ad m).run P w' = .ok (List.replicate m z).toArray w' := fun w' hw' => by
    have := run_loadCells_list (P := P) w' ad (List.replicate m z) (fun j u hu => by
      have hj : j < m := by have := (List.getElem?_eq_some_iff.1 hu).1; simpa using this
      rw [List.getElem?_replicate_of_lt hj] at hu
      cases hu
      have := hnews j hj
      simpa [World.cell?, hw'] using this)
    simpa using this
  have hl1 := hl w rfl
  have hl2 := hl w.drew rfl
  have h48 : ¬ (281474976710656 < Builtin.nextslicecap (n + m) cap) ∨ n + m ≤ cap := by
    by_cases hc : n + m ≤ cap
    · exact .inr hc
    · have := growslice_fits (need := n + m) (old := cap) (bytes := 1) (by omega) (by omega)
      exact .inl (by omega)
  rcases h48 with h48 | h48
  · simp [Builtin.append_, run_underlying ht, run_underlying hit, sizeOf, typeInfo, zeroValue, asInt, asIntOf, hi, hz, hsize, hby, hw, h1, h2, h3, h4, h48, Builtin.lenOf, Builtin.firstCells, hl1, hl2, hzc, zeroCells_one, Question.forced]
    by_cases hnc : n + m ≤ cap
    · simp [hnc]
    · cases A with
      | none => simp [hnc, hl2, newRow, Array.replicate_append_replicate]
      | some a =>
        obtain ⟨olds, ho, hoc⟩ := hold a rfl
        have h5 := run_loadCells_list (P := P) w.drew a olds (by simpa using hoc)
        rw [ho] at h5
        simp [hnc, h5, hl2, newRow, Array.replicate_append_replicate]
  · simp [Builtin.append_, run_underlying ht, run_underlying hit, sizeOf, typeInfo, zeroValue, asInt, asIntOf, hi, hz, hsize, hby, hw, h1, h2, h3, h4, h48, Builtin.lenOf, Builtin.firstCells, hl1, hl2, hzc, zeroCells_one, Question.forced]

/-- the walk's arm: so many noughts behind a row of one's own -/
theorem wpList_addNoughts {w : World} {ops : Array Oper} {rest : List Oper} {o : Oper} {a : Act} {Q : Exit → Act → World → Prop} (hgd : o.guard = none) (s x : Operand) (t it : TypeId)
    (ho : o.op = .call { callee := .builtin .append, args := #[s, x], argTypes := #[t, it] }) (k : IntKind)
    (base : Nat) (ht : P.underlying t = some (.slice 5)) (hit : P.underlying it = some (.int k)) (hi : (P.info? 5).map (fun i => (i.zero, i.size, i.bytes)) = some (some (.int .u8 0), 1, 1))
    (v : Value) (xs : List Int) (m : Nat) (B : Nat) (ad : Addr) (hs : a.eval s = v) (hown : OwnB w base v xs) (hx : a.eval x = .int .i64 m) (hr : Sees w B (some ad) m (bv (List.replicate m 0))) (h0 : 0 < m)
    (hbase : base ≤ w.heap.size) (hnm : xs.length + m ≤ 1099511627776)
    (h : ∀ v' w', OwnB w' base v' (xs ++ List.replicate m 0) → Grew w w' v v' → wpList P ops Q rest (a.put o.dst v') w') : wpList P ops Q (o :: rest) a w := by
  have hi' := hi
  obtain ⟨i0, hi, hz0, hz1, hz2⟩ := info_parts hi
  obtain ⟨A, c, rfl⟩ := hown.form
  have hsees := hown.sees
  have hnews : ∀ j, j < m → w.cell? (ad.add j) = some (.int .u8 0) := fun j hj => by
    obtain ⟨a', e, _, hc⟩ := hr.cell j (.int .u8 0) (by rw [bv_getElem?, List.getElem?_replicate_of_lt hj]; rfl)
    cases e
    exact hc
  have hrun := run_append_noughts (P := P) w t it o.type 5 k i0 (.int .u8 0) ht hit hi hz0 hz1 hz2 rfl A xs.length c m ad m hnews h0 hnm (fun a' ha => ⟨bv xs, bv_length xs, fun j u hu => by
    obtain ⟨a'', e, _, hc⟩ := hsees.cell j u hu
    rw [ha] at e
    cases e
    exact hc⟩)
  obtain ⟨v', w', hrun2, h2, h3, _, h5⟩ := run_append_own_at (P := P) w base t o.type 5 i0 (.int .u8 0) 1 1 ht hi hz0 hz1 hz2 rfl (by omega) (.slice A xs.length c) xs.length (bv xs) hown ad m m (bv (List.replicate m 0)) (by rw [bv_length]; simp)
    (fun j u hu => by
      obtain ⟨a', e, _, hc⟩ := hr.cell j u hu
      cases e
      exact hc) (bv_one _) (by unfold maxLen; omega) (by omega) hbase
  rw [hrun2] at hrun
  refine wpList_plain hgd fun K hK => ?_
  unfold Oper.wp execOp
  simp only [ho, resolve, invoke, builtin, Sem.run_bind, Sem.run_pure, Result.andThen_ok, List.map_toArray, List.map_cons, List.map_nil, hs, hx, hrun]
  refine hK _ _ (h v' w' ?_ ⟨h3, fun k hk => ?_⟩)
  · unfold OwnB
    rw [bv_append]
    simpa using h2
  · rcases h5 with h5 | h5
    · exact .inl (h5 ▸ hk)
    · rw [h5] at hk
      cases hk
      exact .inr (Nat.le_refl _)
end
end Go.Proofs.Ytidggfbjmmjmfaa
