/-
  Values of many cells: read from an address, written into a block that was made last: the walk's arms. Over no program.
-/
import Derived.Test.YtolijdbdpnbchaaRow
import Derived.Deep.MidRow
import Derived.Deep.WholeRow
namespace Go.Proofs.Ytolijdbdpnbchaa
open Go.RowKit
set_option linter.unusedVariables false

section
variable {P : Program}
/-- a value of many cells, read from an address -/
theorem run_loadAt_at (w : World) (p : Addr) (ty : TypeId) (cs : List Value) (d : TypeDesc) (hc : ∀ j v, cs[j]? = some v → w.cell? (p.add j) = some v)
    (hu : P.underlying ty = some d) (hd : d.isRow = true) (hi : (P.info? ty).map (·.size) = some cs.length) :
    (Instr.loadAt ty (.pointer (some p))).run P w = .ok (.agg cs.toArray) w := by
  have hl : (loadCells p cs.length).run P w = .ok cs.toArray w := run_loadCells_list (P := P) w p cs hc
  cases hq : P.info? ty with
  | none => simp [hq] at hi
  | some i =>
    have hs : i.size = cs.length := by simpa [hq] using hi
    have hagg : (isAgg ty).run P w = .ok true w := by
      unfold isAgg
      rw [Sem.run_bind, run_underlying hu w]
      cases d <;> simp_all
    simp [Instr.loadAt, Instr.sureAddr, loadVar, Sem.run_bind, hagg, sizeOf, typeInfo, hq, hs, hl]

theorem wpList_load_at {ops : Array Oper} {rest : List Oper} {op : Oper} {a : Act} {w : World} {Q : Exit → Act → World → Prop} (hgd : op.guard = none) (ty : TypeId) (x : Operand) (ho : op.op = .load ty x)
    (p : Addr) (cs : List Value) (d : TypeDesc) (hu : P.underlying ty = some d) (hd : d.isRow = true) (hi : (P.info? ty).map (·.size) = some cs.length) (hc : ∀ j v, cs[j]? = some v → w.cell? (p.add j) = some v)
    (hx : a.eval x = .pointer (some p)) (h : wpList P ops Q rest (a.put op.dst (.agg cs.toArray)) w) : wpList P ops Q (op :: rest) a w :=
  wpList_plain hgd fun _ hK => by
    unfold Oper.wp execOp
    simp only [ho, hx, Sem.run_bind, Sem.run_pure, run_loadAt_at w p ty cs d hc hu hd hi, Result.andThen_ok]
    exact hK _ _ h

/-- the same, the pointer's block a whole row -/
theorem wpList_load_whole {ops : Array Oper} {rest : List Oper} {op : Oper} {a : Act} {w : World} {Q : Exit → Act → World → Prop} (hgd : op.guard = none) (ty : TypeId) (x : Operand) (ho : op.op = .load ty x)
    (g t : Nat) (cs : List Value) (d : TypeDesc) (hu : P.underlying ty = some d) (hd : d.isRow = true) (hi : (P.info? ty).map (·.size) = some cs.length) (hr : Row w g t cs)
    (hx : a.eval x = .pointer (some ⟨g, 0, none⟩)) (h : wpList P ops Q rest (a.put op.dst (.agg cs.toArray)) w) : wpList P ops Q (op :: rest) a w :=
  wpList_load_at hgd ty x ho ⟨g, 0, none⟩ cs d hu hd hi (fun j v hv => by rw [addr_row, hr.cell]; simpa using hv) hx h

/-- a value of many cells into a block that is known whole: the world behind it, of which this is told -/
theorem run_storeAt_whole (w : World) (g ty : Nat) (c cs : List Value) (hr : Row w g ty c) (hi : (P.info? ty).map (·.size) = some cs.length) (hl : c.length = cs.length) (h1 : ∀ u ∈ cs, u.oneCell' = true) :
    (Instr.storeAt ty (.pointer (some ⟨g, 0, none⟩)) (.agg cs.toArray)).run P w = .ok () (w.setRow g cs.toArray) := by
  have := run_storeVar_row (P := P) w g ty ty c.toArray cs.toArray hr.is (by simpa using hi) (by simpa using hl) (all_oneCell_toArray h1)
  simp only [Instr.storeAt, Instr.sureAddr, Sem.run_bind, Sem.run_pure, Result.andThen_ok, this]

/-- but for block g, w' is w -/
structure Turned (w w' : World) (g : Nat) : Prop where
  os : w'.os = w.os
  tape : w'.tape = w.tape
  output : w'.output = w.output
  size : w'.heap.size = w.heap.size
  block : ∀ k, k ≠ g → w'.heap[k]? = w.heap[k]?

theorem turned_setRow (w : World) (g : Nat) (cs : Array Value) : Turned w (w.setRow g cs) g :=
  ⟨rfl, rfl, rfl, by simp, fun k hk => setRow_other w g k cs hk⟩
theorem turned_setCell (w : World) (p : Addr) (u : Value) : Turned w (w.setCell p u) p.block :=
  ⟨rfl, rfl, rfl, by simp [World.setCell], fun k hk => Below.heap_setCell _ _ _ _ hk⟩
theorem row_setRow {w : World} {g t : Nat} {c : List Value} (hr : Row w g t c) (cs : List Value) : Row (w.setRow g cs.toArray) g t cs :=
  ⟨setRow_heap w g c.toArray cs.toArray t _ hr.is⟩

theorem Turned.below {w w' : World} {g B : Nat} (h : Turned w w' g) (hB : B ≤ g) : Below B w w' :=
  ⟨h.os, h.tape, h.output, by rw [h.size]; exact Nat.le_refl _, fun k hk => h.block k (by omega)⟩
theorem Turned.row {w w' : World} {g k t : Nat} {xs : List Value} (h : Turned w w' g) (hr : Row w k t xs) (hk : k ≠ g) : Row w' k t xs := ⟨(h.block k hk).trans hr.is⟩

theorem wpList_store_whole {ops : Array Oper} {rest : List Oper} {op : Oper} {a : Act} {w : World} {Q : Exit → Act → World → Prop} (hgd : op.guard = none) (ty : TypeId) (x y : Operand) (ho : op.op = .store ty x y)
    (g : Nat) (c cs : List Value) (hr : Row w g ty c) (hi : (P.info? ty).map (·.size) = some cs.length) (hl : c.length = cs.length) (h1 : ∀ u ∈ cs, u.oneCell' = true)
    (hx : a.eval x = .pointer (some ⟨g, 0, none⟩)) (hy : a.eval y = .agg cs.toArray)
    (h : ∀ w', Row w' g ty cs → Turned w w' g → wpList P ops Q rest (a.put op.dst undef) w') : wpList P ops Q (op :: rest) a w :=
  wpList_plain hgd fun _ hK => by
    unfold Oper.wp execOp
    simp only [ho, hx, hy, Sem.run_bind, Sem.run_pure, run_storeAt_whole w g ty c cs hr hi hl h1, Result.andThen_ok]
    exact hK _ _ (h _ (row_setRow hr cs) (turned_setRow w g _))

/-- a variable that has just been made is given its value -/
theorem wpList_store_new {ops : Array Oper} {rest : List Oper} {op : Oper} {a : Act} {w0 : World} {c : Array Value} {Q : Exit → Act → World → Prop} (hgd : op.guard = none) (ty : TypeId) (x y : Operand) (ho : op.op = .store ty x y)
    (cs : List Value) (hi : (P.info? ty).map (·.size) = some cs.length) (h1 : ∀ u ∈ cs, u.oneCell' = true) (hl : c.size = cs.length)
    (hx : a.eval x = .pointer (some ⟨w0.heap.size, 0, none⟩)) (hy : a.eval y = .agg cs.toArray)
    (h : ∀ w', Row w' w0.heap.size ty cs → Below w0.heap.size w0 w' → w'.heap.size = w0.heap.size + 1 → wpList P ops Q rest (a.put op.dst undef) w') : wpList P ops Q (op :: rest) a (w0.alloc (.cells c ty)) := by
  have hr : Row (w0.alloc (.cells c ty)) w0.heap.size ty c.toList := by
    have := Row.new w0 ty c.toList
    simpa using this
  refine wpList_store_whole hgd ty x y ho w0.heap.size c.toList cs hr hi (by simpa using hl) h1 hx hy fun w' hr' ht => ?_
  exact h w' hr' (((Below.refl _ w0).alloc (Nat.le_refl _) _).trans (ht.below (Nat.le_refl _))) (by rw [ht.size]; simp)

theorem row_setCells {g t : Nat} : ∀ (cs : List Value) (w : World) (o : Nat) (c : List Value), Row w g t c → o + cs.length ≤ c.length → Row (w.setCells g o cs) g t (c.take o ++ cs ++ c.drop (o + cs.length))
  | [], w, o, c, h, _ => by simpa [World.setCells] using h
  | v :: r, w, o, c, h, hl => by
    have h1 := row_setCells r (w.setCell ⟨g, o, none⟩ v) (o + 1) (c.set o v) (h.set_ o v) (by simp at hl ⊢; omega)
    have e : (c.set o v).take (o + 1) ++ r ++ (c.set o v).drop (o + 1 + r.length) = c.take o ++ (v :: r) ++ c.drop (o + (v :: r).length) := by
      have ho : o < c.length := by simp at hl; omega
      rw [List.take_succ_eq_append_getElem (by simpa using ho), List.drop_set_of_lt (by omega), List.take_set_of_le (Nat.le_refl o)]
      simp only [List.getElem_set_self, List.append_assoc, List.cons_append, List.nil_append, List.length_cons]
      rw [show o + 1 + r.length = o + (r.length + 1) by omega]
    rw [e] at h1
    exact h1
theorem turned_setCells {g : Nat} : ∀ (cs : List Value) (w : World) (o : Nat), Turned w (w.setCells g o cs) g
  | [], w, o => ⟨rfl, rfl, rfl, rfl, fun _ _ => rfl⟩
  | v :: r, w, o => by
    have h1 := turned_setCell w ⟨g, o, none⟩ v
    have h2 := turned_setCells (g := g) r (w.setCell ⟨g, o, none⟩ v) (o + 1)
    exact ⟨h2.os.trans h1.os, h2.tape.trans h1.tape, h2.output.trans h1.output, h2.size.trans h1.size, fun k hk => (h2.block k hk).trans (h1.block k hk)⟩

/-- a value of many cells into a part of a block -/
theorem wpList_store_part {ops : Array Oper} {rest : List Oper} {op : Oper} {a : Act} {w : World} {Q : Exit → Act → World → Prop} (hgd : op.guard = none) (ty : TypeId) (x y : Operand) (ho : op.op = .store ty x y)
    (g t o : Nat) (c cs : List Value) (hr : Row w g t c) (hi : (P.info? ty).map (·.size) = some cs.length) (hl : o + cs.length ≤ c.length) (h1 : ∀ u ∈ cs, u.oneCell' = true)
    (hx : a.eval x = .pointer (some ⟨g, o, none⟩)) (hy : a.eval y = .agg cs.toArray)
    (h : ∀ w', Row w' g t (c.take o ++ cs ++ c.drop (o + cs.length)) → Turned w w' g → wpList P ops Q rest (a.put op.dst undef) w') : wpList P ops Q (op :: rest) a w :=
  wpList_store_mid hgd ty x y ho g o cs.toArray hx hy (fun j hj => ⟨by
      have hj' : j < cs.length := by simpa using hj
      rw [hr.cell, List.getElem?_eq_getElem (by omega)]; rfl, hr.frozen _⟩) (by simpa using hi) (all_oneCell_toArray h1)
    (h _ (by simpa using row_setCells cs w o c hr hl) (turned_setCells cs w o))
end
end Go.Proofs.Ytolijdbdpnbchaa
