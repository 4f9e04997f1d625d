/-
  Parts joined: ErrIs11 Mem Row Append Bits Longer Book Sheet Put Msg Get Parse Whole Many Looks.
-/
import Derived.Test.YtdgbodljmdcagaaGreatDoorChecked
import Derived.WalkKit
import Derived.LaidEql
import Derived.Stop.Asserts
import Derived.RowKitTokens
import Derived.Lib.IfaceEq
import Derived.Lib.Hide
import Derived.Below
import Derived.Laws.OwnMore
import Derived.Deep.AppendLies
import Derived.Deep.Draws
import Derived.Laws.MakeOwn
import Derived.Laws.CopyOwn
import Derived.Laws.Rows
import Derived.Maps.AppendAt
import Derived.OwnWalk
import Derived.Laws.BitsAllLaws
import Derived.Test.YtdgbodljmdcagaaGreatDoorRows
import Derived.WalkSpells
import Derived.WalkLawsBesides
import Derived.IntWalk
import Derived.Deep.QuietTactic
import Derived.BigQuiet
import Derived.Deep.MidRow
import Derived.Deep.WholeRow
/-
  Of part ErrIs11: what is needed here.
-/
namespace Go.Proofs.YtdgbodljmdcagaaGreatDoor
open Go.RowKit Go.Extern.Stop Go.Stop Go.Extern
set_option linter.unusedVariables false
set_option maxRecDepth 100000
theorem isTypeOf11 (v : Value) (w : World) : (callFunc 130 #[.iface 49 v]).run Tryz.prog w = .ok (.value (.iface 217 (.agg #[.pointer (some ⟨3, 49, none⟩)]))) w := by kernel_rfl
theorem isComparable11 (w : World) : (callFunc 201 #[.agg #[.pointer (some ⟨3, 49, none⟩)]]).run Tryz.prog w = .ok (.value (.bool true)) w := by kernel_rfl
theorem isMethodComparable11 (v : Value) (w : World) : (Go.method 387 217 v "Comparable").run Tryz.prog w = .ok (201, v) w := by kernel_rfl
theorem errComp11 : (Tryz.prog.info? 49).map (·.comparable) = some true := by kernel_rfl
theorem noIs11 (v : Value) (xT : TypeId) (w : World) : (Instr.typeAssert (.iface 49 v) xT 219 true).run Tryz.prog w = .ok (.tuple #[.nilIface, .bool false]) w := run_typeAssert_lacksB Tryz.underlying219 (by kernel_rfl) (by kernel_rfl) v xT w
theorem noUnwrap11 (v : Value) (xT : TypeId) (w : World) : (Instr.typeAssert (.iface 49 v) xT 222 true).run Tryz.prog w = .ok (.tuple #[.nilIface, .bool false]) w := run_typeAssert_lacksB Tryz.underlying222 (by kernel_rfl) (by kernel_rfl) v xT w
theorem noUnwraps11 (v : Value) (xT : TypeId) (w : World) : (Instr.typeAssert (.iface 49 v) xT 224 true).run Tryz.prog w = .ok (.tuple #[.nilIface, .bool false]) w := run_typeAssert_lacksB Tryz.underlying224 (by kernel_rfl) (by kernel_rfl) v xT w
set_option maxHeartbeats 1000000 in
theorem is11 (a b : Int) (w : World) :
    Calls Tryz.prog 131 #[.iface 49 (.int .i64 a), .iface 49 (.int .i64 b), .bool true] w fun e w' => e = .returned (.bool (a == b)) ∧ w' = w := by
  have heq := Go.Lib.run_eql_iface_int (P := Tryz.prog) w (k := .i64) a b Tryz.underlying191 errComp11 Tryz.underlying49
  have nE := noIs11
  have uE := noUnwrap11
  have vE := noUnwraps11
  cases hc : (a == b)
  all_goals
    rw [hc] at heq
    clear hc
    go_enter Tryz.func131, Tryz.ntmps131
    go_wp2
    refine wp_loop_rounds 1 ?_
    rw [rounds_succ]
    go_wp2
    go_ret
    exact ⟨rfl, rfl⟩
set_option maxHeartbeats 1000000 in
/-- errors.Is of two numbers -/
theorem errIs11 (a b : Int) (w : World) :
    Calls Tryz.prog 84 #[.iface 49 (.int .i64 a), .iface 49 (.int .i64 b)] w fun e w' => e = .returned (.bool (a == b)) ∧ w' = w := by
  have tT := isTypeOf11
  have cT := isComparable11
  have mR := isMethodComparable11
  have HI := Lib.hid (is11 a b w)
  go_enter Tryz.func84, Tryz.ntmps84
  go_wp2_with (go_at_call 131; refine HI.out.mono ?_; rintro e w' ⟨rfl, rfl⟩)
  go_ret
  exact ⟨rfl, rfl⟩
set_option maxHeartbeats 1000000 in
/-- readies.failed -/
theorem failed11 (a : Int) (w : World) :
    Calls Tryz.prog 40 #[.int .i64 a] w fun e w' => e = .returned (.bool (decide (a ≠ 0))) ∧ w' = w := by
  have HI := Lib.hid (errIs11 a 0 w)
  have e1 : (a == 0) = decide (a = 0) := rfl
  rw [e1] at HI
  by_cases h : a = 0
  · rw [show decide (a ≠ 0) = false from decide_eq_false (by simpa using h)]
    rw [show decide (a = 0) = true from decide_eq_true h] at HI
    clear h e1
    go_enter Tryz.func40, Tryz.ntmps40
    go_wp2_with (go_at_call 84; refine HI.out.mono ?_; rintro e w' ⟨rfl, rfl⟩)
    go_ret
    exact ⟨rfl, rfl⟩
  · rw [show decide (a ≠ 0) = true from decide_eq_true h]
    rw [show decide (a = 0) = false from decide_eq_false h] at HI
    clear h e1
    go_enter Tryz.func40, Tryz.ntmps40
    go_wp2_with (go_at_call 84; refine HI.out.mono ?_; rintro e w' ⟨rfl, rfl⟩)
    go_ret
    exact ⟨rfl, rfl⟩
end Go.Proofs.YtdgbodljmdcagaaGreatDoor

/-
  Of part Mem: what is needed here.
-/
namespace Go.Proofs.YtdgbodljmdcagaaGreatDoor
open Go.RowKit
/-- bytes (or numbers of another kind) as cells -/
def cv (k : IntKind) (zs : List Int) : List Value := zs.map (Value.int k)
def bv (zs : List Int) : List Value := cv .u8 zs
theorem cv_length (k : IntKind) (zs : List Int) : (cv k zs).length = zs.length := by simp [cv]
theorem bv_length (zs : List Int) : (bv zs).length = zs.length := cv_length _ zs
theorem bv_append (xs ys : List Int) : bv (xs ++ ys) = bv xs ++ bv ys := by simp [bv, cv]
theorem bv_getElem? (zs : List Int) (i : Nat) : (bv zs)[i]? = zs[i]?.map (Value.int .u8) := by simp [bv, cv]
theorem bv_at {zs : List Int} {i : Nat} (h : i < zs.length) : (bv zs)[i]? = some (.int .u8 (zs.getD i 0)) := by
  rw [bv_getElem?, List.getD_eq_getElem?_getD, List.getElem?_eq_getElem h]; rfl
theorem bv_one (zs : List Int) : ∀ u ∈ bv zs, u.oneCell' = true := by
  intro u hu
  simp only [bv, cv, List.mem_map] at hu
  obtain ⟨z, _, rfl⟩ := hu
  rfl
/-- a result of a test, told -/
theorem told_true {p : Prop} [Decidable p] (h : p) : Ending.returned (.bool true) = .returned (.bool (decide p)) := by rw [decide_eq_true h]
theorem told_false {p : Prop} [Decidable p] (h : ¬ p) : Ending.returned (.bool false) = .returned (.bool (decide p)) := by rw [decide_eq_false h]
theorem addr_block (a : Addr) (n : Nat) : (a.add n).block = a.block := by unfold Addr.add; split <;> rfl
theorem addr_add (a : Addr) (i j : Nat) : (a.add i).add j = a.add (i + j) := by
  unfold Addr.add
  rcases Nat.eq_zero_or_pos i with hi | hi <;> rcases Nat.eq_zero_or_pos j with hj | hj
  · simp [hi, hj]
  · simp [hi, show j ≠ 0 by omega]
  · simp [hj, show i ≠ 0 by omega]
  · simp [show i ≠ 0 by omega, show j ≠ 0 by omega, Nat.add_assoc]
theorem addr_row (g i j : Nat) : (⟨g, i, none⟩ : Addr).add j = ⟨g, i + j, none⟩ := by unfold Addr.add; split <;> simp_all
/-- The slice value '.slice A n c' reads as the cells xs; each cell lies below block B. -/
structure Sees (w : World) (B : Nat) (A : Option Addr) (n : Nat) (xs : List Value) : Prop where
  len : xs.length = n
  cell : ∀ i u, xs[i]? = some u → ∃ a, A = some a ∧ a.block < B ∧ w.cell? (a.add i) = some u
section
variable {w w' : World} {B B' n : Nat} {A : Option Addr} {xs : List Value}
theorem Sees.nil (w : World) (B : Nat) (A : Option Addr) : Sees w B A 0 [] := ⟨rfl, fun i u h => by simp at h⟩
theorem Sees.keep (h : Sees w B A n xs) (hk : ∀ p : Addr, p.block < B → w'.cell? p = w.cell? p) : Sees w' B A n xs :=
  ⟨h.len, fun i u hu => by
    obtain ⟨a, e, hb, hc⟩ := h.cell i u hu
    exact ⟨a, e, hb, (hk _ (by rw [addr_block]; exact hb)).trans hc⟩⟩
theorem Sees.more (h : Sees w B A n xs) (hB : B ≤ B') : Sees w B' A n xs :=
  ⟨h.len, fun i u hu => by
    obtain ⟨a, e, hb, hc⟩ := h.cell i u hu
    exact ⟨a, e, by omega, hc⟩⟩
theorem Sees.below (h : Sees w B A n xs) (hb : Below B w w') : Sees w' B A n xs := h.keep fun _ hp => hb.cell hp
theorem Sees.drew (h : Sees w B A n xs) : Sees w.drew B A n xs := ⟨h.len, h.cell⟩
theorem Sees.drewN (h : Sees w B A n xs) (k : Nat) : Sees (w.drewN k) B A n xs := ⟨h.len, h.cell⟩
theorem Sees.alloc (h : Sees w B A n xs) (hB : B ≤ w.heap.size) (o : Obj) : Sees (w.alloc o) B A n xs := h.keep fun p hp => World.cell?_alloc_lt w o p (by omega)
theorem Sees.setCell (h : Sees w B A n xs) {p : Addr} (hB : B ≤ p.block) (u : Value) : Sees (w.setCell p u) B A n xs :=
  h.keep fun q hq => World.cell?_setCell_other w p q u (fun e => by subst e; omega)
theorem Sees.at_ {k : Nat} (h : Sees w B A n xs) (hk : k < n) : ∃ a u, A = some a ∧ a.block < B ∧ xs[k]? = some u ∧ w.cell? (a.add k) = some u := by
  have hl : k < xs.length := by have := h.len; omega
  obtain ⟨a, e, hb, hc⟩ := h.cell k _ (List.getElem?_eq_getElem hl)
  exact ⟨a, _, e, hb, List.getElem?_eq_getElem hl, hc⟩
theorem Sees.byte {zs : List Int} {k : Nat} (h : Sees w B A n (bv zs)) (hk : k < n) : ∃ a, A = some a ∧ a.block < B ∧ w.cell? (a.add k) = some (.int .u8 (zs.getD k 0)) := by
  obtain ⟨a, u, e, hb, hx, hc⟩ := h.at_ hk
  have hl : k < zs.length := by have := h.len; rw [bv_length] at this; omega
  rw [bv_at hl] at hx
  cases hx
  exact ⟨a, e, hb, hc⟩
theorem Sees.of_own {base : Nat} {e : TypeId} {c : Nat} (h : w.ownsRow base e 1 (.slice A n c) n xs) : Sees w w.heap.size A n xs := by
  refine ⟨by have := h.1; omega, fun i u hu => ?_⟩
  have hl : i < xs.length := (List.getElem?_eq_some_iff.1 hu).1
  rcases h.2 with ⟨_, rfl⟩ | ⟨g, cap, cur, hv, hg, hh, hnc, _, hsz, htk⟩
  · have := h.1; omega
  · have hA : A = some ⟨g, 0, none⟩ := by injection hv
    subst hA
    exact ⟨_, rfl, (Array.getElem?_eq_some_iff.1 hh).1, h.cells (g := g) rfl i u hu⟩
end
end Go.Proofs.YtdgbodljmdcagaaGreatDoor

/-
  Of part Row: what is needed here.
-/
namespace Go.Proofs.YtdgbodljmdcagaaGreatDoor
open Go.RowKit
set_option linter.unusedVariables false
set_option maxRecDepth 100000
/-- block g is just the cells xs of element type t; none is frozen -/
structure Row (w : World) (g : Nat) (t : TypeId) (xs : List Value) : Prop where
  is : w.heap[g]? = some (.cells xs.toArray t (0, 0))
section
variable {w w' : World} {g : Nat} {t : TypeId} {xs : List Value}
theorem Row.lt (h : Row w g t xs) : g < w.heap.size := (Array.getElem?_eq_some_iff.1 h.is).1
theorem Row.cell (h : Row w g t xs) (i : Nat) : w.cell? ⟨g, i, none⟩ = xs[i]? := by rw [cell_of_row w g i xs.toArray t (0, 0) h.is]; simp
theorem Row.frozen (h : Row w g t xs) (i : Nat) : w.frozen? ⟨g, i, none⟩ = false := by
  have := h.is
  simp [World.frozen?, this]
theorem Row.new (w : World) (t : TypeId) (xs : List Value) : Row (w.alloc (.cells xs.toArray t)) w.heap.size t xs := ⟨heap_alloc_new w _⟩
theorem Row.new' (w : World) (t : TypeId) (xs : List Value) {g : Nat} (hg : w.heap.size = g) : Row (w.alloc (.cells xs.toArray t)) g t xs := hg ▸ Row.new w t xs
theorem Row.drew (h : Row w g t xs) : Row w.drew g t xs := ⟨h.is⟩
theorem Row.drewN (h : Row w g t xs) (n : Nat) : Row (w.drewN n) g t xs := ⟨h.is⟩
theorem Row.alloc (h : Row w g t xs) (o : Obj) : Row (w.alloc o) g t xs := ⟨(Below.heap_alloc w o g h.lt).trans h.is⟩
theorem Row.set_ (h : Row w g t xs) (i : Nat) (u : Value) : Row (w.setCell ⟨g, i, none⟩ u) g t (xs.set i u) := by
  have := h.is
  exact ⟨by simp [World.setCell, Array.getElem?_modify, this]⟩
theorem Row.far (h : Row w g t xs) {p : Addr} (hp : g ≠ p.block) (u : Value) : Row (w.setCell p u) g t xs := ⟨(Below.heap_setCell w p u g hp).trans h.is⟩
theorem Row.below {B : Nat} (h : Row w g t xs) (hb : Below B w w') (hg : g < B) : Row w' g t xs := ⟨(hb.block g hg).trans h.is⟩
theorem Row.grown {row : Option Nat} (h : Row w g t xs) (hb : w.grownBy w' row) (hg : some g ≠ row) : Row w' g t xs := ⟨(hb.block g h.lt hg).trans h.is⟩
theorem Row.sees (h : Row w g t xs) (o : Nat) : Sees w w.heap.size (some ⟨g, o, none⟩) (xs.length - o) (xs.drop o) :=
  ⟨by simp, fun i u hu => ⟨_, rfl, h.lt, by rw [addr_row, h.cell]; simpa using hu⟩⟩
theorem Row.sees0 (h : Row w g t xs) : Sees w w.heap.size (some ⟨g, 0, none⟩) xs.length xs := by simpa using h.sees 0
theorem Row.own (h : Row w g t xs) {base : Nat} (hb : base ≤ g) {n : Nat} (hn : n ≤ xs.length) (hm : xs.length ≤ maxLen) : w.ownsRow base t 1 (.slice (some ⟨g, 0, none⟩) n xs.length) n (xs.take n) :=
  ⟨by simp; omega, .inr ⟨g, xs.length, xs.toArray, rfl, hb, h.is, hn, hm, by simp, by simp⟩⟩
theorem Row.of_own {base : Nat} {n : Nat} (h : w.ownsRow base t 1 (.slice (some ⟨g, 0, none⟩) n n) n xs) : Row w g t xs := by
  rcases h.2 with ⟨hv, _⟩ | ⟨g', cap, cur, hv, _, hh, _, _, hs, ht⟩
  · cases hv
  · cases hv
    have : cur = xs.toArray := by
      rw [← ht, List.take_of_length_le (by simp; omega)]
    exact ⟨by rw [hh, this]⟩
end
end Go.Proofs.YtdgbodljmdcagaaGreatDoor

/-
  Of part Append: what is needed here.
-/
namespace Go.Proofs.YtdgbodljmdcagaaGreatDoor
open Go.RowKit
set_option linter.unusedVariables false
set_option maxRecDepth 100000
section
variable {P : Program} {w : World} {base : Nat} {t ty e : TypeId} {i : TypeInfo} {z : Value} {bytes : Nat} {v : Value} {n m c B : Nat} {A : Option Addr} {xs news : List Value}
theorem run_append_nothing (ht : P.underlying t = some (.slice e)) (hi : P.info? e = some i) (hown : w.ownsRow base e 1 v n xs) (c : Nat) :
    (Builtin.append_ #[t, t] ty #[v, .slice none 0 c]).run P w = .ok v w := by
  rcases hown.2 with ⟨rfl, rfl⟩ | ⟨g, cap, cur, rfl, _, _, hnc, _⟩ <;>
    simp [Builtin.append_, run_underlying ht, sizeOf, typeInfo, Builtin.lenOf, Builtin.firstCells, storeCells, *]
theorem run_append_sees (ht : P.underlying t = some (.slice e)) (hi : P.info? e = some i) (hz : i.zero = some z) (hsize : i.size = 1) (hby : i.bytes = bytes) (hzs : z.cells.size = 1)
    (hown : w.ownsRow base e 1 v n xs) (hr : Sees w B A m news) (h1 : ∀ u ∈ news, u.oneCell' = true) (hnm : n + m ≤ maxLen) (hbytes : (n + m) * bytes ≤ 140737488355328) (hbase : base ≤ w.heap.size) (c : Nat) :
    ∃ v' w', (Builtin.append_ #[t, t] ty #[v, .slice A m c]).run P w = .ok v' w' ∧ w'.ownsRow base e 1 v' (n + m) (xs ++ news) ∧ w.grownBy w' v.ownBlock ∧ (v'.ownBlock = v.ownBlock ∨ v'.ownBlock = some w.heap.size) := by
  cases A with
  | none =>
    have hn : news = [] := by
      cases news with
      | nil => rfl
      | cons u r =>
        obtain ⟨a, h, _⟩ := hr.cell 0 u rfl
        cases h
    subst hn
    obtain rfl : m = 0 := by simpa using hr.len.symm
    exact ⟨v, w, run_append_nothing ht hi hown c, by simpa using hown, World.grownBy.refl w _, .inl rfl⟩
  | some ad =>
    obtain ⟨v', w', hrun, h2, h3, _, h5⟩ := run_append_own_at (P := P) w base t ty e i z 1 bytes ht hi hz hsize hby hzs (by omega) v n xs hown ad m c news (by rw [hr.len]; omega)
      (fun j u hu => by
        obtain ⟨a, h, _, hc⟩ := hr.cell j u hu
        cases h
        exact hc) h1 hnm hbytes hbase
    exact ⟨v', w', hrun, h2, h3, h5⟩
theorem wp_append_sees {o : Oper} {a : Act} {K : Act → World → Prop} {Q : Exit → Act → World → Prop} (s x : Operand)
    (ho : o.op = .call { callee := .builtin .append, args := #[s, x], argTypes := #[t, t] })
    (ht : P.underlying t = some (.slice e)) (hi : P.info? e = some i) (hz : i.zero = some z) (hsize : i.size = 1) (hby : i.bytes = bytes) (hzs : z.cells.size = 1)
    (hs : a.eval s = v) (hown : w.ownsRow base e 1 v n xs) (hx : a.eval x = .slice A m c) (hr : Sees w B A m news) (h1 : ∀ u ∈ news, u.oneCell' = true)
    (hnm : n + m ≤ maxLen) (hbytes : (n + m) * bytes ≤ 140737488355328) (hbase : base ≤ w.heap.size)
    (h : ∀ v' w', w'.ownsRow base e 1 v' (n + m) (xs ++ news) → w.grownBy w' v.ownBlock → (v'.ownBlock = v.ownBlock ∨ v'.ownBlock = some w.heap.size) → K (a.put o.dst v') w') : o.wp P a w K Q := by
  obtain ⟨v', w', hrun, h2, h3, h4⟩ := run_append_sees (P := P) (ty := o.type) ht hi hz hsize hby hzs hown hr h1 hnm hbytes hbase c
  unfold Oper.wp execOp
  simp only [ho, resolve, invoke, builtin, Sem.run_bind, Sem.run_pure, Result.andThen_ok, List.map_toArray, List.map_cons, List.map_nil, hs, hx, hrun]
  exact h v' w' h2 h3 h4
theorem wpList_append_sees {ops : Array Oper} {rest : List Oper} {o : Oper} {a : Act} {Q : Exit → Act → World → Prop} (hgd : o.guard = none) (s x : Operand) (t : TypeId)
    (ho : o.op = .call { callee := .builtin .append, args := #[s, x], argTypes := #[t, t] })
    (base : Nat) (e : TypeId) (i : TypeInfo) (z : Value) (bytes : Nat)
    (ht : P.underlying t = some (.slice e)) (hi : P.info? e = some i) (hz : i.zero = some z) (hsize : i.size = 1) (hby : i.bytes = bytes) (hzs : z.cells.size = 1)
    (v : Value) (n : Nat) (xs : List Value) (hs : a.eval s = v) (hown : w.ownsRow base e 1 v n xs) (B : Nat) (A : Option Addr) (m c : Nat) (news : List Value) (hx : a.eval x = .slice A m c) (hr : Sees w B A m news) (h1 : ∀ u ∈ news, u.oneCell' = true)
    (hnm : n + m ≤ maxLen) (hbytes : (n + m) * bytes ≤ 140737488355328) (hbase : base ≤ w.heap.size)
    (h : ∀ v' w', w'.ownsRow base e 1 v' (n + m) (xs ++ news) → w.grownBy w' v.ownBlock → (v'.ownBlock = v.ownBlock ∨ v'.ownBlock = some w.heap.size) → wpList P ops Q rest (a.put o.dst v') w') : wpList P ops Q (o :: rest) a w :=
  wpList_plain hgd fun _ hK => wp_append_sees s x ho ht hi hz hsize hby hzs hs hown hx hr h1 hnm hbytes hbase fun v' w' h2 h3 h4 => hK _ _ (h v' w' h2 h3 h4)
end
theorem own_form {w : World} {base : Nat} {e : TypeId} {v : Value} {n : Nat} {xs : List Value} (h : w.ownsRow base e 1 v n xs) : ∃ A c, v = .slice A n c := by
  rcases h.2 with ⟨rfl, rfl⟩ | ⟨g, cap, cur, rfl, _⟩
  · exact ⟨_, _, rfl⟩
  · exact ⟨_, _, rfl⟩
theorem own_row_ne {w : World} {base : Nat} {e t : TypeId} {v : Value} {n g : Nat} {xs ys : List Value} (h : w.ownsRow base e 1 v n xs) (hr : Row w g t ys) (hne : e ≠ t) : some g ≠ v.ownBlock := by
  rcases h.2 with ⟨rfl, _⟩ | ⟨g', cap, cur, rfl, _, hh, _⟩
  · simp [Value.ownBlock]
  · intro he
    have hg : g = g' := by simpa [Value.ownBlock] using he
    subst hg
    have := hr.is
    rw [hh] at this
    injection this with this
    injection this with _ ht
    exact hne ht
theorem grownBy_setCell (w : World) (p : Addr) (u : Value) : w.grownBy (w.setCell p u) (some p.block) :=
  ⟨rfl, rfl, rfl, by simp [World.setCell], fun k _ hne => Below.heap_setCell w p u k (fun e => hne (by rw [e]))⟩
theorem own_far {w : World} {base : Nat} {e t : TypeId} {v : Value} {n g : Nat} {xs ys : List Value} (h : w.ownsRow base e 1 v n xs) (hr : Row w g t ys) (hne : e ≠ t) (i : Nat) (u : Value) : (w.setCell ⟨g, i, none⟩ u).ownsRow base e 1 v n xs :=
  h.kept (grownBy_setCell w _ u) (.inr (fun e' => own_row_ne h hr hne e'.symm))
end Go.Proofs.YtdgbodljmdcagaaGreatDoor

/-
  Of part Bits: what is needed here.
-/
namespace Go.Proofs.YtdgbodljmdcagaaGreatDoor
open Go.RowKit
set_option linter.unusedVariables false
set_option maxRecDepth 100000
theorem nat_or_add (k y x : Nat) (hy : y < 2 ^ k) (hx : x % 2 ^ k = 0) : y ||| x = y + x := by
  obtain ⟨q, rfl⟩ : 2 ^ k ∣ x := Nat.dvd_of_mod_eq_zero hx
  rw [Nat.or_comm, Nat.add_comm, Nat.two_pow_add_eq_or_of_lt hy]
theorem ofInt64 (a : Nat) (ha : a < 18446744073709551616) : (BitVec.ofInt 64 (a : Int)).toNat = a := by
  rw [BitVec.ofInt_natCast, BitVec.toNat_ofNat]; exact Nat.mod_eq_of_lt (by omega)
theorem i64_or_nat (a b : Nat) (ha : a < 9223372036854775808) (hb : b < 9223372036854775808) : bits .or .i64 (a : Int) (b : Int) = ((a ||| b : Nat) : Int) := by
  have hx : a ||| b < 2 ^ 63 := Nat.or_lt_two_pow (by omega) (by omega)
  show IntKind.i64.wrap ((BitVec.ofInt 64 (a : Int) ||| BitVec.ofInt 64 (b : Int)).toNat : Int) = _
  rw [BitVec.toNat_or, ofInt64 a (by omega), ofInt64 b (by omega)]
  exact IntWalk.i64_in _ (by omega)
section
variable (k : Nat) (y x : Int) (h0 : 0 ≤ y) (h1 : y < 2 ^ k) (h2 : 0 ≤ x) (h3 : x % 2 ^ k = 0)
include h0 h1 h2 h3
theorem pow_facts : ∃ a b : Nat, y = a ∧ x = b ∧ a ||| b = a + b := by
  obtain ⟨a, rfl⟩ := Int.eq_ofNat_of_zero_le h0
  obtain ⟨b, rfl⟩ := Int.eq_ofNat_of_zero_le h2
  exact ⟨a, b, rfl, rfl, nat_or_add k a b (by exact_mod_cast h1) (by exact_mod_cast h3)⟩
theorem i64_or_lo (hy : y < 9223372036854775808) (hx : x < 9223372036854775808) : bits .or .i64 y x = y + x := by
  obtain ⟨a, b, rfl, rfl, h⟩ := pow_facts k y x h0 h1 h2 h3
  rw [i64_or_nat a b (by omega) (by omega), h]; simp
theorem i64_or_hi (hy : y < 9223372036854775808) (hx : x < 9223372036854775808) : bits .or .i64 x y = x + y := by
  obtain ⟨a, b, rfl, rfl, h⟩ := pow_facts k y x h0 h1 h2 h3
  rw [i64_or_nat b a (by omega) (by omega), Nat.or_comm, h]; simp; omega
theorem u64_or_lo (hy : y < 18446744073709551616) (hx : x < 18446744073709551616) : bits .or .u64 y x = y + x := by
  obtain ⟨a, b, rfl, rfl, h⟩ := pow_facts k y x h0 h1 h2 h3
  rw [u64_or_nat a b (by omega) (by omega), h]; simp
theorem u8_or_lo (hy : y < 256) (hx : x < 256) : bits .or .u8 y x = y + x := by
  obtain ⟨a, b, rfl, rfl, h⟩ := pow_facts k y x h0 h1 h2 h3
  rw [u8_or_nat a b (by omega) (by omega), h]; simp
theorem u8_or_hi (hy : y < 256) (hx : x < 256) : bits .or .u8 x y = x + y := by
  obtain ⟨a, b, rfl, rfl, h⟩ := pow_facts k y x h0 h1 h2 h3
  rw [u8_or_nat b a (by omega) (by omega), Nat.or_comm, h]; simp; omega
end
theorem i64_or_zero (x : Int) (h0 : 0 ≤ x) (h1 : x < 9223372036854775808) : bits .or .i64 0 x = x := by
  have := i64_or_lo 0 0 x (by omega) (by omega) h0 (by simp) (by omega) h1; simpa using this
theorem u8_or_zero (x : Int) (h0 : 0 ≤ x) (h1 : x < 256) : bits .or .u8 0 x = x := by
  have := u8_or_lo 0 0 x (by omega) (by omega) h0 (by simp) (by omega) h1; simpa using this
theorem u8_and127 (x : Int) (h0 : 0 ≤ x) (h1 : x < 256) : bits .and .u8 x 127 = x % 128 := by
  rw [u8_and x 127 h0 h1 (by omega) (by omega)]
  obtain ⟨a, rfl⟩ := Int.eq_ofNat_of_zero_le h0
  have : a &&& 127 = a % 128 := Nat.and_two_pow_sub_one_eq_mod a 7
  simp only [Int.toNat_natCast]
  show ((a &&& 127 : Nat) : Int) = _
  rw [this]; simp
end Go.Proofs.YtdgbodljmdcagaaGreatDoor

/-
  Of part Longer: what is needed here.
-/
namespace Go.Proofs.YtdgbodljmdcagaaGreatDoor
open Go.RowKit
set_option linter.unusedVariables false
set_option maxRecDepth 100000
theorem info_u8 : (Tryz.prog.info? 5).map (fun i => (i.zero, i.size, i.bytes)) = some (some (.int .u8 0), 1, 1) := by kernel_rfl
theorem size_u8 : (Tryz.prog.info? 5).map (·.size) = some 1 := by kernel_rfl
theorem made_bytes (n : Nat) : (madeCells (Value.int .u8 0).cells (n * 1)).toList = bv (List.replicate n 0) := by
  apply List.ext_getElem?
  intro i
  simp [madeCells, bv, cv, Value.cells]
  by_cases h : i < n <;> simp [h, Nat.mod_one]
set_option maxHeartbeats 400000 in
theorem longer_ (A : Option Addr) (n c m : Nat) (zs : List Int) (w : World) (S : Nat)
    (hx : Sees w S A n (bv zs)) (hS : S ≤ w.heap.size) (hn : n ≤ 1099511627776) (hm : m ≤ 8) :
    Calls Tryz.prog 101 #[.slice A n c, .int .i64 m] w fun e w' => ∃ g, e = .returned (.slice (some ⟨g, 0, none⟩) (n + m) (n + m)) ∧ w.heap.size ≤ g ∧ Row w' g 5 (bv (zs ++ List.replicate m 0)) ∧ Below w.heap.size w w' := by
  obtain ⟨i0, hi, hz0, hz1, hz2⟩ := info_parts info_u8
  have lx := Lib.hid (show zs.length = n by have := hx.len; rwa [bv_length] at this)
  go_enter Tryz.func101, Tryz.ntmps101
  go_wp2_with (first
    | (at_make; go_must (refine wpList_make_full _ rfl (.tmp 9) (.tmp 9) 22 rfl w.heap.size 5 i0 _ 1 Tryz.underlying22 hi hz0 hz1 .i64 .i64 _ _ (n + m) rfl rfl (by simp) (by simp) (by rw [hz2]; omega) (by unfold maxLen; omega) (Nat.le_refl _) ?_; intro w1 hown hgrow); rw [made_bytes] at hown; have hrow := Row.of_own hown; have hb1 := (Below.refl w.heap.size w).grown hgrow (Nat.le_refl _) (fun k hk => by cases hk))
    | (with_reducible refine wpList_copy_splice rfl (.tmp 11) (.tmp 12) 22 22 rfl 5 Tryz.underlying22 size_u8 (some ⟨w.heap.size, 0, none⟩) A (n + m) (n + m) n c rfl rfl w.heap.size 0 (bv (List.replicate (n + m) 0)) 5 hrow.is (bv zs) ?_ ?_ ?_ (bv_one zs) w.heap.size w hb1 (Nat.le_refl _) ?_))
  case refine_1 => rw [bv_length, lx.out]; simp
  case refine_2 =>
    intro hp
    obtain ⟨a, _, e, _⟩ := hx.at_ (k := 0) (by rw [bv_length, lx.out] at hp; exact hp)
    refine ⟨a, e, fun j v hv => ?_⟩
    obtain ⟨_, e', _, hc⟩ := (hx.below (hb1.mono hS)).cell j v hv
    rw [e] at e'
    cases e'
    exact hc
  case refine_3 => rw [bv_length, bv_length, lx.out]; simp
  intro w2 hrow2 hb2
  go_wp2
  go_ret
  refine ⟨w.heap.size, rfl, Nat.le_refl _, ?_, hb2⟩
  have h := hrow2.out
  refine ⟨?_⟩
  rw [h]
  have e : splice (bv (List.replicate (n + m) 0)) 0 (bv zs) = bv (zs ++ List.replicate m 0) := by
    simp [splice, bv, cv, lx.out]
  rw [e]
end Go.Proofs.YtdgbodljmdcagaaGreatDoor

/-
  Of part Book: what is needed here.
-/
namespace Go.Proofs.YtdgbodljmdcagaaGreatDoor
open Go.RowKit
set_option linter.unusedVariables false
set_option maxRecDepth 100000
theorem info_page : (Tryz.prog.info? 115).map (fun i => (i.zero, i.size, i.bytes)) = some (some .nilIface, 1, 16) := by kernel_rfl
set_option maxHeartbeats 400000 in
theorem number_ (p : Nat) (A : Option Addr) (n c : Nat) (w : World) (hr : Row w p 60 [.slice A n c]) (hn : n ≤ 1000000) :
    Calls Tryz.prog 61 #[.pointer (some ⟨p, 0, none⟩)] w fun e w' => e = .returned (.int .i64 ((n : Int) + 1)) ∧ w = w' := by
  have c0 : w.cell? ⟨p, 0, none⟩ = some (.slice A n c) := hr.cell 0
  clear hr
  go_enter Tryz.func61, Tryz.ntmps61
  go_wp2
  go_ret
  exact ⟨rfl, rfl⟩
end Go.Proofs.YtdgbodljmdcagaaGreatDoor

/-
  Of part Sheet: what is needed here.
-/
namespace Go.Proofs.YtdgbodljmdcagaaGreatDoor
open Go.RowKit
set_option linter.unusedVariables false
set_option maxRecDepth 100000
theorem grown_trans {a b c : World} {r : Option Nat} (h : a.grownBy b r) (k : b.grownBy c r) : a.grownBy c r :=
  ⟨k.os.trans h.os, k.tape.trans h.tape, k.output.trans h.output, Nat.le_trans h.size k.size, fun i hi hne => (k.block i (Nat.lt_of_lt_of_le hi h.size) hne).trans (h.block i hi hne)⟩
end Go.Proofs.YtdgbodljmdcagaaGreatDoor

/-
  Of part Put: what is needed here.
-/
namespace Go.Proofs.YtdgbodljmdcagaaGreatDoor
open Go.RowKit
set_option linter.unusedVariables false
set_option maxRecDepth 100000
/-- the bytes of a short number -/
def short (n : Int) : List Int :=
  if n < 128 then [n] else if n < 16384 then [n % 128 + 128, n / 128] else [n % 128 + 128, n / 128 % 128 + 128, n / 16384]
theorem short_len (x : Int) : (short x).length = if x < 128 then 1 else if x < 16384 then 2 else 3 := by
  unfold short; split <;> (try split) <;> simp
set_option maxHeartbeats 400000 in
theorem width1 (n : Int) (w : World) (h : n < 128) : Calls Tryz.prog 100 #[.int .i64 n] w fun e w' => e = .returned (.int .i64 1) ∧ w = w' := by
  go_enter Tryz.func100, Tryz.ntmps100
  go_wp2
  go_ret
  exact ⟨rfl, rfl⟩
set_option maxHeartbeats 400000 in
theorem width2 (n : Int) (w : World) (h : 128 ≤ n) (h' : n < 16384) : Calls Tryz.prog 100 #[.int .i64 n] w fun e w' => e = .returned (.int .i64 2) ∧ w = w' := by
  go_enter Tryz.func100, Tryz.ntmps100
  go_wp2
  go_ret
  exact ⟨rfl, rfl⟩
set_option maxHeartbeats 400000 in
theorem width3 (n : Int) (w : World) (h : 16384 ≤ n) : Calls Tryz.prog 100 #[.int .i64 n] w fun e w' => e = .returned (.int .i64 3) ∧ w = w' := by
  have h2 : ¬ n < 128 := by omega
  go_enter Tryz.func100, Tryz.ntmps100
  go_wp2
  go_ret
  exact ⟨rfl, rfl⟩
/-- what PutShort leaves -/
def PutDone (w : World) (n : Nat) (ys : List Int) (e : Ending) (w' : World) : Prop :=
  ∃ g, e = .returned (.tuple #[.slice (some ⟨g, 0, none⟩) n n, .int .i64 0]) ∧ w.heap.size ≤ g ∧ Row w' g 5 (bv ys) ∧ Below w.heap.size w w'
theorem or128 (y : Int) (h0 : 0 ≤ y) (h1 : y < 256) : bits .or .u8 128 (bits .and .u8 y 127) = y % 128 + 128 := by
  rw [u8_and127 y h0 h1, u8_or_hi 7 (y % 128) 128 (by omega) (by omega) (by omega) (by omega) (by omega) (by omega)]; omega
theorem or0 (y : Int) (h0 : 0 ≤ y) (h1 : y < 256) : bits .or .u8 0 (bits .and .u8 y 127) = y % 128 := by
  rw [u8_and127 y h0 h1, u8_or_zero _ (by omega) (by omega)]
theorem row3 {w1 : World} {g t : Nat} {zs : List Int} {a b b' c c' : Int} (R : Row w1 g t (bv (zs ++ List.replicate 3 0))) :
    Row (((((w1.setCell ⟨g, zs.length + 2, none⟩ (.int .u8 a)).setCell ⟨g, zs.length + 1, none⟩ (.int .u8 b')).setCell ⟨g, zs.length + 1, none⟩ (.int .u8 b)).setCell ⟨g, zs.length, none⟩ (.int .u8 c')).setCell ⟨g, zs.length, none⟩ (.int .u8 c)) g t (bv (zs ++ [c, b, a])) := by
  have h := ((((R.set_ (zs.length + 2) (.int .u8 a)).set_ (zs.length + 1) (.int .u8 b')).set_ (zs.length + 1) (.int .u8 b)).set_ zs.length (.int .u8 c')).set_ zs.length (.int .u8 c)
  simpa [bv, cv, List.set_append, List.replicate] using h
theorem row2 {w1 : World} {g t : Nat} {zs : List Int} {b c c' : Int} (R : Row w1 g t (bv (zs ++ List.replicate 2 0))) :
    Row (((w1.setCell ⟨g, zs.length + 1, none⟩ (.int .u8 b)).setCell ⟨g, zs.length, none⟩ (.int .u8 c')).setCell ⟨g, zs.length, none⟩ (.int .u8 c)) g t (bv (zs ++ [c, b])) := by
  have h := ((R.set_ (zs.length + 1) (.int .u8 b)).set_ zs.length (.int .u8 c')).set_ zs.length (.int .u8 c)
  simpa [bv, cv, List.set_append, List.replicate] using h
theorem row1 {w1 : World} {g t : Nat} {zs : List Int} {c : Int} (R : Row w1 g t (bv (zs ++ List.replicate 1 0))) :
    Row (w1.setCell ⟨g, zs.length, none⟩ (.int .u8 c)) g t (bv (zs ++ [c])) := by
  have h := R.set_ zs.length (.int .u8 c)
  simpa [bv, cv, List.set_append, List.replicate] using h
section
variable (A : Option Addr) (n c : Nat) (zs : List Int) (w : World) (S : Nat) (x : Int)
  (hx : Sees w S A n (bv zs)) (hS : S ≤ w.heap.size) (hn : n ≤ 1099511627776)
include hx hS hn
set_option maxHeartbeats 400000 in
theorem putShort_3 (h0 : 16384 ≤ x) (h1 : x ≤ 65535) :
    Calls Tryz.prog 65 #[.slice A n c, .int .i64 x] w (PutDone w (n + 3) (zs ++ [x % 128 + 128, x / 128 % 128 + 128, x / 16384])) := by
  have HW := Lib.hid (width3 x w h0)
  have HL := Lib.hid (longer_ A n c 3 zs w S hx hS hn (by omega))
  have lx := Lib.hid (show zs.length = n by have := hx.len; rwa [bv_length] at this)
  go_enter Tryz.func65, Tryz.ntmps65
  go_wp2_with fail
  refine HW.out.mono ?_
  rintro e w1 ⟨rfl, rfl⟩
  go_wp2_with fail
  refine HL.out.mono ?_
  rintro e w1 ⟨g, rfl, hg, hrow, hb⟩
  have c0 := hrow.cell n
  have c1 := hrow.cell (n + 1)
  have c2 := hrow.cell (n + 2)
  have f0 := hrow.frozen n
  have f1 := hrow.frozen (n + 1)
  have f2 := hrow.frozen (n + 2)
  have R := Lib.hid hrow
  rw [bv_getElem?] at c0 c1 c2
  have l0 : zs.length = n := lx.out
  subst l0
  simp at c0 c1 c2
  clear hrow
  go_wp2_with fail
  go_ret2
  refine ⟨g, rfl, hg, ?_, ?_⟩
  · rw [or128 _ (by omega) (by omega), or128 _ (by omega) (by omega), show x / 128 % 256 % 128 = x / 128 % 128 by omega, show x % 256 % 128 = x % 128 by omega]
    exact row3 R.out
  · exact ((((hb.setCell hg _).setCell hg _).setCell hg _).setCell hg _).setCell hg _
set_option maxHeartbeats 400000 in
theorem putShort_2 (h0 : 128 ≤ x) (h1 : x < 16384) :
    Calls Tryz.prog 65 #[.slice A n c, .int .i64 x] w (PutDone w (n + 2) (zs ++ [x % 128 + 128, x / 128])) := by
  have HW := Lib.hid (width2 x w h0 h1)
  have HL := Lib.hid (longer_ A n c 2 zs w S hx hS hn (by omega))
  have lx := Lib.hid (show zs.length = n by have := hx.len; rwa [bv_length] at this)
  go_enter Tryz.func65, Tryz.ntmps65
  go_wp2_with fail
  refine HW.out.mono ?_
  rintro e w1 ⟨rfl, rfl⟩
  go_wp2_with fail
  refine HL.out.mono ?_
  rintro e w1 ⟨g, rfl, hg, hrow, hb⟩
  have c0 := hrow.cell n
  have c1 := hrow.cell (n + 1)
  have f0 := hrow.frozen n
  have f1 := hrow.frozen (n + 1)
  have R := Lib.hid hrow
  rw [bv_getElem?] at c0 c1
  have l0 : zs.length = n := lx.out
  subst l0
  simp at c0 c1
  clear hrow
  go_wp2_with fail
  go_ret2
  refine ⟨g, rfl, hg, ?_, ?_⟩
  · rw [or0 _ (by omega) (by omega), or128 _ (by omega) (by omega), show x / 128 % 128 = x / 128 by omega, show x % 256 % 128 = x % 128 by omega]
    exact row2 R.out
  · exact ((hb.setCell hg _).setCell hg _).setCell hg _
set_option maxHeartbeats 400000 in
theorem putShort_1 (h0 : 0 ≤ x) (h1 : x < 128) :
    Calls Tryz.prog 65 #[.slice A n c, .int .i64 x] w (PutDone w (n + 1) (zs ++ [x])) := by
  have HW := Lib.hid (width1 x w h1)
  have HL := Lib.hid (longer_ A n c 1 zs w S hx hS hn (by omega))
  have lx := Lib.hid (show zs.length = n by have := hx.len; rwa [bv_length] at this)
  go_enter Tryz.func65, Tryz.ntmps65
  go_wp2_with fail
  refine HW.out.mono ?_
  rintro e w1 ⟨rfl, rfl⟩
  go_wp2_with fail
  refine HL.out.mono ?_
  rintro e w1 ⟨g, rfl, hg, hrow, hb⟩
  have c0 := hrow.cell n
  have f0 := hrow.frozen n
  have R := Lib.hid hrow
  rw [bv_getElem?] at c0
  have l0 : zs.length = n := lx.out
  subst l0
  simp at c0
  clear hrow
  go_wp2_with fail
  go_ret2
  refine ⟨g, rfl, hg, ?_, ?_⟩
  · have e : bits .or .u8 0 (bits .and .u8 x 127) = x := by rw [or0 x (by omega) (by omega)]; omega
    have h := row1 (c := x) R.out
    first | (rw [e]; exact h) | (rw [show x % 256 = x by omega, e]; exact h)
  · exact hb.setCell hg _
theorem putShort (h0 : 0 ≤ x) (h1 : x ≤ 65535) :
    Calls Tryz.prog 65 #[.slice A n c, .int .i64 x] w (PutDone w (n + (short x).length) (zs ++ short x)) := by
  by_cases h : x < 128
  · have e : short x = [x] := by simp [short, h]
    rw [e]
    exact putShort_1 A n c zs w S x hx hS hn h0 h
  · by_cases h' : x < 16384
    · have e : short x = [x % 128 + 128, x / 128] := by simp [short, h, h']
      rw [e]
      exact putShort_2 A n c zs w S x hx hS hn (by omega) h'
    · have e : short x = [x % 128 + 128, x / 128 % 128 + 128, x / 16384] := by simp [short, h, h']
      rw [e]
      exact putShort_3 A n c zs w S x hx hS hn (by omega) h1
end
end Go.Proofs.YtdgbodljmdcagaaGreatDoor

/-
  Of part Msg: what is needed here.
-/
namespace Go.Proofs.YtdgbodljmdcagaaGreatDoor
open Go.RowKit
set_option linter.unusedVariables false
set_option maxRecDepth 100000
/-- an instruction -/
structure LIn where
  p : Int
  acc : List Int
  dat : List Int
/-- a lookup -/
structure LLook where
  tab : List Int
  wr : List Int
  rd : List Int
/-- a message -/
structure LMsg where
  v0 : Bool
  s : Int
  r : Int
  o : Int
  keys : List (List Int)
  recent : List Int
  ins : List LIn
  looks : List LLook
/-- how many, and the bytes -/
def encL (l : List Int) : List Int := short l.length ++ l
def encIn (i : LIn) : List Int := i.p :: (encL i.acc ++ encL i.dat)
def encLook (l : LLook) : List Int := l.tab ++ (encL l.wr ++ encL l.rd)
def encHead (m : LMsg) : List Int := (if m.v0 then [128] else []) ++ [m.s, m.r, m.o]
def encTail (m : LMsg) : List Int := if m.v0 then short m.looks.length ++ m.looks.flatMap encLook else []
/-- a message's bytes -/
def enc (m : LMsg) : List Int := encHead m ++ (short m.keys.length ++ (m.keys.flatten ++ (m.recent ++ (short m.ins.length ++ (m.ins.flatMap encIn ++ encTail m)))))
/-- may it be put? -/
def Fits (m : LMsg) : Prop :=
  (m.v0 = true ∨ (m.looks = [] ∧ m.s < 128)) ∧ m.keys.length ≤ 65535 ∧ m.ins.length ≤ 65535 ∧ m.looks.length ≤ 65535 ∧
  (∀ i ∈ m.ins, i.acc.length ≤ 65535 ∧ i.dat.length ≤ 65535) ∧ (∀ l ∈ m.looks, l.wr.length ≤ 65535 ∧ l.rd.length ≤ 65535)
/-- a byte -/
def IsByte (z : Int) : Prop := 0 ≤ z ∧ z < 256
def AllBytes (l : List Int) : Prop := ∀ z ∈ l, IsByte z
/-- all numbers are bytes, keys have 32 of them -/
structure LMsg.Wf (m : LMsg) : Prop where
  s : IsByte m.s
  r : IsByte m.r
  o : IsByte m.o
  keys : ∀ k ∈ m.keys, k.length = 32 ∧ AllBytes k
  recent : m.recent.length = 32 ∧ AllBytes m.recent
  ins : ∀ i ∈ m.ins, IsByte i.p ∧ AllBytes i.acc ∧ AllBytes i.dat
  looks : ∀ l ∈ m.looks, (l.tab.length = 32 ∧ AllBytes l.tab) ∧ AllBytes l.wr ∧ AllBytes l.rd
/-- a slice of bytes that lies below block B -/
structure BytesIn (w : World) (B : Nat) (v : Value) (l : List Int) : Prop where
  is : ∃ A c, v = .slice A l.length c ∧ Sees w B A l.length (bv l) ∧ l.length ≤ c ∧ c ≤ maxLen
/-- instructions that lie below block B -/
structure InsIn (w : World) (B : Nat) (A : Option Addr) (n : Nat) (l : List LIn) : Prop where
  len : l.length = n
  at_ : ∀ i x, l[i]? = some x → ∃ a va vd, A = some a ∧ a.block < B ∧ w.cell? (a.add (i * 3)) = some (.int .u8 x.p) ∧ w.cell? (a.add (i * 3 + 1)) = some va ∧ w.cell? (a.add (i * 3 + 2)) = some vd ∧ BytesIn w B va x.acc ∧ BytesIn w B vd x.dat
/-- lookups that lie below block B -/
structure LooksIn (w : World) (B : Nat) (A : Option Addr) (n : Nat) (l : List LLook) : Prop where
  len : l.length = n
  at_ : ∀ i x, l[i]? = some x → ∃ a va vd, A = some a ∧ a.block < B ∧ (∀ j u, (bv x.tab ++ [va, vd])[j]? = some u → w.cell? (a.add (i * 34 + j)) = some u) ∧ x.tab.length = 32 ∧ BytesIn w B va x.wr ∧ BytesIn w B vd x.rd
/-- keys that lie below block B -/
structure KeysIn (w : World) (B : Nat) (A : Option Addr) (n : Nat) (l : List (List Int)) : Prop where
  len : l.length = n
  each : ∀ k ∈ l, k.length = 32
  sees : Sees w B A (n * 32) (bv l.flatten)
/-- where a message's lists lie -/
structure Raw where
  KA : Option Addr
  kn : Nat
  kc : Nat
  IA : Option Addr
  n : Nat
  ic : Nat
  LA : Option Addr
  ln : Nat
  lc : Nat
/-- a message's cells -/
def Raw.cells (q : Raw) (m : LMsg) : List Value :=
  [.bool m.v0, .int .u8 m.s, .int .u8 m.r, .int .u8 m.o, .slice q.KA q.kn q.kc] ++ (bv m.recent ++ [.slice q.IA q.n q.ic, .slice q.LA q.ln q.lc])
/-- a message's lists lie below block B -/
structure MsgIn (w : World) (B : Nat) (q : Raw) (m : LMsg) : Prop where
  recent : m.recent.length = 32
  keys : KeysIn w B q.KA q.kn m.keys
  ins : InsIn w B q.IA q.n m.ins
  looks : LooksIn w B q.LA q.ln m.looks
  kn : q.kn ≤ q.kc ∧ q.kc ≤ maxLen
  n : q.n ≤ q.ic ∧ q.ic ≤ maxLen
  ln : q.ln ≤ q.lc ∧ q.lc ≤ maxLen
section
variable {w w' : World} {B B' : Nat}
theorem BytesIn.keep {v : Value} {l : List Int} (h : BytesIn w B v l) (hk : ∀ p : Addr, p.block < B → w'.cell? p = w.cell? p) : BytesIn w' B v l := by
  obtain ⟨A, c, e, hs, h1, h2⟩ := h.is
  exact ⟨A, c, e, hs.keep hk, h1, h2⟩
theorem BytesIn.more {v : Value} {l : List Int} (h : BytesIn w B v l) (hB : B ≤ B') : BytesIn w B' v l := by
  obtain ⟨A, c, e, hs, h1, h2⟩ := h.is
  exact ⟨A, c, e, hs.more hB, h1, h2⟩
theorem InsIn.keep {A : Option Addr} {n : Nat} {l : List LIn} (h : InsIn w B A n l) (hk : ∀ p : Addr, p.block < B → w'.cell? p = w.cell? p) : InsIn w' B A n l :=
  ⟨h.len, fun i x hx => by
    obtain ⟨a, va, vd, e, hb, h1, h2, h3, h4, h5⟩ := h.at_ i x hx
    exact ⟨a, va, vd, e, hb, (hk _ (by rw [addr_block]; exact hb)).trans h1, (hk _ (by rw [addr_block]; exact hb)).trans h2, (hk _ (by rw [addr_block]; exact hb)).trans h3, h4.keep hk, h5.keep hk⟩⟩
theorem InsIn.more {A : Option Addr} {n : Nat} {l : List LIn} (h : InsIn w B A n l) (hB : B ≤ B') : InsIn w B' A n l :=
  ⟨h.len, fun i x hx => by
    obtain ⟨a, va, vd, e, hb, h1, h2, h3, h4, h5⟩ := h.at_ i x hx
    exact ⟨a, va, vd, e, by omega, h1, h2, h3, h4.more hB, h5.more hB⟩⟩
theorem LooksIn.keep {A : Option Addr} {n : Nat} {l : List LLook} (h : LooksIn w B A n l) (hk : ∀ p : Addr, p.block < B → w'.cell? p = w.cell? p) : LooksIn w' B A n l :=
  ⟨h.len, fun i x hx => by
    obtain ⟨a, va, vd, e, hb, h1, h2, h4, h5⟩ := h.at_ i x hx
    exact ⟨a, va, vd, e, hb, fun j u hu => (hk _ (by rw [addr_block]; exact hb)).trans (h1 j u hu), h2, h4.keep hk, h5.keep hk⟩⟩
theorem LooksIn.more {A : Option Addr} {n : Nat} {l : List LLook} (h : LooksIn w B A n l) (hB : B ≤ B') : LooksIn w B' A n l :=
  ⟨h.len, fun i x hx => by
    obtain ⟨a, va, vd, e, hb, h1, h2, h4, h5⟩ := h.at_ i x hx
    exact ⟨a, va, vd, e, by omega, h1, h2, h4.more hB, h5.more hB⟩⟩
theorem KeysIn.keep {A : Option Addr} {n : Nat} {l : List (List Int)} (h : KeysIn w B A n l) (hk : ∀ p : Addr, p.block < B → w'.cell? p = w.cell? p) : KeysIn w' B A n l := ⟨h.len, h.each, h.sees.keep hk⟩
theorem KeysIn.more {A : Option Addr} {n : Nat} {l : List (List Int)} (h : KeysIn w B A n l) (hB : B ≤ B') : KeysIn w B' A n l := ⟨h.len, h.each, h.sees.more hB⟩
variable {q : Raw} {m : LMsg}
theorem MsgIn.keep (h : MsgIn w B q m) (hk : ∀ p : Addr, p.block < B → w'.cell? p = w.cell? p) : MsgIn w' B q m := ⟨h.recent, h.keys.keep hk, h.ins.keep hk, h.looks.keep hk, h.kn, h.n, h.ln⟩
theorem MsgIn.more (h : MsgIn w B q m) (hB : B ≤ B') : MsgIn w B' q m := ⟨h.recent, h.keys.more hB, h.ins.more hB, h.looks.more hB, h.kn, h.n, h.ln⟩
theorem MsgIn.below (h : MsgIn w B q m) (hb : Below B w w') : MsgIn w' B q m := h.keep fun _ hp => hb.cell hp
theorem MsgIn.alloc (h : MsgIn w B q m) (hB : B ≤ w.heap.size) (o : Obj) : MsgIn (w.alloc o) B q m := h.keep fun p hp => World.cell?_alloc_lt w o p (by omega)
theorem MsgIn.drewN (h : MsgIn w B q m) (n : Nat) : MsgIn (w.drewN n) B q m := h.keep fun p hp => rfl
theorem InsIn.below {A : Option Addr} {n : Nat} {l : List LIn} (h : InsIn w B A n l) (hb : Below B w w') : InsIn w' B A n l := h.keep fun _ hp => hb.cell hp
theorem LooksIn.below {A : Option Addr} {n : Nat} {l : List LLook} (h : LooksIn w B A n l) (hb : Below B w w') : LooksIn w' B A n l := h.keep fun _ hp => hb.cell hp
theorem KeysIn.below {A : Option Addr} {n : Nat} {l : List (List Int)} (h : KeysIn w B A n l) (hb : Below B w w') : KeysIn w' B A n l := h.keep fun _ hp => hb.cell hp
theorem BytesIn.below {v : Value} {l : List Int} (h : BytesIn w B v l) (hb : Below B w w') : BytesIn w' B v l := h.keep fun _ hp => hb.cell hp
end
section
variable {q : Raw} {m : LMsg}
theorem cells_len (h : m.recent.length = 32) : (q.cells m).length = 39 := by simp [Raw.cells, bv_length, h]
theorem cells_0 : (q.cells m)[0]? = some (.bool m.v0) := rfl
theorem cells_1 : (q.cells m)[1]? = some (.int .u8 m.s) := rfl
theorem cells_2 : (q.cells m)[2]? = some (.int .u8 m.r) := rfl
theorem cells_3 : (q.cells m)[3]? = some (.int .u8 m.o) := rfl
theorem cells_4 : (q.cells m)[4]? = some (.slice q.KA q.kn q.kc) := rfl
theorem cells_37 (h : m.recent.length = 32) : (q.cells m)[37]? = some (.slice q.IA q.n q.ic) := by
  simp [Raw.cells, bv_length, h]
theorem cells_38 (h : m.recent.length = 32) : (q.cells m)[38]? = some (.slice q.LA q.ln q.lc) := by
  simp [Raw.cells, bv_length, h]
theorem cells_recent {j : Nat} {u : Value} (h : (bv m.recent)[j]? = some u) : (q.cells m)[5 + j]? = some u := by
  have hj := (List.getElem?_eq_some_iff.1 h).1
  simp only [Raw.cells]
  rw [List.getElem?_append_right (by simp), List.getElem?_append_left (by simpa using hj)]
  simpa using h
theorem cells_one : ∀ u ∈ q.cells m, u.oneCell' = true := by
  intro u hu
  simp only [Raw.cells, List.mem_append, List.mem_cons, List.not_mem_nil, or_false] at hu
  rcases hu with (rfl | rfl | rfl | rfl | rfl) | hu | rfl | rfl
  all_goals first | rfl | exact bv_one _ _ hu
end
theorem flatMap_take_len {α : Type} (f : α → List Int) : ∀ (l : List α) (k : Nat), ((l.take k).flatMap f).length ≤ (l.flatMap f).length
  | [], k => by simp
  | x :: r, 0 => by simp
  | x :: r, k + 1 => by
    have := flatMap_take_len f r k
    simp only [List.take_succ_cons, List.flatMap_cons, List.length_append]
    omega
theorem flatMap_take_succ {α : Type} (f : α → List Int) {l : List α} {k : Nat} {x : α} (h : l[k]? = some x) : (l.take (k + 1)).flatMap f = (l.take k).flatMap f ++ f x := by
  rw [List.take_add_one, List.flatMap_append, h]
  simp
end Go.Proofs.YtdgbodljmdcagaaGreatDoor

/-
  Of part Get: what is needed here.
-/
namespace Go.Proofs.YtdgbodljmdcagaaGreatDoor
open Go.RowKit
set_option linter.unusedVariables false
set_option maxRecDepth 100000
/-- how many bytes the short number has that bytes begin with, and what is wrong -/
def mea (zs : List Int) : Int × Int :=
  if zs.length = 0 then (0, 5)
  else if zs.getD 0 0 < 128 then (1, 0)
  else if zs.length = 1 then (0, 5)
  else if zs.getD 1 0 = 0 then (0, 4)
  else if zs.getD 1 0 < 128 then (2, 0)
  else if zs.length = 2 then (0, 5)
  else if zs.getD 2 0 = 0 ∨ 3 < zs.getD 2 0 then (0, 4) else (3, 0)
/-- all are bytes -/
def Bytes (zs : List Int) : Prop := ∀ i, 0 ≤ zs.getD i 0 ∧ zs.getD i 0 < 256
theorem tup3 {k l m : IntKind} {a b c d e f : Int} (h : a = c) (h' : b = d) (h'' : e = f) : Ending.returned (.tuple #[.int k a, .int l b, .int m e]) = .returned (.tuple #[.int k c, .int l d, .int m f]) := by rw [h, h', h'']
theorem tup2_of {k l : IntKind} {a b : Int} {p : Int × Int} (h : p = (a, b)) : Ending.returned (.tuple #[.int k a, .int l b]) = .returned (.tuple #[.int k p.1, .int l p.2]) := by rw [h]
section
variable {zs : List Int} {n k : Nat} (lx : zs.length = n) (h0 : 0 < k → 128 ≤ zs.getD 0 0) (h1 : 1 < k → 128 ≤ zs.getD 1 0) (h2 : k ≤ 2) {z : Int} (hz : zs.getD k 0 = z)
include lx h0 h1 h2
theorem mea_end (hk : k = n) : mea zs = (0, 5) := by
  subst hk
  obtain rfl | rfl | rfl : k = 0 ∨ k = 1 ∨ k = 2 := by omega
  · simp [mea, lx]
  · have := h0 (by omega); simp only [mea, lx]; rw [if_neg (by omega), if_neg (by omega), if_pos trivial]
  · have := h0 (by omega); have := h1 (by omega); simp only [mea, lx]
    rw [if_neg (by omega), if_neg (by omega), if_neg (by omega), if_neg (by omega), if_neg (by omega), if_pos trivial]
include hz
theorem mea_bad (hk : k < n) (h : (0 < k ∧ z = 0) ∨ (k = 2 ∧ 3 < z)) : mea zs = (0, 4) := by
  obtain rfl | rfl | rfl : k = 0 ∨ k = 1 ∨ k = 2 := by omega
  · omega
  · have := h0 (by omega); simp only [mea, lx]; rw [if_neg (by omega), if_neg (by omega), if_neg (by omega), if_pos (by omega)]
  · have := h0 (by omega); have := h1 (by omega); simp only [mea, lx]
    rw [if_neg (by omega), if_neg (by omega), if_neg (by omega), if_neg (by omega), if_neg (by omega), if_neg (by omega), if_pos (by omega)]
theorem mea_ok (hk : k < n) (h : ¬ ((0 < k ∧ z = 0) ∨ (k = 2 ∧ 3 < z))) (hs : z < 128) : mea zs = ((k : Int) + 1, 0) := by
  obtain rfl | rfl | rfl : k = 0 ∨ k = 1 ∨ k = 2 := by omega
  · simp only [mea, lx]; rw [if_neg (by omega), if_pos (by omega)]; rfl
  · have := h0 (by omega); simp only [mea, lx]; rw [if_neg (by omega), if_neg (by omega), if_neg (by omega), if_neg (by omega), if_pos (by omega)]; rfl
  · have := h0 (by omega); have := h1 (by omega); simp only [mea, lx]
    rw [if_neg (by omega), if_neg (by omega), if_neg (by omega), if_neg (by omega), if_neg (by omega), if_neg (by omega), if_neg (by omega)]; rfl
omit lx in
theorem mea_on (hs : 128 ≤ z) : (0 < k + 1 → 128 ≤ zs.getD 0 0) ∧ (1 < k + 1 → 128 ≤ zs.getD 1 0) := by
  refine ⟨fun _ => ?_, fun _ => ?_⟩
  · by_cases h : k = 0
    · subst h; omega
    · exact h0 (by omega)
  · by_cases h : k = 1
    · subst h; omega
    · exact h1 (by omega)
end
set_option maxHeartbeats 400000 in
theorem measure_ (A : Option Addr) (n c : Nat) (zs : List Int) (w : World) (S : Nat)
    (hx : Sees w S A n (bv zs)) (hn : n ≤ maxLen) (hb : Bytes zs) :
    Calls Tryz.prog 161 #[.slice A n c] w fun e w' => e = .returned (.tuple #[.int .i64 (mea zs).1, .int .i64 (mea zs).2]) ∧ w = w' := by
  unfold maxLen at hn
  have lx := Lib.hid (show zs.length = n by have := hx.len; rwa [bv_length] at this)
  go_enter Tryz.func161, Tryz.ntmps161
  go_wp2
  go_loop [4, 5, 8, 13] (fun _ _ i _ => ∃ k : Nat, k ≤ n ∧ k ≤ 2 ∧ i = .int .i64 k ∧ (0 < k → 128 ≤ zs.getD 0 0) ∧ (1 < k → 128 ≤ zs.getD 1 0)) (fun _ _ i _ => n - (intOf i).toNat)
  case atStart => exact ⟨0, Nat.zero_le _, Nat.zero_le _, rfl, by omega, by omega⟩
  case round =>
    obtain ⟨k, hk, hk2, rfl, h0, h1⟩ := hrel
    have H0 := Lib.hid h0
    have H1 := Lib.hid h1
    clear h0 h1
    by_cases hlt : k < n
    · obtain ⟨a, rfl, ha, hca⟩ := hx.byte hlt
      have hbk := hb k
      generalize hz : zs.getD k 0 = z at hca hbk
      have HZ := Lib.hid hz
      clear hz
      go_wp2
      all_goals first
        | (go_ret2
           first
            | exact ⟨tup2_of (mea_bad lx.out H0.out H1.out hk2 HZ.out hlt (.inl ⟨by assumption, beq_iff_eq.1 (by assumption)⟩)), rfl⟩
            | exact ⟨tup2_of (mea_bad lx.out H0.out H1.out hk2 HZ.out hlt (.inr ⟨by omega, by assumption⟩)), rfl⟩
            | exact ⟨tup2_of (mea_ok lx.out H0.out H1.out hk2 HZ.out hlt (by omega) (by assumption)), rfl⟩
            | (have hz0 := beq_eq_false_iff_ne.1 (show (z == 0) = false by assumption)
               first
                | exact ⟨tup2_of (mea_ok lx.out H0.out H1.out hk2 HZ.out hlt (by omega) (by assumption)), rfl⟩
                | (obtain rfl : k = 2 := by omega
                   exact ⟨tup2_of (mea_ok lx.out H0.out H1.out hk2 HZ.out hlt (by omega) (by assumption)), rfl⟩)))
        | (go_round
           case rel => exact ⟨k + 1, by omega, by omega, by go_num, mea_on H0.out H1.out hk2 HZ.out (by assumption)⟩
           case measure => simp [intOf]; omega)
    · have HK := Lib.hid (show k = n by omega)
      go_wp2
      go_ret2
      exact ⟨tup2_of (mea_end lx.out H0.out H1.out hk2 HK.out), rfl⟩
theorem mea_cases (zs : List Int) (hb : Bytes zs) :
    (mea zs = (0, 4) ∨ mea zs = (0, 5)) ∨ (mea zs = (1, 0) ∧ 1 ≤ zs.length ∧ zs.getD 0 0 < 128) ∨
    (mea zs = (2, 0) ∧ 2 ≤ zs.length ∧ 128 ≤ zs.getD 0 0 ∧ zs.getD 1 0 < 128 ∧ 0 < zs.getD 1 0) ∨
    (mea zs = (3, 0) ∧ 3 ≤ zs.length ∧ 128 ≤ zs.getD 0 0 ∧ 128 ≤ zs.getD 1 0 ∧ zs.getD 2 0 ≤ 3 ∧ 0 < zs.getD 2 0) := by
  have h0 := hb 0
  have h1 := hb 1
  have h2 := hb 2
  unfold mea
  repeat' split
  all_goals first
    | (left; simp; done)
    | (right; left; refine ⟨rfl, by omega, by omega⟩)
    | (right; right; left; refine ⟨rfl, by omega, by omega, by omega, by omega⟩)
    | (right; right; right; refine ⟨rfl, by omega, by omega, by omega, by omega, by omega⟩)
/-- the short number that bytes begin with, how many bytes it took, what is wrong -/
def getS (zs : List Int) : Int × Int × Int :=
  let m := mea zs
  if m.2 = 0 then
    (if m.1 = 1 then zs.getD 0 0 else if m.1 = 2 then zs.getD 0 0 - 128 + 128 * zs.getD 1 0 else zs.getD 0 0 - 128 + 128 * (zs.getD 1 0 - 128) + 16384 * zs.getD 2 0, m.1, 0)
  else (0, 0, m.2)
theorem sum3 (x y z : Int) (h0 : 128 ≤ x ∧ x < 256) (h1 : 128 ≤ y ∧ y < 256) (h2 : 0 ≤ z ∧ z ≤ 3) :
    bits .or .i64 (bits .or .i64 (bits .or .i64 0 (z * 16384)) (wrap64 (wrap64 (bits .and .u8 y 127) * 128))) (wrap64 (bits .and .u8 x 127)) = x - 128 + 128 * (y - 128) + 16384 * z := by
  rw [u8_and127 y (by omega) (by omega), u8_and127 x (by omega) (by omega), i64_or_zero _ (by omega) (by omega), IntWalk.wrap64_in (y % 128) ⟨by omega, by omega⟩, IntWalk.wrap64_in _ ⟨by omega, by omega⟩, IntWalk.wrap64_in (x % 128) ⟨by omega, by omega⟩,
    i64_or_hi 14 (y % 128 * 128) (z * 16384) (by omega) (by omega) (by omega) (by omega) (by omega) (by omega), i64_or_hi 7 (x % 128) _ (by omega) (by omega) (by omega) (by omega) (by omega) (by omega)]
  omega
theorem sum2 (x y : Int) (h0 : 128 ≤ x ∧ x < 256) (h1 : 0 ≤ y ∧ y < 128) :
    bits .or .i64 (bits .or .i64 0 (wrap64 (wrap64 (bits .and .u8 y 127) * 128))) (wrap64 (bits .and .u8 x 127)) = x - 128 + 128 * y := by
  rw [u8_and127 y (by omega) (by omega), u8_and127 x (by omega) (by omega), IntWalk.wrap64_in (y % 128) ⟨by omega, by omega⟩, IntWalk.wrap64_in _ ⟨by omega, by omega⟩, IntWalk.wrap64_in (x % 128) ⟨by omega, by omega⟩, i64_or_zero _ (by omega) (by omega),
    i64_or_hi 7 (x % 128) _ (by omega) (by omega) (by omega) (by omega) (by omega) (by omega)]
  omega
theorem sum1 (x : Int) (h0 : 0 ≤ x ∧ x < 128) : bits .or .i64 0 (wrap64 (bits .and .u8 x 127)) = x := by
  rw [u8_and127 x (by omega) (by omega), IntWalk.wrap64_in (x % 128) ⟨by omega, by omega⟩, i64_or_zero _ (by omega) (by omega)]
  omega
section
variable (A : Option Addr) (n c : Nat) (w : World)
set_option maxHeartbeats 400000 in
theorem getShort_bad (e5 : Int) (h5 : (e5 != 0) = true) (M : Hid (Calls Tryz.prog 161 #[.slice A n c] w fun e w' => e = .returned (.tuple #[.int .i64 0, .int .i64 e5]) ∧ w = w')) :
    Calls Tryz.prog 152 #[.slice A n c] w fun e w' => e = .returned (.tuple #[.int .i64 0, .int .i64 0, .int .i64 e5]) ∧ w = w' := by
  go_enter Tryz.func152, Tryz.ntmps152
  go_wp2_with fail
  refine M.out.mono ?_
  rintro e w1 ⟨rfl, rfl⟩
  go_wp2_with fail
  go_ret3
  exact ⟨rfl, rfl⟩
variable (a : Addr) (x y z : Int)
set_option maxHeartbeats 400000 in
theorem getShort_3 (M : Hid (Calls Tryz.prog 161 #[.slice (some a) n c] w fun e w' => e = .returned (.tuple #[.int .i64 3, .int .i64 0]) ∧ w = w'))
    (ca : w.cell? a = some (.int .u8 x)) (cb : w.cell? ⟨a.block, a.off + 1, none⟩ = some (.int .u8 y)) (cc : w.cell? ⟨a.block, a.off + 2, none⟩ = some (.int .u8 z)) (hn3 : 2 < n) (hn : n ≤ 2 ^ 63 - 1)
    (h0 : 128 ≤ x ∧ x < 256) (h1 : 128 ≤ y ∧ y < 256) (h2 : 0 ≤ z ∧ z ≤ 3) :
    Calls Tryz.prog 152 #[.slice (some a) n c] w fun e w' => e = .returned (.tuple #[.int .i64 (x - 128 + 128 * (y - 128) + 16384 * z), .int .i64 3, .int .i64 0]) ∧ w = w' := by
  go_enter Tryz.func152, Tryz.ntmps152
  go_wp2_with fail
  refine M.out.mono ?_
  rintro e w1 ⟨rfl, rfl⟩
  go_wp2_with fail
  go_ret3
  exact ⟨tup3 (sum3 x y z h0 h1 h2) rfl rfl, rfl⟩
set_option maxHeartbeats 400000 in
theorem getShort_2 (M : Hid (Calls Tryz.prog 161 #[.slice (some a) n c] w fun e w' => e = .returned (.tuple #[.int .i64 2, .int .i64 0]) ∧ w = w'))
    (ca : w.cell? a = some (.int .u8 x)) (cb : w.cell? ⟨a.block, a.off + 1, none⟩ = some (.int .u8 y)) (hn3 : 1 < n) (hn : n ≤ 2 ^ 63 - 1)
    (h0 : 128 ≤ x ∧ x < 256) (h1 : 0 ≤ y ∧ y < 128) :
    Calls Tryz.prog 152 #[.slice (some a) n c] w fun e w' => e = .returned (.tuple #[.int .i64 (x - 128 + 128 * y), .int .i64 2, .int .i64 0]) ∧ w = w' := by
  go_enter Tryz.func152, Tryz.ntmps152
  go_wp2_with fail
  refine M.out.mono ?_
  rintro e w1 ⟨rfl, rfl⟩
  go_wp2_with fail
  go_ret3
  exact ⟨tup3 (sum2 x y h0 h1) rfl rfl, rfl⟩
set_option maxHeartbeats 400000 in
theorem getShort_1 (M : Hid (Calls Tryz.prog 161 #[.slice (some a) n c] w fun e w' => e = .returned (.tuple #[.int .i64 1, .int .i64 0]) ∧ w = w'))
    (ca : w.cell? a = some (.int .u8 x)) (hn3 : 0 < n) (hn : n ≤ 2 ^ 63 - 1)
    (h0 : 0 ≤ x ∧ x < 128) :
    Calls Tryz.prog 152 #[.slice (some a) n c] w fun e w' => e = .returned (.tuple #[.int .i64 x, .int .i64 1, .int .i64 0]) ∧ w = w' := by
  go_enter Tryz.func152, Tryz.ntmps152
  go_wp2_with fail
  refine M.out.mono ?_
  rintro e w1 ⟨rfl, rfl⟩
  go_wp2_with fail
  go_ret3
  exact ⟨tup3 (sum1 x h0) rfl rfl, rfl⟩
end
theorem getShort (A : Option Addr) (n c : Nat) (zs : List Int) (w : World) (S : Nat)
    (hx : Sees w S A n (bv zs)) (hn : n ≤ maxLen) (hb : Bytes zs) :
    Calls Tryz.prog 152 #[.slice A n c] w fun e w' => e = .returned (.tuple #[.int .i64 (getS zs).1, .int .i64 (getS zs).2.1, .int .i64 (getS zs).2.2]) ∧ w = w' := by
  have M := measure_ A n c zs w S hx hn hb
  unfold maxLen at hn
  have lx := (show zs.length = n by have := hx.len; rwa [bv_length] at this)
  have h0 := hb 0
  have h1 := hb 1
  have h2 := hb 2
  rcases mea_cases zs hb with (h | h) | ⟨h, hl, ha⟩ | ⟨h, hl, ha, hbb, hb2⟩ | ⟨h, hl, ha, hbb, hcc, hc2⟩
  · have hg : getS zs = (0, 0, 4) := by simp [getS, h]
    rw [h] at M
    rw [hg]
    exact getShort_bad A n c w 4 rfl (Lib.hid M)
  · have hg : getS zs = (0, 0, 5) := by simp [getS, h]
    rw [h] at M
    rw [hg]
    exact getShort_bad A n c w 5 rfl (Lib.hid M)
  · have hg : getS zs = (zs.getD 0 0, 1, 0) := by simp [getS, h]
    rw [h] at M
    rw [hg]
    obtain ⟨a, rfl, _, ca⟩ := hx.byte (k := 0) (by omega)
    exact getShort_1 n c w a _ (Lib.hid M) ca (by omega) hn ⟨h0.1, ha⟩
  · have hg : getS zs = (zs.getD 0 0 - 128 + 128 * zs.getD 1 0, 2, 0) := by simp [getS, h]
    rw [h] at M
    rw [hg]
    obtain ⟨a, rfl, _, ca⟩ := hx.byte (k := 0) (by omega)
    obtain ⟨_, e1, _, cb⟩ := hx.byte (k := 1) (by omega)
    cases e1
    exact getShort_2 n c w a _ _ (Lib.hid M) ca cb (by omega) hn ⟨ha, h0.2⟩ ⟨h1.1, hbb⟩
  · have hg : getS zs = (zs.getD 0 0 - 128 + 128 * (zs.getD 1 0 - 128) + 16384 * zs.getD 2 0, 3, 0) := by simp [getS, h]
    rw [h] at M
    rw [hg]
    obtain ⟨a, rfl, _, ca⟩ := hx.byte (k := 0) (by omega)
    obtain ⟨_, e1, _, cb⟩ := hx.byte (k := 1) (by omega)
    cases e1
    obtain ⟨_, e1, _, cc⟩ := hx.byte (k := 2) (by omega)
    cases e1
    exact getShort_3 n c w a _ _ _ (Lib.hid M) ca cb cc (by omega) hn ⟨ha, h0.2⟩ ⟨hbb, h1.2⟩ ⟨h2.1, hcc⟩
end Go.Proofs.YtdgbodljmdcagaaGreatDoor

/-
  Of part Parse: what is needed here.
-/
namespace Go.Proofs.YtdgbodljmdcagaaGreatDoor
open Go.RowKit
set_option linter.unusedVariables false
set_option maxRecDepth 100000
abbrev PR (α : Type) := Except Int (α × List Int)
def pTake (n : Nat) (zs : List Int) : PR (List Int) := if zs.length < n then .error 5 else .ok (zs.take n, zs.drop n)
def pOctet (zs : List Int) : PR Int := match zs with | [] => .error 5 | z :: r => .ok (z, r)
def pShort (zs : List Int) : PR Nat := if (getS zs).2.2 = 0 then .ok ((getS zs).1.toNat, zs.drop (getS zs).2.1.toNat) else .error (getS zs).2.2
def pMany {α : Type} (one : List Int → PR α) : Nat → List Int → PR (List α)
  | 0, zs => .ok ([], zs)
  | n + 1, zs => match pMany one n zs with
    | .error c => .error c
    | .ok (l, r) => match one r with
      | .error c => .error c
      | .ok (x, r') => .ok (l ++ [x], r')
def pList {α : Type} (one : List Int → PR α) (zs : List Int) : PR (List α) := match pShort zs with
  | .error c => .error c
  | .ok (n, r) => pMany one n r
def pBytes (zs : List Int) : PR (List Int) := pList pOctet zs
def pIn (zs : List Int) : PR LIn := match pOctet zs with
  | .error c => .error c
  | .ok (p, r) => match pBytes r with
    | .error c => .error c
    | .ok (a, r) => match pBytes r with
      | .error c => .error c
      | .ok (d, r) => .ok (⟨p, a, d⟩, r)
def pLook (zs : List Int) : PR LLook := match pTake 32 zs with
  | .error c => .error c
  | .ok (t, r) => match pBytes r with
    | .error c => .error c
    | .ok (a, r) => match pBytes r with
      | .error c => .error c
      | .ok (d, r) => .ok (⟨t, a, d⟩, r)
/-- the version and the first of the header's bytes -/
def pFirst (zs : List Int) : PR (Bool × Int) := match pOctet zs with
  | .error c => .error c
  | .ok (f, r) => if 128 < f then .error 4 else if f = 128 then (match pOctet r with
    | .error c => .error c
    | .ok (s, r) => .ok ((true, s), r)) else .ok ((false, f), r)
def pLooks (v0 : Bool) (zs : List Int) : PR (List LLook) := if v0 then pList pLook zs else .ok ([], zs)
def pMsg (zs : List Int) : PR LMsg := match pFirst zs with
  | .error c => .error c
  | .ok ((v0, s), r) => match pOctet r with
    | .error c => .error c
    | .ok (rs, r) => match pOctet r with
      | .error c => .error c
      | .ok (ro, r) => match pList (pTake 32) r with
        | .error c => .error c
        | .ok (ks, r) => match pTake 32 r with
          | .error c => .error c
          | .ok (h, r) => match pList pIn r with
            | .error c => .error c
            | .ok (is, r) => match pLooks v0 r with
              | .error c => .error c
              | .ok (ls, r) => .ok (⟨v0, s, rs, ro, ks, h, is, ls⟩, r)
theorem AllBytes.drop {zs : List Int} (h : AllBytes zs) (k : Nat) : AllBytes (zs.drop k) := fun z hz => h z (List.mem_of_mem_drop hz)
theorem AllBytes.take {zs : List Int} (h : AllBytes zs) (k : Nat) : AllBytes (zs.take k) := fun z hz => h z (List.mem_of_mem_take hz)
theorem AllBytes.bytes {zs : List Int} (h : AllBytes zs) : Bytes zs := by
  intro i
  rw [List.getD_eq_getElem?_getD]
  by_cases hi : i < zs.length
  · rw [List.getElem?_eq_getElem hi]
    exact h _ (List.getElem_mem hi)
  · rw [List.getElem?_eq_none (by omega)]; simp
/-- what GetShort tells of bytes -/
theorem getS_cases (zs : List Int) (h : AllBytes zs) : ((getS zs = (0, 0, 4) ∨ getS zs = (0, 0, 5)) ∨ ∃ n k : Nat, getS zs = ((n : Int), (k : Int), 0) ∧ n ≤ 65535 ∧ 1 ≤ k ∧ k ≤ zs.length) := by
  have hb := h.bytes
  have h0 := hb 0
  have h1 := hb 1
  have h2 := hb 2
  rcases mea_cases zs hb with (hm | hm) | ⟨hm, hl, ha⟩ | ⟨hm, hl, ha, hc, hd⟩ | ⟨hm, hl, ha, hc, hd, he⟩
  · exact .inl (.inl (by simp [getS, hm]))
  · exact .inl (.inr (by simp [getS, hm]))
  · have e : getS zs = (zs.getD 0 0, 1, 0) := by simp [getS, hm]
    exact .inr ⟨(zs.getD 0 0).toNat, 1, by rw [e, Int.toNat_of_nonneg (by omega)]; rfl, by omega, by omega, hl⟩
  · have e : getS zs = (zs.getD 0 0 - 128 + 128 * zs.getD 1 0, 2, 0) := by simp [getS, hm]
    exact .inr ⟨(zs.getD 0 0 - 128 + 128 * zs.getD 1 0).toNat, 2, by rw [e, Int.toNat_of_nonneg (by omega)]; rfl, by omega, by omega, hl⟩
  · have e : getS zs = (zs.getD 0 0 - 128 + 128 * (zs.getD 1 0 - 128) + 16384 * zs.getD 2 0, 3, 0) := by simp [getS, hm]
    exact .inr ⟨(zs.getD 0 0 - 128 + 128 * (zs.getD 1 0 - 128) + 16384 * zs.getD 2 0).toNat, 3, by rw [e, Int.toNat_of_nonneg (by omega)]; rfl, by omega, by omega, hl⟩
/-- what is left is a part of what was there, from its end -/
def Left (zs r : List Int) : Prop := ∃ k, r = zs.drop k
theorem Left.refl (zs : List Int) : Left zs zs := ⟨0, by simp⟩
theorem Left.trans {a b c : List Int} (h : Left a b) (k : Left b c) : Left a c := by
  obtain ⟨i, rfl⟩ := h
  obtain ⟨j, rfl⟩ := k
  exact ⟨i + j, by simp⟩
theorem Left.bytes {a b : List Int} (h : Left a b) (ha : AllBytes a) : AllBytes b := by
  obtain ⟨i, rfl⟩ := h
  exact ha.drop i
theorem Left.le {a b : List Int} (h : Left a b) : b.length ≤ a.length := by
  obtain ⟨i, rfl⟩ := h
  simp
/-- a way of reading that takes from the front alone -/
def FromFront {α : Type} (one : List Int → PR α) : Prop := ∀ zs x r, one zs = .ok (x, r) → Left zs r
theorem front_octet : FromFront pOctet := by
  intro zs x r h
  match zs, h with
  | z :: r', h => cases h; exact ⟨1, rfl⟩
theorem front_take (n : Nat) : FromFront (pTake n) := by
  intro zs x r h
  unfold pTake at h
  split at h
  · cases h
  · cases h; exact ⟨n, rfl⟩
theorem front_short : FromFront pShort := by
  intro zs x r h
  unfold pShort at h
  split at h
  · cases h; exact ⟨_, rfl⟩
  · cases h
theorem front_many {α : Type} {one : List Int → PR α} (h1 : FromFront one) : ∀ n, FromFront (pMany one n)
  | 0, zs, x, r, h => by cases h; exact Left.refl _
  | n + 1, zs, x, r, h => by
    unfold pMany at h
    split at h
    · cases h
    · rename_i l r1 e1
      split at h
      · cases h
      · rename_i y r2 e2
        cases h
        exact (front_many h1 n zs _ _ e1).trans (h1 _ _ _ e2)
theorem front_list {α : Type} {one : List Int → PR α} (h1 : FromFront one) : FromFront (pList one) := by
  intro zs x r h
  unfold pList at h
  split at h
  · cases h
  · rename_i n r1 e1
    exact (front_short _ _ _ e1).trans (front_many h1 n _ _ _ h)
theorem front_bytes : FromFront pBytes := front_list front_octet
theorem front_in : FromFront pIn := by
  intro zs x r h
  unfold pIn at h
  split at h
  · cases h
  · rename_i e1
    split at h
    · cases h
    · rename_i e2
      split at h
      · cases h
      · rename_i e3
        cases h
        exact ((front_octet _ _ _ e1).trans (front_bytes _ _ _ e2)).trans (front_bytes _ _ _ e3)
theorem front_look : FromFront pLook := by
  intro zs x r h
  unfold pLook at h
  split at h
  · cases h
  · rename_i e1
    split at h
    · cases h
    · rename_i e2
      split at h
      · cases h
      · rename_i e3
        cases h
        exact ((front_take 32 _ _ _ e1).trans (front_bytes _ _ _ e2)).trans (front_bytes _ _ _ e3)
end Go.Proofs.YtdgbodljmdcagaaGreatDoor

/-
  Of part Whole: what is needed here.
-/
namespace Go.Proofs.YtdgbodljmdcagaaGreatDoor
open Go.RowKit
set_option linter.unusedVariables false
set_option maxRecDepth 100000
section
variable {P : Program}
/-- a value of many cells, read from an address -/
theorem run_loadAt_at (w : World) (p : Addr) (ty : TypeId) (cs : List Value) (d : TypeDesc) (hc : ∀ j v, cs[j]? = some v → w.cell? (p.add j) = some v)
    (hu : P.underlying ty = some d) (hd : d.isRow = true) (hi : (P.info? ty).map (·.size) = some cs.length) :
    (Instr.loadAt ty (.pointer (some p))).run P w = .ok (.agg cs.toArray) w := by
  have hl : (loadCells p cs.length).run P w = .ok cs.toArray w := run_loadCells_list (P := P) w p cs hc
  cases hq : P.info? ty with
  | none => simp [hq] at hi
  | some i =>
    have hs : i.size = cs.length := by simpa [hq] using hi
    have hagg : (isAgg ty).run P w = .ok true w := by
      unfold isAgg
      rw [Sem.run_bind, run_underlying hu w]
      cases d <;> simp_all
    simp [Instr.loadAt, Instr.sureAddr, loadVar, Sem.run_bind, hagg, sizeOf, typeInfo, hq, hs, hl]
theorem wpList_load_at {ops : Array Oper} {rest : List Oper} {op : Oper} {a : Act} {w : World} {Q : Exit → Act → World → Prop} (hgd : op.guard = none) (ty : TypeId) (x : Operand) (ho : op.op = .load ty x)
    (p : Addr) (cs : List Value) (d : TypeDesc) (hu : P.underlying ty = some d) (hd : d.isRow = true) (hi : (P.info? ty).map (·.size) = some cs.length) (hc : ∀ j v, cs[j]? = some v → w.cell? (p.add j) = some v)
    (hx : a.eval x = .pointer (some p)) (h : wpList P ops Q rest (a.put op.dst (.agg cs.toArray)) w) : wpList P ops Q (op :: rest) a w :=
  wpList_plain hgd fun _ hK => by
    unfold Oper.wp execOp
    simp only [ho, hx, Sem.run_bind, Sem.run_pure, run_loadAt_at w p ty cs d hc hu hd hi, Result.andThen_ok]
    exact hK _ _ h
/-- the same, the pointer's block a whole row -/
theorem wpList_load_whole {ops : Array Oper} {rest : List Oper} {op : Oper} {a : Act} {w : World} {Q : Exit → Act → World → Prop} (hgd : op.guard = none) (ty : TypeId) (x : Operand) (ho : op.op = .load ty x)
    (g t : Nat) (cs : List Value) (d : TypeDesc) (hu : P.underlying ty = some d) (hd : d.isRow = true) (hi : (P.info? ty).map (·.size) = some cs.length) (hr : Row w g t cs)
    (hx : a.eval x = .pointer (some ⟨g, 0, none⟩)) (h : wpList P ops Q rest (a.put op.dst (.agg cs.toArray)) w) : wpList P ops Q (op :: rest) a w :=
  wpList_load_at hgd ty x ho ⟨g, 0, none⟩ cs d hu hd hi (fun j v hv => by rw [addr_row, hr.cell]; simpa using hv) hx h
/-- a value of many cells into a block that is known whole: the world behind it, of which this is told -/
theorem run_storeAt_whole (w : World) (g ty : Nat) (c cs : List Value) (hr : Row w g ty c) (hi : (P.info? ty).map (·.size) = some cs.length) (hl : c.length = cs.length) (h1 : ∀ u ∈ cs, u.oneCell' = true) :
    (Instr.storeAt ty (.pointer (some ⟨g, 0, none⟩)) (.agg cs.toArray)).run P w = .ok () (w.setRow g cs.toArray) := by
  have := run_storeVar_row (P := P) w g ty ty c.toArray cs.toArray hr.is (by simpa using hi) (by simpa using hl) (all_oneCell_toArray h1)
  simp only [Instr.storeAt, Instr.sureAddr, Sem.run_bind, Sem.run_pure, Result.andThen_ok, this]
/-- but for block g, w' is w -/
structure Turned (w w' : World) (g : Nat) : Prop where
  os : w'.os = w.os
  tape : w'.tape = w.tape
  output : w'.output = w.output
  size : w'.heap.size = w.heap.size
  block : ∀ k, k ≠ g → w'.heap[k]? = w.heap[k]?
theorem turned_setRow (w : World) (g : Nat) (cs : Array Value) : Turned w (w.setRow g cs) g :=
  ⟨rfl, rfl, rfl, by simp, fun k hk => setRow_other w g k cs hk⟩
theorem turned_setCell (w : World) (p : Addr) (u : Value) : Turned w (w.setCell p u) p.block :=
  ⟨rfl, rfl, rfl, by simp [World.setCell], fun k hk => Below.heap_setCell _ _ _ _ hk⟩
theorem row_setRow {w : World} {g t : Nat} {c : List Value} (hr : Row w g t c) (cs : List Value) : Row (w.setRow g cs.toArray) g t cs :=
  ⟨setRow_heap w g c.toArray cs.toArray t _ hr.is⟩
theorem Turned.below {w w' : World} {g B : Nat} (h : Turned w w' g) (hB : B ≤ g) : Below B w w' :=
  ⟨h.os, h.tape, h.output, by rw [h.size]; exact Nat.le_refl _, fun k hk => h.block k (by omega)⟩
theorem Turned.row {w w' : World} {g k t : Nat} {xs : List Value} (h : Turned w w' g) (hr : Row w k t xs) (hk : k ≠ g) : Row w' k t xs := ⟨(h.block k hk).trans hr.is⟩
theorem wpList_store_whole {ops : Array Oper} {rest : List Oper} {op : Oper} {a : Act} {w : World} {Q : Exit → Act → World → Prop} (hgd : op.guard = none) (ty : TypeId) (x y : Operand) (ho : op.op = .store ty x y)
    (g : Nat) (c cs : List Value) (hr : Row w g ty c) (hi : (P.info? ty).map (·.size) = some cs.length) (hl : c.length = cs.length) (h1 : ∀ u ∈ cs, u.oneCell' = true)
    (hx : a.eval x = .pointer (some ⟨g, 0, none⟩)) (hy : a.eval y = .agg cs.toArray)
    (h : ∀ w', Row w' g ty cs → Turned w w' g → wpList P ops Q rest (a.put op.dst undef) w') : wpList P ops Q (op :: rest) a w :=
  wpList_plain hgd fun _ hK => by
    unfold Oper.wp execOp
    simp only [ho, hx, hy, Sem.run_bind, Sem.run_pure, run_storeAt_whole w g ty c cs hr hi hl h1, Result.andThen_ok]
    exact hK _ _ (h _ (row_setRow hr cs) (turned_setRow w g _))
/-- a variable that has just been made is given its value -/
theorem wpList_store_new {ops : Array Oper} {rest : List Oper} {op : Oper} {a : Act} {w0 : World} {c : Array Value} {Q : Exit → Act → World → Prop} (hgd : op.guard = none) (ty : TypeId) (x y : Operand) (ho : op.op = .store ty x y)
    (cs : List Value) (hi : (P.info? ty).map (·.size) = some cs.length) (h1 : ∀ u ∈ cs, u.oneCell' = true) (hl : c.size = cs.length)
    (hx : a.eval x = .pointer (some ⟨w0.heap.size, 0, none⟩)) (hy : a.eval y = .agg cs.toArray)
    (h : ∀ w', Row w' w0.heap.size ty cs → Below w0.heap.size w0 w' → w'.heap.size = w0.heap.size + 1 → wpList P ops Q rest (a.put op.dst undef) w') : wpList P ops Q (op :: rest) a (w0.alloc (.cells c ty)) := by
  have hr : Row (w0.alloc (.cells c ty)) w0.heap.size ty c.toList := by
    have := Row.new w0 ty c.toList
    simpa using this
  refine wpList_store_whole hgd ty x y ho w0.heap.size c.toList cs hr hi (by simpa using hl) h1 hx hy fun w' hr' ht => ?_
  exact h w' hr' (((Below.refl _ w0).alloc (Nat.le_refl _) _).trans (ht.below (Nat.le_refl _))) (by rw [ht.size]; simp)
theorem row_setCells {g t : Nat} : ∀ (cs : List Value) (w : World) (o : Nat) (c : List Value), Row w g t c → o + cs.length ≤ c.length → Row (w.setCells g o cs) g t (c.take o ++ cs ++ c.drop (o + cs.length))
  | [], w, o, c, h, _ => by simpa [World.setCells] using h
  | v :: r, w, o, c, h, hl => by
    have h1 := row_setCells r (w.setCell ⟨g, o, none⟩ v) (o + 1) (c.set o v) (h.set_ o v) (by simp at hl ⊢; omega)
    have e : (c.set o v).take (o + 1) ++ r ++ (c.set o v).drop (o + 1 + r.length) = c.take o ++ (v :: r) ++ c.drop (o + (v :: r).length) := by
      have ho : o < c.length := by simp at hl; omega
      rw [List.take_succ_eq_append_getElem (by simpa using ho), List.drop_set_of_lt (by omega), List.take_set_of_le (Nat.le_refl o)]
      simp only [List.getElem_set_self, List.append_assoc, List.cons_append, List.nil_append, List.length_cons]
      rw [show o + 1 + r.length = o + (r.length + 1) by omega]
    rw [e] at h1
    exact h1
theorem turned_setCells {g : Nat} : ∀ (cs : List Value) (w : World) (o : Nat), Turned w (w.setCells g o cs) g
  | [], w, o => ⟨rfl, rfl, rfl, rfl, fun _ _ => rfl⟩
  | v :: r, w, o => by
    have h1 := turned_setCell w ⟨g, o, none⟩ v
    have h2 := turned_setCells (g := g) r (w.setCell ⟨g, o, none⟩ v) (o + 1)
    exact ⟨h2.os.trans h1.os, h2.tape.trans h1.tape, h2.output.trans h1.output, h2.size.trans h1.size, fun k hk => (h2.block k hk).trans (h1.block k hk)⟩
/-- a value of many cells into a part of a block -/
theorem wpList_store_part {ops : Array Oper} {rest : List Oper} {op : Oper} {a : Act} {w : World} {Q : Exit → Act → World → Prop} (hgd : op.guard = none) (ty : TypeId) (x y : Operand) (ho : op.op = .store ty x y)
    (g t o : Nat) (c cs : List Value) (hr : Row w g t c) (hi : (P.info? ty).map (·.size) = some cs.length) (hl : o + cs.length ≤ c.length) (h1 : ∀ u ∈ cs, u.oneCell' = true)
    (hx : a.eval x = .pointer (some ⟨g, o, none⟩)) (hy : a.eval y = .agg cs.toArray)
    (h : ∀ w', Row w' g t (c.take o ++ cs ++ c.drop (o + cs.length)) → Turned w w' g → wpList P ops Q rest (a.put op.dst undef) w') : wpList P ops Q (op :: rest) a w :=
  wpList_store_mid hgd ty x y ho g o cs.toArray hx hy (fun j hj => ⟨by
      have hj' : j < cs.length := by simpa using hj
      rw [hr.cell, List.getElem?_eq_getElem (by omega)]; rfl, hr.frozen _⟩) (by simpa using hi) (all_oneCell_toArray h1)
    (h _ (by simpa using row_setCells cs w o c hr hl) (turned_setCells cs w o))
end
end Go.Proofs.YtdgbodljmdcagaaGreatDoor

/-
  Of part Many: what is needed here.
-/
namespace Go.Proofs.YtdgbodljmdcagaaGreatDoor
open Go.RowKit
set_option linter.unusedVariables false
set_option maxRecDepth 100000
/-- 'v' is a row of bytes of the call's own, from block 'base' on -/
def OwnB (w : World) (base : Nat) (v : Value) (xs : List Int) : Prop := w.ownsRow base 5 1 v xs.length (bv xs)
theorem own_below {w w' : World} {base n size : Nat} {e : TypeId} {v : Value} {xs : List Value} (h : w.ownsRow base e size v n xs) (hb : Below w.heap.size w w') : w'.ownsRow base e size v n xs := by
  refine ⟨h.1, ?_⟩
  rcases h.2 with h2 | ⟨g, cap, cur, hv, hg, hh, r⟩
  · exact .inl h2
  · exact .inr ⟨g, cap, cur, hv, hg, (hb.block g (Array.getElem?_eq_some_iff.1 hh).1).trans hh, r⟩
theorem OwnB.below {w w' : World} {base : Nat} {v : Value} {xs : List Int} (h : OwnB w base v xs) (hb : Below w.heap.size w w') : OwnB w' base v xs := own_below h hb
theorem OwnB.alloc {w : World} {base : Nat} {v : Value} {xs : List Int} (h : OwnB w base v xs) (o : Obj) : OwnB (w.alloc o) base v xs := World.ownsRow.alloc h o
theorem OwnB.nil (w : World) (base : Nat) : OwnB w base (.slice none 0 0) [] := World.ownsRow_nil w base _ _
theorem OwnB.drewN {w : World} {base : Nat} {v : Value} {xs : List Int} (h : OwnB w base v xs) (k : Nat) : OwnB (w.drewN k) base v xs := h
theorem OwnB.form {w : World} {base : Nat} {v : Value} {xs : List Int} (h : OwnB w base v xs) : ∃ A c, v = .slice A xs.length c := own_form h
theorem OwnB.sees {w : World} {base : Nat} {A : Option Addr} {n c : Nat} {xs : List Int} (h : OwnB w base (.slice A n c) xs) : Sees w w.heap.size A n (bv xs) := by
  obtain ⟨A', c', e⟩ := h.form
  cases e
  exact Sees.of_own h
/-- from w, with the row v, to w', with the row v': of what was there v's block alone may have been written -/
structure Grew (w w' : World) (v v' : Value) : Prop where
  grown : w.grownBy w' v.ownBlock
  fresh : ∀ k, v'.ownBlock = some k → v.ownBlock = some k ∨ w.heap.size ≤ k
section
variable {w w' w'' : World} {v v' v'' : Value}
theorem Grew.refl (w : World) (v : Value) : Grew w w v v := ⟨World.grownBy.refl w _, fun k h => .inl h⟩
theorem Grew.size (h : Grew w w' v v') : w.heap.size ≤ w'.heap.size := h.grown.size
theorem Grew.trans (h : Grew w w' v v') (k : Grew w' w'' v' v'') : Grew w w'' v v'' :=
  ⟨⟨k.grown.os.trans h.grown.os, k.grown.tape.trans h.grown.tape, k.grown.output.trans h.grown.output, Nat.le_trans h.size k.size, fun i hi hne =>
      (k.grown.block i (Nat.lt_of_lt_of_le hi h.size) fun e => by
        rcases h.fresh i e.symm with h1 | h1
        · exact hne h1.symm
        · omega).trans (h.grown.block i hi hne)⟩,
    fun i hi => by
      rcases k.fresh i hi with h1 | h1
      · exact h.fresh i h1
      · exact .inr (Nat.le_trans h.size h1)⟩
theorem Grew.of_below (hb : Below w.heap.size w w') (v : Value) : Grew w w' v v := ⟨⟨hb.os, hb.tape, hb.output, hb.size, fun k hk _ => hb.block k hk⟩, fun k h => .inl h⟩
theorem Grew.alloc (h : Grew w w' v v') (o : Obj) : Grew w (w'.alloc o) v v' := h.trans (.of_below ((Below.refl _ _).alloc (Nat.le_refl _) o) v')
theorem Grew.row {g t : Nat} {ys : List Value} (h : Grew w w' v v') (hr : Row w g t ys) (hg : some g ≠ v.ownBlock) : Row w' g t ys := hr.grown h.grown hg
theorem Grew.ne {g : Nat} (h : Grew w w' v v') (hg : some g ≠ v.ownBlock) (hlt : g < w.heap.size) : some g ≠ v'.ownBlock := fun e => by
  rcases h.fresh g e.symm with h1 | h1
  · exact hg h1.symm
  · omega
theorem Grew.below {base n size : Nat} {e : TypeId} {xs : List Value} (h : Grew w w' v v') (hown : w.ownsRow base e size v n xs) (hbase : base ≤ w.heap.size) : Below base w w' :=
  (Below.refl base w).grown h.grown hbase fun k hk => (hown.lt k hk).1
theorem Grew.belowB {base : Nat} {xs : List Int} (h : Grew w w' v v') (hown : OwnB w base v xs) (hbase : base ≤ w.heap.size) : Below base w w' :=
  (Below.refl base w).grown h.grown hbase fun k hk => (World.ownsRow.lt hown k hk).1
theorem own_ne_new {base n size : Nat} {e : TypeId} {xs : List Value} (hown : w.ownsRow base e size v n xs) {g : Nat} (hg : w.heap.size ≤ g) : some g ≠ v.ownBlock := fun e' => by
  have := (hown.lt g e'.symm).2
  omega
end
/-- what an appender leaves -/
def Adds (w : World) (base : Nat) (v : Value) (ys : List Int) (e : Ending) (w' : World) : Prop :=
  ∃ v', e = .returned v' ∧ OwnB w' base v' ys ∧ Grew w w' v v'
/-- append of what is seen, onto a row of one's own: the walk's arm -/
theorem wpList_addB {P : Program} {w : World} {ops : Array Oper} {rest : List Oper} {o : Oper} {a : Act} {Q : Exit → Act → World → Prop} (hgd : o.guard = none) (s x : Operand) (t : TypeId)
    (ho : o.op = .call { callee := .builtin .append, args := #[s, x], argTypes := #[t, t] })
    (base : Nat) (ht : P.underlying t = some (.slice 5)) (hi : (P.info? 5).map (fun i => (i.zero, i.size, i.bytes)) = some (some (.int .u8 0), 1, 1))
    (v : Value) (xs : List Int) (hs : a.eval s = v) (hown : OwnB w base v xs) (B : Nat) (A : Option Addr) (m c : Nat) (news : List Int) (hx : a.eval x = .slice A m c) (hr : Sees w B A m (bv news))
    (hbase : base ≤ w.heap.size) (hnm : (xs ++ news).length ≤ 1099511627776)
    (h : ∀ v' w', OwnB w' base v' (xs ++ news) → Grew w w' v v' → wpList P ops Q rest (a.put o.dst v') w') : wpList P ops Q (o :: rest) a w := by
  obtain ⟨i0, hi, hz0, hz1, hz2⟩ := info_parts hi
  have hm : news.length = m := by have := hr.len; rwa [bv_length] at this
  subst hm
  have hl : xs.length + news.length ≤ 1099511627776 := by simpa using hnm
  refine wpList_append_sees hgd s x t ho base 5 i0 _ 1 ht hi hz0 hz1 hz2 rfl v xs.length (bv xs) hs hown B A _ c (bv news) hx hr (bv_one news) (by unfold maxLen; omega) (by omega) hbase ?_
  intro v' w' ho' hg hat
  refine h v' w' ?_ ⟨hg, fun k hk => ?_⟩
  · have := ho'
    unfold OwnB
    rw [bv_append]
    simpa using this
  · rcases hat with hat | hat
    · exact .inl (hat ▸ hk)
    · rw [hat] at hk
      cases hk
      exact .inr (Nat.le_refl _)
/-- append of a literal that has just been laid -/
theorem wpList_addLit {P : Program} {w0 : World} {c : Array Value} {ops : Array Oper} {rest : List Oper} {o : Oper} {a : Act} {Q : Exit → Act → World → Prop} (hgd : o.guard = none) (s x : Operand) (t : TypeId)
    (ho : o.op = .call { callee := .builtin .append, args := #[s, x], argTypes := #[t, t] })
    (base : Nat) (ht : P.underlying t = some (.slice 5)) (hi : (P.info? 5).map (fun i => (i.zero, i.size, i.bytes)) = some (some (.int .u8 0), 1, 1))
    (v : Value) (xs news : List Int) (cc : Nat) (hc : c = (bv news).toArray) (hs : a.eval s = v) (hown : OwnB w0 base v xs) (hx : a.eval x = .slice (some ⟨w0.heap.size, 0, none⟩) news.length cc)
    (hbase : base ≤ w0.heap.size) (hnm : (xs ++ news).length ≤ 1099511627776)
    (h : ∀ v' w', OwnB w' base v' (xs ++ news) → Grew w0 w' v v' → wpList P ops Q rest (a.put o.dst v') w') : wpList P ops Q (o :: rest) a (w0.alloc (.cells c 5)) := by
  subst hc
  have hr := (Row.new w0 5 (bv news)).sees0
  rw [bv_length] at hr
  refine wpList_addB hgd s x t ho base ht hi v xs hs (hown.alloc _) _ _ _ cc news hx hr (by simp; omega) hnm ?_
  intro v' w' ho' hg'
  exact h v' w' ho' ((Grew.of_below ((Below.refl _ w0).alloc (Nat.le_refl _) _) v).trans hg')
theorem short_len3 (x : Int) : (short x).length ≤ 3 := by rw [short_len]; (repeat' split) <;> omega
set_option maxHeartbeats 400000 in
theorem putMany_ (base : Nat) (v : Value) (xs : List Int) (x : Nat) (w : World) (hown : OwnB w base v xs) (hbase : base ≤ w.heap.size) (hx : x ≤ 65535) (hn : xs.length ≤ 1099511620000) :
    Calls Tryz.prog 103 #[v, .int .i64 x] w (Adds w base v (xs ++ short x)) := by
  have HP := Lib.hid (putShort none 0 0 [] w 0 x (Sees.nil _ _ _) (by omega) (by omega) (by omega) (by omega))
  have HO := Lib.hid hown
  clear hown
  go_enter Tryz.func103, Tryz.ntmps103
  go_wp2_with fail
  refine HP.out.mono ?_
  rintro e w1 ⟨g, rfl, hg, hr, hb1⟩
  have hown1 := HO.out.below hb1
  have hs1 : Sees w1 w1.heap.size (some ⟨g, 0, none⟩) (short x).length (bv (short x)) := by
    have := hr.sees0
    simpa [bv_length] using this
  have hz1 := hb1.size
  have hl := short_len3 x
  clear hr
  go_wp2_with (at_builtin; go_must (refine wpList_addB rfl (.tmp 12) (.tmp 13) 22 rfl base Tryz.underlying22 info_u8 v xs rfl hown1 _ _ _ _ (short x) (by first | rfl | (simp; done)) hs1 (by omega) (by simp; omega) ?_); intro v2 w2 ho2 hb2)
  go_ret
  exact ⟨v2, rfl, ho2, (Grew.of_below hb1 v).trans hb2⟩
set_option maxHeartbeats 400000 in
theorem putBytes_ (base B : Nat) (v u : Value) (xs l : List Int) (w : World) (hown : OwnB w base v xs) (hbase : base ≤ w.heap.size) (hu : BytesIn w B u l) (hB : B ≤ base) (hx : l.length ≤ 65535) (hn : xs.length ≤ 1099511500000) :
    Calls Tryz.prog 104 #[v, u] w (Adds w base v (xs ++ encL l)) := by
  obtain ⟨A, c, rfl, hs, _, _⟩ := hu.is
  have HP := Lib.hid (putMany_ base v xs l.length w hown hbase hx (by omega))
  have HO := Lib.hid hown
  clear hown hu
  go_enter Tryz.func104, Tryz.ntmps104
  go_wp2_with fail
  refine HP.out.mono ?_
  rintro e w1 ⟨v1, rfl, hown1, hb1⟩
  have hz1 := hb1.size
  have hs1 := hs.below ((hb1.below HO.out hbase).mono hB)
  have hl := short_len3 l.length
  go_wp2_with (at_builtin; go_must (refine wpList_addB rfl (.tmp 8) (.tmp 9) 22 rfl base Tryz.underlying22 info_u8 v1 _ rfl hown1 _ _ _ _ l rfl hs1 (by omega) (by simp; omega) ?_); intro v2 w2 ho2 hb2)
  go_ret
  refine ⟨v2, rfl, ?_, hb1.trans hb2⟩
  rw [encL, ← List.append_assoc]
  exact ho2
set_option maxHeartbeats 400000 in
theorem clip_ (A : Option Addr) (n c : Nat) (w : World) (hnc : n ≤ c) (hc : c ≤ maxLen) :
    Calls Tryz.prog 106 #[.slice A n c] w fun e w' => e = .returned (.slice A n n) ∧ w = w' := by
  unfold maxLen at hc
  go_enter Tryz.func106, Tryz.ntmps106
  go_wp2
  go_ret
  exact ⟨rfl, rfl⟩
end Go.Proofs.YtdgbodljmdcagaaGreatDoor

/-
  Of part Looks: what is needed here.
-/
namespace Go.Proofs.YtdgbodljmdcagaaGreatDoor
open Go.RowKit
set_option linter.unusedVariables false
set_option maxRecDepth 100000
theorem look_cells {w : World} {g t : Nat} {tab : List Int} {va vd : Value} (hr : Row w g t (bv tab ++ [va, vd])) (ht : tab.length = 32) : w.cell? ⟨g, 32, none⟩ = some va ∧ w.cell? ⟨g, 33, none⟩ = some vd :=
  ⟨by rw [hr.cell, List.getElem?_append_right (by rw [bv_length, ht]; exact Nat.le_refl _), bv_length, ht]; rfl, by rw [hr.cell, List.getElem?_append_right (by rw [bv_length, ht]; omega), bv_length, ht]; rfl⟩
theorem size_look : (Tryz.prog.info? 124).map (·.size) = some 34 := by kernel_rfl
set_option maxRecDepth 100000 in
set_option maxHeartbeats 800000 in
theorem putLookups_ (base B : Nat) (v : Value) (A : Option Addr) (n c : Nat) (xs : List Int) (l : List LLook) (w : World) (hown : OwnB w base v xs) (hbase : base ≤ w.heap.size) (hl : LooksIn w B A n l) (hB : B ≤ base)
    (hf : n ≤ 65535 ∧ ∀ x ∈ l, x.wr.length ≤ 65535 ∧ x.rd.length ≤ 65535) (hn : (xs ++ (short l.length ++ l.flatMap encLook)).length ≤ 1000000000) :
    Calls Tryz.prog 105 #[v, .slice A n c] w (Adds w base v (xs ++ (short l.length ++ l.flatMap encLook))) := by
  have L0 := Lib.hid hl.len
  have HL := Lib.hid hl
  have HP := Lib.hid (putMany_ base v xs n w hown hbase hf.1 (by simp at hn; omega))
  have HO := Lib.hid hown
  have HN := Lib.hid hn
  have HF := Lib.hid hf.2
  have hnn := hf.1
  clear hown hl hn hf
  go_enter Tryz.func105, Tryz.ntmps105
  go_wp2_with fail
  refine HP.out.mono ?_
  rintro e w1 ⟨v1, rfl, hown1, hg1⟩
  have HO1 := Lib.hid hown1
  have HG1 := Lib.hid hg1
  clear hown1 hg1
  go_wp2_with fail
  go_loopw [0, 13] (fun v i wr => ∃ k : Nat, k ≤ n ∧ i = .int .i64 k ∧ OwnB wr base v (xs ++ (short l.length ++ (l.take k).flatMap encLook)) ∧ Grew w1 wr v1 v) (fun v i _ => n - (intOf i).toNat)
  case atStart =>
    refine ⟨0, Nat.zero_le _, rfl, ?_, Grew.refl _ _⟩
    have := HO1.out
    simpa [L0.out] using this
  case round =>
    obtain ⟨k, hk, rfl, ho, hg⟩ := hrel
    by_cases hlt : k < n
    · obtain ⟨x, hx⟩ : ∃ x, l[k]? = some x := ⟨_, List.getElem?_eq_getElem (by have := L0.out; omega)⟩
      obtain ⟨a, va, vd, rfl, hab, hcs, ht, hva, hvd⟩ := HL.out.at_ k x hx
      have hb1 : Below base w wr := (HG1.out.below HO.out hbase).trans (hg.below HO1.out (Nat.le_trans hbase HG1.out.size))
      have hk1 : ∀ p : Addr, p.block < B → wr.cell? p = w.cell? p := fun p hp => hb1.cell (by omega)
      have hsz : (Tryz.prog.info? 124).map (·.size) = some (bv x.tab ++ [va, vd]).length := by rw [size_look]; simp [bv_length, ht]
      have hone : ∀ u ∈ bv x.tab ++ [va, vd], u.oneCell' = true := fun u hu => by
        simp only [List.mem_append, List.mem_cons, List.not_mem_nil, or_false] at hu
        rcases hu with hu | rfl | rfl
        · exact bv_one _ _ hu
        · obtain ⟨_, _, rfl, _⟩ := hva.is; rfl
        · obtain ⟨_, _, rfl, _⟩ := hvd.is; rfl
      have HCW := Lib.hid (fun j u (hu : (bv x.tab ++ [va, vd])[j]? = some u) => show wr.cell? ((a.add (k * 34)).add j) = some u by rw [addr_add, hk1 _ (by rw [addr_block]; exact hab)]; exact hcs j u hu)
      have HK := Lib.hid hk1
      have HC := Lib.hid hcs
      have HB1 := Lib.hid hb1
      have HVA := Lib.hid hva
      have HVD := Lib.hid hvd
      have HOR := Lib.hid ho
      have HGR := Lib.hid hg
      clear hk1 hcs hb1 hva hvd ho hg
      have HSZ := Lib.hid hsz
      have HON := Lib.hid hone
      clear hsz hone
      have hlen : (xs ++ (short l.length ++ (l.take k).flatMap encLook)).length + (encLook x).length ≤ 1000000000 := by
        have h1 := flatMap_take_len encLook l (k + 1)
        rw [flatMap_take_succ encLook hx] at h1
        have := HN.out
        simp only [List.length_append] at this h1 ⊢
        omega
      generalize hys : xs ++ (short l.length ++ (l.take k).flatMap encLook) = ys at *
      have hel : (encLook x).length = 32 + ((encL x.wr).length + (encL x.rd).length) := by simp [encLook, ht]
      have hf := HF.out x (List.mem_of_getElem? hx)
      have hbwr : base ≤ wr.heap.size := Nat.le_trans (Nat.le_trans hbase HG1.out.size) HGR.out.size
      have HYS := Lib.hid hys
      have HLEN := Lib.hid hlen
      have HEL := Lib.hid hel
      have HX := Lib.hid hx
      clear hys hlen hel hx
      go_wp2_with (first
        | (with_reducible show wpList _ _ _ ({ dst := some 16, op := Op.load _ _, type := _, pos := _, after := _, guard := _ } :: _) _ _; go_must (refine wpList_load_at rfl 124 (.tmp 15) rfl (a.add (k * 34)) (bv x.tab ++ [va, vd]) _ Tryz.underlying124 rfl HSZ.out HCW.out ?_ ?_; go_simp))
        | (with_reducible show wpList _ _ _ ({ dst := none, op := Op.store 124 _ _, type := _, pos := _, after := _, guard := _ } :: _) _ _; go_must (refine wpList_store_new rfl 124 (.tmp 6) (.tmp 16) rfl (bv x.tab ++ [va, vd]) HSZ.out HON.out (by simp [bv_length, ht]) ?_ ?_ ?_; go_simp; go_simp; intro w2 hr2 hb2 hz2; have ho2 := HOR.out.below hb2; have hs2 : Sees w2 w2.heap.size (some ⟨wr.heap.size, 0, none⟩) 32 (bv x.tab) := ⟨by rw [bv_length, ht], fun i u hu => ⟨_, rfl, hr2.lt, by rw [addr_row, hr2.cell, Nat.zero_add, List.getElem?_append_left (List.getElem?_eq_some_iff.1 hu).1]; exact hu⟩⟩; have HR2 := Lib.hid hr2; clear hr2))
        | (at_builtin; go_must (refine wpList_addB rfl (.tmp 17) (.tmp 19) 22 rfl base Tryz.underlying22 info_u8 u0 ys ?_ ho2 _ _ 32 32 x.tab ?_ hs2 (by omega) ?_ ?_; go_simp; go_simp; (have := HLEN.out; have := HEL.out; simp only [List.length_append]; omega); intro v3 w3 ho3 hg3; have hr3 := hg3.row HR2.out (own_ne_new HOR.out (Nat.le_refl _)); have c32 := (look_cells hr3 ht).1; have HR3 := Lib.hid hr3; have HG3 := Lib.hid hg3; have HO3 := Lib.hid ho3; clear hr3 hg3 ho3)))
      have hz3 := HG3.out.size
      have hne3 := HG3.out.ne (own_ne_new (base := base) HOR.out (Nat.le_refl _)) HR2.out.lt
      have hb3 : Below base w w3 := (HB1.out.trans (hb2.mono hbwr)).trans (HG3.out.below ho2 (by omega))
      have hlen1 := HLEN.out
      have hel1 := HEL.out
      have hva3 : BytesIn w3 B va x.wr := HVA.out.below (hb3.mono hB)
      have hvd3 : BytesIn w3 B vd x.rd := HVD.out.below (hb3.mono hB)
      have HP4 := Lib.hid (putBytes_ base B v3 va (ys ++ x.tab) x.wr w3 HO3.out (by omega) hva3 hB hf.1 (by simp only [List.length_append]; omega))
      have HVD3 := Lib.hid hvd3
      have HB3 := Lib.hid hb3
      clear hb3 hva3 hvd3
      clear hlen1 hel1
      refine HP4.out.mono ?_
      rintro e w4 ⟨v4, rfl, ho4, hg4⟩
      have hr4 := hg4.row HR3.out hne3
      have c33 := (look_cells hr4 ht).2
      have hz4 := hg4.size
      have hb4 : Below base w3 w4 := hg4.below HO3.out (by omega)
      have HVD4 := Lib.hid (HVD3.out.below (hb4.mono hB))
      have HO4 := Lib.hid ho4
      have HG4 := Lib.hid hg4
      clear hr4 hb4 ho4 hg4
      go_wp2_with fail
      have hlen1 := HLEN.out
      have hel1 := HEL.out
      refine (putBytes_ base B v4 vd _ x.rd w4 HO4.out (by omega) HVD4.out hB hf.2 (by simp only [List.length_append]; omega)).mono ?_
      rintro e w5 ⟨v5, rfl, ho5, hg5⟩
      have hg25 : Grew wr w5 u0 v5 := (((Grew.of_below hb2 u0).trans HG3.out).trans HG4.out).trans hg5
      have HO5 := Lib.hid ho5
      have HG5 := Lib.hid (HGR.out.trans hg25)
      clear ho5 hg5 hg25 hlen1 hel1
      go_wp2_with fail
      go_roundw
      case rel =>
        refine ⟨k + 1, by omega, by go_num, ?_, HG5.out⟩
        have := HO5.out
        rw [flatMap_take_succ encLook HX.out]
        rw [← HYS.out] at this
        simpa [encLook, List.append_assoc] using this
      case measure => simp [intOf]; omega
    · have HK2 := Lib.hid (show k = n by omega)
      have HOR := Lib.hid ho
      have HGR := Lib.hid hg
      clear ho hg
      go_wp2_with fail
      go_ret
      refine ⟨_, rfl, ?_, HG1.out.trans HGR.out⟩
      have := HOR.out
      rwa [HK2.out, List.take_of_length_le (by rw [L0.out]; exact Nat.le_refl _)] at this
/-- what the block of a message holds -/
structure MsgRow (w : World) (g : Nat) (q : Raw) (m : LMsg) : Prop where
  c0 : w.cell? ⟨g, 0, none⟩ = some (.bool m.v0)
  c1 : w.cell? ⟨g, 1, none⟩ = some (.int .u8 m.s)
  c2 : w.cell? ⟨g, 2, none⟩ = some (.int .u8 m.r)
  c3 : w.cell? ⟨g, 3, none⟩ = some (.int .u8 m.o)
  c4 : w.cell? ⟨g, 4, none⟩ = some (.slice q.KA q.kn q.kc)
  c37 : w.cell? ⟨g, 37, none⟩ = some (.slice q.IA q.n q.ic)
  c38 : w.cell? ⟨g, 38, none⟩ = some (.slice q.LA q.ln q.lc)
theorem MsgRow.of {w : World} {g t : Nat} {q : Raw} {m : LMsg} (hr : Row w g t (q.cells m)) (h : m.recent.length = 32) : MsgRow w g q m :=
  ⟨(hr.cell 0).trans cells_0, (hr.cell 1).trans cells_1, (hr.cell 2).trans cells_2, (hr.cell 3).trans cells_3, (hr.cell 4).trans cells_4, (hr.cell 37).trans (cells_37 h), (hr.cell 38).trans (cells_38 h)⟩
theorem size_msg : (Tryz.prog.info? 40).map (·.size) = some 39 := by kernel_rfl
theorem size_instr : (Tryz.prog.info? 131).map (·.size) = some 3 := by kernel_rfl
theorem size_key : (Tryz.prog.info? 78).map (·.size) = some 32 := by kernel_rfl
theorem size_hash : (Tryz.prog.info? 36).map (·.size) = some 32 := by kernel_rfl
/-- an instruction's cells -/
def inCells (p : Int) (va vd : Value) : List Value := [.int .u8 p, va, vd]
theorem inCells_one {p : Int} {va vd : Value} {w w' : World} {B B' : Nat} {l l' : List Int} (ha : BytesIn w B va l) (hd : BytesIn w' B' vd l') : ∀ u ∈ inCells p va vd, u.oneCell' = true := by
  obtain ⟨_, _, rfl, _⟩ := ha.is
  obtain ⟨_, _, rfl, _⟩ := hd.is
  intro u hu
  simp only [inCells, List.mem_cons, List.not_mem_nil, or_false] at hu
  rcases hu with rfl | rfl | rfl <;> rfl
theorem lookCells_one {tab : List Int} {va vd : Value} {w w' : World} {B B' : Nat} {l l' : List Int} (ha : BytesIn w B va l) (hd : BytesIn w' B' vd l') : ∀ u ∈ bv tab ++ [va, vd], u.oneCell' = true := by
  obtain ⟨_, _, rfl, _⟩ := ha.is
  obtain ⟨_, _, rfl, _⟩ := hd.is
  intro u hu
  simp only [List.mem_append, List.mem_cons, List.not_mem_nil, or_false] at hu
  rcases hu with hu | rfl | rfl
  · exact bv_one _ _ hu
  all_goals rfl
theorem size_in (p : Int) (va vd : Value) : (Tryz.prog.info? 131).map (·.size) = some (inCells p va vd).length := size_instr
theorem size_lk {tab : List Int} (ht : tab.length = 32) (va vd : Value) : (Tryz.prog.info? 124).map (·.size) = some (bv tab ++ [va, vd]).length := by rw [size_look]; simp [bv_length, ht]
theorem in_cells {w : World} {g t : Nat} {p : Int} {va vd : Value} (hr : Row w g t (inCells p va vd)) : w.cell? ⟨g, 0, none⟩ = some (.int .u8 p) ∧ w.cell? ⟨g, 1, none⟩ = some va ∧ w.cell? ⟨g, 2, none⟩ = some vd :=
  ⟨hr.cell 0, hr.cell 1, hr.cell 2⟩
/-- the k-th instruction, in a world that is as it was below B -/
structure InAt (w : World) (B : Nat) (a : Addr) (k : Nat) (x : LIn) (va vd : Value) : Prop where
  cells : ∀ j u, (inCells x.p va vd)[j]? = some u → w.cell? ((a.add (k * 3)).add j) = some u
  acc : BytesIn w B va x.acc
  dat : BytesIn w B vd x.dat
theorem InsIn.get {w : World} {B n : Nat} {A : Option Addr} {l : List LIn} (h : InsIn w B A n l) {k : Nat} (hk : k < n) : ∃ a x va vd, A = some a ∧ a.block < B ∧ l[k]? = some x ∧ InAt w B a k x va vd := by
  obtain ⟨x, hx⟩ : ∃ x, l[k]? = some x := ⟨_, List.getElem?_eq_getElem (by rw [h.len]; exact hk)⟩
  obtain ⟨a, va, vd, rfl, hb, h1, h2, h3, h4, h5⟩ := h.at_ k x hx
  refine ⟨a, x, va, vd, rfl, hb, hx, fun j u hu => ?_, h4, h5⟩
  rw [addr_add]
  match j, hu with
  | 0, hu => cases hu; exact h1
  | 1, hu => cases hu; exact h2
  | 2, hu => cases hu; exact h3
theorem InAt.keep {w w' : World} {B k : Nat} {a : Addr} {x : LIn} {va vd : Value} (h : InAt w B a k x va vd) (ha : a.block < B) (hk : ∀ p : Addr, p.block < B → w'.cell? p = w.cell? p) : InAt w' B a k x va vd :=
  ⟨fun j u hu => (hk _ (by rw [addr_block, addr_block]; exact ha)).trans (h.cells j u hu), h.acc.keep hk, h.dat.keep hk⟩
/-- the k-th lookup -/
structure LookAt (w : World) (B : Nat) (a : Addr) (k : Nat) (x : LLook) (va vd : Value) : Prop where
  cells : ∀ j u, (bv x.tab ++ [va, vd])[j]? = some u → w.cell? ((a.add (k * 34)).add j) = some u
  len : x.tab.length = 32
  wr : BytesIn w B va x.wr
  rd : BytesIn w B vd x.rd
theorem LooksIn.get {w : World} {B n : Nat} {A : Option Addr} {l : List LLook} (h : LooksIn w B A n l) {k : Nat} (hk : k < n) : ∃ a x va vd, A = some a ∧ a.block < B ∧ l[k]? = some x ∧ LookAt w B a k x va vd := by
  obtain ⟨x, hx⟩ : ∃ x, l[k]? = some x := ⟨_, List.getElem?_eq_getElem (by rw [h.len]; exact hk)⟩
  obtain ⟨a, va, vd, rfl, hb, h1, h2, h4, h5⟩ := h.at_ k x hx
  exact ⟨a, x, va, vd, rfl, hb, hx, fun j u hu => by rw [addr_add]; exact h1 j u hu, h2, h4, h5⟩
theorem LookAt.size {w : World} {B k : Nat} {a : Addr} {x : LLook} {va vd : Value} (h : LookAt w B a k x va vd) : (bv x.tab ++ [va, vd]).length = 34 := by simp [bv_length, h.len]
theorem forall_take_succ {α : Type} {p : α → Prop} {l : List α} {k : Nat} {x : α} (h : l[k]? = some x) : (∀ y ∈ l.take (k + 1), p y) ↔ (∀ y ∈ l.take k, p y) ∧ p x := by
  rw [List.take_add_one, h]
  simp only [Option.toList_some, List.mem_append, List.mem_singleton]
  exact ⟨fun h' => ⟨fun y hy => h' y (.inl hy), h' x (.inr rfl)⟩, fun h' y hy => hy.elim (h'.1 y) fun e => e ▸ h'.2⟩
theorem BytesIn.le {w : World} {B : Nat} {v : Value} {l : List Int} (h : BytesIn w B v l) : l.length ≤ maxLen := by
  obtain ⟨_, _, _, _, h1, h2⟩ := h.is
  omega
/-- so far, no list has more than 65535 elements -/
def FitsTo (m : LMsg) (ins : List LIn) (looks : List LLook) : Prop :=
  (m.keys.length ≤ 65535 ∧ m.ins.length ≤ 65535 ∧ m.looks.length ≤ 65535) ∧ (∀ i ∈ ins, i.acc.length ≤ 65535 ∧ i.dat.length ≤ 65535) ∧ (∀ l ∈ looks, l.wr.length ≤ 65535 ∧ l.rd.length ≤ 65535)
/-- the greatest of three; the walk need not look into it -/
def most (x y z : Int) : Int := if z > (if y > x then y else x) then z else (if y > x then y else x)
theorem run_most {P : Program} (ts : Array TypeId) (t : TypeId) (x y z : Int) (w : World) : (Builtin.max_ ts t #[.int .i64 x, .int .i64 y, .int .i64 z]).run P w = .ok (.int .i64 (most x y z)) w := run_max_int3 (P := P) w ts t .i64 .i64 .i64 x y z
theorem most_le (x y z c : Int) : most x y z ≤ c ↔ x ≤ c ∧ y ≤ c ∧ z ≤ c := by unfold most; (repeat' split) <;> omega
set_option maxRecDepth 100000 in
set_option maxHeartbeats 1000000 in
theorem fits_walk (q : Raw) (m : LMsg) (B : Nat) (w : World) (hm : MsgIn w B q m) (hB : B ≤ w.heap.size) (hv : (m.v0 = true ∨ (m.looks = [] ∧ m.s < 128))) :
    Calls Tryz.prog 102 #[.agg (q.cells m).toArray] w fun e w' => (∃ b, e = .returned (.bool b) ∧ (b = true ↔ FitsTo m m.ins m.looks)) ∧ Below w.heap.size w w' := by
  obtain ⟨KA, kn, kc, IA, n, ic, LA, ln, lc⟩ := q
  have rb := MsgRow.of (Row.new w 40 (Raw.cells ⟨KA, kn, kc, IA, n, ic, LA, ln, lc⟩ m)) hm.recent
  obtain ⟨cs, hcs⟩ : ∃ cs, cs = Raw.cells ⟨KA, kn, kc, IA, n, ic, LA, ln, lc⟩ m := ⟨_, rfl⟩
  rw [← hcs] at rb ⊢
  clear hcs
  have h0 : m.v0 = true ∨ (m.v0 = false ∧ m.looks = [] ∧ m.s < 128) := by
    cases h : m.v0
    · rw [h] at hv; simpa using hv
    · exact .inl rfl
  obtain ⟨d0, d1, d2, d3, d4, d37, d38⟩ := rb
  dsimp only at d4 d37 d38
  have lk := hm.keys.len
  have li := hm.ins.len
  have ll := hm.looks.len
  have HM := Lib.hid hm
  have k1 := hm.kn
  have k2 := hm.n
  have k3 := hm.ln
  dsimp only at lk li ll k1 k2 k3
  unfold maxLen at k1 k2 k3
  clear hm hv
  have hmost := @run_most Tryz.prog
  have hq : (m.v0 = false → ln = 0 ∧ m.s < 128) := by
    rcases h0 with h0 | ⟨_, h1, h2⟩
    · rw [h0]; simp
    · rw [h1] at ll; exact fun _ => ⟨ll.symm, h2⟩
  clear h0
  generalize hv0 : m.v0 = v0 at *
  have lt0 : w.heap.size < (w.alloc (Obj.cells cs.toArray 40)).heap.size := by simp
  have hb0 : Below w.heap.size w (w.alloc (Obj.cells cs.toArray 40)) := (Below.refl _ _).alloc (Nat.le_refl _) _
  cases v0
  all_goals
    (try obtain ⟨hq1, hq2⟩ := hq rfl
     clear hq
     go_enter Tryz.func102, Tryz.ntmps102
     go_wp2_with fail
     try clear hq2
     generalize (w.alloc (Obj.cells cs.toArray 40)) = W0 at *
     have HB0 := Lib.hid hb0
     have D38 := Lib.hid d38
     clear d0 d1 d2 d3 d4 d37 d38 hb0
     go_loopw [3, 36] (fun mo i wr => ∃ (k : Nat) (mx : Int), k ≤ n ∧ i = .int .i64 k ∧ mo = .int .i64 mx ∧ (mx ≤ 65535 ↔ FitsTo m (m.ins.take k) []) ∧ Below (w.heap.size + 1) W0 wr) (fun mo i _ => n - (intOf i).toNat)
     case atStart =>
      refine ⟨0, _, Nat.zero_le _, rfl, rfl, ?_, Below.refl _ _⟩
      rw [most_le, FitsTo]
      simp
      omega
     case round =>
      obtain ⟨k, mx, hk, rfl, rfl, hmx, hb⟩ := hrel
      have HMX := Lib.hid hmx
      have HB := Lib.hid hb
      clear hmx hb
      have hsz : w.heap.size + 1 ≤ wr.heap.size := Nat.le_trans lt0 HB.out.size
      have hbw := HB0.out.trans (HB.out.mono (Nat.le_succ _))
      by_cases hlt : k < n
      · obtain ⟨a, x, va, vd, rfl, hab, hx, hat⟩ := HM.out.ins.get hlt
        have hat := hat.keep hab fun p hp => hbw.cell (Nat.lt_of_lt_of_le hp hB)
        have hone := inCells_one (p := x.p) hat.acc hat.dat
        obtain ⟨A1, c1, rfl, _, _, _⟩ := hat.acc.is
        obtain ⟨A2, c2, rfl, _, _, _⟩ := hat.dat.is
        have l1 := hat.acc.le
        have l2 := hat.dat.le
        unfold maxLen at l1 l2
        have HAT := Lib.hid hat
        have HX := Lib.hid hx
        have HON := Lib.hid hone
        have HBW := Lib.hid hbw
        clear hat hx hone hbw
        go_wp2_with (first
          | (with_reducible show wpList _ _ _ ({ dst := some 39, op := Op.load _ _, type := _, pos := _, after := _, guard := _ } :: _) _ _; go_must (refine wpList_load_at rfl 131 (.tmp 38) rfl (a.add (k * 3)) (inCells x.p (.slice A1 x.acc.length c1) (.slice A2 x.dat.length c2)) _ Tryz.underlying131 rfl (size_in _ _ _) HAT.out.cells ?_ ?_; go_simp))
          | (with_reducible show wpList _ _ _ ({ dst := none, op := Op.store 131 _ _, type := _, pos := _, after := _, guard := _ } :: _) _ _; go_must (refine wpList_store_new rfl 131 (.tmp 5) (.tmp 39) rfl (inCells x.p (.slice A1 x.acc.length c1) (.slice A2 x.dat.length c2)) (size_in _ _ _) HON.out rfl ?_ ?_ ?_; go_simp; go_simp; intro w2 hr2 hb2 hz2; obtain ⟨-, e1, e2⟩ := in_cells hr2; have HB2 := Lib.hid hb2; clear hb2 hr2)))
        go_roundw
        case rel =>
          refine ⟨k + 1, _, by omega, by go_num, rfl, ?_, HB.out.trans (HB2.out.mono hsz)⟩
          have := HMX.out
          have hf := forall_take_succ (p := fun (i : LIn) => i.acc.length ≤ 65535 ∧ i.dat.length ≤ 65535) HX.out
          rw [most_le, this]
          unfold FitsTo
          rw [hf]
          constructor
          · rintro ⟨⟨h1, h2, h3⟩, h4, h5⟩
            exact ⟨h1, ⟨h2, by omega, by omega⟩, h3⟩
          · rintro ⟨h1, ⟨h2, h4, h5⟩, h3⟩
            exact ⟨⟨h1, h2, h3⟩, by omega, by omega⟩
        case measure => simp [intOf]; omega
      · have HMX1 : Hid (mx ≤ 65535 ↔ FitsTo m m.ins []) := by
          have := HMX.out
          rwa [List.take_of_length_le (by omega)] at this
        have d38 : wr.cell? ⟨w.heap.size, 38, none⟩ = _ := (HB.out.cell (p := ⟨w.heap.size, 38, none⟩) (Nat.lt_succ_self _)).trans D38.out
        have HBW := Lib.hid hbw
        have HSZ := Lib.hid hsz
        clear hbw hsz HMX
        go_wp2_with fail
        generalize wr = W1 at *
        clear d38
        go_loopw [3, 52] (fun mo i wr => ∃ (k : Nat) (mx : Int), k ≤ ln ∧ i = .int .i64 k ∧ mo = .int .i64 mx ∧ (mx ≤ 65535 ↔ FitsTo m m.ins (m.looks.take k)) ∧ Below (w.heap.size + 1) W0 wr) (fun mo i _ => ln - (intOf i).toNat)
        case atStart =>
          refine ⟨0, mx, Nat.zero_le _, rfl, rfl, ?_, HB.out⟩
          simpa using HMX1.out
        case round =>
          clear HB HBW HSZ HMX1
          obtain ⟨k, mx, hk, rfl, rfl, hmx, hb⟩ := hrel
          have HMX := Lib.hid hmx
          have HB := Lib.hid hb
          clear hmx hb
          have hsz : w.heap.size + 1 ≤ wr.heap.size := Nat.le_trans lt0 HB.out.size
          have hbw := HB0.out.trans (HB.out.mono (Nat.le_succ _))
          by_cases hlt : k < ln
          · obtain ⟨a, x, va, vd, rfl, hab, hx, hat⟩ := HM.out.looks.get hlt
            have hcw : ∀ j u, (bv x.tab ++ [va, vd])[j]? = some u → wr.cell? ((a.add (k * 34)).add j) = some u := fun j u hu => (hbw.cell (by rw [addr_block, addr_block]; omega)).trans (hat.cells j u hu)
            have hone := lookCells_one (tab := x.tab) hat.wr hat.rd
            obtain ⟨A1, c1, rfl, _, _, _⟩ := hat.wr.is
            obtain ⟨A2, c2, rfl, _, _, _⟩ := hat.rd.is
            have l1 := hat.wr.le
            have l2 := hat.rd.le
            unfold maxLen at l1 l2
            have HCW := Lib.hid hcw
            have HL := Lib.hid hat.len
            have HX := Lib.hid hx
            have HON := Lib.hid hone
            clear hat hx hone hbw hcw
            go_wp2_with (first
              | (with_reducible show wpList _ _ _ ({ dst := some 55, op := Op.load _ _, type := _, pos := _, after := _, guard := _ } :: _) _ _; go_must (refine wpList_load_at rfl 124 (.tmp 54) rfl (a.add (k * 34)) (bv x.tab ++ [.slice A1 x.wr.length c1, .slice A2 x.rd.length c2]) _ Tryz.underlying124 rfl (size_lk HL.out _ _) HCW.out ?_ ?_; go_simp))
              | (with_reducible show wpList _ _ _ ({ dst := none, op := Op.store 124 _ _, type := _, pos := _, after := _, guard := _ } :: _) _ _; go_must (refine wpList_store_new rfl 124 (.tmp 7) (.tmp 55) rfl (bv x.tab ++ [.slice A1 x.wr.length c1, .slice A2 x.rd.length c2]) (size_lk HL.out _ _) HON.out (by simp [bv_length, HL.out]) ?_ ?_ ?_; go_simp; go_simp; intro w2 hr2 hb2 hz2; obtain ⟨e1, e2⟩ := look_cells hr2 HL.out; have HB2 := Lib.hid hb2; clear hb2 hr2)))
            all_goals
              (go_roundw
               case rel =>
                 refine ⟨k + 1, _, by omega, by go_num, rfl, ?_, HB.out.trans (HB2.out.mono hsz)⟩
                 have := HMX.out
                 have hf := forall_take_succ (p := fun (i : LLook) => i.wr.length ≤ 65535 ∧ i.rd.length ≤ 65535) HX.out
                 rw [most_le, this]
                 unfold FitsTo
                 rw [hf]
                 constructor
                 · rintro ⟨⟨h1, h2, h3⟩, h4, h5⟩
                   exact ⟨h1, h2, h3, by omega, by omega⟩
                 · rintro ⟨h1, h2, h3, h4, h5⟩
                   exact ⟨⟨h1, h2, h3⟩, by omega, by omega⟩
               case measure => simp [intOf]; omega)
          · have HMX1 : Hid (mx ≤ 65535 ↔ FitsTo m m.ins m.looks) := by
              have := HMX.out
              rwa [List.take_of_length_le (by omega)] at this
            have HBW := Lib.hid hbw
            clear hbw HMX
            go_wp2_with fail
            go_ret
            exact ⟨⟨_, rfl, by simpa using HMX1.out⟩, HBW.out⟩)
set_option maxRecDepth 100000 in
set_option maxHeartbeats 400000 in
theorem fits_bad (q : Raw) (m : LMsg) (w : World) (hr : m.recent.length = 32) (hl : m.looks.length = q.ln) (hv : m.v0 = false) (hs : m.looks ≠ [] ∨ 128 ≤ m.s) (hln : q.ln ≤ maxLen) :
    Calls Tryz.prog 102 #[.agg (q.cells m).toArray] w fun e w' => e = .returned (.bool false) ∧ Below w.heap.size w w' := by
  obtain ⟨KA, kn, kc, IA, n, ic, LA, ln, lc⟩ := q
  have rb := MsgRow.of (Row.new w 40 (Raw.cells ⟨KA, kn, kc, IA, n, ic, LA, ln, lc⟩ m)) hr
  have hb0 := Lib.hid ((Below.refl w.heap.size w).alloc (Nat.le_refl _) (.cells (Raw.cells ⟨KA, kn, kc, IA, n, ic, LA, ln, lc⟩ m).toArray 40))
  obtain ⟨cs, hcs⟩ : ∃ cs, cs = Raw.cells ⟨KA, kn, kc, IA, n, ic, LA, ln, lc⟩ m := ⟨_, rfl⟩
  rw [← hcs] at rb hb0 ⊢
  clear hcs
  obtain ⟨d0, d1, d2, d3, d4, d37, d38⟩ := rb
  dsimp only at d4 d37 d38 hl hln
  unfold maxLen at hln
  rw [hv] at d0
  have h : 0 < ln ∨ (ln = 0 ∧ 128 ≤ m.s) := by
    rcases Nat.eq_zero_or_pos ln with h | h
    · rcases hs with hs | hs
      · exact absurd (List.length_eq_zero_iff.1 (by omega)) hs
      · exact .inr ⟨h, hs⟩
    · exact .inl h
  clear hs hl hv hr
  rcases h with h | ⟨h, h'⟩
  · go_enter Tryz.func102, Tryz.ntmps102
    go_wp2_with fail
    go_ret
    exact ⟨rfl, hb0.out⟩
  · go_enter Tryz.func102, Tryz.ntmps102
    go_wp2_with fail
    go_ret
    exact ⟨rfl, hb0.out⟩
open Classical in
/-- fits -/
theorem fits_ (q : Raw) (m : LMsg) (B : Nat) (w : World) (hm : MsgIn w B q m) (hB : B ≤ w.heap.size) :
    Calls Tryz.prog 102 #[.agg (q.cells m).toArray] w fun e w' => (∃ b, e = .returned (.bool b) ∧ (b = true ↔ Fits m)) ∧ Below w.heap.size w w' := by
  by_cases hv : m.v0 = true ∨ (m.looks = [] ∧ m.s < 128)
  · refine (fits_walk q m B w hm hB hv).mono ?_
    rintro e w' ⟨⟨b, rfl, hb⟩, h⟩
    refine ⟨⟨b, rfl, hb.trans ?_⟩, h⟩
    unfold FitsTo Fits
    exact ⟨fun ⟨⟨h1, h2, h3⟩, h4, h5⟩ => ⟨hv, h1, h2, h3, h4, h5⟩, fun ⟨_, h1, h2, h3, h4, h5⟩ => ⟨⟨h1, h2, h3⟩, h4, h5⟩⟩
  · refine (fits_bad q m w hm.recent hm.looks.len ?_ ?_ (by have := hm.ln; omega)).mono ?_
    · cases h : m.v0
      · rfl
      · exact absurd (.inl h) hv
    · by_cases h : m.looks = []
      · right
        have : ¬ m.s < 128 := fun h' => hv (.inr ⟨h, h'⟩)
        omega
      · exact .inl h
    · rintro e w' ⟨rfl, h⟩
      exact ⟨⟨false, rfl, by simp; exact fun hf => hv hf.1⟩, h⟩
end Go.Proofs.YtdgbodljmdcagaaGreatDoor
