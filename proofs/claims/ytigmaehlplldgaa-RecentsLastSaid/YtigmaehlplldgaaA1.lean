/-
  Parts joined: Math12 Mem Row Longer Put Msg Whole Many Looks PutMsg IsIn Ring12 GetMsg SameMsg CameIn KeyEq RefAt BookK TxMsg GetTx Hash12 Rec12 Age12 Role TwinMsg AppendN OtherMem RefAge12.
-/
import Derived.Lib.Hide
import Derived.Below
import Derived.Laws.OwnMore
import Derived.Deep.AppendLies
import Derived.Deep.Draws
import Derived.Laws.MakeOwn
import Derived.Laws.CopyOwn
import Derived.Laws.Rows
import Derived.Laws.BitsAllLaws
import Derived.WalkKit
import Derived.Test.YtigmaehlplldgaaRows
import Derived.WalkSpells
import Derived.WalkLawsBesides
import Derived.IntWalk
import Derived.Deep.MidRow
import Derived.Deep.WholeRow
import Derived.Maps.AppendAt
import Derived.OwnWalk
import Derived.Great.BuildSlice
import Derived.Recover
import Derived.Deep.RegionHeld
import Derived.Deep.QuietTactic
import Derived.BigQuiet
import Derived.ChangeKeysEq
import Derived.ProofKit
import Derived.OpenShut
import Derived.ShutString
import Derived.ChangeOld
import Derived.Lib.SmallJoins
import Derived.Deep.Slices
import Derived.Deep.Strs
import Derived.SizedLaws
import Derived.Deep.RegionHeld2
import Derived.Deep.CutBlock
import Derived.Laws.Tables
import Derived.Laws.Slices
import Derived.WalkMore
import Derived.Laws.StructEq
import Derived.Deep.DeepCutAuto
import Derived.Laws.EntriesVeiled
import Derived.Deep.RegionHeld3
import Derived.Maps.OwnSet
import Derived.DeepKeys4
import Derived.WideKeyArr
import Derived.WideKeyEntry
/-
  Of part Math12: what is needed here.
-/
namespace Go.Proofs.Ytigmaehlplldgaa
set_option linter.unusedVariables false
section
variable {α : Type} [DecidableEq α]
/-- what a push makes of the list, the newest first -/
def push12 (L : List α) (h : α) : List α := if h ∈ L then L else (h :: L).take 150
/-- who falls -/
def fell12 (L : List α) (h : α) : Option α := if h ∈ L then none else L[149]?
/-- how many are newer -/
def age12 (L : List α) (h : α) : Option Nat := if h ∈ L then some (L.idxOf h) else none
/-- what pushes leave -/
structure Q12 (L : List α) : Prop where
  nd : L.Nodup
  few : L.length ≤ 150
omit [DecidableEq α] in
theorem q12_nil : Q12 ([] : List α) := ⟨List.nodup_nil, by simp⟩
theorem push12_in {L : List α} {h : α} (hm : h ∈ L) : push12 L h = L := if_pos hm
theorem push12_new {L : List α} {h : α} (hm : h ∉ L) : push12 L h = (h :: L).take 150 := if_neg hm
theorem Q12.push {L : List α} (q : Q12 L) (h : α) : Q12 (push12 L h) := by
  by_cases hm : h ∈ L
  · rw [push12_in hm]; exact q
  · rw [push12_new hm]
    exact ⟨(List.take_sublist _ _).nodup (List.nodup_cons.2 ⟨hm, q.nd⟩), by rw [List.length_take]; omega⟩
theorem push12_len {L : List α} {h : α} (hm : h ∉ L) : (push12 L h).length = min 150 (L.length + 1) := by
  rw [push12_new hm, List.length_take, List.length_cons]
theorem idxOf_at {L : List α} (hd : L.Nodup) {i : Nat} {x : α} (h : L[i]? = some x) : L.idxOf x = i := by
  obtain ⟨hi, rfl⟩ := List.getElem?_eq_some_iff.1 h
  exact List.Nodup.idxOf_getElem hd i hi
theorem age12_at {L : List α} (q : Q12 L) {i : Nat} {x : α} (h : L[i]? = some x) : age12 L x = some i := by
  unfold age12
  rw [if_pos (List.mem_of_getElem? h), idxOf_at q.nd h]
theorem age12_some {L : List α} {x : α} {a : Nat} (h : age12 L x = some a) : L[a]? = some x := by
  unfold age12 at h
  split at h
  · rename_i hm
    cases h
    rw [List.getElem?_eq_getElem (List.idxOf_lt_length_iff.2 hm), List.getElem_idxOf]
  · cases h
theorem age12_none {L : List α} {x : α} : age12 L x = none ↔ x ∉ L := by
  unfold age12
  split <;> simp_all
/-- pushes, one behind the other -/
def pushes12 (L : List α) (l : List α) : List α := l.foldl push12 L
theorem Q12.pushes {L : List α} (q : Q12 L) (l : List α) : Q12 (pushes12 L l) := by
  unfold pushes12
  induction l generalizing L with
  | nil => exact q
  | cons x r ih => exact ih (q.push x)
theorem pushes12_snoc (L l : List α) (x : α) : pushes12 L (l ++ [x]) = push12 (pushes12 L l) x := by
  unfold pushes12; rw [List.foldl_append]; rfl
omit [DecidableEq α] in
theorem rev12 {l : List α} (h : l.Nodup) : l.reverse.Nodup := List.pairwise_reverse.2 (h.imp fun h => Ne.symm h)
/-- each pushed once: the last 150, the last one first -/
theorem pushes12_once {l : List α} (hd : l.Nodup) : pushes12 [] l = l.reverse.take 150 := by
  have h : ∀ r : List α, r.Nodup → pushes12 [] r.reverse = r.take 150 := by
    intro r
    induction r with
    | nil => intro _; rfl
    | cons x r ih =>
      intro hr
      have hx : x ∉ r.take 150 := fun h => (List.nodup_cons.1 hr).1 (List.mem_of_mem_take h)
      rw [List.reverse_cons, pushes12_snoc, ih (List.nodup_cons.1 hr).2, push12_new hx]
      show List.take (149 + 1) (x :: List.take 150 r) = List.take (149 + 1) (x :: r)
      rw [List.take_succ_cons, List.take_succ_cons, List.take_take]
      rfl
  have := h l.reverse (rev12 hd)
  rwa [List.reverse_reverse] at this
/-- their ages -/
theorem age12_once {l : List α} (hd : l.Nodup) {i : Nat} {x : α} (hx : l[i]? = some x) :
    age12 (pushes12 [] l) x = if l.length - 1 - i < 150 then some (l.length - 1 - i) else none := by
  have q : Q12 (pushes12 [] l) := q12_nil.pushes l
  have hi := (List.getElem?_eq_some_iff.1 hx).1
  have hr : l.reverse[l.length - 1 - i]? = some x := by
    rw [List.getElem?_reverse (by omega), show l.length - 1 - (l.length - 1 - i) = i by omega]
    exact hx
  rw [pushes12_once hd] at q ⊢
  split
  · rename_i h
    exact age12_at q (by rw [List.getElem?_take, if_pos h]; exact hr)
  · rename_i h
    rw [age12_none]
    intro hm
    obtain ⟨j, hj⟩ := List.getElem?_of_mem hm
    rw [List.getElem?_take] at hj
    split at hj
    · rename_i hlt
      have e1 := idxOf_at (rev12 hd) hj
      have e2 := idxOf_at (rev12 hd) hr
      omega
    · cases hj
theorem len12_once {l : List α} (hd : l.Nodup) : (pushes12 [] l).length = min 150 l.length := by
  rw [pushes12_once hd, List.length_take, List.length_reverse]
end
end Go.Proofs.Ytigmaehlplldgaa

/-
  Of part Mem: what is needed here.
-/
namespace Go.Proofs.Ytigmaehlplldgaa
open Go.RowKit
/-- bytes (or numbers of another kind) as cells -/
def cv (k : IntKind) (zs : List Int) : List Value := zs.map (Value.int k)
def bv (zs : List Int) : List Value := cv .u8 zs
theorem cv_length (k : IntKind) (zs : List Int) : (cv k zs).length = zs.length := by simp [cv]
theorem bv_length (zs : List Int) : (bv zs).length = zs.length := cv_length _ zs
theorem bv_append (xs ys : List Int) : bv (xs ++ ys) = bv xs ++ bv ys := by simp [bv, cv]
theorem bv_getElem? (zs : List Int) (i : Nat) : (bv zs)[i]? = zs[i]?.map (Value.int .u8) := by simp [bv, cv]
theorem bv_at {zs : List Int} {i : Nat} (h : i < zs.length) : (bv zs)[i]? = some (.int .u8 (zs.getD i 0)) := by
  rw [bv_getElem?, List.getD_eq_getElem?_getD, List.getElem?_eq_getElem h]; rfl
theorem bv_one (zs : List Int) : ∀ u ∈ bv zs, u.oneCell' = true := by
  intro u hu
  simp only [bv, cv, List.mem_map] at hu
  obtain ⟨z, _, rfl⟩ := hu
  rfl
theorem addr_block (a : Addr) (n : Nat) : (a.add n).block = a.block := by unfold Addr.add; split <;> rfl
theorem addr_add (a : Addr) (i j : Nat) : (a.add i).add j = a.add (i + j) := by
  unfold Addr.add
  rcases Nat.eq_zero_or_pos i with hi | hi <;> rcases Nat.eq_zero_or_pos j with hj | hj
  · simp [hi, hj]
  · simp [hi, show j ≠ 0 by omega]
  · simp [hj, show i ≠ 0 by omega]
  · simp [show i ≠ 0 by omega, show j ≠ 0 by omega, Nat.add_assoc]
theorem addr_row (g i j : Nat) : (⟨g, i, none⟩ : Addr).add j = ⟨g, i + j, none⟩ := by unfold Addr.add; split <;> simp_all
/-- The slice value '.slice A n c' reads as the cells xs; each cell lies below block B. -/
structure Sees (w : World) (B : Nat) (A : Option Addr) (n : Nat) (xs : List Value) : Prop where
  len : xs.length = n
  cell : ∀ i u, xs[i]? = some u → ∃ a, A = some a ∧ a.block < B ∧ w.cell? (a.add i) = some u
section
variable {w w' : World} {B B' n : Nat} {A : Option Addr} {xs : List Value}
theorem Sees.nil (w : World) (B : Nat) (A : Option Addr) : Sees w B A 0 [] := ⟨rfl, fun i u h => by simp at h⟩
theorem Sees.keep (h : Sees w B A n xs) (hk : ∀ p : Addr, p.block < B → w'.cell? p = w.cell? p) : Sees w' B A n xs :=
  ⟨h.len, fun i u hu => by
    obtain ⟨a, e, hb, hc⟩ := h.cell i u hu
    exact ⟨a, e, hb, (hk _ (by rw [addr_block]; exact hb)).trans hc⟩⟩
theorem Sees.below (h : Sees w B A n xs) (hb : Below B w w') : Sees w' B A n xs := h.keep fun _ hp => hb.cell hp
theorem Sees.drew (h : Sees w B A n xs) : Sees w.drew B A n xs := ⟨h.len, h.cell⟩
theorem Sees.drewN (h : Sees w B A n xs) (k : Nat) : Sees (w.drewN k) B A n xs := ⟨h.len, h.cell⟩
theorem Sees.alloc (h : Sees w B A n xs) (hB : B ≤ w.heap.size) (o : Obj) : Sees (w.alloc o) B A n xs := h.keep fun p hp => World.cell?_alloc_lt w o p (by omega)
theorem Sees.setCell (h : Sees w B A n xs) {p : Addr} (hB : B ≤ p.block) (u : Value) : Sees (w.setCell p u) B A n xs :=
  h.keep fun q hq => World.cell?_setCell_other w p q u (fun e => by subst e; omega)
theorem Sees.at_ {k : Nat} (h : Sees w B A n xs) (hk : k < n) : ∃ a u, A = some a ∧ a.block < B ∧ xs[k]? = some u ∧ w.cell? (a.add k) = some u := by
  have hl : k < xs.length := by have := h.len; omega
  obtain ⟨a, e, hb, hc⟩ := h.cell k _ (List.getElem?_eq_getElem hl)
  exact ⟨a, _, e, hb, List.getElem?_eq_getElem hl, hc⟩
end
end Go.Proofs.Ytigmaehlplldgaa

/-
  Of part Row: what is needed here.
-/
namespace Go.Proofs.Ytigmaehlplldgaa
open Go.RowKit
set_option linter.unusedVariables false
set_option maxRecDepth 100000
/-- block g is just the cells xs of element type t; none is frozen -/
structure Row (w : World) (g : Nat) (t : TypeId) (xs : List Value) : Prop where
  is : w.heap[g]? = some (.cells xs.toArray t (0, 0))
section
variable {w w' : World} {g : Nat} {t : TypeId} {xs : List Value}
theorem Row.lt (h : Row w g t xs) : g < w.heap.size := (Array.getElem?_eq_some_iff.1 h.is).1
theorem Row.cell (h : Row w g t xs) (i : Nat) : w.cell? ⟨g, i, none⟩ = xs[i]? := by rw [cell_of_row w g i xs.toArray t (0, 0) h.is]; simp
theorem Row.frozen (h : Row w g t xs) (i : Nat) : w.frozen? ⟨g, i, none⟩ = false := by
  have := h.is
  simp [World.frozen?, this]
theorem Row.new (w : World) (t : TypeId) (xs : List Value) : Row (w.alloc (.cells xs.toArray t)) w.heap.size t xs := ⟨heap_alloc_new w _⟩
theorem Row.new' (w : World) (t : TypeId) (xs : List Value) {g : Nat} (hg : w.heap.size = g) : Row (w.alloc (.cells xs.toArray t)) g t xs := hg ▸ Row.new w t xs
theorem Row.drew (h : Row w g t xs) : Row w.drew g t xs := ⟨h.is⟩
theorem Row.drewN (h : Row w g t xs) (n : Nat) : Row (w.drewN n) g t xs := ⟨h.is⟩
theorem Row.alloc (h : Row w g t xs) (o : Obj) : Row (w.alloc o) g t xs := ⟨(Below.heap_alloc w o g h.lt).trans h.is⟩
theorem Row.set_ (h : Row w g t xs) (i : Nat) (u : Value) : Row (w.setCell ⟨g, i, none⟩ u) g t (xs.set i u) := by
  have := h.is
  exact ⟨by simp [World.setCell, Array.getElem?_modify, this]⟩
theorem Row.below {B : Nat} (h : Row w g t xs) (hb : Below B w w') (hg : g < B) : Row w' g t xs := ⟨(hb.block g hg).trans h.is⟩
theorem Row.grown {row : Option Nat} (h : Row w g t xs) (hb : w.grownBy w' row) (hg : some g ≠ row) : Row w' g t xs := ⟨(hb.block g h.lt hg).trans h.is⟩
theorem Row.sees (h : Row w g t xs) (o : Nat) : Sees w w.heap.size (some ⟨g, o, none⟩) (xs.length - o) (xs.drop o) :=
  ⟨by simp, fun i u hu => ⟨_, rfl, h.lt, by rw [addr_row, h.cell]; simpa using hu⟩⟩
theorem Row.own (h : Row w g t xs) {base : Nat} (hb : base ≤ g) {n : Nat} (hn : n ≤ xs.length) (hm : xs.length ≤ maxLen) : w.ownsRow base t 1 (.slice (some ⟨g, 0, none⟩) n xs.length) n (xs.take n) :=
  ⟨by simp; omega, .inr ⟨g, xs.length, xs.toArray, rfl, hb, h.is, hn, hm, by simp, by simp⟩⟩
end
end Go.Proofs.Ytigmaehlplldgaa

/-
  Of part Longer: what is needed here.
-/
namespace Go.Proofs.Ytigmaehlplldgaa
open Go.RowKit
set_option linter.unusedVariables false
set_option maxRecDepth 100000
theorem info_u8 : (Try.prog.info? 5).map (fun i => (i.zero, i.size, i.bytes)) = some (some (.int .u8 0), 1, 1) := by kernel_rfl
end Go.Proofs.Ytigmaehlplldgaa

/-
  Of part Put: what is needed here.
-/
namespace Go.Proofs.Ytigmaehlplldgaa
open Go.RowKit
set_option linter.unusedVariables false
set_option maxRecDepth 100000
/-- the bytes of a short number -/
def short (n : Int) : List Int :=
  if n < 128 then [n] else if n < 16384 then [n % 128 + 128, n / 128] else [n % 128 + 128, n / 128 % 128 + 128, n / 16384]
end Go.Proofs.Ytigmaehlplldgaa

/-
  Of part Msg: what is needed here.
-/
namespace Go.Proofs.Ytigmaehlplldgaa
open Go.RowKit
set_option linter.unusedVariables false
set_option maxRecDepth 100000
/-- an instruction -/
structure LIn where
  p : Int
  acc : List Int
  dat : List Int
/-- a lookup -/
structure LLook where
  tab : List Int
  wr : List Int
  rd : List Int
/-- a message -/
structure LMsg where
  v0 : Bool
  s : Int
  r : Int
  o : Int
  keys : List (List Int)
  recent : List Int
  ins : List LIn
  looks : List LLook
/-- how many, and the bytes -/
def encL (l : List Int) : List Int := short l.length ++ l
def encIn (i : LIn) : List Int := i.p :: (encL i.acc ++ encL i.dat)
def encLook (l : LLook) : List Int := l.tab ++ (encL l.wr ++ encL l.rd)
def encHead (m : LMsg) : List Int := (if m.v0 then [128] else []) ++ [m.s, m.r, m.o]
def encTail (m : LMsg) : List Int := if m.v0 then short m.looks.length ++ m.looks.flatMap encLook else []
/-- a message's bytes -/
def enc (m : LMsg) : List Int := encHead m ++ (short m.keys.length ++ (m.keys.flatten ++ (m.recent ++ (short m.ins.length ++ (m.ins.flatMap encIn ++ encTail m)))))
/-- keys that lie below block B -/
structure KeysIn (w : World) (B : Nat) (A : Option Addr) (n : Nat) (l : List (List Int)) : Prop where
  len : l.length = n
  each : ∀ k ∈ l, k.length = 32
  sees : Sees w B A (n * 32) (bv l.flatten)
/-- where a message's lists lie -/
structure Raw where
  KA : Option Addr
  kn : Nat
  kc : Nat
  IA : Option Addr
  n : Nat
  ic : Nat
  LA : Option Addr
  ln : Nat
  lc : Nat
/-- a message's cells -/
def Raw.cells (q : Raw) (m : LMsg) : List Value :=
  [.bool m.v0, .int .u8 m.s, .int .u8 m.r, .int .u8 m.o, .slice q.KA q.kn q.kc] ++ (bv m.recent ++ [.slice q.IA q.n q.ic, .slice q.LA q.ln q.lc])
section
variable {w w' : World} {B B' : Nat}
theorem KeysIn.keep {A : Option Addr} {n : Nat} {l : List (List Int)} (h : KeysIn w B A n l) (hk : ∀ p : Addr, p.block < B → w'.cell? p = w.cell? p) : KeysIn w' B A n l := ⟨h.len, h.each, h.sees.keep hk⟩
variable {q : Raw} {m : LMsg}
theorem KeysIn.below {A : Option Addr} {n : Nat} {l : List (List Int)} (h : KeysIn w B A n l) (hb : Below B w w') : KeysIn w' B A n l := h.keep fun _ hp => hb.cell hp
end
end Go.Proofs.Ytigmaehlplldgaa

/-
  Of part Whole: what is needed here.
-/
namespace Go.Proofs.Ytigmaehlplldgaa
open Go.RowKit
set_option linter.unusedVariables false
set_option maxRecDepth 100000
section
variable {P : Program}
/-- a value of many cells, read from an address -/
theorem run_loadAt_at (w : World) (p : Addr) (ty : TypeId) (cs : List Value) (d : TypeDesc) (hc : ∀ j v, cs[j]? = some v → w.cell? (p.add j) = some v)
    (hu : P.underlying ty = some d) (hd : d.isRow = true) (hi : (P.info? ty).map (·.size) = some cs.length) :
    (Instr.loadAt ty (.pointer (some p))).run P w = .ok (.agg cs.toArray) w := by
  have hl : (loadCells p cs.length).run P w = .ok cs.toArray w := run_loadCells_list (P := P) w p cs hc
  cases hq : P.info? ty with
  | none => simp [hq] at hi
  | some i =>
    have hs : i.size = cs.length := by simpa [hq] using hi
    have hagg : (isAgg ty).run P w = .ok true w := by
      unfold isAgg
      rw [Sem.run_bind, run_underlying hu w]
      cases d <;> simp_all
    simp [Instr.loadAt, Instr.sureAddr, loadVar, Sem.run_bind, hagg, sizeOf, typeInfo, hq, hs, hl]
theorem wpList_load_at {ops : Array Oper} {rest : List Oper} {op : Oper} {a : Act} {w : World} {Q : Exit → Act → World → Prop} (hgd : op.guard = none) (ty : TypeId) (x : Operand) (ho : op.op = .load ty x)
    (p : Addr) (cs : List Value) (d : TypeDesc) (hu : P.underlying ty = some d) (hd : d.isRow = true) (hi : (P.info? ty).map (·.size) = some cs.length) (hc : ∀ j v, cs[j]? = some v → w.cell? (p.add j) = some v)
    (hx : a.eval x = .pointer (some p)) (h : wpList P ops Q rest (a.put op.dst (.agg cs.toArray)) w) : wpList P ops Q (op :: rest) a w :=
  wpList_plain hgd fun _ hK => by
    unfold Oper.wp execOp
    simp only [ho, hx, Sem.run_bind, Sem.run_pure, run_loadAt_at w p ty cs d hc hu hd hi, Result.andThen_ok]
    exact hK _ _ h
/-- the same, the pointer's block a whole row -/
theorem wpList_load_whole {ops : Array Oper} {rest : List Oper} {op : Oper} {a : Act} {w : World} {Q : Exit → Act → World → Prop} (hgd : op.guard = none) (ty : TypeId) (x : Operand) (ho : op.op = .load ty x)
    (g t : Nat) (cs : List Value) (d : TypeDesc) (hu : P.underlying ty = some d) (hd : d.isRow = true) (hi : (P.info? ty).map (·.size) = some cs.length) (hr : Row w g t cs)
    (hx : a.eval x = .pointer (some ⟨g, 0, none⟩)) (h : wpList P ops Q rest (a.put op.dst (.agg cs.toArray)) w) : wpList P ops Q (op :: rest) a w :=
  wpList_load_at hgd ty x ho ⟨g, 0, none⟩ cs d hu hd hi (fun j v hv => by rw [addr_row, hr.cell]; simpa using hv) hx h
/-- a value of many cells into a block that is known whole: the world behind it, of which this is told -/
theorem run_storeAt_whole (w : World) (g ty : Nat) (c cs : List Value) (hr : Row w g ty c) (hi : (P.info? ty).map (·.size) = some cs.length) (hl : c.length = cs.length) (h1 : ∀ u ∈ cs, u.oneCell' = true) :
    (Instr.storeAt ty (.pointer (some ⟨g, 0, none⟩)) (.agg cs.toArray)).run P w = .ok () (w.setRow g cs.toArray) := by
  have := run_storeVar_row (P := P) w g ty ty c.toArray cs.toArray hr.is (by simpa using hi) (by simpa using hl) (all_oneCell_toArray h1)
  simp only [Instr.storeAt, Instr.sureAddr, Sem.run_bind, Sem.run_pure, Result.andThen_ok, this]
/-- but for block g, w' is w -/
structure Turned (w w' : World) (g : Nat) : Prop where
  os : w'.os = w.os
  tape : w'.tape = w.tape
  output : w'.output = w.output
  size : w'.heap.size = w.heap.size
  block : ∀ k, k ≠ g → w'.heap[k]? = w.heap[k]?
theorem turned_setRow (w : World) (g : Nat) (cs : Array Value) : Turned w (w.setRow g cs) g :=
  ⟨rfl, rfl, rfl, by simp, fun k hk => setRow_other w g k cs hk⟩
theorem turned_setCell (w : World) (p : Addr) (u : Value) : Turned w (w.setCell p u) p.block :=
  ⟨rfl, rfl, rfl, by simp [World.setCell], fun k hk => Below.heap_setCell _ _ _ _ hk⟩
theorem row_setRow {w : World} {g t : Nat} {c : List Value} (hr : Row w g t c) (cs : List Value) : Row (w.setRow g cs.toArray) g t cs :=
  ⟨setRow_heap w g c.toArray cs.toArray t _ hr.is⟩
theorem Turned.below {w w' : World} {g B : Nat} (h : Turned w w' g) (hB : B ≤ g) : Below B w w' :=
  ⟨h.os, h.tape, h.output, by rw [h.size]; exact Nat.le_refl _, fun k hk => h.block k (by omega)⟩
theorem Turned.row {w w' : World} {g k t : Nat} {xs : List Value} (h : Turned w w' g) (hr : Row w k t xs) (hk : k ≠ g) : Row w' k t xs := ⟨(h.block k hk).trans hr.is⟩
theorem wpList_store_whole {ops : Array Oper} {rest : List Oper} {op : Oper} {a : Act} {w : World} {Q : Exit → Act → World → Prop} (hgd : op.guard = none) (ty : TypeId) (x y : Operand) (ho : op.op = .store ty x y)
    (g : Nat) (c cs : List Value) (hr : Row w g ty c) (hi : (P.info? ty).map (·.size) = some cs.length) (hl : c.length = cs.length) (h1 : ∀ u ∈ cs, u.oneCell' = true)
    (hx : a.eval x = .pointer (some ⟨g, 0, none⟩)) (hy : a.eval y = .agg cs.toArray)
    (h : ∀ w', Row w' g ty cs → Turned w w' g → wpList P ops Q rest (a.put op.dst undef) w') : wpList P ops Q (op :: rest) a w :=
  wpList_plain hgd fun _ hK => by
    unfold Oper.wp execOp
    simp only [ho, hx, hy, Sem.run_bind, Sem.run_pure, run_storeAt_whole w g ty c cs hr hi hl h1, Result.andThen_ok]
    exact hK _ _ (h _ (row_setRow hr cs) (turned_setRow w g _))
/-- a variable that has just been made is given its value -/
theorem wpList_store_new {ops : Array Oper} {rest : List Oper} {op : Oper} {a : Act} {w0 : World} {c : Array Value} {Q : Exit → Act → World → Prop} (hgd : op.guard = none) (ty : TypeId) (x y : Operand) (ho : op.op = .store ty x y)
    (cs : List Value) (hi : (P.info? ty).map (·.size) = some cs.length) (h1 : ∀ u ∈ cs, u.oneCell' = true) (hl : c.size = cs.length)
    (hx : a.eval x = .pointer (some ⟨w0.heap.size, 0, none⟩)) (hy : a.eval y = .agg cs.toArray)
    (h : ∀ w', Row w' w0.heap.size ty cs → Below w0.heap.size w0 w' → w'.heap.size = w0.heap.size + 1 → wpList P ops Q rest (a.put op.dst undef) w') : wpList P ops Q (op :: rest) a (w0.alloc (.cells c ty)) := by
  have hr : Row (w0.alloc (.cells c ty)) w0.heap.size ty c.toList := by
    have := Row.new w0 ty c.toList
    simpa using this
  refine wpList_store_whole hgd ty x y ho w0.heap.size c.toList cs hr hi (by simpa using hl) h1 hx hy fun w' hr' ht => ?_
  exact h w' hr' (((Below.refl _ w0).alloc (Nat.le_refl _) _).trans (ht.below (Nat.le_refl _))) (by rw [ht.size]; simp)
theorem row_setCells {g t : Nat} : ∀ (cs : List Value) (w : World) (o : Nat) (c : List Value), Row w g t c → o + cs.length ≤ c.length → Row (w.setCells g o cs) g t (c.take o ++ cs ++ c.drop (o + cs.length))
  | [], w, o, c, h, _ => by simpa [World.setCells] using h
  | v :: r, w, o, c, h, hl => by
    have h1 := row_setCells r (w.setCell ⟨g, o, none⟩ v) (o + 1) (c.set o v) (h.set_ o v) (by simp at hl ⊢; omega)
    have e : (c.set o v).take (o + 1) ++ r ++ (c.set o v).drop (o + 1 + r.length) = c.take o ++ (v :: r) ++ c.drop (o + (v :: r).length) := by
      have ho : o < c.length := by simp at hl; omega
      rw [List.take_succ_eq_append_getElem (by simpa using ho), List.drop_set_of_lt (by omega), List.take_set_of_le (Nat.le_refl o)]
      simp only [List.getElem_set_self, List.append_assoc, List.cons_append, List.nil_append, List.length_cons]
      rw [show o + 1 + r.length = o + (r.length + 1) by omega]
    rw [e] at h1
    exact h1
theorem turned_setCells {g : Nat} : ∀ (cs : List Value) (w : World) (o : Nat), Turned w (w.setCells g o cs) g
  | [], w, o => ⟨rfl, rfl, rfl, rfl, fun _ _ => rfl⟩
  | v :: r, w, o => by
    have h1 := turned_setCell w ⟨g, o, none⟩ v
    have h2 := turned_setCells (g := g) r (w.setCell ⟨g, o, none⟩ v) (o + 1)
    exact ⟨h2.os.trans h1.os, h2.tape.trans h1.tape, h2.output.trans h1.output, h2.size.trans h1.size, fun k hk => (h2.block k hk).trans (h1.block k hk)⟩
end
end Go.Proofs.Ytigmaehlplldgaa

/-
  Of part Many: what is needed here.
-/
namespace Go.Proofs.Ytigmaehlplldgaa
open Go.RowKit
set_option linter.unusedVariables false
set_option maxRecDepth 100000
theorem own_below {w w' : World} {base n size : Nat} {e : TypeId} {v : Value} {xs : List Value} (h : w.ownsRow base e size v n xs) (hb : Below w.heap.size w w') : w'.ownsRow base e size v n xs := by
  refine ⟨h.1, ?_⟩
  rcases h.2 with h2 | ⟨g, cap, cur, hv, hg, hh, r⟩
  · exact .inl h2
  · exact .inr ⟨g, cap, cur, hv, hg, (hb.block g (Array.getElem?_eq_some_iff.1 hh).1).trans hh, r⟩
/-- from w, with the row v, to w', with the row v': of what was there v's block alone may have been written -/
structure Grew (w w' : World) (v v' : Value) : Prop where
  grown : w.grownBy w' v.ownBlock
  fresh : ∀ k, v'.ownBlock = some k → v.ownBlock = some k ∨ w.heap.size ≤ k
section
variable {w w' w'' : World} {v v' v'' : Value}
theorem Grew.refl (w : World) (v : Value) : Grew w w v v := ⟨World.grownBy.refl w _, fun k h => .inl h⟩
theorem Grew.size (h : Grew w w' v v') : w.heap.size ≤ w'.heap.size := h.grown.size
theorem Grew.trans (h : Grew w w' v v') (k : Grew w' w'' v' v'') : Grew w w'' v v'' :=
  ⟨⟨k.grown.os.trans h.grown.os, k.grown.tape.trans h.grown.tape, k.grown.output.trans h.grown.output, Nat.le_trans h.size k.size, fun i hi hne =>
      (k.grown.block i (Nat.lt_of_lt_of_le hi h.size) fun e => by
        rcases h.fresh i e.symm with h1 | h1
        · exact hne h1.symm
        · omega).trans (h.grown.block i hi hne)⟩,
    fun i hi => by
      rcases k.fresh i hi with h1 | h1
      · exact h.fresh i h1
      · exact .inr (Nat.le_trans h.size h1)⟩
theorem Grew.of_below (hb : Below w.heap.size w w') (v : Value) : Grew w w' v v := ⟨⟨hb.os, hb.tape, hb.output, hb.size, fun k hk _ => hb.block k hk⟩, fun k h => .inl h⟩
theorem Grew.alloc (h : Grew w w' v v') (o : Obj) : Grew w (w'.alloc o) v v' := h.trans (.of_below ((Below.refl _ _).alloc (Nat.le_refl _) o) v')
theorem Grew.row {g t : Nat} {ys : List Value} (h : Grew w w' v v') (hr : Row w g t ys) (hg : some g ≠ v.ownBlock) : Row w' g t ys := hr.grown h.grown hg
theorem Grew.below {base n size : Nat} {e : TypeId} {xs : List Value} (h : Grew w w' v v') (hown : w.ownsRow base e size v n xs) (hbase : base ≤ w.heap.size) : Below base w w' :=
  (Below.refl base w).grown h.grown hbase fun k hk => (hown.lt k hk).1
end
end Go.Proofs.Ytigmaehlplldgaa

/-
  Of part Looks: what is needed here.
-/
namespace Go.Proofs.Ytigmaehlplldgaa
open Go.RowKit
set_option linter.unusedVariables false
set_option maxRecDepth 100000
theorem size_hash : (Try.prog.info? 25).map (·.size) = some 32 := by kernel_rfl
end Go.Proofs.Ytigmaehlplldgaa

/-
  Of part PutMsg: what is needed here.
-/
namespace Go.Proofs.Ytigmaehlplldgaa
open Go.RowKit
set_option linter.unusedVariables false
set_option maxRecDepth 100000
theorem flatten_get : ∀ (l : List (List Int)) (k : Nat) (x : List Int), (∀ y ∈ l, y.length = 32) → l[k]? = some x → ∀ j, j < 32 → l.flatten[k * 32 + j]? = x[j]?
  | [], k, x, _, h, _, _ => by simp at h
  | y :: r, 0, x, hl, h, j, hj => by
    have : y = x := by simpa using h
    subst this
    have hy := hl y (by simp)
    rw [List.flatten_cons, List.getElem?_append_left (by omega)]
    simp
  | y :: r, k + 1, x, hl, h, j, hj => by
    have hy := hl y (by simp)
    rw [List.flatten_cons, List.getElem?_append_right (by omega)]
    have := flatten_get r k x (fun z hz => hl z (by simp [hz])) (by simpa using h) j hj
    rw [← this]
    congr 1
    omega
theorem flatten_len : ∀ (l : List (List Int)), (∀ y ∈ l, y.length = 32) → l.flatten.length = l.length * 32
  | [], _ => rfl
  | y :: r, h => by
    have := flatten_len r (fun z hz => h z (by simp [hz]))
    have hy := h y (by simp)
    simp only [List.flatten_cons, List.length_append, List.length_cons, this, hy]
    omega
/-- the k-th key -/
structure KeyAt (w : World) (a : Addr) (k : Nat) (x : List Int) : Prop where
  cells : ∀ j u, (bv x)[j]? = some u → w.cell? ((a.add (k * 32)).add j) = some u
  len : x.length = 32
theorem KeysIn.get {w : World} {B n : Nat} {A : Option Addr} {l : List (List Int)} (h : KeysIn w B A n l) {k : Nat} (hk : k < n) : ∃ a x, A = some a ∧ a.block < B ∧ l[k]? = some x ∧ KeyAt w a k x := by
  obtain ⟨x, hx⟩ : ∃ x, l[k]? = some x := ⟨_, List.getElem?_eq_getElem (by rw [h.len]; exact hk)⟩
  have hxl := h.each x (List.mem_of_getElem? hx)
  obtain ⟨a, u, e, hb, _, _⟩ := h.sees.at_ (k := k * 32) (by omega)
  refine ⟨a, x, e, hb, hx, fun j u hu => ?_, hxl⟩
  have hj : j < 32 := by have := (List.getElem?_eq_some_iff.1 hu).1; rw [bv_length] at this; omega
  rw [bv_getElem?, ← flatten_get l k x h.each hx j hj, ← bv_getElem?] at hu
  obtain ⟨a', e', _, hc⟩ := h.sees.cell _ u hu
  rw [e] at e'
  cases e'
  rw [addr_add]
  exact hc
theorem KeyAt.keep {w w' : World} {B k : Nat} {a : Addr} {x : List Int} (h : KeyAt w a k x) (ha : a.block < B) (hk : ∀ p : Addr, p.block < B → w'.cell? p = w.cell? p) : KeyAt w' a k x :=
  ⟨fun j u hu => (hk _ (by rw [addr_block, addr_block]; exact ha)).trans (h.cells j u hu), h.len⟩
end Go.Proofs.Ytigmaehlplldgaa

/-
  Of part IsIn: what is needed here.
-/
namespace Go.Proofs.Ytigmaehlplldgaa
open Go.RowKit
set_option linter.unusedVariables false
set_option maxRecDepth 100000
theorem flatten_at {α : Type} (size : Nat) : ∀ (l : List (List α)) (k : Nat) (x : List α), (∀ (i : Nat) y, l[i]? = some y → y.length = size) → l[k]? = some x → ∀ j u, x[j]? = some u → l.flatten[k * size + j]? = some u
  | [], k, x, _, h, _, _, _ => by simp at h
  | y :: r, 0, x, hl, h, j, u, hu => by
    have : y = x := by simpa using h
    subst this
    have hj := (List.getElem?_eq_some_iff.1 hu).1
    rw [List.flatten_cons, List.getElem?_append_left (by simpa using hj)]
    simpa using hu
  | y :: r, k + 1, x, hl, h, j, u, hu => by
    have hy := hl 0 y (by simp)
    rw [List.flatten_cons, List.getElem?_append_right (by rw [hy, Nat.add_mul]; omega)]
    have := flatten_at size r k x (fun i z hz => hl (i + 1) z (by simpa using hz)) (by simpa using h) j u hu
    rw [← this]
    congr 1
    rw [hy, Nat.add_mul]
    omega
end Go.Proofs.Ytigmaehlplldgaa

/-
  Of part Ring12: what is needed here.
-/
namespace Go.Proofs.Ytigmaehlplldgaa
open Go.RowKit
set_option linter.unusedVariables false
set_option maxRecDepth 100000
/-- places H, the next one nx, mn of them taken: they show L, the newest first -/
structure Ring (H : List (List Int)) (nx mn : Nat) (L : List (List Int)) : Prop where
  len : H.length = 150
  h32 : ∀ h ∈ H, h.length = 32
  lt : nx < 150
  many : L.length = mn
  q : Q12 L
  at_ : ∀ i, i < mn → L[i]? = H[(nx + 149 - i) % 150]?
def noughts12 : List (List Int) := List.replicate 150 (List.replicate 32 0)
theorem ring_new : Ring noughts12 0 0 [] := ⟨rfl, fun h hh => by rw [List.eq_of_mem_replicate hh]; rfl, by omega, rfl, q12_nil, fun i hi => by omega⟩
section
variable {H L : List (List Int)} {nx mn : Nat} {h : List Int}
theorem Ring.le (r : Ring H nx mn L) : mn ≤ 150 := by have := r.q.few; have := r.many; omega
theorem Ring.h32L (r : Ring H nx mn L) : ∀ y ∈ L, y.length = 32 := fun y hy => by
  obtain ⟨i, hi⟩ := List.getElem?_of_mem hy
  have hl := (List.getElem?_eq_some_iff.1 hi).1
  rw [r.at_ i (by rw [← r.many]; exact hl)] at hi
  exact r.h32 y (List.mem_of_getElem? hi)
theorem Ring.push (r : Ring H nx mn L) (hl : h.length = 32) (hm : h ∉ L) : Ring (H.set nx h) ((nx + 1) % 150) (min 150 (mn + 1)) (push12 L h) := by
  have hlen := r.len
  have hnx := r.lt
  have hmn := r.le
  have hmany := r.many
  refine ⟨by rw [List.length_set, hlen], fun y hy => ?_, Nat.mod_lt _ (by omega), by rw [push12_len hm, hmany], r.q.push h, fun i hi => ?_⟩
  · rcases List.mem_or_eq_of_mem_set hy with hy | rfl
    · exact r.h32 y hy
    · exact hl
  · rw [push12_new hm, List.getElem?_take, if_pos (by omega)]
    cases i with
    | zero =>
      have e : ((nx + 1) % 150 + 149 - 0) % 150 = nx := by omega
      rw [e, List.getElem?_set_self (by omega)]
      rfl
    | succ i =>
      have e : ((nx + 1) % 150 + 149 - (i + 1)) % 150 = (nx + 149 - i) % 150 := by omega
      have e2 : nx ≠ (nx + 149 - i) % 150 := by omega
      rw [e, List.getElem?_set_ne e2, ← r.at_ i (by omega), List.getElem?_cons_succ]
theorem Ring.push_room (r : Ring H nx mn L) (hl : h.length = 32) (hm : h ∉ L) (hr : mn < 150) : Ring (H.set nx h) ((nx + 1) % 150) (mn + 1) (push12 L h) := by
  have := r.push hl hm
  rwa [show min 150 (mn + 1) = mn + 1 by omega] at this
theorem Ring.push_full (r : Ring H nx mn L) (hl : h.length = 32) (hm : h ∉ L) (hr : mn = 150) : Ring (H.set nx h) ((nx + 1) % 150) mn (push12 L h) := by
  have := r.push hl hm
  rwa [show min 150 (mn + 1) = mn by omega] at this
theorem Ring.oldest (r : Ring H nx mn L) (hr : mn = 150) : L[149]? = H[nx]? := by
  have := r.at_ 149 (by omega)
  rwa [show (nx + 149 - 149) % 150 = nx by have := r.lt; omega] at this
end
/-- a queue's cells -/
def qcells (H : List (List Int)) (nx mn : Nat) (md : Bool) : List Value := bv H.flatten ++ [.int .i64 nx, .int .i64 mn, .bool md]
section
variable {H : List (List Int)} {nx mn : Nat} {md : Bool}
theorem flat150 (hl : H.length = 150) (h32 : ∀ h ∈ H, h.length = 32) : (bv H.flatten).length = 4800 := by rw [bv_length, flatten_len H h32, hl]
theorem qcells_len (hl : H.length = 150) (h32 : ∀ h ∈ H, h.length = 32) : (qcells H nx mn md).length = 4803 := by
  unfold qcells
  rw [List.length_append, flat150 hl h32]
  rfl
theorem qcells_nx (hl : H.length = 150) (h32 : ∀ h ∈ H, h.length = 32) : (qcells H nx mn md)[4800]? = some (.int .i64 nx) := by
  unfold qcells
  rw [List.getElem?_append_right (by rw [flat150 hl h32]; exact Nat.le_refl _), flat150 hl h32]
  rfl
theorem qcells_mn (hl : H.length = 150) (h32 : ∀ h ∈ H, h.length = 32) : (qcells H nx mn md)[4801]? = some (.int .i64 mn) := by
  unfold qcells
  rw [List.getElem?_append_right (by rw [flat150 hl h32]; omega), flat150 hl h32]
  rfl
theorem qcells_md (hl : H.length = 150) (h32 : ∀ h ∈ H, h.length = 32) : (qcells H nx mn md)[4802]? = some (.bool md) := by
  unfold qcells
  rw [List.getElem?_append_right (by rw [flat150 hl h32]; omega), flat150 hl h32]
  rfl
theorem qcells_one : ∀ u ∈ qcells H nx mn md, u.oneCell' = true := fun u hu => by
  rcases List.mem_append.1 hu with hu | hu
  · exact bv_one _ _ hu
  · simp only [List.mem_cons, List.not_mem_nil, or_false] at hu
    rcases hu with rfl | rfl | rfl <;> rfl
theorem qcells_at (h32 : ∀ h ∈ H, h.length = 32) {k : Nat} {h : List Int} (hk : H[k]? = some h) {j : Nat} {u : Value} (hu : (bv h)[j]? = some u) : (qcells H nx mn md)[k * 32 + j]? = some u := by
  rw [bv_getElem?] at hu
  cases hz : h[j]? with
  | none => rw [hz] at hu; cases hu
  | some z =>
    rw [hz] at hu
    have := flatten_at 32 H k h (fun i y hy => h32 y (List.mem_of_getElem? hy)) hk j z hz
    unfold qcells
    rw [List.getElem?_append_left (by rw [bv_length]; exact (List.getElem?_eq_some_iff.1 this).1), bv_getElem?, this]
    exact hu
/-- a hash is stored -/
theorem qcells_set (h32 : ∀ h ∈ H, h.length = 32) {s : List Int} (hs : s.length = 32) {i : Nat} (hi : i < H.length) :
    (qcells H nx mn md).take (i * 32) ++ bv s ++ (qcells H nx mn md).drop (i * 32 + 32) = qcells (H.set i s) nx mn md := by
  have e1 : H = H.take i ++ H[i] :: H.drop (i + 1) := by rw [List.getElem_cons_drop, List.take_append_drop]
  have ht : (H.take i).flatten.length = i * 32 := by
    rw [flatten_len _ (fun y hy => h32 y (List.mem_of_mem_take hy)), List.length_take, Nat.min_eq_left (by omega)]
  have hx : (H[i]).length = 32 := h32 _ (List.getElem_mem _)
  have e2 : qcells H nx mn md = bv (H.take i).flatten ++ (bv H[i] ++ (bv (H.drop (i + 1)).flatten ++ [.int .i64 nx, .int .i64 mn, .bool md])) := by
    unfold qcells
    conv => lhs; rw [e1]
    rw [List.flatten_append, List.flatten_cons, bv_append, bv_append]
    simp only [List.append_assoc]
  have e3 : (H.set i s).flatten = (H.take i).flatten ++ (s ++ (H.drop (i + 1)).flatten) := by
    rw [List.set_eq_take_append_cons_drop, if_pos hi, List.flatten_append, List.flatten_cons]
  rw [e2]
  unfold qcells
  rw [e3, bv_append, bv_append, List.take_left' (by rw [bv_length, ht])]
  have e4 : (bv (H.take i).flatten ++ (bv H[i] ++ (bv (H.drop (i + 1)).flatten ++ [Value.int .i64 nx, .int .i64 mn, .bool md]))).drop (i * 32 + 32) = bv (H.drop (i + 1)).flatten ++ [Value.int .i64 nx, .int .i64 mn, .bool md] := by
    rw [← List.append_assoc, List.drop_left' (by rw [List.length_append, bv_length, bv_length, ht, hx])]
  rw [e4]
  simp only [List.append_assoc]
theorem qcells_setNx (hl : H.length = 150) (h32 : ∀ h ∈ H, h.length = 32) (n : Nat) : (qcells H nx mn md).set 4800 (.int .i64 n) = qcells H n mn md := by
  unfold qcells
  rw [List.set_append_right _ _ (by rw [flat150 hl h32]; exact Nat.le_refl _), flat150 hl h32]
  rfl
theorem qcells_setMn (hl : H.length = 150) (h32 : ∀ h ∈ H, h.length = 32) (n : Nat) : (qcells H nx mn md).set 4801 (.int .i64 n) = qcells H nx n md := by
  unfold qcells
  rw [List.set_append_right _ _ (by rw [flat150 hl h32]; omega), flat150 hl h32]
  rfl
end
/-- a queue in a block of its own -/
structure QIn (w : World) (rb : Nat) (L : List (List Int)) : Prop where
  is : ∃ H nx mn, Row w rb 43 (qcells H nx mn true) ∧ Ring H nx mn L
theorem QIn.lt {w : World} {rb : Nat} {L : List (List Int)} (h : QIn w rb L) : rb < w.heap.size := by
  obtain ⟨H, nx, mn, h1, _⟩ := h.is
  exact h1.lt
theorem QIn.q {w : World} {rb : Nat} {L : List (List Int)} (h : QIn w rb L) : Q12 L := by
  obtain ⟨H, nx, mn, _, h2⟩ := h.is
  exact h2.q
theorem QIn.keep {w w' : World} {rb : Nat} {L : List (List Int)} (h : QIn w rb L) (hk : w'.heap[rb]? = w.heap[rb]?) : QIn w' rb L := by
  obtain ⟨H, nx, mn, h1, h2⟩ := h.is
  exact ⟨H, nx, mn, ⟨hk.trans h1.is⟩, h2⟩
theorem QIn.below {w w' : World} {rb : Nat} {L : List (List Int)} (h : QIn w rb L) (hb : Below w.heap.size w w') : QIn w' rb L := h.keep (hb.block rb h.lt)
/-- how many are newer -/
def ageN (L : List (List Int)) (h : List Int) : Nat := (age12 L h).getD 0
theorem ageN_none {L : List (List Int)} {h : List Int} (hm : h ∉ L) : ageN L h = 0 := by unfold ageN; rw [age12_none.2 hm]; rfl
theorem ageN_at {L : List (List Int)} {h : List Int} (q : Q12 L) {i : Nat} (hi : L[i]? = some h) : ageN L h = i := by
  unfold ageN
  rw [age12_at q hi]
  rfl
end Go.Proofs.Ytigmaehlplldgaa

/-
  Of part GetMsg: what is needed here.
-/
namespace Go.Proofs.Ytigmaehlplldgaa
open Go.RowKit
set_option linter.unusedVariables false
set_option maxRecDepth 100000
/-- 'wpAnyH_take', the operations a list: the operation comes out written out -/
theorem takeL {P : Program} {L : List Oper} {Q : Exit → Act → World → Prop} {md : Region.Mode} {S : World → Prop} {i : Nat} {oi : Oper} {v : Value} {fuel : Nat} {listed : Array Bool} {a : Act} {w : World} (hi : L[i]? = some oi)
    (hs : Region.noSelect L.toArray = true) (hf : Region.free md L.toArray listed i = true) (hr : (Region.ready md L.toArray listed).contains i = true)
    (hQ : ∀ c a w, Q (.panic c) (a.put oi.dst v) w → Q (.panic c) a w) (hy : YieldsIf P L.toArray S oi v a) (hS : S w)
    (h : wpAnyH P md L.toArray Q S fuel (listed.setIfInBounds i true) (a.put oi.dst v) w) : wpAnyH P md L.toArray Q S (fuel + 1) listed a w :=
  wpAnyH_take (by simpa using hi) hs hf hr hQ hy hS h
/-- 'AllReadyH.cons', likewise, for one operation -/
theorem readyL {P : Program} {L : List Oper} {Q : Exit → Act → World → Prop} {md : Region.Mode} {S : World → Prop} {i : Nat} {o : Oper} {fuel : Nat} {listed : Array Bool} {a : Act} {w : World} (ho : L[i]? = some o) (hr : Region.ready md L.toArray listed = [i])
    (hw : Region.wanted o (yielded L.toArray a.tmps) = true)
    (h : ∀ K' : Act → World → Prop, Shut (∀ a w, S w → wpAnyH P md L.toArray Q S fuel (listed.setIfInBounds i true) a w → K' a w) → Oper.wp P o a w K' Q) : wpAnyH P md L.toArray Q S (fuel + 1) listed a w :=
  wpAnyH_ready hr (by simp) (AllReadyH.cons (by simpa using ho) (fun K hK => by
    rw [if_pos hw]
    exact h K (fun a w hS hW => hK a w hS fun _ => hW)) AllReadyH.nil)
end Go.Proofs.Ytigmaehlplldgaa

/-
  Of part SameMsg: what is needed here.
-/
namespace Go.Proofs.Ytigmaehlplldgaa
open Go.RowKit
set_option linter.unusedVariables false
set_option maxRecDepth 100000
section
variable {P : Program} {ops : Array Oper} {C : World → Prop} {Q : Act → Prop} {a : Act} {o : Oper} {rest : List Oper}
/-- a value of many cells, read in a region that only reads -/
theorem quiet_load_at (hw : Region.wanted o (yielded ops a.tmps) = true) (ty : TypeId) (x : Operand) (ho : o.op = .load ty x)
    (p : Addr) (cs : List Value) (d : TypeDesc) (hu : P.underlying ty = some d) (hd : d.isRow = true) (hi : (P.info? ty).map (·.size) = some cs.length) (hc : ∀ w, C w → ∀ j v, cs[j]? = some v → w.cell? (p.add j) = some v)
    (hx : a.eval x = .pointer (some p)) (h : wpQuiet P ops C Q rest (a.put o.dst (.agg cs.toArray))) : wpQuiet P ops C Q (o :: rest) a :=
  BigFrame.wpQuiet_want hw fun K hK => ⟨_, fun w hC => by
    unfold Oper.quietAt execOp
    simp only [ho, hx, Sem.run_bind, Sem.run_pure, run_loadAt_at w p ty cs d (hc w hC) hu hd hi, Result.andThen_ok]
    exact ⟨rfl, rfl⟩, hK _ h⟩
end
theorem plainU8 : Try.prog.plainKey 5 = true := by kernel_rfl
theorem infoU8 : ∃ i, Try.prog.info? 5 = some i := by
  obtain ⟨i, h, _⟩ := info_parts info_u8
  exact ⟨i, h⟩
theorem cellsOfU8 : Try.prog.cellsOf 5 = 1 := by kernel_rfl
end Go.Proofs.Ytigmaehlplldgaa

/-
  Of part CameIn: what is needed here.
-/
namespace Go.Proofs.Ytigmaehlplldgaa
open Go.RowKit
set_option linter.unusedVariables false
set_option maxRecDepth 100000
/-- a slice that came in reads as the numbers zs, each fitting its kind -/
structure CameIn (k : IntKind) (w : World) (A : Option Addr) (n c : Nat) (zs : List Int) : Prop where
  sees : Sees w w.heap.size A n (cv k zs)
  cap : n ≤ c
  max : c ≤ maxLen
  wf : ∀ z ∈ zs, (Lit.int k z).wf = true
theorem CameIn.nil (k : IntKind) (w : World) : CameIn k w none 0 0 [] := ⟨Sees.nil _ _ _, Nat.le_refl _, Nat.zero_le _, by simp⟩
theorem CameIn.of {k : IntKind} {w : World} {x : Addr} {l c : Nat} {zs : List Int} (hl : l ≤ c) (hm : c ≤ maxLen) (hz : zs.length = c)
    (hcell : ∀ i, i < zs.length → w.cell? (x.add i) = some (.int k (zs.getD i 0))) (hw : ∀ z ∈ zs, (Lit.int k z).wf = true) : CameIn k w (some x) l c (zs.take l) :=
  ⟨⟨by simp [cv]; omega, fun i u hu => by
    have hi : i < l ∧ i < zs.length := by
      have := (List.getElem?_eq_some_iff.1 hu).1
      simp [cv] at this
      omega
    have hc := hcell i hi.2
    have hu' : u = .int k (zs.getD i 0) := by
      simp [cv, hi.1, hi.2] at hu
      rw [List.getD_eq_getElem?_getD, List.getElem?_eq_getElem hi.2]
      exact hu.symm
    refine ⟨x, rfl, ?_, by rw [hu']; exact hc⟩
    have := World.block_lt_of_cell? w _ hc
    rwa [addr_block] at this⟩, hl, hm, fun z hz => hw z (List.mem_of_mem_take hz)⟩
open Go.ChangeShapes Go.WideShapes in
/-- an array of integers that came in by value -/
theorem open_int_array {H : Type} {enc : TypeId × Value → H} {P : Program} {w : World} {base : Nat} {sp : Nat → Bool} {held : Bool} {r : Reach} {b0 t e n : Nat} {q : IntKind} {v : Value} {d : DataW H} {p : List MemPlace}
    (ht : P.underlying t = some (.array n e)) (he : P.underlying e = some (.int q)) (hce : P.cellsOf e = 1) (hct : P.cellsOf t = n)
    (hv : Value.okWide P w r b0 t v) (h : DataW.Trod enc P w base sp held t v d p) : ∃ zs : List Int, v = .agg (cv q zs).toArray ∧ zs.length = n ∧ ∀ z ∈ zs, (Lit.int q z).wf = true := by
  simp only [Value.okWide, ht] at hv
  obtain ⟨cs, rfl, h2, _⟩ := hv
  obtain ⟨fuel, hf⟩ := h
  obtain ⟨xs, m, _, _, hl, hxs, hat⟩ := DataW.trod_array ht hf
  have each : ∀ i (hi : i < n), ∃ z, cs.toList[i]? = some (.int q z) ∧ (Lit.int q z).wf = true := by
    intro i hi
    have h1 := hat i hi
    have hx : xs[i]? = some xs[i] := List.getElem?_eq_getElem (by omega)
    rw [hce, hx] at h1
    obtain ⟨z, hz, _, hw⟩ := DataW.trod_int he h1
    refine ⟨z, ?_, hw⟩
    have := congrArg List.head? hz
    simpa [Value.cells, List.head?_take] using this
  have hcs : cs.toList.length = n := by rw [hct] at h2; simpa using h2
  refine ⟨cs.toList.map fun v => match v with | .int _ z => z | _ => 0, ?_, by simpa using hcs, ?_⟩
  · congr 1
    apply Array.ext_getElem?
    intro i
    by_cases hi : i < n
    · obtain ⟨z, hz, _⟩ := each i hi
      have hz' : cs[i]? = some (.int q z) := by simpa using hz
      simp [cv, hz']
    · have e1 : cs[i]? = none := Array.getElem?_eq_none (by simp at hcs; omega)
      simp [cv, e1]
  · intro z hz
    simp only [List.mem_map] at hz
    obtain ⟨u, hu, rfl⟩ := hz
    obtain ⟨i, hi, he⟩ := List.getElem_of_mem hu
    obtain ⟨z, hz, hw⟩ := each i (by omega)
    rw [List.getElem?_eq_getElem hi, he] at hz
    cases hz
    exact hw
end Go.Proofs.Ytigmaehlplldgaa

/-
  Of part KeyEq: what is needed here.
-/
namespace Go.Proofs.Ytigmaehlplldgaa
open Go.RowKit
set_option linter.unusedVariables false
set_option maxRecDepth 100000
def same32 (x y : List Int) (is : List Nat) : Bool := is.all fun i => x.getD i 0 == y.getD i 0
theorem eqItems_any (x y : List Int) (w : World) : ∀ (is : List Nat), (∀ i ∈ is, i < x.length ∧ i < y.length) → (Op.eqItems 9999 5 1 (bv x).toArray (bv y).toArray is).run Try.prog w = .ok (same32 x y is) w
  | [], _ => by simp [Op.eqItems, same32]
  | i :: is, h => by
    have hi := h i (by simp)
    have hc : (bv x).toArray[i]? = some (.int .u8 (x.getD i 0)) := by
      rw [List.getElem?_toArray]
      exact bv_at hi.1
    have hd : (bv y).toArray[i]? = some (.int .u8 (y.getD i 0)) := by
      rw [List.getElem?_toArray]
      exact bv_at hi.2
    have p := run_part_plain (P := Try.prog) w plainU8 (xs := (bv x).toArray) (off := i) hc
    have p2 := run_part_plain (P := Try.prog) w plainU8 (xs := (bv y).toArray) (off := i) hd
    have ih := eqItems_any x y w is fun k hk => h k (by simp [hk])
    simp only [Op.eqItems, Nat.mul_one, Sem.run_bind, p, p2, Result.andThen_ok, run_equalIn_int w 9998 5 .u8 .u8 _ _ Try.underlying5]
    cases hb : (x.getD i 0 == y.getD i 0)
    · have : same32 x y (i :: is) = false := by simp only [same32, List.all_cons, hb, Bool.false_and]
      rw [this]
      simp
    · have : same32 x y (i :: is) = same32 x y is := by simp only [same32, List.all_cons, hb, Bool.true_and]
      rw [this]
      simpa using ih
theorem same32_iff {x y : List Int} {n : Nat} (hx : x.length = n) (hy : y.length = n) : same32 x y (List.range n) = decide (x = y) := by
  rw [Bool.eq_iff_iff, decide_eq_true_iff]
  unfold same32
  rw [List.all_eq_true]
  constructor
  · intro h
    refine List.ext_getElem (by omega) fun i h1 h2 => ?_
    have := h i (by simp; omega)
    rw [beq_iff_eq, List.getD_eq_getElem?_getD, List.getD_eq_getElem?_getD, List.getElem?_eq_getElem h1, List.getElem?_eq_getElem h2] at this
    exact this
  · rintro rfl i _
    simp
end Go.Proofs.Ytigmaehlplldgaa

/-
  Of part RefAt: what is needed here.
-/
namespace Go.Proofs.Ytigmaehlplldgaa
open Go.RowKit
set_option linter.unusedVariables false
set_option maxRecDepth 100000
/-- two that may come up -/
theorem readyL2 {P : Program} {L : List Oper} {Q : Exit → Act → World → Prop} {md : Region.Mode} {S : World → Prop} {i j : Nat} {o o' : Oper} {fuel : Nat} {listed : Array Bool} {a : Act} {w : World} (ho : L[i]? = some o) (ho' : L[j]? = some o') (hr : Region.ready md L.toArray listed = [i, j])
    (hw : Region.wanted o (yielded L.toArray a.tmps) = true) (hw' : Region.wanted o' (yielded L.toArray a.tmps) = true)
    (h : ∀ K' : Act → World → Prop, Shut (∀ a w, S w → wpAnyH P md L.toArray Q S fuel (listed.setIfInBounds i true) a w → K' a w) → Oper.wp P o a w K' Q)
    (h' : ∀ K' : Act → World → Prop, Shut (∀ a w, S w → wpAnyH P md L.toArray Q S fuel (listed.setIfInBounds j true) a w → K' a w) → Oper.wp P o' a w K' Q) : wpAnyH P md L.toArray Q S (fuel + 1) listed a w :=
  wpAnyH_ready hr (by simp) (AllReadyH.cons (by simpa using ho) (fun K hK => by
    rw [if_pos hw]
    exact h K (fun a w hS hW => hK a w hS fun _ => hW)) (AllReadyH.cons (by simpa using ho') (fun K hK => by
    rw [if_pos hw']
    exact h' K (fun a w hS hW => hK a w hS fun _ => hW)) AllReadyH.nil))
section
variable {P : Program}
/-- 'wpList_buildOne' as one step -/
theorem wp_buildOne {o : Oper} {a : Act} {w : World} {K : Act → World → Prop} {Q : Exit → Act → World → Prop} (t e : TypeId) (y : Operand) (ho : o.op = .buildSlice t 1 #[(0, y)])
    (cs : List Value) (z : Value) (size bytes : Nat) (hu : P.underlying t = some (.slice e)) (hi : (P.info? e).map (fun i => (i.zero, i.size, i.bytes)) = some (some z, size, bytes)) (hzs : z.cells.size = size) (hs0 : 0 < size) (hs1 : size ≤ 1000)
    (hcs : cs.length = size) (hy : a.eval y = .agg cs.toArray)
    (h : K (a.put o.dst (.slice (some ⟨w.heap.size, 0, none⟩) 1 1)) (w.alloc (.cells cs.toArray e))) : o.wp P a w K Q := by
  obtain ⟨ie, hie, h1, h2, _⟩ := info_parts hi
  subst h2
  refine wp_buildSlice t e 1 _ ho cs.toArray ie z hu hie h1 (by omega) (by omega) ?_ h
  have := Go.Great.fill_whole (s := ie.size) hs0 [Value.agg cs.toArray] ((Array.range (1 * ie.size)).map (z.cells[· % z.cells.size]!)) (by simp [Value.cells, hcs]) (by simp)
  simpa [hy, Value.cells] using this
end
end Go.Proofs.Ytigmaehlplldgaa

/-
  Of part BookK: what is needed here.
-/
namespace Go.Proofs.Ytigmaehlplldgaa
open Go.RowKit
set_option linter.unusedVariables false
set_option maxRecDepth 100000
theorem wp_built {o : Oper} {a : Act} {w : World} {K : Act → World → Prop} {Q : Exit → Act → World → Prop} (t : TypeId) (parts : Array (Nat × Operand)) (cells : Array Value) (ho : o.op = .build t parts)
    (h : Try.prog.built t (parts.map fun (i, x) => (i, a.eval x)).toList = some cells) (hK : K (a.put o.dst (.agg cells)) w) : o.wp Try.prog a w K Q :=
  wp_build t parts ho (by rw [h]; rfl) (by rw [h]; exact hK)
end Go.Proofs.Ytigmaehlplldgaa

/-
  Of part TxMsg: what is needed here.
-/
namespace Go.Proofs.Ytigmaehlplldgaa
open Go.RowKit
set_option linter.unusedVariables false
set_option maxRecDepth 100000
theorem wp_store_part {P : Program} {op : Oper} {a : Act} {w : World} {K : Act → World → Prop} {Q : Exit → Act → World → Prop} (ty : TypeId) (x y : Operand) (ho : op.op = .store ty x y)
    (g t o : Nat) (c cs : List Value) (hr : Row w g t c) (hi : (P.info? ty).map (·.size) = some cs.length) (hl : o + cs.length ≤ c.length) (h1 : ∀ u ∈ cs, u.oneCell' = true)
    (hx : a.eval x = .pointer (some ⟨g, o, none⟩)) (hy : a.eval y = .agg cs.toArray)
    (h : ∀ w', Row w' g t (c.take o ++ cs ++ c.drop (o + cs.length)) → Turned w w' g → K (a.put op.dst undef) w') : op.wp P a w K Q :=
  wp_store_mid ty x y ho g o cs.toArray hx hy (fun j hj => ⟨by
      have hj' : j < cs.length := by simpa using hj
      rw [hr.cell, List.getElem?_eq_getElem (by omega)]; rfl, hr.frozen _⟩) (by simpa using hi) (all_oneCell_toArray h1)
    (h _ (by simpa using row_setCells cs w o c hr hl) (turned_setCells cs w o))
end Go.Proofs.Ytigmaehlplldgaa

/-
  Of part GetTx: what is needed here.
-/
namespace Go.Proofs.Ytigmaehlplldgaa
open Go.RowKit
set_option linter.unusedVariables false
set_option maxRecDepth 100000
section
variable {P : Program}
theorem results_cell2 {fn : Func} {p0 p1 p2 : Tmp} {t0 : TypeId} (h : fn.results = #[.cell p0 t0, .tmp p1, .tmp p2]) (tmps : Array Value) (w : World) (a0 : Addr) (v0 v1 v2 : Value)
    (h0 : tmps.getD p0 undef = .pointer (some a0)) (h1 : tmps.getD p1 undef = v1) (h2 : tmps.getD p2 undef = v2)
    (l0 : (loadVar t0 a0).run P w = .ok v0 w) :
    (results fn tmps).run P w = .ok (.tuple #[v0, v1, v2]) w := by
  have h0' : tmps[p0]?.getD undef = .pointer (some a0) := by simpa using h0
  have h1' : tmps[p1]?.getD undef = v1 := by simpa using h1
  have h2' : tmps[p2]?.getD undef = v2 := by simpa using h2
  simp [results, h, h0', h1', h2', asAddr, l0]
end
end Go.Proofs.Ytigmaehlplldgaa

/-
  Of part Hash12: what is needed here.
-/
namespace Go.Proofs.Ytigmaehlplldgaa
open Go.RowKit
set_option linter.unusedVariables false
set_option maxRecDepth 100000
/-- hash of a number -/
def hashL (n : Int) : List Int := (n % 256) :: (n / 256) :: 1 :: List.replicate 29 0
theorem hashL_len (n : Int) : (hashL n).length = 32 := rfl
theorem hashL_inj {n m : Int} (h : hashL n = hashL m) : n = m := by
  unfold hashL at h
  injection h with h1 h
  injection h with h2 _
  omega
theorem size_hash' {z : List Int} (hz : z.length = 32) : (Try.prog.info? 25).map (·.size) = some (bv z).length := by rw [size_hash, bv_length, hz]
theorem hash_eql {x y : List Int} (hx : x.length = 32) (hy : y.length = 32) (w : World) :
    (binOp .eql 25 (.agg (bv x).toArray) (.agg (bv y).toArray)).run Try.prog w = .ok (.bool (decide (x = y))) w := by
  obtain ⟨i, hi⟩ := infoU8
  rw [run_eql_struct, show (10000 : Nat) = 9999 + 1 from rfl, run_equalIn_array w 9999 _ _ Try.underlying25 hi, cellsOfU8, eqItems_any x y w _ (fun i hi => by simp at hi; omega), same32_iff hx hy]
  rfl
theorem hash_neq {x y : List Int} (hx : x.length = 32) (hy : y.length = 32) (w : World) :
    (binOp .neq 25 (.agg (bv x).toArray) (.agg (bv y).toArray)).run Try.prog w = .ok (.bool (!decide (x = y))) w := by
  obtain ⟨i, hi⟩ := infoU8
  rw [run_neq_struct, show (10000 : Nat) = 9999 + 1 from rfl, run_equalIn_array w 9999 _ _ Try.underlying25 hi, cellsOfU8, eqItems_any x y w _ (fun i hi => by simp at hi; omega), same32_iff hx hy]
  rfl
theorem built_hash3 (n : Int) : Try.prog.built 25 [(0, .int .u8 (n % 256)), (1, .int .u8 (n / 256)), (2, .int .u8 1)] = some (bv (hashL n)).toArray := by kernel_rfl
def zero12 : List Int := List.replicate 32 0
theorem built_hash0 : Try.prog.built 25 [] = some (bv zero12).toArray := by kernel_rfl
set_option maxHeartbeats 1000000 in
theorem before_ (a : Nat) (w : World) (h : a < 150) : Calls Try.prog 16 #[.int .i64 a] w fun e w' => e = .returned (.int .i64 (((a + 149) % 150 : Nat) : Int)) ∧ w = w' := by
  have h' : (a : Int) < 150 := by omega
  go_enter Try.func16, Try.ntmps16
  go_wp2
  go_ret
  have e : ((a : Int) + 150 - 1) % 150 = (((a + 149) % 150 : Nat) : Int) := by omega
  exact ⟨by rw [← e]; rfl, rfl⟩
set_option maxHeartbeats 1000000 in
theorem hash_ (n : Int) (w : World) (h0 : 0 ≤ n) (h1 : n < 65536) : Calls Try.prog 10 #[.int .u16 n] w fun e w' => e = .returned (.agg (bv (hashL n)).toArray) ∧ Below w.heap.size w w' := by
  have HSZ := Lib.hid (size_hash' (hashL_len n))
  go_enter Try.func10, Try.ntmps10
  go_wp2_with (first
    | ((with_reducible show wpList _ _ _ ({ dst := some 8, op := Op.build _ _, type := _, pos := _, after := _, guard := _ } :: _) _ _); go_must (refine wpList_plain rfl fun K hK => wp_built _ _ _ rfl (by simp only [List.map_toArray, List.map_cons, List.map_nil]; exact built_hash3 _) (hK _ _ ?_)))
    | ((with_reducible show wpList _ _ _ ({ dst := none, op := Op.store 25 _ _, type := _, pos := _, after := _, guard := _ } :: _) _ _); go_must (refine wpList_store_new rfl 25 (.tmp 2) (.tmp 8) rfl (bv (hashL n)) HSZ.out (bv_one _) rfl ?_ ?_ ?_; go_simp; go_simp; intro w1 hr1 hb1 hz1; have HR1 := Lib.hid hr1; have HB1 := Lib.hid hb1; clear hr1 hb1 hz1)))
  refine bodyPost_ret (results_cell_row (h := rfl) _ w1 w.heap.size 25 _ (0, 0) _ (by rfl) HR1.out.is Try.underlying25 rfl (size_hash' (hashL_len n))) rfl ?_
  exact ⟨rfl, HB1.out⟩
end Go.Proofs.Ytigmaehlplldgaa

/-
  Of part Rec12: what is needed here.
-/
namespace Go.Proofs.Ytigmaehlplldgaa
open Go.RowKit
set_option linter.unusedVariables false
set_option maxRecDepth 100000
/-- a variable of many cells is made -/
theorem wp_alloc_zero {P : Program} {o : Oper} {a : Act} {w : World} {K : Act → World → Prop} {Q : Exit → Act → World → Prop} (t : TypeId) (ho : o.op = .alloc t) (z : List Value)
    (hi : (P.info? t).map (·.zero) = some (some (.agg z.toArray))) (h : K (a.put o.dst (.pointer (some ⟨w.heap.size, 0, none⟩))) (w.alloc (.cells z.toArray t))) : o.wp P a w K Q := by
  cases hq : P.info? t with
  | none => simp [hq] at hi
  | some i =>
    have hz : i.zero = some (.agg z.toArray) := by simpa [hq] using hi
    unfold Oper.wp execOp
    simp [ho, Instr.alloc, zeroValue, typeInfo, hq, hz, newVar, newRow, Value.cells]
    exact h
theorem wpList_alloc_zero {P : Program} {ops : Array Oper} {rest : List Oper} {o : Oper} {a : Act} {w : World} {Q : Exit → Act → World → Prop} (hg : o.guard = none) (t : TypeId) (ho : o.op = .alloc t) (z : List Value)
    (hi : (P.info? t).map (·.zero) = some (some (.agg z.toArray))) (h : wpList P ops Q rest (a.put o.dst (.pointer (some ⟨w.heap.size, 0, none⟩))) (w.alloc (.cells z.toArray t))) : wpList P ops Q (o :: rest) a w :=
  wpList_plain hg fun K hK => wp_alloc_zero t ho z hi (hK _ _ h)
/-- a value of many cells is put into a block of its own -/
theorem wpList_box_new {P : Program} {ops : Array Oper} {rest : List Oper} {o : Oper} {a : Act} {w : World} {Q : Exit → Act → World → Prop} (hg : o.guard = none) (t : TypeId) (x : Operand) (ho : o.op = .box t x) (z : List Value)
    (hx : a.eval x = .agg z.toArray) (h : wpList P ops Q rest (a.put o.dst (.pointer (some ⟨w.heap.size, 0, none⟩))) (w.alloc (.cells z.toArray t))) : wpList P ops Q (o :: rest) a w := by
  refine wpList_plain hg fun K hK => ?_
  unfold Oper.wp execOp
  simp [ho, Instr.box, newVar, newRow, Value.cells, hx]
  exact hK _ _ h
theorem built_q1 : Try.prog.built 43 [(3, .bool true)] = some (qcells noughts12 0 0 true).toArray := by kernel_rfl
theorem built_q0 : Try.prog.built 43 [] = some (qcells noughts12 0 0 false).toArray := by kernel_rfl
theorem zero_q : (Try.prog.info? 43).map (·.zero) = some (some (.agg (qcells noughts12 0 0 false).toArray)) := by kernel_rfl
theorem size_q : (Try.prog.info? 43).map (·.size) = some 4803 := by kernel_rfl
theorem thereQ_no (w : World) : Calls Try.prog 15 #[.pointer none] w fun e w' => e = .returned (.bool false) ∧ w = w' := by
  go_enter Try.func15, Try.ntmps15
  go_wp2
  go_ret
  exact ⟨rfl, rfl⟩
theorem thereQ_ (rb : Nat) (md : Bool) (w : World) (hc : w.cell? ⟨rb, 4802, none⟩ = some (.bool md)) : Calls Try.prog 15 #[.pointer (some ⟨rb, 0, none⟩)] w fun e w' => e = .returned (.bool md) ∧ w = w' := by
  go_enter Try.func15, Try.ntmps15
  go_wp2
  go_ret
  exact ⟨rfl, rfl⟩
set_option maxHeartbeats 1000000 in
theorem new_ (w : World) : Calls Try.prog 7 #[] w fun e w' => e = .returned (.pointer (some ⟨w.heap.size, 0, none⟩)) ∧ QIn w' w.heap.size [] ∧ Below w.heap.size w w' := by
  have HQ := Lib.hid (show QIn (w.alloc (.cells (qcells noughts12 0 0 true).toArray 43)) w.heap.size [] from ⟨_, _, _, Row.new w _ _, ring_new⟩)
  go_enter Try.func7, Try.ntmps7
  go_wp2_with (first
    | ((with_reducible show wpList _ _ _ ({ dst := some 1, op := Op.build _ _, type := _, pos := _, after := _, guard := _ } :: _) _ _); go_must (refine wpList_plain rfl fun K hK => wp_built _ _ _ rfl (by simp only [List.map_toArray, List.map_cons, List.map_nil]; exact built_q1) (hK _ _ ?_)))
    | ((with_reducible show wpList _ _ _ ({ dst := some 2, op := Op.box _ _, type := _, pos := _, after := _, guard := _ } :: _) _ _); go_must (refine wpList_box_new rfl 43 (.tmp 1) rfl (qcells noughts12 0 0 true) ?_ ?_; go_simp)))
  go_ret
  exact ⟨rfl, HQ.out, (Below.refl _ _).alloc (Nat.le_refl _) _⟩
set_option maxHeartbeats 1000000 in
theorem copy_ (rb : Nat) (L : List (List Int)) (w : World) (h : QIn w rb L) : Calls Try.prog 8 #[.pointer (some ⟨rb, 0, none⟩)] w fun e w' => e = .returned (.pointer (some ⟨w.heap.size, 0, none⟩)) ∧ QIn w' w.heap.size L ∧ Below w.heap.size w w' := by
  obtain ⟨H, nx, mn, hrow, hring⟩ := h.is
  have HT := Lib.hid (thereQ_ rb true w ((hrow.cell 4802).trans (qcells_md hring.len hring.h32)))
  have HSZ := Lib.hid (show (Try.prog.info? 43).map (·.size) = some (qcells H nx mn true).length by rw [size_q, qcells_len hring.len hring.h32])
  have HL : Hid ((qcells noughts12 0 0 false).toArray.size = (qcells H nx mn true).length) := Lib.hid (by rw [List.size_toArray, qcells_len ring_new.len ring_new.h32, qcells_len hring.len hring.h32])
  have HONE : Hid (∀ u ∈ qcells H nx mn true, u.oneCell' = true) := Lib.hid qcells_one
  have HROW := Lib.hid hrow
  have HRING := Lib.hid hring
  clear hrow hring h
  go_enter Try.func8, Try.ntmps8
  go_wp2_with fail
  refine HT.out.mono ?_
  rintro e w' ⟨rfl, rfl⟩
  generalize hX : qcells H nx mn true = X at *
  have HX := Lib.hid hX
  clear hX HT
  go_wp2_with (first
    | ((with_reducible show wpList _ _ _ ({ dst := some 9, op := Op.load _ _, type := _, pos := _, after := _, guard := _ } :: _) _ _); go_must (refine wpList_load_whole rfl 43 (.tmp 8) rfl rb 43 X _ Try.underlying43 rfl HSZ.out HROW.out ?_ ?_; go_simp))
    | ((with_reducible show wpList _ _ _ ({ dst := some 3, op := Op.alloc _, type := _, pos := _, after := _, guard := _ } :: _) _ _); go_must (refine wpList_alloc_zero rfl 43 rfl (qcells noughts12 0 0 false) zero_q ?_))
    | ((with_reducible show wpList _ _ _ ({ dst := none, op := Op.store 43 _ _, type := _, pos := _, after := _, guard := _ } :: _) _ _); go_must (refine wpList_store_new rfl 43 (.tmp 3) (.tmp 9) rfl X HSZ.out HONE.out HL.out ?_ ?_ ?_; go_simp; go_simp; intro w1 hr1 hb1 hz1; have HR1 := Lib.hid hr1; have HB1 := Lib.hid hb1; clear hr1 hb1 hz1)))
  go_ret
  have hr1 := HR1.out
  rw [← HX.out] at hr1
  exact ⟨rfl, ⟨_, _, _, hr1, HRING.out⟩, HB1.out⟩
set_option maxHeartbeats 1000000 in
theorem len_ (rb : Nat) (L : List (List Int)) (w : World) (h : QIn w rb L) : Calls Try.prog 12 #[.pointer (some ⟨rb, 0, none⟩)] w fun e w' => e = .returned (.int .i64 L.length) ∧ w = w' := by
  obtain ⟨H, nx, mn, hrow, hring⟩ := h.is
  have HT := Lib.hid (thereQ_ rb true w ((hrow.cell 4802).trans (qcells_md hring.len hring.h32)))
  have hc : w.cell? ⟨rb, 4801, none⟩ = some (.int .i64 mn) := (hrow.cell 4801).trans (qcells_mn hring.len hring.h32)
  have HM := Lib.hid hring.many
  clear hrow hring h
  go_enter Try.func12, Try.ntmps12
  go_wp2_with fail
  refine HT.out.mono ?_
  rintro e w' ⟨rfl, rfl⟩
  go_wp2_with fail
  go_ret
  exact ⟨by rw [HM.out]; rfl, rfl⟩
end Go.Proofs.Ytigmaehlplldgaa

/-
  Of part Age12: what is needed here.
-/
namespace Go.Proofs.Ytigmaehlplldgaa
open Go.RowKit
set_option linter.unusedVariables false
set_option maxRecDepth 100000
/-- what Age answers -/
def AgeDone (w : World) (L : List (List Int)) (h : List Int) (e : Ending) (w' : World) : Prop := e = .returned (.tuple #[.int .i64 (ageN L h), .bool (decide (h ∈ L))]) ∧ Below w.heap.size w w'
theorem AgeDone.none {w w' : World} {L : List (List Int)} {h : List Int} (hm : h ∉ L) (hb : Below w.heap.size w w') : AgeDone w L h (.returned (.tuple #[.int .i64 0, .bool false])) w' := by
  refine ⟨?_, hb⟩
  rw [ageN_none hm, decide_eq_false hm]
  rfl
theorem AgeDone.some_ {w w' : World} {L : List (List Int)} {h : List Int} {k : Nat} (q : Q12 L) (hk : L[k]? = some h) (hb : Below w.heap.size w w') : AgeDone w L h (.returned (.tuple #[.int .i64 k, .bool true])) w' := by
  refine ⟨?_, hb⟩
  rw [ageN_at q hk, decide_eq_true (List.mem_of_getElem? hk)]
theorem not_in_of {α : Type} {L : List α} {h : α} (hn : ∀ i, i < L.length → L[i]? ≠ some h) : h ∉ L := fun hm => by
  obtain ⟨i, hi⟩ := List.getElem?_of_mem hm
  exact hn i (List.getElem?_eq_some_iff.1 hi).1 hi
set_option maxHeartbeats 1000000 in
theorem age_no (X : List Value) (w : World) : Calls Try.prog 13 #[.pointer none, .agg X.toArray] w fun e w' => e = .returned (.tuple #[.int .i64 0, .bool false]) ∧ Below w.heap.size w w' := by
  go_enter Try.func13, Try.ntmps13
  go_wp2_with fail
  go_step3
  go_wp2_with fail
  refine (thereQ_no _).mono ?_
  rintro e w' ⟨rfl, rfl⟩
  go_wp2_with fail
  rw [Exit.noGoto_ret]
  go_ret2
  exact ⟨rfl, (Below.refl _ _).alloc (Nat.le_refl _) _⟩
set_option maxHeartbeats 1000000 in
theorem age_not (rb : Nat) (X : List Value) (w : World) (hc : w.cell? ⟨rb, 4802, none⟩ = some (.bool false)) : Calls Try.prog 13 #[.pointer (some ⟨rb, 0, none⟩), .agg X.toArray] w fun e w' => e = .returned (.tuple #[.int .i64 0, .bool false]) ∧ Below w.heap.size w w' := by
  have HT := Lib.hid (thereQ_ rb false (w.alloc (.cells X.toArray 25)) (by rw [World.cell?_alloc_lt w _ _ (World.block_lt_of_cell? w _ hc)]; exact hc))
  clear hc
  go_enter Try.func13, Try.ntmps13
  go_wp2_with fail
  go_step3
  go_wp2_with fail
  refine HT.out.mono ?_
  rintro e w' ⟨rfl, rfl⟩
  go_wp2_with fail
  rw [Exit.noGoto_ret]
  go_ret2
  exact ⟨rfl, (Below.refl _ _).alloc (Nat.le_refl _) _⟩
set_option maxHeartbeats 4000000 in
theorem age_ (rb : Nat) (L : List (List Int)) (h : List Int) (w : World) (hq : QIn w rb L) (hl : h.length = 32) : Calls Try.prog 13 #[.pointer (some ⟨rb, 0, none⟩), .agg (bv h).toArray] w (AgeDone w L h) := by
  obtain ⟨H, nx, mn, hrow0, hring⟩ := hq.is
  have hrow := hrow0.alloc (.cells (bv h).toArray 25)
  have hbw := (Below.refl w.heap.size w).alloc (Nat.le_refl _) (.cells (bv h).toArray 25)
  have RX := Lib.hid (Row.new w 25 (bv h))
  generalize hg : w.heap.size = g at RX
  have HT := Lib.hid (thereQ_ rb true _ ((hrow.cell 4802).trans (qcells_md hring.len hring.h32)))
  have hc0 := (hrow.cell 4800).trans (qcells_nx hring.len hring.h32)
  have hc1 := (hrow.cell 4801).trans (qcells_mn hring.len hring.h32)
  have HSZ := Lib.hid (size_hash' hl)
  have HSZ2 : Hid (∀ y ∈ L, (Try.prog.info? 25).map (·.size) = some (bv y).length) := Lib.hid fun y hy => size_hash' (hring.h32L y hy)
  have HEQ : Hid (∀ y ∈ L, ∀ w, (binOp .eql 25 (.agg (bv y).toArray) (.agg (bv h).toArray)).run Try.prog w = .ok (.bool (decide (y = h))) w) := Lib.hid fun y hy w => hash_eql (hring.h32L y hy) hl w
  have HCL : Hid (∀ k y, L[k]? = some y → ∀ j u, (bv y)[j]? = some u → (w.alloc (.cells (bv h).toArray 25)).cell? ⟨rb, (nx + 149 - k) % 150 * 32 + j, none⟩ = some u) := Lib.hid fun k y hy j u hu => by
    rw [hrow.cell]
    rw [hring.at_ k (by have := (List.getElem?_eq_some_iff.1 hy).1; have := hring.many; omega)] at hy
    exact qcells_at hring.h32 hy hu
  have HNX := Lib.hid hring.lt
  have HMN := Lib.hid hring.le
  have HM := Lib.hid hring.many
  have HQ := Lib.hid hring.q
  have HBW := Lib.hid hbw
  have HG := Lib.hid hg
  clear hrow0 hrow hbw hring hq hg
  have HN : Hid (∀ V, h ∉ L → Below w.heap.size w V → AgeDone w L h (.returned (.tuple #[.int .i64 0, .bool false])) V) := Lib.hid fun V hm hb => AgeDone.none hm hb
  have HY : Hid (∀ V (k : Nat), L[k]? = some h → Below w.heap.size w V → AgeDone w L h (.returned (.tuple #[.int .i64 k, .bool true])) V) := Lib.hid fun V k hk hb => AgeDone.some_ HQ.out hk hb
  generalize AgeDone w L h = D at *
  generalize hWW : w.alloc (.cells (bv h).toArray 25) = W at *
  have HWW := Lib.hid hWW
  clear hWW
  go_enter Try.func13, Try.ntmps13
  go_upto_region 1 with fail
  rw [HWW.out, HG.out]
  go_step3
  go_wp2_with fail
  refine HT.out.mono ?_
  rintro e w' ⟨rfl, rfl⟩
  clear HT HWW
  go_wp2_with fail
  go_quiet (fail)
  go_wp2_with fail
  go_step3
  go_wp2_with fail
  clear hc0
  go_loopw [6, 7] (fun c p wr => ∃ k j : Nat, k ≤ mn ∧ Hid (∀ i, i < k → L[i]? ≠ some h) ∧ c = .int .i64 k ∧ p = .int .i64 (((nx + 150 - k) % 150 : Nat) : Int) ∧ wr = W.drewN j) (fun c _ _ => mn + 1 - (intOf c).toNat)
  case atStart =>
    refine ⟨0, _, Nat.zero_le _, Lib.hid (fun i hi => absurd hi (Nat.not_lt_zero _)), rfl, ?_, rfl⟩
    have := HNX.out
    rw [show (nx + 150 - 0) % 150 = nx by omega]
  case round =>
    obtain ⟨k, j, hk, HI, rfl, rfl, rfl⟩ := hrel
    have hmn := HMN.out
    have HB2 : Hid (∀ n, Below w.heap.size w (W.drewN n)) := Lib.hid fun n => below_drewN HBW.out n
    obtain ⟨P0, hP0⟩ : ∃ P0, P0 = (nx + 150 - k) % 150 := ⟨_, rfl⟩
    have HP0 := Lib.hid hP0
    have hlt0 : P0 < 150 := by rw [hP0]; exact Nat.mod_lt _ (by omega)
    rw [← hP0]
    clear hP0
    obtain ⟨P, hP⟩ : ∃ P, P = (P0 + 149) % 150 := ⟨_, rfl⟩
    have HP := Lib.hid hP
    have hlt : P < 150 := by rw [hP]; exact Nat.mod_lt _ (by omega)
    have HB := Lib.hid (fun V => before_ P0 V hlt0)
    rw [← hP] at HB
    clear hP hlt0
    go_wp2_with fail
    refine (HB.out _).mono ?_
    rintro e w' ⟨rfl, rfl⟩
    clear HB
    by_cases hkm : k = mn
    · have hno : h ∉ L := not_in_of (by rw [HM.out, ← hkm]; exact HI.out)
      have HE := Lib.hid (HN.out (W.drewN j) hno (HB2.out j))
      have hkm' : (k : Int) = (mn : Int) := by omega
      clear hno
      subst hkm
      go_wp2_with fail
      exact HE.out
    · have hkm' : ¬ (k : Int) = (mn : Int) := by omega
      have hlt' : (P : Int) < 150 := by omega
      have hk1 : k < mn := by omega
      obtain ⟨y, hy⟩ : ∃ y, L[k]? = some y := ⟨_, List.getElem?_eq_getElem (by rw [HM.out]; exact hk1)⟩
      have hyL := List.mem_of_getElem? hy
      have HEY := Lib.hid (HEQ.out y hyL)
      have HSY := Lib.hid (HSZ2.out y hyL)
      have hPk : P = (nx + 149 - k) % 150 := by rw [HP.out, HP0.out]; omega
      have HCY : Hid (∀ j u, (bv y)[j]? = some u → W.cell? ⟨rb, P * 32 + j, none⟩ = some u) := Lib.hid (by rw [hPk]; exact HCL.out k y hy)
      have HP2 : Hid ((((P : Nat) : Int)) = (((nx + 150 - (k + 1)) % 150 : Nat) : Int)) := Lib.hid (by rw [hPk, show nx + 150 - (k + 1) = nx + 149 - k by omega])
      clear hyL hPk HP HP0
      by_cases hyh : y = h
      · have HE := Lib.hid (fun V hb => HY.out V k (by rw [hy, hyh]) hb)
        rw [decide_eq_true hyh] at HEY
        clear hyh hy
        go_wp2_with fail
        have NEY := HEY.out
        clear HEY
        refine wp_region_quiet_lit (by kernel_rfl) (by kernel_rfl) ?_
        repeat (first
          | ((with_reducible show wpQuiet _ _ _ _ ({ dst := some 32, op := Op.load _ _, type := _, pos := _, after := _, guard := _ } :: _) _); go_must (refine quiet_load_at (by kernel_rfl) 25 (.tmp 31) rfl ⟨rb, P * 32, none⟩ (bv y) _ Try.underlying25 rfl HSY.out (by rintro _ ⟨nq, rfl⟩; intro j u hu; rw [addr_row]; exact HCY.out j u hu) ?_ ?_; go_simp; go_simp))
          | ((with_reducible show wpQuiet _ _ _ _ ({ dst := some 33, op := Op.load _ _, type := _, pos := _, after := _, guard := _ } :: _) _); go_must (refine quiet_load_at (by kernel_rfl) 25 (.tmp 3) rfl ⟨g, 0, none⟩ (bv h) _ Try.underlying25 rfl HSZ.out (by rintro _ ⟨nq, rfl⟩; intro j u hu; rw [addr_row, Nat.zero_add]; exact (RX.out.cell j).trans hu) ?_ ?_; go_simp; go_simp))
          | go_big_quiet_step (fail))
        refine wpQuiet_nil ?_
        intro nq
        clear NEY
        go_wp2_with fail
        exact HE.out _ (HB2.out _)
      · have HI2 : Hid (∀ i, i < k + 1 → L[i]? ≠ some h) := Lib.hid fun i hi => by
          by_cases e : i = k
          · subst e
            rw [hy]
            exact fun e => hyh (Option.some.inj e)
          · exact HI.out i (by omega)
        rw [decide_eq_false hyh] at HEY
        clear hyh hy
        go_wp2_with fail
        have NEY := HEY.out
        clear HEY
        refine wp_region_quiet_lit (by kernel_rfl) (by kernel_rfl) ?_
        repeat (first
          | ((with_reducible show wpQuiet _ _ _ _ ({ dst := some 32, op := Op.load _ _, type := _, pos := _, after := _, guard := _ } :: _) _); go_must (refine quiet_load_at (by kernel_rfl) 25 (.tmp 31) rfl ⟨rb, P * 32, none⟩ (bv y) _ Try.underlying25 rfl HSY.out (by rintro _ ⟨nq, rfl⟩; intro j u hu; rw [addr_row]; exact HCY.out j u hu) ?_ ?_; go_simp; go_simp))
          | ((with_reducible show wpQuiet _ _ _ _ ({ dst := some 33, op := Op.load _ _, type := _, pos := _, after := _, guard := _ } :: _) _); go_must (refine quiet_load_at (by kernel_rfl) 25 (.tmp 3) rfl ⟨g, 0, none⟩ (bv h) _ Try.underlying25 rfl HSZ.out (by rintro _ ⟨nq, rfl⟩; intro j u hu; rw [addr_row, Nat.zero_add]; exact (RX.out.cell j).trans hu) ?_ ?_; go_simp; go_simp))
          | go_big_quiet_step (fail))
        refine wpQuiet_nil ?_
        intro nq
        clear NEY
        go_wp2_with fail
        go_roundw
        case rel => exact ⟨k + 1, j + nq, by omega, HI2, by go_num, by rw [← HP2.out], rfl⟩
        case measure => simp [intOf]; omega
end Go.Proofs.Ytigmaehlplldgaa

/-
  Of part Role: what is needed here.
-/
namespace Go.Proofs.Ytigmaehlplldgaa
open Go.RowKit
set_option linter.unusedVariables false
set_option maxRecDepth 100000
/-- a role -/
structure LRole where
  key : List Int
  sg : Bool
  wr : Bool
def LRole.cells (r : LRole) : List Value := bv r.key ++ [.bool r.sg, .bool r.wr]
/-- the zero role -/
def r0 : LRole := ⟨List.replicate 32 0, false, false⟩
end Go.Proofs.Ytigmaehlplldgaa

/-
  Of part TwinMsg: what is needed here.
-/
namespace Go.Proofs.Ytigmaehlplldgaa
open Go.RowKit
set_option linter.unusedVariables false
set_option maxRecDepth 100000
/-- a load of many cells yields them -/
theorem exec_load_at {P : Program} {a : Act} {o : Oper} (w : World) (ty : TypeId) (x : Operand) (ho : o.op = .load ty x) (p : Addr) (cs : List Value) (d : TypeDesc) (hu : P.underlying ty = some d) (hd : d.isRow = true) (hi : (P.info? ty).map (·.size) = some cs.length)
    (hc : ∀ j v, cs[j]? = some v → w.cell? (p.add j) = some v) (hx : a.eval x = .pointer (some p)) : (execOp a.eval o).run P w = .ok (.value (.agg cs.toArray)) w := by
  unfold execOp
  simp only [ho, hx, Sem.run_bind, Sem.run_pure, run_loadAt_at w p ty cs d hc hu hd hi, Result.andThen_ok]
end Go.Proofs.Ytigmaehlplldgaa

/-
  Of part AppendN: what is needed here.
-/
namespace Go.Proofs.Ytigmaehlplldgaa
open Go.RowKit
set_option linter.unusedVariables false
set_option maxRecDepth 100000
section
variable {P : Program} {w : World} {base : Nat} {t ty e : TypeId} {i : TypeInfo} {z : Value} {size bytes : Nat} {v : Value} {n m c B : Nat} {A : Option Addr} {xs news : List Value}
theorem run_append_nothingN (ht : P.underlying t = some (.slice e)) (hi : P.info? e = some i) (hown : w.ownsRow base e size v n xs) (c : Nat) :
    (Builtin.append_ #[t, t] ty #[v, .slice none 0 c]).run P w = .ok v w := by
  rcases hown.2 with ⟨rfl, rfl⟩ | ⟨g, cap, cur, rfl, _, _, hnc, _⟩ <;>
    simp [Builtin.append_, run_underlying ht, sizeOf, typeInfo, Builtin.lenOf, Builtin.firstCells, storeCells, *]
theorem wp_appendN {o : Oper} {a : Act} {K : Act → World → Prop} {Q : Exit → Act → World → Prop} (s x : Operand) (t e : TypeId) (z : Value) (size bytes : Nat)
    (ho : o.op = .call { callee := .builtin .append, args := #[s, x], argTypes := #[t, t] })
    (ht : P.underlying t = some (.slice e)) (hi : (P.info? e).map (fun i => (i.zero, i.size, i.bytes)) = some (some z, size, bytes)) (hzs : z.cells.size = size) (hs0 : 0 < size)
    (v : Value) (n : Nat) (xs : List Value) (base B : Nat) (A : Option Addr) (m c : Nat) (news : List Value)
    (hs : a.eval s = v) (hown : w.ownsRow base e size v n xs) (hx : a.eval x = .slice A m c) (hr : Sees w B A (m * size) news) (h1 : ∀ u ∈ news, u.oneCell' = true)
    (hnm : n + m ≤ maxLen) (hbytes : (n + m) * bytes ≤ 140737488355328) (hbase : base ≤ w.heap.size)
    (h : ∀ v' w', w'.ownsRow base e size v' (n + m) (xs ++ news) → Grew w w' v v' → K (a.put o.dst v') w') : o.wp P a w K Q := by
  obtain ⟨i0, hi, hz0, hz1, hz2⟩ := info_parts hi
  have hrun : ∃ v' w', (Builtin.append_ #[t, t] o.type #[v, .slice A m c]).run P w = .ok v' w' ∧ w'.ownsRow base e size v' (n + m) (xs ++ news) ∧ Grew w w' v v' := by
    cases A with
    | none =>
      have hn : news = [] := by
        cases news with
        | nil => rfl
        | cons u r =>
          obtain ⟨a, h, _⟩ := hr.cell 0 u rfl
          cases h
      subst hn
      have hl : m * size = 0 := by simpa using hr.len.symm
      obtain rfl : m = 0 := by
        rcases Nat.mul_eq_zero.1 hl with h | h
        · exact h
        · omega
      exact ⟨v, w, run_append_nothingN ht hi hown c, by simpa using hown, Grew.refl _ _⟩
    | some ad =>
      obtain ⟨v', w', hrun, h2, h3, _, h5⟩ := run_append_own_at (P := P) w base t o.type e i0 z size bytes ht hi hz0 hz1 hz2 hzs hs0 v n xs hown ad m c news hr.len
        (fun j u hu => by
          obtain ⟨a, h, _, hc⟩ := hr.cell j u hu
          cases h
          exact hc) h1 hnm hbytes hbase
      refine ⟨v', w', hrun, h2, ⟨h3, fun k hk => ?_⟩⟩
      rcases h5 with h5 | h5
      · exact .inl (h5 ▸ hk)
      · rw [h5] at hk
        cases hk
        exact .inr (Nat.le_refl _)
  obtain ⟨v', w', hr2, h2, h3⟩ := hrun
  unfold Oper.wp execOp
  simp only [ho, resolve, invoke, builtin, Sem.run_bind, Sem.run_pure, Result.andThen_ok, List.map_toArray, List.map_cons, List.map_nil, hs, hx, hr2]
  exact h v' w' h2 h3
theorem wpList_appendN {ops : Array Oper} {rest : List Oper} {o : Oper} {a : Act} {Q : Exit → Act → World → Prop} (hgd : o.guard = none) (s x : Operand) (t e : TypeId) (z : Value) (size bytes : Nat)
    (ho : o.op = .call { callee := .builtin .append, args := #[s, x], argTypes := #[t, t] })
    (ht : P.underlying t = some (.slice e)) (hi : (P.info? e).map (fun i => (i.zero, i.size, i.bytes)) = some (some z, size, bytes)) (hzs : z.cells.size = size) (hs0 : 0 < size)
    (v : Value) (n : Nat) (xs : List Value) (base B : Nat) (A : Option Addr) (m c : Nat) (news : List Value)
    (hs : a.eval s = v) (hown : w.ownsRow base e size v n xs) (hx : a.eval x = .slice A m c) (hr : Sees w B A (m * size) news) (h1 : ∀ u ∈ news, u.oneCell' = true)
    (hnm : n + m ≤ maxLen) (hbytes : (n + m) * bytes ≤ 140737488355328) (hbase : base ≤ w.heap.size)
    (h : ∀ v' w', w'.ownsRow base e size v' (n + m) (xs ++ news) → Grew w w' v v' → wpList P ops Q rest (a.put o.dst v') w') : wpList P ops Q (o :: rest) a w :=
  wpList_plain hgd fun _ hK => wp_appendN s x t e z size bytes ho ht hi hzs hs0 v n xs base B A m c news hs hown hx hr h1 hnm hbytes hbase fun v' w' h2 h3 => hK _ _ (h v' w' h2 h3)
end
theorem own_nilN (w : World) (base : Nat) (e : TypeId) (size : Nat) : w.ownsRow base e size (.slice none 0 0) 0 [] := World.ownsRow_nil w base e size
theorem own_form2 {w : World} {base : Nat} {e : TypeId} {size n : Nat} {v : Value} {xs : List Value} (h : w.ownsRow base e size v n xs) : ∃ A c, v = .slice A n c ∧ Sees w w.heap.size A (n * size) xs ∧ n ≤ c ∧ c ≤ maxLen ∧ (∀ g, v.ownBlock = some g → base ≤ g ∧ g < w.heap.size) := by
  have hlt := h.lt
  rcases h.2 with ⟨rfl, rfl⟩ | ⟨g, cap, cur, rfl, hg, hh, h1, h2, h3, h4⟩
  · have hx : xs = [] := List.eq_nil_of_length_eq_zero (by simpa using h.1)
    subst hx
    exact ⟨none, 0, rfl, by rw [Nat.zero_mul]; exact Sees.nil _ _ _, Nat.le_refl _, by simp [maxLen], hlt⟩
  · refine ⟨_, cap, rfl, ⟨h.1, fun j u hu => ⟨_, rfl, (Array.getElem?_eq_some_iff.1 hh).1, h.cells (g := g) rfl j u hu⟩⟩, h1, h2, hlt⟩
end Go.Proofs.Ytigmaehlplldgaa

/-
  Of part OtherMem: what is needed here.
-/
namespace Go.Proofs.Ytigmaehlplldgaa
open Go.RowKit
set_option linter.unusedVariables false
set_option maxRecDepth 100000
theorem own_rows2 {w : World} {base : Nat} {e : TypeId} {size n : Nat} {v : Value} {xs : List Value} (h : w.ownsRow base e size v n xs) (hx : 0 < xs.length) (hn : 0 < n) :
    ∃ g c rest, v = .slice (some ⟨g, 0, none⟩) n c ∧ Row w g e (xs ++ rest) ∧ n ≤ c ∧ c ≤ maxLen ∧ base ≤ g ∧ (xs ++ rest).length = c * size := by
  rcases h.2 with ⟨hv, he⟩ | ⟨g, cap, cur, hv, hg, hh, h1, h2, h3, h4⟩
  · omega
  · have h5 : xs = cur.toList.take xs.length := by
      rw [← h4, List.length_take]
      exact List.take_eq_take_min
    have h6 : xs ++ cur.toList.drop xs.length = cur.toList := by
      conv => lhs; lhs; rw [h5]
      exact List.take_append_drop _ _
    refine ⟨g, cap, cur.toList.drop xs.length, hv, ⟨?_⟩, h1, h2, hg, ?_⟩
    · rw [hh, h6]
    · rw [h6]
      simpa using h3
theorem own_of_row {w : World} {base g c : Nat} {e : TypeId} {size n : Nat} {xs rest : List Value} (h : Row w g e (xs ++ rest)) (hl : xs.length = n * size) (hc : (xs ++ rest).length = c * size) (h1 : n ≤ c) (h2 : c ≤ maxLen) (hb : base ≤ g) :
    w.ownsRow base e size (.slice (some ⟨g, 0, none⟩) n c) n xs :=
  ⟨hl, .inr ⟨g, c, (xs ++ rest).toArray, rfl, hb, h.is, h1, h2, by simpa using hc, by rw [← hl]; simp⟩⟩
theorem own_keep {w w' : World} {base : Nat} {e : TypeId} {size n : Nat} {v : Value} {xs : List Value} (h : w.ownsRow base e size v n xs) (hk : ∀ g, v.ownBlock = some g → w'.heap[g]? = w.heap[g]?) : w'.ownsRow base e size v n xs := by
  refine ⟨h.1, ?_⟩
  rcases h.2 with h2 | ⟨g, cap, cur, hv, hg, hh, r⟩
  · exact .inl h2
  · exact .inr ⟨g, cap, cur, hv, hg, (hk g (by rw [hv]; rfl)).trans hh, r⟩
theorem own_is {w : World} {base : Nat} {e : TypeId} {size n g : Nat} {v : Value} {xs : List Value} (h : w.ownsRow base e size v n xs) (hg : v.ownBlock = some g) : ∃ cur, w.heap[g]? = some (.cells cur e (0, 0)) := by
  rcases h.2 with ⟨rfl, _⟩ | ⟨g', cap, cur, rfl, _, hh, _⟩
  · cases hg
  · cases hg
    exact ⟨cur, hh⟩
theorem own_turned {w w' : World} {base g : Nat} {e t : TypeId} {size n : Nat} {v : Value} {xs ys : List Value} (h : w.ownsRow base e size v n xs) (hr : Row w g t ys) (hne : e ≠ t) (ht : Turned w w' g) : w'.ownsRow base e size v n xs :=
  own_keep h fun k hk => ht.block k (fun e1 => by
    obtain ⟨cur, hc⟩ := own_is h hk
    rw [e1, hr.is] at hc
    injection (Option.some.inj hc) with _ h3 _
    exact hne h3.symm)
end Go.Proofs.Ytigmaehlplldgaa

/-
  Of part RefAge12: what is needed here.
-/
namespace Go.Proofs.Ytigmaehlplldgaa
open Go.RowKit
set_option linter.unusedVariables false
set_option maxRecDepth 100000
/-- the reference: one block with a list of the call's own, of hashes -/
structure RQ12 (w : World) (pb base : Nat) (v : Value) (L : List (List Int)) : Prop where
  row : Row w pb 32 [v]
  own : w.ownsRow base 25 32 v L.length (bv L.flatten)
  h32 : ∀ y ∈ L, y.length = 32
  q : Q12 L
theorem RQ12.below {w w' : World} {pb base : Nat} {v : Value} {L : List (List Int)} (h : RQ12 w pb base v L) (hb : Below w.heap.size w w') : RQ12 w' pb base v L :=
  ⟨h.row.below hb h.row.lt, own_below h.own hb, h.h32, h.q⟩
/-- the list as a slice -/
theorem RQ12.form {w : World} {pb base : Nat} {v : Value} {L : List (List Int)} (h : RQ12 w pb base v L) : ∃ A c, v = .slice A L.length c ∧ KeysIn w w.heap.size A L.length L ∧ L.length ≤ c ∧ c ≤ maxLen := by
  obtain ⟨A, c, h1, h2, h3, h4, _⟩ := own_form2 h.own
  exact ⟨A, c, h1, ⟨rfl, h.h32, h2⟩, h3, h4⟩
set_option maxHeartbeats 4000000 in
theorem refAge (pb base : Nat) (v : Value) (L : List (List Int)) (h : List Int) (w : World) (hq : RQ12 w pb base v L) (hl : h.length = 32) : Calls Try.prog 14 #[.pointer (some ⟨pb, 0, none⟩), .agg (bv h).toArray] w (AgeDone w L h) := by
  have hbw := (Below.refl w.heap.size w).alloc (Nat.le_refl _) (.cells (bv h).toArray 25)
  have hq1 := hq.below hbw
  have hlen := hq.q.few
  obtain ⟨A, c, rfl, hk, hlc, hcm⟩ := hq1.form
  have RX := Lib.hid (Row.new w 25 (bv h))
  generalize hg : w.heap.size = g at RX
  have hc0 := hq1.row.cell 0
  have HSZ := Lib.hid (size_hash' hl)
  have HSZ2 : Hid (∀ y ∈ L, (Try.prog.info? 25).map (·.size) = some (bv y).length) := Lib.hid fun y hy => size_hash' (hq.h32 y hy)
  have HEQ : Hid (∀ y ∈ L, ∀ w, (binOp .eql 25 (.agg (bv y).toArray) (.agg (bv h).toArray)).run Try.prog w = .ok (.bool (decide (y = h))) w) := Lib.hid fun y hy w => hash_eql (hq.h32 y hy) hl w
  have HQ := Lib.hid hq.q
  have HBW := Lib.hid hbw
  have HG := Lib.hid hg
  have HK := Lib.hid hk
  have HLC := Lib.hid hlc
  clear hbw hq hg hq1 hk hlc
  unfold maxLen at hcm
  have HN : Hid (∀ V, h ∉ L → Below w.heap.size w V → AgeDone w L h (.returned (.tuple #[.int .i64 0, .bool false])) V) := Lib.hid fun V hm hb => AgeDone.none hm hb
  have HY : Hid (∀ V (k : Nat), L[k]? = some h → Below w.heap.size w V → AgeDone w L h (.returned (.tuple #[.int .i64 k, .bool true])) V) := Lib.hid fun V k hk hb => AgeDone.some_ HQ.out hk hb
  generalize AgeDone w L h = D at *
  generalize hWW : w.alloc (.cells (bv h).toArray 25) = W at *
  have HWW := Lib.hid hWW
  clear hWW
  obtain ⟨n, hn⟩ : ∃ n, n = L.length := ⟨_, rfl⟩
  have HNL := Lib.hid hn
  rw [← hn] at HK HLC hc0 hlen
  clear hn
  go_enter Try.func14, Try.ntmps14
  go_upto_region 1 with fail
  rw [HWW.out, HG.out]
  go_wp2_with fail
  go_loopw [6] (fun i wr => ∃ k j : Nat, k ≤ n ∧ Hid (∀ i, i < k → L[i]? ≠ some h) ∧ i = .int .i64 k ∧ wr = W.drewN j) (fun i _ => n - (intOf i).toNat)
  case atStart => exact ⟨0, 0, Nat.zero_le _, Lib.hid (fun i hi => absurd hi (Nat.not_lt_zero _)), rfl, rfl⟩
  case round =>
    obtain ⟨k, j, hk, HI, rfl, rfl⟩ := hrel
    have HB2 : Hid (∀ n, Below w.heap.size w (W.drewN n)) := Lib.hid fun n => below_drewN HBW.out n
    by_cases hlt : k < n
    · have hlt' : (k : Int) < n := by omega
      obtain ⟨a, y, rfl, hab, hy, hka⟩ := HK.out.get hlt
      have hyL := List.mem_of_getElem? hy
      have HEY := Lib.hid (HEQ.out y hyL)
      have HSY := Lib.hid (HSZ2.out y hyL)
      have HCY := Lib.hid hka.cells
      clear hyL hka hab
      by_cases hyh : y = h
      · have HE := Lib.hid (fun V hb => HY.out V k (by rw [hy, hyh]) hb)
        rw [decide_eq_true hyh] at HEY
        clear hyh hy
        go_wp2_with fail
        have NEY := HEY.out
        clear HEY
        refine wp_region_quiet_lit (by kernel_rfl) (by kernel_rfl) ?_
        repeat (first
          | ((with_reducible show wpQuiet _ _ _ _ ({ dst := some 22, op := Op.load _ _, type := _, pos := _, after := _, guard := _ } :: _) _); go_must (refine quiet_load_at (by kernel_rfl) 25 (.tmp 21) rfl (a.add (k * 32)) (bv y) _ Try.underlying25 rfl HSY.out (by rintro _ ⟨nq, rfl⟩; exact HCY.out) ?_ ?_; go_simp; go_simp))
          | ((with_reducible show wpQuiet _ _ _ _ ({ dst := some 23, op := Op.load _ _, type := _, pos := _, after := _, guard := _ } :: _) _); go_must (refine quiet_load_at (by kernel_rfl) 25 (.tmp 3) rfl ⟨g, 0, none⟩ (bv h) _ Try.underlying25 rfl HSZ.out (by rintro _ ⟨nq, rfl⟩; intro j u hu; rw [addr_row, Nat.zero_add]; exact (RX.out.cell j).trans hu) ?_ ?_; go_simp; go_simp))
          | go_big_quiet_step (fail))
        refine wpQuiet_nil ?_
        intro nq
        clear NEY
        go_wp2_with fail
        exact HE.out _ (HB2.out _)
      · have HI2 : Hid (∀ i, i < k + 1 → L[i]? ≠ some h) := Lib.hid fun i hi => by
          by_cases e : i = k
          · subst e
            rw [hy]
            exact fun e => hyh (Option.some.inj e)
          · exact HI.out i (by omega)
        rw [decide_eq_false hyh] at HEY
        clear hyh hy
        go_wp2_with fail
        have NEY := HEY.out
        clear HEY
        refine wp_region_quiet_lit (by kernel_rfl) (by kernel_rfl) ?_
        repeat (first
          | ((with_reducible show wpQuiet _ _ _ _ ({ dst := some 22, op := Op.load _ _, type := _, pos := _, after := _, guard := _ } :: _) _); go_must (refine quiet_load_at (by kernel_rfl) 25 (.tmp 21) rfl (a.add (k * 32)) (bv y) _ Try.underlying25 rfl HSY.out (by rintro _ ⟨nq, rfl⟩; exact HCY.out) ?_ ?_; go_simp; go_simp))
          | ((with_reducible show wpQuiet _ _ _ _ ({ dst := some 23, op := Op.load _ _, type := _, pos := _, after := _, guard := _ } :: _) _); go_must (refine quiet_load_at (by kernel_rfl) 25 (.tmp 3) rfl ⟨g, 0, none⟩ (bv h) _ Try.underlying25 rfl HSZ.out (by rintro _ ⟨nq, rfl⟩; intro j u hu; rw [addr_row, Nat.zero_add]; exact (RX.out.cell j).trans hu) ?_ ?_; go_simp; go_simp))
          | go_big_quiet_step (fail))
        refine wpQuiet_nil ?_
        intro nq
        clear NEY
        go_wp2_with fail
        go_roundw
        case rel => exact ⟨k + 1, j + nq, by omega, HI2, by go_num, rfl⟩
        case measure => simp [intOf]; omega
    · have hlt' : ¬ (k : Int) < n := by omega
      have hno : h ∉ L := not_in_of (by rw [← HNL.out, show n = k by omega]; exact HI.out)
      have HE := Lib.hid (HN.out (W.drewN j) hno (HB2.out j))
      clear hno
      go_wp2_with fail
      exact HE.out
end Go.Proofs.Ytigmaehlplldgaa
