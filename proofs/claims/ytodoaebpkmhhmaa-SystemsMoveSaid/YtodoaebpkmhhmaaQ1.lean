/-
  Parts joined: Mem Row Bits Longer Put Msg Math13 Get Parse Whole Append Many Looks PutMsg Read ReadIn GetMsg Guard SameMsg CameIn Enc Great IsIn OpenMsg Rules KeyEq Take RefAt BookK Role GetN Math14 SheetAc Hold13 TwinAc BookAc Tail Sigs TxMsg GetTx TwinMsg Strays Example AppendN OtherMem Rec12 Accs14 RefData14 RefPlaces14.
-/
import Derived.Below
import Derived.Laws.OwnMore
import Derived.Deep.AppendLies
import Derived.Deep.Draws
import Derived.Lib.Hide
import Derived.Laws.MakeOwn
import Derived.Laws.CopyOwn
import Derived.Laws.Rows
import Derived.Laws.BitsAllLaws
import Derived.WalkKit
import Derived.Test.YtodoaebpkmhhmaaRows
import Derived.WalkSpells
import Derived.WalkLawsBesides
import Derived.IntWalk
import Derived.Deep.MidRow
import Derived.Deep.WholeRow
import Derived.Maps.AppendAt
import Derived.OwnWalk
import Derived.Great.BuildSlice
import Derived.Recover
import Derived.Deep.RegionHeld
import Derived.Deep.QuietTactic
import Derived.BigQuiet
import Derived.ChangeKeysEq
import Derived.ProofKit
import Derived.OpenShut
import Derived.ShutString
import Derived.ChangeOld
import Derived.Lib.SmallJoins
import Derived.Deep.Slices
import Derived.Deep.Strs
import Derived.SizedLaws
import Derived.Deep.RegionHeld2
import Derived.Deep.CutBlock
import Derived.Laws.Tables
import Derived.Laws.StructEq
import Derived.Laws.Slices
import Derived.Deep.DeepCutAuto
import Derived.Laws.EntriesVeiled
import Derived.Deep.RegionHeld3
import Derived.Maps.OwnSet
import Derived.DeepKeys4
import Derived.WideKeyArr
import Derived.WideKeyEntry
import Derived.WalkMore
/-
  Of part Mem: what is needed here.
-/
namespace Go.Proofs.Ytodoaebpkmhhmaa
open Go.RowKit
/-- bytes (or numbers of another kind) as cells -/
def cv (k : IntKind) (zs : List Int) : List Value := zs.map (Value.int k)
def bv (zs : List Int) : List Value := cv .u8 zs
theorem cv_length (k : IntKind) (zs : List Int) : (cv k zs).length = zs.length := by simp [cv]
theorem bv_length (zs : List Int) : (bv zs).length = zs.length := cv_length _ zs
theorem bv_append (xs ys : List Int) : bv (xs ++ ys) = bv xs ++ bv ys := by simp [bv, cv]
theorem bv_getElem? (zs : List Int) (i : Nat) : (bv zs)[i]? = zs[i]?.map (Value.int .u8) := by simp [bv, cv]
theorem bv_at {zs : List Int} {i : Nat} (h : i < zs.length) : (bv zs)[i]? = some (.int .u8 (zs.getD i 0)) := by
  rw [bv_getElem?, List.getD_eq_getElem?_getD, List.getElem?_eq_getElem h]; rfl
theorem bv_one (zs : List Int) : ∀ u ∈ bv zs, u.oneCell' = true := by
  intro u hu
  simp only [bv, cv, List.mem_map] at hu
  obtain ⟨z, _, rfl⟩ := hu
  rfl
theorem addr_block (a : Addr) (n : Nat) : (a.add n).block = a.block := by unfold Addr.add; split <;> rfl
theorem addr_add (a : Addr) (i j : Nat) : (a.add i).add j = a.add (i + j) := by
  unfold Addr.add
  rcases Nat.eq_zero_or_pos i with hi | hi <;> rcases Nat.eq_zero_or_pos j with hj | hj
  · simp [hi, hj]
  · simp [hi, show j ≠ 0 by omega]
  · simp [hj, show i ≠ 0 by omega]
  · simp [show i ≠ 0 by omega, show j ≠ 0 by omega, Nat.add_assoc]
theorem addr_row (g i j : Nat) : (⟨g, i, none⟩ : Addr).add j = ⟨g, i + j, none⟩ := by unfold Addr.add; split <;> simp_all
/-- The slice value '.slice A n c' reads as the cells xs; each cell lies below block B. -/
structure Sees (w : World) (B : Nat) (A : Option Addr) (n : Nat) (xs : List Value) : Prop where
  len : xs.length = n
  cell : ∀ i u, xs[i]? = some u → ∃ a, A = some a ∧ a.block < B ∧ w.cell? (a.add i) = some u
section
variable {w w' : World} {B B' n : Nat} {A : Option Addr} {xs : List Value}
theorem Sees.nil (w : World) (B : Nat) (A : Option Addr) : Sees w B A 0 [] := ⟨rfl, fun i u h => by simp at h⟩
theorem Sees.keep (h : Sees w B A n xs) (hk : ∀ p : Addr, p.block < B → w'.cell? p = w.cell? p) : Sees w' B A n xs :=
  ⟨h.len, fun i u hu => by
    obtain ⟨a, e, hb, hc⟩ := h.cell i u hu
    exact ⟨a, e, hb, (hk _ (by rw [addr_block]; exact hb)).trans hc⟩⟩
theorem Sees.below (h : Sees w B A n xs) (hb : Below B w w') : Sees w' B A n xs := h.keep fun _ hp => hb.cell hp
theorem Sees.drew (h : Sees w B A n xs) : Sees w.drew B A n xs := ⟨h.len, h.cell⟩
theorem Sees.drewN (h : Sees w B A n xs) (k : Nat) : Sees (w.drewN k) B A n xs := ⟨h.len, h.cell⟩
theorem Sees.alloc (h : Sees w B A n xs) (hB : B ≤ w.heap.size) (o : Obj) : Sees (w.alloc o) B A n xs := h.keep fun p hp => World.cell?_alloc_lt w o p (by omega)
theorem Sees.setCell (h : Sees w B A n xs) {p : Addr} (hB : B ≤ p.block) (u : Value) : Sees (w.setCell p u) B A n xs :=
  h.keep fun q hq => World.cell?_setCell_other w p q u (fun e => by subst e; omega)
theorem Sees.at_ {k : Nat} (h : Sees w B A n xs) (hk : k < n) : ∃ a u, A = some a ∧ a.block < B ∧ xs[k]? = some u ∧ w.cell? (a.add k) = some u := by
  have hl : k < xs.length := by have := h.len; omega
  obtain ⟨a, e, hb, hc⟩ := h.cell k _ (List.getElem?_eq_getElem hl)
  exact ⟨a, _, e, hb, List.getElem?_eq_getElem hl, hc⟩
theorem Sees.byte {zs : List Int} {k : Nat} (h : Sees w B A n (bv zs)) (hk : k < n) : ∃ a, A = some a ∧ a.block < B ∧ w.cell? (a.add k) = some (.int .u8 (zs.getD k 0)) := by
  obtain ⟨a, u, e, hb, hx, hc⟩ := h.at_ hk
  have hl : k < zs.length := by have := h.len; rw [bv_length] at this; omega
  rw [bv_at hl] at hx
  cases hx
  exact ⟨a, e, hb, hc⟩
theorem Sees.of_own {base : Nat} {e : TypeId} {c : Nat} (h : w.ownsRow base e 1 (.slice A n c) n xs) : Sees w w.heap.size A n xs := by
  refine ⟨by have := h.1; omega, fun i u hu => ?_⟩
  have hl : i < xs.length := (List.getElem?_eq_some_iff.1 hu).1
  rcases h.2 with ⟨_, rfl⟩ | ⟨g, cap, cur, hv, hg, hh, hnc, _, hsz, htk⟩
  · have := h.1; omega
  · have hA : A = some ⟨g, 0, none⟩ := by injection hv
    subst hA
    exact ⟨_, rfl, (Array.getElem?_eq_some_iff.1 hh).1, h.cells (g := g) rfl i u hu⟩
end
end Go.Proofs.Ytodoaebpkmhhmaa

/-
  Of part Row: what is needed here.
-/
namespace Go.Proofs.Ytodoaebpkmhhmaa
open Go.RowKit
set_option linter.unusedVariables false
set_option maxRecDepth 100000
/-- block g is just the cells xs of element type t; none is frozen -/
structure Row (w : World) (g : Nat) (t : TypeId) (xs : List Value) : Prop where
  is : w.heap[g]? = some (.cells xs.toArray t (0, 0))
section
variable {w w' : World} {g : Nat} {t : TypeId} {xs : List Value}
theorem Row.lt (h : Row w g t xs) : g < w.heap.size := (Array.getElem?_eq_some_iff.1 h.is).1
theorem Row.cell (h : Row w g t xs) (i : Nat) : w.cell? ⟨g, i, none⟩ = xs[i]? := by rw [cell_of_row w g i xs.toArray t (0, 0) h.is]; simp
theorem Row.frozen (h : Row w g t xs) (i : Nat) : w.frozen? ⟨g, i, none⟩ = false := by
  have := h.is
  simp [World.frozen?, this]
theorem Row.new (w : World) (t : TypeId) (xs : List Value) : Row (w.alloc (.cells xs.toArray t)) w.heap.size t xs := ⟨heap_alloc_new w _⟩
theorem Row.new' (w : World) (t : TypeId) (xs : List Value) {g : Nat} (hg : w.heap.size = g) : Row (w.alloc (.cells xs.toArray t)) g t xs := hg ▸ Row.new w t xs
theorem Row.drew (h : Row w g t xs) : Row w.drew g t xs := ⟨h.is⟩
theorem Row.drewN (h : Row w g t xs) (n : Nat) : Row (w.drewN n) g t xs := ⟨h.is⟩
theorem Row.alloc (h : Row w g t xs) (o : Obj) : Row (w.alloc o) g t xs := ⟨(Below.heap_alloc w o g h.lt).trans h.is⟩
theorem Row.set_ (h : Row w g t xs) (i : Nat) (u : Value) : Row (w.setCell ⟨g, i, none⟩ u) g t (xs.set i u) := by
  have := h.is
  exact ⟨by simp [World.setCell, Array.getElem?_modify, this]⟩
theorem Row.below {B : Nat} (h : Row w g t xs) (hb : Below B w w') (hg : g < B) : Row w' g t xs := ⟨(hb.block g hg).trans h.is⟩
theorem Row.grown {row : Option Nat} (h : Row w g t xs) (hb : w.grownBy w' row) (hg : some g ≠ row) : Row w' g t xs := ⟨(hb.block g h.lt hg).trans h.is⟩
theorem Row.sees (h : Row w g t xs) (o : Nat) : Sees w w.heap.size (some ⟨g, o, none⟩) (xs.length - o) (xs.drop o) :=
  ⟨by simp, fun i u hu => ⟨_, rfl, h.lt, by rw [addr_row, h.cell]; simpa using hu⟩⟩
theorem Row.sees0 (h : Row w g t xs) : Sees w w.heap.size (some ⟨g, 0, none⟩) xs.length xs := by simpa using h.sees 0
theorem Row.own (h : Row w g t xs) {base : Nat} (hb : base ≤ g) {n : Nat} (hn : n ≤ xs.length) (hm : xs.length ≤ maxLen) : w.ownsRow base t 1 (.slice (some ⟨g, 0, none⟩) n xs.length) n (xs.take n) :=
  ⟨by simp; omega, .inr ⟨g, xs.length, xs.toArray, rfl, hb, h.is, hn, hm, by simp, by simp⟩⟩
theorem Row.of_own {base : Nat} {n : Nat} (h : w.ownsRow base t 1 (.slice (some ⟨g, 0, none⟩) n n) n xs) : Row w g t xs := by
  rcases h.2 with ⟨hv, _⟩ | ⟨g', cap, cur, hv, _, hh, _, _, hs, ht⟩
  · cases hv
  · cases hv
    have : cur = xs.toArray := by
      rw [← ht, List.take_of_length_le (by simp; omega)]
    exact ⟨by rw [hh, this]⟩
end
end Go.Proofs.Ytodoaebpkmhhmaa

/-
  Of part Bits: what is needed here.
-/
namespace Go.Proofs.Ytodoaebpkmhhmaa
open Go.RowKit
set_option linter.unusedVariables false
set_option maxRecDepth 100000
theorem nat_or_add (k y x : Nat) (hy : y < 2 ^ k) (hx : x % 2 ^ k = 0) : y ||| x = y + x := by
  obtain ⟨q, rfl⟩ : 2 ^ k ∣ x := Nat.dvd_of_mod_eq_zero hx
  rw [Nat.or_comm, Nat.add_comm, Nat.two_pow_add_eq_or_of_lt hy]
section
variable (k : Nat) (y x : Int) (h0 : 0 ≤ y) (h1 : y < 2 ^ k) (h2 : 0 ≤ x) (h3 : x % 2 ^ k = 0)
include h0 h1 h2 h3
theorem pow_facts : ∃ a b : Nat, y = a ∧ x = b ∧ a ||| b = a + b := by
  obtain ⟨a, rfl⟩ := Int.eq_ofNat_of_zero_le h0
  obtain ⟨b, rfl⟩ := Int.eq_ofNat_of_zero_le h2
  exact ⟨a, b, rfl, rfl, nat_or_add k a b (by exact_mod_cast h1) (by exact_mod_cast h3)⟩
theorem u64_or_lo (hy : y < 18446744073709551616) (hx : x < 18446744073709551616) : bits .or .u64 y x = y + x := by
  obtain ⟨a, b, rfl, rfl, h⟩ := pow_facts k y x h0 h1 h2 h3
  rw [u64_or_nat a b (by omega) (by omega), h]; simp
end
end Go.Proofs.Ytodoaebpkmhhmaa

/-
  Of part Longer: what is needed here.
-/
namespace Go.Proofs.Ytodoaebpkmhhmaa
open Go.RowKit
set_option linter.unusedVariables false
set_option maxRecDepth 100000
theorem info_u8 : (Try.prog.info? 5).map (fun i => (i.zero, i.size, i.bytes)) = some (some (.int .u8 0), 1, 1) := by kernel_rfl
end Go.Proofs.Ytodoaebpkmhhmaa

/-
  Of part Put: what is needed here.
-/
namespace Go.Proofs.Ytodoaebpkmhhmaa
open Go.RowKit
set_option linter.unusedVariables false
set_option maxRecDepth 100000
/-- the bytes of a short number -/
def short (n : Int) : List Int :=
  if n < 128 then [n] else if n < 16384 then [n % 128 + 128, n / 128] else [n % 128 + 128, n / 128 % 128 + 128, n / 16384]
end Go.Proofs.Ytodoaebpkmhhmaa

/-
  Of part Msg: what is needed here.
-/
namespace Go.Proofs.Ytodoaebpkmhhmaa
open Go.RowKit
set_option linter.unusedVariables false
set_option maxRecDepth 100000
/-- an instruction -/
structure LIn where
  p : Int
  acc : List Int
  dat : List Int
/-- a lookup -/
structure LLook where
  tab : List Int
  wr : List Int
  rd : List Int
/-- a message -/
structure LMsg where
  v0 : Bool
  s : Int
  r : Int
  o : Int
  keys : List (List Int)
  recent : List Int
  ins : List LIn
  looks : List LLook
/-- how many, and the bytes -/
def encL (l : List Int) : List Int := short l.length ++ l
def encIn (i : LIn) : List Int := i.p :: (encL i.acc ++ encL i.dat)
def encLook (l : LLook) : List Int := l.tab ++ (encL l.wr ++ encL l.rd)
def encHead (m : LMsg) : List Int := (if m.v0 then [128] else []) ++ [m.s, m.r, m.o]
def encTail (m : LMsg) : List Int := if m.v0 then short m.looks.length ++ m.looks.flatMap encLook else []
/-- a message's bytes -/
def enc (m : LMsg) : List Int := encHead m ++ (short m.keys.length ++ (m.keys.flatten ++ (m.recent ++ (short m.ins.length ++ (m.ins.flatMap encIn ++ encTail m)))))
/-- a byte -/
def IsByte (z : Int) : Prop := 0 ≤ z ∧ z < 256
def AllBytes (l : List Int) : Prop := ∀ z ∈ l, IsByte z
/-- where a message's lists lie -/
structure Raw where
  KA : Option Addr
  kn : Nat
  kc : Nat
  IA : Option Addr
  n : Nat
  ic : Nat
  LA : Option Addr
  ln : Nat
  lc : Nat
/-- a message's cells -/
def Raw.cells (q : Raw) (m : LMsg) : List Value :=
  [.bool m.v0, .int .u8 m.s, .int .u8 m.r, .int .u8 m.o, .slice q.KA q.kn q.kc] ++ (bv m.recent ++ [.slice q.IA q.n q.ic, .slice q.LA q.ln q.lc])
end Go.Proofs.Ytodoaebpkmhhmaa

/-
  Of part Math13: what is needed here.
-/
namespace Go.Proofs.Ytodoaebpkmhhmaa
set_option linter.unusedVariables false
/-- an account; a key's -/
structure LAcc where
  c : Int
  o : List Int
  s : Int
  deriving DecidableEq
def blank13 : LAcc := ⟨0, List.replicate 32 0, 0⟩
structure AccOk (a : LAcc) : Prop where
  c : 0 ≤ a.c ∧ a.c < 18446744073709551616
  o : a.o.length = 32 ∧ AllBytes a.o
  s : 0 ≤ a.s ∧ a.s < 18446744073709551616
theorem blank_ok : AccOk blank13 := ⟨by decide, ⟨rfl, fun z hz => by rw [List.eq_of_mem_replicate hz]; constructor <;> decide⟩, by decide⟩
end Go.Proofs.Ytodoaebpkmhhmaa

/-
  Of part Get: what is needed here.
-/
namespace Go.Proofs.Ytodoaebpkmhhmaa
open Go.RowKit
set_option linter.unusedVariables false
set_option maxRecDepth 100000
/-- all are bytes -/
def Bytes (zs : List Int) : Prop := ∀ i, 0 ≤ zs.getD i 0 ∧ zs.getD i 0 < 256
theorem tup2_of {k l : IntKind} {a b : Int} {p : Int × Int} (h : p = (a, b)) : Ending.returned (.tuple #[.int k a, .int l b]) = .returned (.tuple #[.int k p.1, .int l p.2]) := by rw [h]
end Go.Proofs.Ytodoaebpkmhhmaa

/-
  Of part Parse: what is needed here.
-/
namespace Go.Proofs.Ytodoaebpkmhhmaa
open Go.RowKit
set_option linter.unusedVariables false
set_option maxRecDepth 100000
theorem AllBytes.drop {zs : List Int} (h : AllBytes zs) (k : Nat) : AllBytes (zs.drop k) := fun z hz => h z (List.mem_of_mem_drop hz)
theorem AllBytes.take {zs : List Int} (h : AllBytes zs) (k : Nat) : AllBytes (zs.take k) := fun z hz => h z (List.mem_of_mem_take hz)
theorem AllBytes.bytes {zs : List Int} (h : AllBytes zs) : Bytes zs := by
  intro i
  rw [List.getD_eq_getElem?_getD]
  by_cases hi : i < zs.length
  · rw [List.getElem?_eq_getElem hi]
    exact h _ (List.getElem_mem hi)
  · rw [List.getElem?_eq_none (by omega)]; simp
end Go.Proofs.Ytodoaebpkmhhmaa

/-
  Of part Whole: what is needed here.
-/
namespace Go.Proofs.Ytodoaebpkmhhmaa
open Go.RowKit
set_option linter.unusedVariables false
set_option maxRecDepth 100000
section
variable {P : Program}
/-- a value of many cells, read from an address -/
theorem run_loadAt_at (w : World) (p : Addr) (ty : TypeId) (cs : List Value) (d : TypeDesc) (hc : ∀ j v, cs[j]? = some v → w.cell? (p.add j) = some v)
    (hu : P.underlying ty = some d) (hd : d.isRow = true) (hi : (P.info? ty).map (·.size) = some cs.length) :
    (Instr.loadAt ty (.pointer (some p))).run P w = .ok (.agg cs.toArray) w := by
  have hl : (loadCells p cs.length).run P w = .ok cs.toArray w := run_loadCells_list (P := P) w p cs hc
  cases hq : P.info? ty with
  | none => simp [hq] at hi
  | some i =>
    have hs : i.size = cs.length := by simpa [hq] using hi
    have hagg : (isAgg ty).run P w = .ok true w := by
      unfold isAgg
      rw [Sem.run_bind, run_underlying hu w]
      cases d <;> simp_all
    simp [Instr.loadAt, Instr.sureAddr, loadVar, Sem.run_bind, hagg, sizeOf, typeInfo, hq, hs, hl]
theorem wpList_load_at {ops : Array Oper} {rest : List Oper} {op : Oper} {a : Act} {w : World} {Q : Exit → Act → World → Prop} (hgd : op.guard = none) (ty : TypeId) (x : Operand) (ho : op.op = .load ty x)
    (p : Addr) (cs : List Value) (d : TypeDesc) (hu : P.underlying ty = some d) (hd : d.isRow = true) (hi : (P.info? ty).map (·.size) = some cs.length) (hc : ∀ j v, cs[j]? = some v → w.cell? (p.add j) = some v)
    (hx : a.eval x = .pointer (some p)) (h : wpList P ops Q rest (a.put op.dst (.agg cs.toArray)) w) : wpList P ops Q (op :: rest) a w :=
  wpList_plain hgd fun _ hK => by
    unfold Oper.wp execOp
    simp only [ho, hx, Sem.run_bind, Sem.run_pure, run_loadAt_at w p ty cs d hc hu hd hi, Result.andThen_ok]
    exact hK _ _ h
/-- the same, the pointer's block a whole row -/
theorem wpList_load_whole {ops : Array Oper} {rest : List Oper} {op : Oper} {a : Act} {w : World} {Q : Exit → Act → World → Prop} (hgd : op.guard = none) (ty : TypeId) (x : Operand) (ho : op.op = .load ty x)
    (g t : Nat) (cs : List Value) (d : TypeDesc) (hu : P.underlying ty = some d) (hd : d.isRow = true) (hi : (P.info? ty).map (·.size) = some cs.length) (hr : Row w g t cs)
    (hx : a.eval x = .pointer (some ⟨g, 0, none⟩)) (h : wpList P ops Q rest (a.put op.dst (.agg cs.toArray)) w) : wpList P ops Q (op :: rest) a w :=
  wpList_load_at hgd ty x ho ⟨g, 0, none⟩ cs d hu hd hi (fun j v hv => by rw [addr_row, hr.cell]; simpa using hv) hx h
/-- a value of many cells into a block that is known whole: the world behind it, of which this is told -/
theorem run_storeAt_whole (w : World) (g ty : Nat) (c cs : List Value) (hr : Row w g ty c) (hi : (P.info? ty).map (·.size) = some cs.length) (hl : c.length = cs.length) (h1 : ∀ u ∈ cs, u.oneCell' = true) :
    (Instr.storeAt ty (.pointer (some ⟨g, 0, none⟩)) (.agg cs.toArray)).run P w = .ok () (w.setRow g cs.toArray) := by
  have := run_storeVar_row (P := P) w g ty ty c.toArray cs.toArray hr.is (by simpa using hi) (by simpa using hl) (all_oneCell_toArray h1)
  simp only [Instr.storeAt, Instr.sureAddr, Sem.run_bind, Sem.run_pure, Result.andThen_ok, this]
/-- but for block g, w' is w -/
structure Turned (w w' : World) (g : Nat) : Prop where
  os : w'.os = w.os
  tape : w'.tape = w.tape
  output : w'.output = w.output
  size : w'.heap.size = w.heap.size
  block : ∀ k, k ≠ g → w'.heap[k]? = w.heap[k]?
theorem turned_setRow (w : World) (g : Nat) (cs : Array Value) : Turned w (w.setRow g cs) g :=
  ⟨rfl, rfl, rfl, by simp, fun k hk => setRow_other w g k cs hk⟩
theorem turned_setCell (w : World) (p : Addr) (u : Value) : Turned w (w.setCell p u) p.block :=
  ⟨rfl, rfl, rfl, by simp [World.setCell], fun k hk => Below.heap_setCell _ _ _ _ hk⟩
theorem row_setRow {w : World} {g t : Nat} {c : List Value} (hr : Row w g t c) (cs : List Value) : Row (w.setRow g cs.toArray) g t cs :=
  ⟨setRow_heap w g c.toArray cs.toArray t _ hr.is⟩
theorem Turned.below {w w' : World} {g B : Nat} (h : Turned w w' g) (hB : B ≤ g) : Below B w w' :=
  ⟨h.os, h.tape, h.output, by rw [h.size]; exact Nat.le_refl _, fun k hk => h.block k (by omega)⟩
theorem Turned.row {w w' : World} {g k t : Nat} {xs : List Value} (h : Turned w w' g) (hr : Row w k t xs) (hk : k ≠ g) : Row w' k t xs := ⟨(h.block k hk).trans hr.is⟩
theorem wpList_store_whole {ops : Array Oper} {rest : List Oper} {op : Oper} {a : Act} {w : World} {Q : Exit → Act → World → Prop} (hgd : op.guard = none) (ty : TypeId) (x y : Operand) (ho : op.op = .store ty x y)
    (g : Nat) (c cs : List Value) (hr : Row w g ty c) (hi : (P.info? ty).map (·.size) = some cs.length) (hl : c.length = cs.length) (h1 : ∀ u ∈ cs, u.oneCell' = true)
    (hx : a.eval x = .pointer (some ⟨g, 0, none⟩)) (hy : a.eval y = .agg cs.toArray)
    (h : ∀ w', Row w' g ty cs → Turned w w' g → wpList P ops Q rest (a.put op.dst undef) w') : wpList P ops Q (op :: rest) a w :=
  wpList_plain hgd fun _ hK => by
    unfold Oper.wp execOp
    simp only [ho, hx, hy, Sem.run_bind, Sem.run_pure, run_storeAt_whole w g ty c cs hr hi hl h1, Result.andThen_ok]
    exact hK _ _ (h _ (row_setRow hr cs) (turned_setRow w g _))
/-- a variable that has just been made is given its value -/
theorem wpList_store_new {ops : Array Oper} {rest : List Oper} {op : Oper} {a : Act} {w0 : World} {c : Array Value} {Q : Exit → Act → World → Prop} (hgd : op.guard = none) (ty : TypeId) (x y : Operand) (ho : op.op = .store ty x y)
    (cs : List Value) (hi : (P.info? ty).map (·.size) = some cs.length) (h1 : ∀ u ∈ cs, u.oneCell' = true) (hl : c.size = cs.length)
    (hx : a.eval x = .pointer (some ⟨w0.heap.size, 0, none⟩)) (hy : a.eval y = .agg cs.toArray)
    (h : ∀ w', Row w' w0.heap.size ty cs → Below w0.heap.size w0 w' → w'.heap.size = w0.heap.size + 1 → wpList P ops Q rest (a.put op.dst undef) w') : wpList P ops Q (op :: rest) a (w0.alloc (.cells c ty)) := by
  have hr : Row (w0.alloc (.cells c ty)) w0.heap.size ty c.toList := by
    have := Row.new w0 ty c.toList
    simpa using this
  refine wpList_store_whole hgd ty x y ho w0.heap.size c.toList cs hr hi (by simpa using hl) h1 hx hy fun w' hr' ht => ?_
  exact h w' hr' (((Below.refl _ w0).alloc (Nat.le_refl _) _).trans (ht.below (Nat.le_refl _))) (by rw [ht.size]; simp)
theorem row_setCells {g t : Nat} : ∀ (cs : List Value) (w : World) (o : Nat) (c : List Value), Row w g t c → o + cs.length ≤ c.length → Row (w.setCells g o cs) g t (c.take o ++ cs ++ c.drop (o + cs.length))
  | [], w, o, c, h, _ => by simpa [World.setCells] using h
  | v :: r, w, o, c, h, hl => by
    have h1 := row_setCells r (w.setCell ⟨g, o, none⟩ v) (o + 1) (c.set o v) (h.set_ o v) (by simp at hl ⊢; omega)
    have e : (c.set o v).take (o + 1) ++ r ++ (c.set o v).drop (o + 1 + r.length) = c.take o ++ (v :: r) ++ c.drop (o + (v :: r).length) := by
      have ho : o < c.length := by simp at hl; omega
      rw [List.take_succ_eq_append_getElem (by simpa using ho), List.drop_set_of_lt (by omega), List.take_set_of_le (Nat.le_refl o)]
      simp only [List.getElem_set_self, List.append_assoc, List.cons_append, List.nil_append, List.length_cons]
      rw [show o + 1 + r.length = o + (r.length + 1) by omega]
    rw [e] at h1
    exact h1
theorem turned_setCells {g : Nat} : ∀ (cs : List Value) (w : World) (o : Nat), Turned w (w.setCells g o cs) g
  | [], w, o => ⟨rfl, rfl, rfl, rfl, fun _ _ => rfl⟩
  | v :: r, w, o => by
    have h1 := turned_setCell w ⟨g, o, none⟩ v
    have h2 := turned_setCells (g := g) r (w.setCell ⟨g, o, none⟩ v) (o + 1)
    exact ⟨h2.os.trans h1.os, h2.tape.trans h1.tape, h2.output.trans h1.output, h2.size.trans h1.size, fun k hk => (h2.block k hk).trans (h1.block k hk)⟩
/-- a value of many cells into a part of a block -/
theorem wpList_store_part {ops : Array Oper} {rest : List Oper} {op : Oper} {a : Act} {w : World} {Q : Exit → Act → World → Prop} (hgd : op.guard = none) (ty : TypeId) (x y : Operand) (ho : op.op = .store ty x y)
    (g t o : Nat) (c cs : List Value) (hr : Row w g t c) (hi : (P.info? ty).map (·.size) = some cs.length) (hl : o + cs.length ≤ c.length) (h1 : ∀ u ∈ cs, u.oneCell' = true)
    (hx : a.eval x = .pointer (some ⟨g, o, none⟩)) (hy : a.eval y = .agg cs.toArray)
    (h : ∀ w', Row w' g t (c.take o ++ cs ++ c.drop (o + cs.length)) → Turned w w' g → wpList P ops Q rest (a.put op.dst undef) w') : wpList P ops Q (op :: rest) a w :=
  wpList_store_mid hgd ty x y ho g o cs.toArray hx hy (fun j hj => ⟨by
      have hj' : j < cs.length := by simpa using hj
      rw [hr.cell, List.getElem?_eq_getElem (by omega)]; rfl, hr.frozen _⟩) (by simpa using hi) (all_oneCell_toArray h1)
    (h _ (by simpa using row_setCells cs w o c hr hl) (turned_setCells cs w o))
end
end Go.Proofs.Ytodoaebpkmhhmaa

/-
  Of part Append: what is needed here.
-/
namespace Go.Proofs.Ytodoaebpkmhhmaa
open Go.RowKit
set_option linter.unusedVariables false
set_option maxRecDepth 100000
section
variable {P : Program} {w : World} {base : Nat} {t ty e : TypeId} {i : TypeInfo} {z : Value} {bytes : Nat} {v : Value} {n m c B : Nat} {A : Option Addr} {xs news : List Value}
theorem run_append_nothing (ht : P.underlying t = some (.slice e)) (hi : P.info? e = some i) (hown : w.ownsRow base e 1 v n xs) (c : Nat) :
    (Builtin.append_ #[t, t] ty #[v, .slice none 0 c]).run P w = .ok v w := by
  rcases hown.2 with ⟨rfl, rfl⟩ | ⟨g, cap, cur, rfl, _, _, hnc, _⟩ <;>
    simp [Builtin.append_, run_underlying ht, sizeOf, typeInfo, Builtin.lenOf, Builtin.firstCells, storeCells, *]
theorem run_append_sees (ht : P.underlying t = some (.slice e)) (hi : P.info? e = some i) (hz : i.zero = some z) (hsize : i.size = 1) (hby : i.bytes = bytes) (hzs : z.cells.size = 1)
    (hown : w.ownsRow base e 1 v n xs) (hr : Sees w B A m news) (h1 : ∀ u ∈ news, u.oneCell' = true) (hnm : n + m ≤ maxLen) (hbytes : (n + m) * bytes ≤ 140737488355328) (hbase : base ≤ w.heap.size) (c : Nat) :
    ∃ v' w', (Builtin.append_ #[t, t] ty #[v, .slice A m c]).run P w = .ok v' w' ∧ w'.ownsRow base e 1 v' (n + m) (xs ++ news) ∧ w.grownBy w' v.ownBlock ∧ (v'.ownBlock = v.ownBlock ∨ v'.ownBlock = some w.heap.size) := by
  cases A with
  | none =>
    have hn : news = [] := by
      cases news with
      | nil => rfl
      | cons u r =>
        obtain ⟨a, h, _⟩ := hr.cell 0 u rfl
        cases h
    subst hn
    obtain rfl : m = 0 := by simpa using hr.len.symm
    exact ⟨v, w, run_append_nothing ht hi hown c, by simpa using hown, World.grownBy.refl w _, .inl rfl⟩
  | some ad =>
    obtain ⟨v', w', hrun, h2, h3, _, h5⟩ := run_append_own_at (P := P) w base t ty e i z 1 bytes ht hi hz hsize hby hzs (by omega) v n xs hown ad m c news (by rw [hr.len]; omega)
      (fun j u hu => by
        obtain ⟨a, h, _, hc⟩ := hr.cell j u hu
        cases h
        exact hc) h1 hnm hbytes hbase
    exact ⟨v', w', hrun, h2, h3, h5⟩
theorem wp_append_sees {o : Oper} {a : Act} {K : Act → World → Prop} {Q : Exit → Act → World → Prop} (s x : Operand)
    (ho : o.op = .call { callee := .builtin .append, args := #[s, x], argTypes := #[t, t] })
    (ht : P.underlying t = some (.slice e)) (hi : P.info? e = some i) (hz : i.zero = some z) (hsize : i.size = 1) (hby : i.bytes = bytes) (hzs : z.cells.size = 1)
    (hs : a.eval s = v) (hown : w.ownsRow base e 1 v n xs) (hx : a.eval x = .slice A m c) (hr : Sees w B A m news) (h1 : ∀ u ∈ news, u.oneCell' = true)
    (hnm : n + m ≤ maxLen) (hbytes : (n + m) * bytes ≤ 140737488355328) (hbase : base ≤ w.heap.size)
    (h : ∀ v' w', w'.ownsRow base e 1 v' (n + m) (xs ++ news) → w.grownBy w' v.ownBlock → (v'.ownBlock = v.ownBlock ∨ v'.ownBlock = some w.heap.size) → K (a.put o.dst v') w') : o.wp P a w K Q := by
  obtain ⟨v', w', hrun, h2, h3, h4⟩ := run_append_sees (P := P) (ty := o.type) ht hi hz hsize hby hzs hown hr h1 hnm hbytes hbase c
  unfold Oper.wp execOp
  simp only [ho, resolve, invoke, builtin, Sem.run_bind, Sem.run_pure, Result.andThen_ok, List.map_toArray, List.map_cons, List.map_nil, hs, hx, hrun]
  exact h v' w' h2 h3 h4
end
theorem own_form {w : World} {base : Nat} {e : TypeId} {v : Value} {n : Nat} {xs : List Value} (h : w.ownsRow base e 1 v n xs) : ∃ A c, v = .slice A n c := by
  rcases h.2 with ⟨rfl, rfl⟩ | ⟨g, cap, cur, rfl, _⟩
  · exact ⟨_, _, rfl⟩
  · exact ⟨_, _, rfl⟩
theorem own_row_ne {w : World} {base : Nat} {e t : TypeId} {v : Value} {n g : Nat} {xs ys : List Value} (h : w.ownsRow base e 1 v n xs) (hr : Row w g t ys) (hne : e ≠ t) : some g ≠ v.ownBlock := by
  rcases h.2 with ⟨rfl, _⟩ | ⟨g', cap, cur, rfl, _, hh, _⟩
  · simp [Value.ownBlock]
  · intro he
    have hg : g = g' := by simpa [Value.ownBlock] using he
    subst hg
    have := hr.is
    rw [hh] at this
    injection this with this
    injection this with _ ht
    exact hne ht
end Go.Proofs.Ytodoaebpkmhhmaa

/-
  Of part Many: what is needed here.
-/
namespace Go.Proofs.Ytodoaebpkmhhmaa
open Go.RowKit
set_option linter.unusedVariables false
set_option maxRecDepth 100000
/-- 'v' is a row of bytes of the call's own, from block 'base' on -/
def OwnB (w : World) (base : Nat) (v : Value) (xs : List Int) : Prop := w.ownsRow base 5 1 v xs.length (bv xs)
theorem own_below {w w' : World} {base n size : Nat} {e : TypeId} {v : Value} {xs : List Value} (h : w.ownsRow base e size v n xs) (hb : Below w.heap.size w w') : w'.ownsRow base e size v n xs := by
  refine ⟨h.1, ?_⟩
  rcases h.2 with h2 | ⟨g, cap, cur, hv, hg, hh, r⟩
  · exact .inl h2
  · exact .inr ⟨g, cap, cur, hv, hg, (hb.block g (Array.getElem?_eq_some_iff.1 hh).1).trans hh, r⟩
theorem OwnB.below {w w' : World} {base : Nat} {v : Value} {xs : List Int} (h : OwnB w base v xs) (hb : Below w.heap.size w w') : OwnB w' base v xs := own_below h hb
theorem OwnB.alloc {w : World} {base : Nat} {v : Value} {xs : List Int} (h : OwnB w base v xs) (o : Obj) : OwnB (w.alloc o) base v xs := World.ownsRow.alloc h o
theorem OwnB.nil (w : World) (base : Nat) : OwnB w base (.slice none 0 0) [] := World.ownsRow_nil w base _ _
theorem OwnB.drewN {w : World} {base : Nat} {v : Value} {xs : List Int} (h : OwnB w base v xs) (k : Nat) : OwnB (w.drewN k) base v xs := h
theorem OwnB.form {w : World} {base : Nat} {v : Value} {xs : List Int} (h : OwnB w base v xs) : ∃ A c, v = .slice A xs.length c := own_form h
theorem OwnB.sees {w : World} {base : Nat} {A : Option Addr} {n c : Nat} {xs : List Int} (h : OwnB w base (.slice A n c) xs) : Sees w w.heap.size A n (bv xs) := by
  obtain ⟨A', c', e⟩ := h.form
  cases e
  exact Sees.of_own h
/-- from w, with the row v, to w', with the row v': of what was there v's block alone may have been written -/
structure Grew (w w' : World) (v v' : Value) : Prop where
  grown : w.grownBy w' v.ownBlock
  fresh : ∀ k, v'.ownBlock = some k → v.ownBlock = some k ∨ w.heap.size ≤ k
section
variable {w w' w'' : World} {v v' v'' : Value}
theorem Grew.refl (w : World) (v : Value) : Grew w w v v := ⟨World.grownBy.refl w _, fun k h => .inl h⟩
theorem Grew.size (h : Grew w w' v v') : w.heap.size ≤ w'.heap.size := h.grown.size
theorem Grew.trans (h : Grew w w' v v') (k : Grew w' w'' v' v'') : Grew w w'' v v'' :=
  ⟨⟨k.grown.os.trans h.grown.os, k.grown.tape.trans h.grown.tape, k.grown.output.trans h.grown.output, Nat.le_trans h.size k.size, fun i hi hne =>
      (k.grown.block i (Nat.lt_of_lt_of_le hi h.size) fun e => by
        rcases h.fresh i e.symm with h1 | h1
        · exact hne h1.symm
        · omega).trans (h.grown.block i hi hne)⟩,
    fun i hi => by
      rcases k.fresh i hi with h1 | h1
      · exact h.fresh i h1
      · exact .inr (Nat.le_trans h.size h1)⟩
theorem Grew.of_below (hb : Below w.heap.size w w') (v : Value) : Grew w w' v v := ⟨⟨hb.os, hb.tape, hb.output, hb.size, fun k hk _ => hb.block k hk⟩, fun k h => .inl h⟩
theorem Grew.alloc (h : Grew w w' v v') (o : Obj) : Grew w (w'.alloc o) v v' := h.trans (.of_below ((Below.refl _ _).alloc (Nat.le_refl _) o) v')
theorem Grew.row {g t : Nat} {ys : List Value} (h : Grew w w' v v') (hr : Row w g t ys) (hg : some g ≠ v.ownBlock) : Row w' g t ys := hr.grown h.grown hg
theorem Grew.ne {g : Nat} (h : Grew w w' v v') (hg : some g ≠ v.ownBlock) (hlt : g < w.heap.size) : some g ≠ v'.ownBlock := fun e => by
  rcases h.fresh g e.symm with h1 | h1
  · exact hg h1.symm
  · omega
theorem Grew.below {base n size : Nat} {e : TypeId} {xs : List Value} (h : Grew w w' v v') (hown : w.ownsRow base e size v n xs) (hbase : base ≤ w.heap.size) : Below base w w' :=
  (Below.refl base w).grown h.grown hbase fun k hk => (hown.lt k hk).1
end
end Go.Proofs.Ytodoaebpkmhhmaa

/-
  Of part Looks: what is needed here.
-/
namespace Go.Proofs.Ytodoaebpkmhhmaa
open Go.RowKit
set_option linter.unusedVariables false
set_option maxRecDepth 100000
theorem size_key : (Try.prog.info? 46).map (·.size) = some 32 := by kernel_rfl
end Go.Proofs.Ytodoaebpkmhhmaa

/-
  Of part PutMsg: what is needed here.
-/
namespace Go.Proofs.Ytodoaebpkmhhmaa
open Go.RowKit
set_option linter.unusedVariables false
set_option maxRecDepth 100000
theorem OwnB.row {w : World} {base : Nat} {v : Value} {ys : List Int} (h : OwnB w base v ys) (h0 : 0 < ys.length) : ∃ g rest c, v = .slice (some ⟨g, 0, none⟩) ys.length c ∧ base ≤ g ∧ Row w g 5 (bv ys ++ rest) ∧ ys.length ≤ c ∧ c ≤ maxLen := by
  rcases h.2 with ⟨_, h1⟩ | ⟨g, cap, cur, rfl, hg, hh, h2, h3, h4, h5⟩
  · omega
  · refine ⟨g, cur.toList.drop ys.length, cap, rfl, hg, ⟨?_⟩, h2, h3⟩
    rw [hh]
    have : bv ys ++ cur.toList.drop ys.length = cur.toList := by
      rw [← h5]; simp
    rw [this]
end Go.Proofs.Ytodoaebpkmhhmaa

/-
  Of part Read: what is needed here.
-/
namespace Go.Proofs.Ytodoaebpkmhhmaa
open Go.RowKit
set_option linter.unusedVariables false
set_option maxRecDepth 100000
/-- but for block p, all that was there is as it was -/
structure But (p : Nat) (w w' : World) : Prop where
  os : w'.os = w.os
  tape : w'.tape = w.tape
  output : w'.output = w.output
  size : w.heap.size ≤ w'.heap.size
  block : ∀ k, k < w.heap.size → k ≠ p → w'.heap[k]? = w.heap[k]?
section
variable {w w' w'' : World} {p B : Nat} {zs : List Int}
theorem But.refl (p : Nat) (w : World) : But p w w := ⟨rfl, rfl, rfl, Nat.le_refl _, fun _ _ _ => rfl⟩
theorem But.trans (h : But p w w') (k : But p w' w'') : But p w w'' :=
  ⟨k.os.trans h.os, k.tape.trans h.tape, k.output.trans h.output, Nat.le_trans h.size k.size, fun i hi hp => (k.block i (Nat.lt_of_lt_of_le hi h.size) hp).trans (h.block i hi hp)⟩
theorem But.of_below (hb : Below w.heap.size w w') (p : Nat) : But p w w' := ⟨hb.os, hb.tape, hb.output, hb.size, fun k hk _ => hb.block k hk⟩
theorem But.of_turned (h : Turned w w' p) : But p w w' := ⟨h.os, h.tape, h.output, by rw [h.size]; exact Nat.le_refl _, fun k _ hk => h.block k hk⟩
theorem But.below (h : But p w w') (hB : B ≤ p) (hs : B ≤ w.heap.size) : Below B w w' := ⟨h.os, h.tape, h.output, h.size, fun k hk => h.block k (by omega) (by omega)⟩
theorem But.row {g t : Nat} {xs : List Value} (h : But p w w') (hr : Row w g t xs) (hg : g ≠ p) : Row w' g t xs := ⟨(h.block g hr.lt hg).trans hr.is⟩
end
theorem But.drew {w w' : World} {p : Nat} (h : But p w w') : But p w w'.drew := ⟨h.os, h.tape, h.output, h.size, h.block⟩
theorem But.alloc {w w' : World} {p : Nat} (h : But p w w') (o : Obj) : But p w (w'.alloc o) := h.trans (.of_below ((Below.refl _ _).alloc (Nat.le_refl _) o) p)
end Go.Proofs.Ytodoaebpkmhhmaa

/-
  Of part ReadIn: what is needed here.
-/
namespace Go.Proofs.Ytodoaebpkmhhmaa
open Go.RowKit
set_option linter.unusedVariables false
set_option maxRecDepth 100000
section
variable {w w' : World} {p B g lo : Nat} {zs : List Int} {v : Value} {xs : List Int}
theorem But.turned {w0 : World} (h : But p w0 w) (ht : Turned w w' g) (hg : w0.heap.size ≤ g) : But p w0 w' :=
  ⟨ht.os.trans h.os, ht.tape.trans h.tape, ht.output.trans h.output, by rw [ht.size]; exact h.size, fun k hk hne => (ht.block k (by omega)).trans (h.block k hk hne)⟩
theorem OwnB.turned (h : OwnB w lo v xs) (ht : Turned w w' g) (hg : g < lo) : OwnB w' lo v xs := by
  refine ⟨h.1, ?_⟩
  rcases h.2 with h2 | ⟨k, cap, cur, hv, hk, hh, r⟩
  · exact .inl h2
  · exact .inr ⟨k, cap, cur, hv, hk, (ht.block k (by omega)).trans hh, r⟩
theorem OwnB.lt (h : OwnB w lo v xs) : ∀ k, v.ownBlock = some k → lo ≤ k ∧ k < w.heap.size := World.ownsRow.lt h
theorem OwnB.one (h : OwnB w lo v xs) : v.oneCell' = true := by
  obtain ⟨A, c, rfl⟩ := h.form
  rfl
end
end Go.Proofs.Ytodoaebpkmhhmaa

/-
  Of part GetMsg: what is needed here.
-/
namespace Go.Proofs.Ytodoaebpkmhhmaa
open Go.RowKit
set_option linter.unusedVariables false
set_option maxRecDepth 100000
/-- 'wpAnyH_take', the operations a list: the operation comes out written out -/
theorem takeL {P : Program} {L : List Oper} {Q : Exit → Act → World → Prop} {md : Region.Mode} {S : World → Prop} {i : Nat} {oi : Oper} {v : Value} {fuel : Nat} {listed : Array Bool} {a : Act} {w : World} (hi : L[i]? = some oi)
    (hs : Region.noSelect L.toArray = true) (hf : Region.free md L.toArray listed i = true) (hr : (Region.ready md L.toArray listed).contains i = true)
    (hQ : ∀ c a w, Q (.panic c) (a.put oi.dst v) w → Q (.panic c) a w) (hy : YieldsIf P L.toArray S oi v a) (hS : S w)
    (h : wpAnyH P md L.toArray Q S fuel (listed.setIfInBounds i true) (a.put oi.dst v) w) : wpAnyH P md L.toArray Q S (fuel + 1) listed a w :=
  wpAnyH_take (by simpa using hi) hs hf hr hQ hy hS h
/-- 'AllReadyH.cons', likewise, for one operation -/
theorem readyL {P : Program} {L : List Oper} {Q : Exit → Act → World → Prop} {md : Region.Mode} {S : World → Prop} {i : Nat} {o : Oper} {fuel : Nat} {listed : Array Bool} {a : Act} {w : World} (ho : L[i]? = some o) (hr : Region.ready md L.toArray listed = [i])
    (hw : Region.wanted o (yielded L.toArray a.tmps) = true)
    (h : ∀ K' : Act → World → Prop, Shut (∀ a w, S w → wpAnyH P md L.toArray Q S fuel (listed.setIfInBounds i true) a w → K' a w) → Oper.wp P o a w K' Q) : wpAnyH P md L.toArray Q S (fuel + 1) listed a w :=
  wpAnyH_ready hr (by simp) (AllReadyH.cons (by simpa using ho) (fun K hK => by
    rw [if_pos hw]
    exact h K (fun a w hS hW => hK a w hS fun _ => hW)) AllReadyH.nil)
end Go.Proofs.Ytodoaebpkmhhmaa

/-
  Of part Guard: what is needed here.
-/
namespace Go.Proofs.Ytodoaebpkmhhmaa
open Go.RowKit
set_option linter.unusedVariables false
set_option maxRecDepth 100000
section
variable {P : Program} {ops : Array Oper} {rest : List Oper} {o : Oper} {a : Act} {Q : Exit → Act → World → Prop}
theorem wpList_addBg {w : World} (hw : Region.wanted o (yielded ops a.tmps) = true) (s x : Operand) (t : TypeId)
    (ho : o.op = .call { callee := .builtin .append, args := #[s, x], argTypes := #[t, t] })
    (base : Nat) (ht : P.underlying t = some (.slice 5)) (hi : (P.info? 5).map (fun i => (i.zero, i.size, i.bytes)) = some (some (.int .u8 0), 1, 1))
    (v : Value) (xs : List Int) (hs : a.eval s = v) (hown : OwnB w base v xs) (B : Nat) (A : Option Addr) (m c : Nat) (news : List Int) (hx : a.eval x = .slice A m c) (hr : Sees w B A m (bv news))
    (hbase : base ≤ w.heap.size) (hnm : (xs ++ news).length ≤ 1099511627776)
    (h : ∀ v' w', OwnB w' base v' (xs ++ news) → Grew w w' v v' → wpList P ops Q rest (a.put o.dst v') w') : wpList P ops Q (o :: rest) a w := by
  obtain ⟨i0, hi, hz0, hz1, hz2⟩ := info_parts hi
  have hm : news.length = m := by have := hr.len; rwa [bv_length] at this
  subst hm
  have hl : xs.length + news.length ≤ 1099511627776 := by simpa using hnm
  refine BigFrame.wpList_want hw fun K hK => ?_
  refine wp_append_sees s x ho ht hi hz0 hz1 hz2 rfl hs hown hx hr (bv_one news) (by unfold maxLen; omega) (by omega) hbase ?_
  intro v' w' ho' hg hat
  refine hK _ _ (h v' w' ?_ ⟨hg, fun k hk => ?_⟩)
  · have := ho'
    unfold OwnB
    rw [bv_append]
    simpa using this
  · rcases hat with hat | hat
    · exact .inl (hat ▸ hk)
    · rw [hat] at hk
      cases hk
      exact .inr (Nat.le_refl _)
theorem wpList_addLitg {w0 : World} {c : Array Value} (hw : Region.wanted o (yielded ops a.tmps) = true) (s x : Operand) (t : TypeId)
    (ho : o.op = .call { callee := .builtin .append, args := #[s, x], argTypes := #[t, t] })
    (base : Nat) (ht : P.underlying t = some (.slice 5)) (hi : (P.info? 5).map (fun i => (i.zero, i.size, i.bytes)) = some (some (.int .u8 0), 1, 1))
    (v : Value) (xs news : List Int) (cc : Nat) (hc : c = (bv news).toArray) (hs : a.eval s = v) (hown : OwnB w0 base v xs) (hx : a.eval x = .slice (some ⟨w0.heap.size, 0, none⟩) news.length cc)
    (hbase : base ≤ w0.heap.size) (hnm : (xs ++ news).length ≤ 1099511627776)
    (h : ∀ v' w', OwnB w' base v' (xs ++ news) → Grew w0 w' v v' → wpList P ops Q rest (a.put o.dst v') w') : wpList P ops Q (o :: rest) a (w0.alloc (.cells c 5)) := by
  subst hc
  have hr := (Row.new w0 5 (bv news)).sees0
  rw [bv_length] at hr
  refine wpList_addBg hw s x t ho base ht hi v xs hs (hown.alloc _) _ _ _ cc news hx hr (by simp; omega) hnm ?_
  intro v' w' ho' hg'
  exact h v' w' ho' ((Grew.of_below ((Below.refl _ w0).alloc (Nat.le_refl _) _) v).trans hg')
end
end Go.Proofs.Ytodoaebpkmhhmaa

/-
  Of part SameMsg: what is needed here.
-/
namespace Go.Proofs.Ytodoaebpkmhhmaa
open Go.RowKit
set_option linter.unusedVariables false
set_option maxRecDepth 100000
section
variable {P : Program} {ops : Array Oper} {C : World → Prop} {Q : Act → Prop} {a : Act} {o : Oper} {rest : List Oper}
/-- a value of many cells, read in a region that only reads -/
theorem quiet_load_at (hw : Region.wanted o (yielded ops a.tmps) = true) (ty : TypeId) (x : Operand) (ho : o.op = .load ty x)
    (p : Addr) (cs : List Value) (d : TypeDesc) (hu : P.underlying ty = some d) (hd : d.isRow = true) (hi : (P.info? ty).map (·.size) = some cs.length) (hc : ∀ w, C w → ∀ j v, cs[j]? = some v → w.cell? (p.add j) = some v)
    (hx : a.eval x = .pointer (some p)) (h : wpQuiet P ops C Q rest (a.put o.dst (.agg cs.toArray))) : wpQuiet P ops C Q (o :: rest) a :=
  BigFrame.wpQuiet_want hw fun K hK => ⟨_, fun w hC => by
    unfold Oper.quietAt execOp
    simp only [ho, hx, Sem.run_bind, Sem.run_pure, run_loadAt_at w p ty cs d (hc w hC) hu hd hi, Result.andThen_ok]
    exact ⟨rfl, rfl⟩, hK _ h⟩
end
theorem plainU8 : Try.prog.plainKey 5 = true := by kernel_rfl
theorem infoU8 : ∃ i, Try.prog.info? 5 = some i := by
  obtain ⟨i, h, _⟩ := info_parts info_u8
  exact ⟨i, h⟩
theorem cellsOfU8 : Try.prog.cellsOf 5 = 1 := by kernel_rfl
end Go.Proofs.Ytodoaebpkmhhmaa

/-
  Of part CameIn: what is needed here.
-/
namespace Go.Proofs.Ytodoaebpkmhhmaa
open Go.RowKit
set_option linter.unusedVariables false
set_option maxRecDepth 100000
open Go.ChangeShapes Go.WideShapes in
/-- an array of integers that came in by value -/
theorem open_int_array {H : Type} {enc : TypeId × Value → H} {P : Program} {w : World} {base : Nat} {sp : Nat → Bool} {held : Bool} {r : Reach} {b0 t e n : Nat} {q : IntKind} {v : Value} {d : DataW H} {p : List MemPlace}
    (ht : P.underlying t = some (.array n e)) (he : P.underlying e = some (.int q)) (hce : P.cellsOf e = 1) (hct : P.cellsOf t = n)
    (hv : Value.okWide P w r b0 t v) (h : DataW.Trod enc P w base sp held t v d p) : ∃ zs : List Int, v = .agg (cv q zs).toArray ∧ zs.length = n ∧ ∀ z ∈ zs, (Lit.int q z).wf = true := by
  simp only [Value.okWide, ht] at hv
  obtain ⟨cs, rfl, h2, _⟩ := hv
  obtain ⟨fuel, hf⟩ := h
  obtain ⟨xs, m, _, _, hl, hxs, hat⟩ := DataW.trod_array ht hf
  have each : ∀ i (hi : i < n), ∃ z, cs.toList[i]? = some (.int q z) ∧ (Lit.int q z).wf = true := by
    intro i hi
    have h1 := hat i hi
    have hx : xs[i]? = some xs[i] := List.getElem?_eq_getElem (by omega)
    rw [hce, hx] at h1
    obtain ⟨z, hz, _, hw⟩ := DataW.trod_int he h1
    refine ⟨z, ?_, hw⟩
    have := congrArg List.head? hz
    simpa [Value.cells, List.head?_take] using this
  have hcs : cs.toList.length = n := by rw [hct] at h2; simpa using h2
  refine ⟨cs.toList.map fun v => match v with | .int _ z => z | _ => 0, ?_, by simpa using hcs, ?_⟩
  · congr 1
    apply Array.ext_getElem?
    intro i
    by_cases hi : i < n
    · obtain ⟨z, hz, _⟩ := each i hi
      have hz' : cs[i]? = some (.int q z) := by simpa using hz
      simp [cv, hz']
    · have e1 : cs[i]? = none := Array.getElem?_eq_none (by simp at hcs; omega)
      simp [cv, e1]
  · intro z hz
    simp only [List.mem_map] at hz
    obtain ⟨u, hu, rfl⟩ := hz
    obtain ⟨i, hi, he⟩ := List.getElem_of_mem hu
    obtain ⟨z, hz, hw⟩ := each i (by omega)
    rw [List.getElem?_eq_getElem hi, he] at hz
    cases hz
    exact hw
end Go.Proofs.Ytodoaebpkmhhmaa

/-
  Of part Enc: what is needed here.
-/
namespace Go.Proofs.Ytodoaebpkmhhmaa
open Go.RowKit
set_option linter.unusedVariables false
set_option maxRecDepth 100000
theorem AllBytes.map {α : Type} {f : α → List Int} {l : List α} (h : ∀ x ∈ l, AllBytes (f x)) : AllBytes (l.flatMap f) := fun z hz => by
  obtain ⟨x, hx, hz⟩ := List.mem_flatMap.1 hz
  exact h x hx z hz
end Go.Proofs.Ytodoaebpkmhhmaa

/-
  Of part Great: what is needed here.
-/
namespace Go.Proofs.Ytodoaebpkmhhmaa
open Go.RowKit
set_option linter.unusedVariables false
set_option maxRecDepth 100000
def lookSize (l : List LLook) : Nat := (l.map fun i => i.wr.length + i.rd.length).sum
end Go.Proofs.Ytodoaebpkmhhmaa

/-
  Of part IsIn: what is needed here.
-/
namespace Go.Proofs.Ytodoaebpkmhhmaa
open Go.RowKit
set_option linter.unusedVariables false
set_option maxRecDepth 100000
theorem flatten_at {α : Type} (size : Nat) : ∀ (l : List (List α)) (k : Nat) (x : List α), (∀ (i : Nat) y, l[i]? = some y → y.length = size) → l[k]? = some x → ∀ j u, x[j]? = some u → l.flatten[k * size + j]? = some u
  | [], k, x, _, h, _, _, _ => by simp at h
  | y :: r, 0, x, hl, h, j, u, hu => by
    have : y = x := by simpa using h
    subst this
    have hj := (List.getElem?_eq_some_iff.1 hu).1
    rw [List.flatten_cons, List.getElem?_append_left (by simpa using hj)]
    simpa using hu
  | y :: r, k + 1, x, hl, h, j, u, hu => by
    have hy := hl 0 y (by simp)
    rw [List.flatten_cons, List.getElem?_append_right (by rw [hy, Nat.add_mul]; omega)]
    have := flatten_at size r k x (fun i z hz => hl (i + 1) z (by simpa using hz)) (by simpa using h) j u hu
    rw [← this]
    congr 1
    rw [hy, Nat.add_mul]
    omega
end Go.Proofs.Ytodoaebpkmhhmaa

/-
  Of part OpenMsg: what is needed here.
-/
namespace Go.Proofs.Ytodoaebpkmhhmaa
open Go.RowKit
set_option linter.unusedVariables false
set_option maxRecDepth 100000
open Go.ChangeShapes Go.WideShapes Go.RowKit
theorem list_of {α : Type} {p : Nat → α → Prop} : ∀ (n : Nat), (∀ i, i < n → ∃ x, p i x) → ∃ l : List α, l.length = n ∧ ∀ i x, l[i]? = some x → p i x
  | 0, _ => ⟨[], rfl, fun i x h => by simp at h⟩
  | n + 1, h => by
    obtain ⟨l, hl, hp⟩ := list_of n fun i hi => h i (by omega)
    obtain ⟨x, hx⟩ := h n (Nat.lt_succ_self _)
    refine ⟨l ++ [x], by simp [hl], fun i y hy => ?_⟩
    by_cases hi : i < n
    · rw [List.getElem?_append_left (by omega)] at hy
      exact hp i y hy
    · rw [List.getElem?_append_right (by omega)] at hy
      have h1 := (List.getElem?_eq_some_iff.1 hy).1
      simp at h1
      have : i = n := by omega
      subst this
      rw [show i - l.length = 0 by omega] at hy
      simp at hy
      exact hy ▸ hx
theorem byte_wf {z : Int} (h : (Lit.int .u8 z).wf = true) : IsByte z := by
  have := bounds_u8 h
  unfold IsByte
  omega
section
variable {H : Type} {enc : TypeId × Value → H}
variable {w : World} {base : Nat} {held : Bool}
theorem cellsU8 : Try.prog.cellsOf 5 = 1 := by kernel_rfl
theorem cellsKey : Try.prog.cellsOf 46 = 32 := by kernel_rfl
theorem open_32 {t : TypeId} {fuel : Nat} {cs : List Value} {x : DataW H × List MemPlace} (ht : Try.prog.underlying t = some (.array 32 5)) (hc : Try.prog.cellsOf t = 32) (h : DataW.trod enc Try.prog w base (fun _ => true) held fuel t cs = some x) :
    ∃ l : List Int, cs = bv l ∧ l.length = 32 ∧ AllBytes l := by
  obtain ⟨xs, m, _, _, hl, hxs, hat⟩ := DataW.trod_array ht h
  obtain ⟨l, hll, hp⟩ := list_of (α := Int) (p := fun i z => IsByte z ∧ cs[i]? = some (.int .u8 z)) 32 fun i hi => by
    have h1 := hat i hi
    have hx : xs[i]? = some xs[i] := List.getElem?_eq_getElem (by omega)
    rw [cellsU8, hx] at h1
    obtain ⟨z, hz, _, hwz⟩ := DataW.trod_int Try.underlying5 h1
    refine ⟨z, byte_wf hwz, ?_⟩
    have := congrArg List.head? hz
    simpa [List.head?_take] using this
  rw [hc] at hl
  refine ⟨l, List.ext_getElem? fun i => ?_, hll, fun z hz => ?_⟩
  · by_cases hi : i < 32
    · have e := List.getElem?_eq_getElem (l := l) (i := i) (by omega)
      rw [bv_getElem?, e, (hp i _ e).2]
      rfl
    · rw [List.getElem?_eq_none (by omega), List.getElem?_eq_none (by rw [bv_length]; omega)]
  · obtain ⟨i, hi, rfl⟩ := List.getElem_of_mem hz
    exact (hp i _ (List.getElem?_eq_getElem hi)).1
end
open Go.ChangeShapes Go.WideShapes Go.RowKit
open Go.ChangeShapes Go.WideShapes Go.RowKit
theorem one_of {cs : List Value} (h : cs.length = 1) : ∃ a, cs = [a] := by
  match cs, h with
  | [a], _ => exact ⟨a, rfl⟩
theorem cut {α : Type} (cs : List α) (a k b : Nat) (h : a + k = b) : cs.drop a = (cs.drop a).take k ++ cs.drop b := by
  subst h
  rw [← List.drop_drop, List.take_append_drop]
end Go.Proofs.Ytodoaebpkmhhmaa

/-
  Of part Rules: what is needed here.
-/
namespace Go.Proofs.Ytodoaebpkmhhmaa
open Go.RowKit
set_option linter.unusedVariables false
set_option maxRecDepth 100000
/-- all keys -/
def tot (m : LMsg) : Nat := m.keys.length + lookSize m.looks
/-- an instruction that names a key that there is not -/
def astray (tt : Nat) (a : Int) : Bool := decide ((tt : Int) ≤ a)
def pstray (own : Nat) (p : Int) : Bool := decide (p = 0 ∨ (own : Int) ≤ p)
def stray (own tt : Nat) (i : LIn) : Bool := pstray own i.p || i.acc.any (astray tt)
def b5 (m : LMsg) : Bool := m.ins.any (stray m.keys.length (tot m))
end Go.Proofs.Ytodoaebpkmhhmaa

/-
  Of part KeyEq: what is needed here.
-/
namespace Go.Proofs.Ytodoaebpkmhhmaa
open Go.RowKit
set_option linter.unusedVariables false
set_option maxRecDepth 100000
def same32 (x y : List Int) (is : List Nat) : Bool := is.all fun i => x.getD i 0 == y.getD i 0
theorem eqItems_any (x y : List Int) (w : World) : ∀ (is : List Nat), (∀ i ∈ is, i < x.length ∧ i < y.length) → (Op.eqItems 9999 5 1 (bv x).toArray (bv y).toArray is).run Try.prog w = .ok (same32 x y is) w
  | [], _ => by simp [Op.eqItems, same32]
  | i :: is, h => by
    have hi := h i (by simp)
    have hc : (bv x).toArray[i]? = some (.int .u8 (x.getD i 0)) := by
      rw [List.getElem?_toArray]
      exact bv_at hi.1
    have hd : (bv y).toArray[i]? = some (.int .u8 (y.getD i 0)) := by
      rw [List.getElem?_toArray]
      exact bv_at hi.2
    have p := run_part_plain (P := Try.prog) w plainU8 (xs := (bv x).toArray) (off := i) hc
    have p2 := run_part_plain (P := Try.prog) w plainU8 (xs := (bv y).toArray) (off := i) hd
    have ih := eqItems_any x y w is fun k hk => h k (by simp [hk])
    simp only [Op.eqItems, Nat.mul_one, Sem.run_bind, p, p2, Result.andThen_ok, run_equalIn_int w 9998 5 .u8 .u8 _ _ Try.underlying5]
    cases hb : (x.getD i 0 == y.getD i 0)
    · have : same32 x y (i :: is) = false := by simp only [same32, List.all_cons, hb, Bool.false_and]
      rw [this]
      simp
    · have : same32 x y (i :: is) = same32 x y is := by simp only [same32, List.all_cons, hb, Bool.true_and]
      rw [this]
      simpa using ih
theorem same32_iff {x y : List Int} {n : Nat} (hx : x.length = n) (hy : y.length = n) : same32 x y (List.range n) = decide (x = y) := by
  rw [Bool.eq_iff_iff, decide_eq_true_iff]
  unfold same32
  rw [List.all_eq_true]
  constructor
  · intro h
    refine List.ext_getElem (by omega) fun i h1 h2 => ?_
    have := h i (by simp; omega)
    rw [beq_iff_eq, List.getD_eq_getElem?_getD, List.getD_eq_getElem?_getD, List.getElem?_eq_getElem h1, List.getElem?_eq_getElem h2] at this
    exact this
  · rintro rfl i _
    simp
theorem key_eql {x y : List Int} (hx : x.length = 32) (hy : y.length = 32) (w : World) :
    (binOp .eql 46 (.agg (bv x).toArray) (.agg (bv y).toArray)).run Try.prog w = .ok (.bool (decide (x = y))) w := by
  obtain ⟨i, hi⟩ := infoU8
  rw [run_eql_struct, show (10000 : Nat) = 9999 + 1 from rfl, run_equalIn_array w 9999 _ _ Try.underlying46 hi, cellsOfU8, eqItems_any x y w _ (fun i hi => by simp at hi; omega), same32_iff hx hy]
  rfl
end Go.Proofs.Ytodoaebpkmhhmaa

/-
  Of part Take: what is needed here.
-/
namespace Go.Proofs.Ytodoaebpkmhhmaa
open Go.RowKit
set_option linter.unusedVariables false
set_option maxRecDepth 100000
theorem But.drewN {w w' : World} {p : Nat} (h : But p w w') (n : Nat) : But p w (w'.drewN n) := ⟨h.os, h.tape, h.output, h.size, h.block⟩
end Go.Proofs.Ytodoaebpkmhhmaa

/-
  Of part RefAt: what is needed here.
-/
namespace Go.Proofs.Ytodoaebpkmhhmaa
open Go.RowKit
set_option linter.unusedVariables false
set_option maxRecDepth 100000
/-- two that may come up -/
theorem readyL2 {P : Program} {L : List Oper} {Q : Exit → Act → World → Prop} {md : Region.Mode} {S : World → Prop} {i j : Nat} {o o' : Oper} {fuel : Nat} {listed : Array Bool} {a : Act} {w : World} (ho : L[i]? = some o) (ho' : L[j]? = some o') (hr : Region.ready md L.toArray listed = [i, j])
    (hw : Region.wanted o (yielded L.toArray a.tmps) = true) (hw' : Region.wanted o' (yielded L.toArray a.tmps) = true)
    (h : ∀ K' : Act → World → Prop, Shut (∀ a w, S w → wpAnyH P md L.toArray Q S fuel (listed.setIfInBounds i true) a w → K' a w) → Oper.wp P o a w K' Q)
    (h' : ∀ K' : Act → World → Prop, Shut (∀ a w, S w → wpAnyH P md L.toArray Q S fuel (listed.setIfInBounds j true) a w → K' a w) → Oper.wp P o' a w K' Q) : wpAnyH P md L.toArray Q S (fuel + 1) listed a w :=
  wpAnyH_ready hr (by simp) (AllReadyH.cons (by simpa using ho) (fun K hK => by
    rw [if_pos hw]
    exact h K (fun a w hS hW => hK a w hS fun _ => hW)) (AllReadyH.cons (by simpa using ho') (fun K hK => by
    rw [if_pos hw']
    exact h' K (fun a w hS hW => hK a w hS fun _ => hW)) AllReadyH.nil))
end Go.Proofs.Ytodoaebpkmhhmaa

/-
  Of part BookK: what is needed here.
-/
namespace Go.Proofs.Ytodoaebpkmhhmaa
open Go.RowKit
set_option linter.unusedVariables false
set_option maxRecDepth 100000
theorem exec_built {a : Act} {o : Oper} (w : World) (t : TypeId) (parts : Array (Nat × Operand)) (cells : Array Value) (ho : o.op = .build t parts) (h : Try.prog.built t (parts.map fun (i, x) => (i, a.eval x)).toList = some cells) : (execOp a.eval o).run Try.prog w = .ok (.value (.agg cells)) w := by
  simp only [execOp, ho, Sem.run_bind, run_build w t _ cells h, Result.andThen_ok]
  rfl
theorem wp_built {o : Oper} {a : Act} {w : World} {K : Act → World → Prop} {Q : Exit → Act → World → Prop} (t : TypeId) (parts : Array (Nat × Operand)) (cells : Array Value) (ho : o.op = .build t parts)
    (h : Try.prog.built t (parts.map fun (i, x) => (i, a.eval x)).toList = some cells) (hK : K (a.put o.dst (.agg cells)) w) : o.wp Try.prog a w K Q :=
  wp_build t parts ho (by rw [h]; rfl) (by rw [h]; exact hK)
end Go.Proofs.Ytodoaebpkmhhmaa

/-
  Of part Role: what is needed here.
-/
namespace Go.Proofs.Ytodoaebpkmhhmaa
open Go.RowKit
set_option linter.unusedVariables false
set_option maxRecDepth 100000
/-- elements of sz cells each that lie below block B -/
structure CsIn (sz : Nat) (w : World) (B : Nat) (A : Option Addr) (n : Nat) (l : List (List Value)) : Prop where
  len : l.length = n
  each : ∀ k ∈ l, k.length = sz
  sees : Sees w B A (n * sz) l.flatten
theorem cs_flat {sz : Nat} : ∀ {l : List (List Value)}, (∀ k ∈ l, k.length = sz) → l.flatten.length = l.length * sz
  | [], _ => by simp
  | y :: r, h => by
    rw [List.flatten_cons, List.length_append, cs_flat (l := r) (fun z hz => h z (List.mem_cons_of_mem _ hz)), h y (by simp), List.length_cons, Nat.add_mul]
    omega
section
variable {sz n B B' : Nat} {w w' : World} {A : Option Addr} {l : List (List Value)}
theorem CsIn.keep (h : CsIn sz w B A n l) (hk : ∀ p : Addr, p.block < B → w'.cell? p = w.cell? p) : CsIn sz w' B A n l := ⟨h.len, h.each, h.sees.keep hk⟩
theorem CsIn.below (h : CsIn sz w B A n l) (hb : Below B w w') : CsIn sz w' B A n l := ⟨h.len, h.each, h.sees.below hb⟩
theorem CsIn.get (h : CsIn sz w B A n l) {k : Nat} (hk : k < n) (h0 : 0 < sz) : ∃ a x, A = some a ∧ a.block < B ∧ l[k]? = some x ∧ x.length = sz ∧ ∀ j u, x[j]? = some u → w.cell? ((a.add (k * sz)).add j) = some u := by
  obtain ⟨x, hx⟩ : ∃ x, l[k]? = some x := ⟨_, List.getElem?_eq_getElem (by rw [h.len]; exact hk)⟩
  have hxl := h.each x (List.mem_of_getElem? hx)
  have hat := flatten_at sz l k x (fun i y hy => h.each y (List.mem_of_getElem? hy)) hx
  obtain ⟨u0, hu0⟩ : ∃ u, x[0]? = some u := ⟨_, List.getElem?_eq_getElem (by rw [hxl]; exact h0)⟩
  obtain ⟨a, e, hb, _⟩ := h.sees.cell _ _ (hat 0 u0 hu0)
  refine ⟨a, x, e, hb, hx, hxl, fun j u hu => ?_⟩
  obtain ⟨a', e', _, hc⟩ := h.sees.cell _ _ (hat j u hu)
  rw [e] at e'
  cases e'
  rw [addr_add]
  exact hc
theorem CsIn.nil (w : World) (B : Nat) (A : Option Addr) : CsIn sz w B A 0 [] := ⟨rfl, by simp, by rw [Nat.zero_mul]; exact Sees.nil _ _ _⟩
end
theorem csIn_row {sz : Nat} {w : World} {g t : Nat} {l : List (List Value)} {ys : List Value} {n B : Nat} (hr : Row w g t (l.flatten ++ ys)) (hn : l.length = n) (h : ∀ k ∈ l, k.length = sz) (hB : g < B) : CsIn sz w B (some ⟨g, 0, none⟩) n l :=
  ⟨hn, h, ⟨by rw [cs_flat h, hn], fun i u hu => ⟨_, rfl, hB, by
    rw [addr_row, hr.cell, Nat.zero_add, List.getElem?_append_left (List.getElem?_eq_some_iff.1 hu).1]
    exact hu⟩⟩⟩
/-- a role -/
structure LRole where
  key : List Int
  sg : Bool
  wr : Bool
theorem LRole.ext_iff' {a b : LRole} : a = b ↔ a.key = b.key ∧ a.sg = b.sg ∧ a.wr = b.wr := by
  obtain ⟨x, y, z⟩ := a
  obtain ⟨x', y', z'⟩ := b
  constructor
  · rintro h
    cases h
    exact ⟨rfl, rfl, rfl⟩
  · rintro ⟨h1, h2, h3⟩
    simp only at h1 h2 h3
    rw [h1, h2, h3]
instance : DecidableEq LRole := fun a b => decidable_of_iff (a.key = b.key ∧ a.sg = b.sg ∧ a.wr = b.wr) LRole.ext_iff'.symm
def LRole.cells (r : LRole) : List Value := bv r.key ++ [.bool r.sg, .bool r.wr]
/-- a role whose key has 32 bytes -/
def RoleOk (r : LRole) : Prop := r.key.length = 32 ∧ AllBytes r.key
theorem role_len {r : LRole} (h : r.key.length = 32) : r.cells.length = 34 := by simp [LRole.cells, bv_length, h]
theorem role_sg {r : LRole} (h : r.key.length = 32) : r.cells[32]? = some (.bool r.sg) := by
  unfold LRole.cells
  rw [List.getElem?_append_right (by rw [bv_length, h]; omega), bv_length, h]
  rfl
theorem role_wr {r : LRole} (h : r.key.length = 32) : r.cells[33]? = some (.bool r.wr) := by
  unfold LRole.cells
  rw [List.getElem?_append_right (by rw [bv_length, h]; omega), bv_length, h]
  rfl
theorem run_part_key (xs : Array Value) (off : Nat) (w : World) : (part 46 xs off).run Try.prog w = .ok (.agg (xs.extract off (off + 32))) w := by
  have h1 : (isAgg 46).run Try.prog w = .ok true w := by kernel_rfl
  simp [part, h1]
theorem eqItems_at (d : Nat) (x y : List Int) (w : World) : ∀ (is : List Nat), (∀ i ∈ is, i < x.length ∧ i < y.length) → (Op.eqItems (d + 1) 5 1 (bv x).toArray (bv y).toArray is).run Try.prog w = .ok (same32 x y is) w
  | [], _ => by simp [Op.eqItems, same32]
  | i :: is, h => by
    have hi := h i (by simp)
    have hc : (bv x).toArray[i]? = some (.int .u8 (x.getD i 0)) := by
      rw [List.getElem?_toArray]
      exact bv_at hi.1
    have hd : (bv y).toArray[i]? = some (.int .u8 (y.getD i 0)) := by
      rw [List.getElem?_toArray]
      exact bv_at hi.2
    have p := run_part_plain (P := Try.prog) w plainU8 (xs := (bv x).toArray) (off := i) hc
    have p2 := run_part_plain (P := Try.prog) w plainU8 (xs := (bv y).toArray) (off := i) hd
    have ih := eqItems_at d x y w is fun k hk => h k (by simp [hk])
    simp only [Op.eqItems, Nat.mul_one, Sem.run_bind, p, p2, Result.andThen_ok, run_equalIn_int w d 5 .u8 .u8 _ _ Try.underlying5]
    cases hb : (x.getD i 0 == y.getD i 0)
    · have : same32 x y (i :: is) = false := by simp only [same32, List.all_cons, hb, Bool.false_and]
      rw [this]
      simp
    · have : same32 x y (i :: is) = same32 x y is := by simp only [same32, List.all_cons, hb, Bool.true_and]
      rw [this]
      simpa using ih
theorem keys_eqIn (d : Nat) {x y : List Int} (hx : x.length = 32) (hy : y.length = 32) (w : World) :
    (Op.equalIn (d + 1 + 1) 46 (.agg (bv x).toArray) (.agg (bv y).toArray)).run Try.prog w = .ok (decide (x = y)) w := by
  obtain ⟨i, hi⟩ := infoU8
  rw [run_equalIn_array w (d + 1) _ _ Try.underlying46 hi, cellsOfU8, eqItems_at d x y w _ (fun i hi => by simp at hi; omega), same32_iff hx hy]
/-- roles that lie below block B -/
structure RolesIn (w : World) (B : Nat) (A : Option Addr) (n : Nat) (l : List LRole) : Prop where
  cs : CsIn 34 w B A n (l.map LRole.cells)
  ok : ∀ r ∈ l, RoleOk r
section
variable {n B B' : Nat} {w w' : World} {A : Option Addr} {l : List LRole}
theorem RolesIn.len (h : RolesIn w B A n l) : l.length = n := by have := h.cs.len; rwa [List.length_map] at this
theorem RolesIn.keep (h : RolesIn w B A n l) (hk : ∀ p : Addr, p.block < B → w'.cell? p = w.cell? p) : RolesIn w' B A n l := ⟨h.cs.keep hk, h.ok⟩
theorem RolesIn.below (h : RolesIn w B A n l) (hb : Below B w w') : RolesIn w' B A n l := ⟨h.cs.below hb, h.ok⟩
theorem RolesIn.get (h : RolesIn w B A n l) {k : Nat} (hk : k < n) : ∃ a r, A = some a ∧ a.block < B ∧ l[k]? = some r ∧ RoleOk r ∧ ∀ j u, r.cells[j]? = some u → w.cell? ((a.add (k * 34)).add j) = some u := by
  obtain ⟨a, x, e, hb, hx, _, hc⟩ := h.cs.get hk (by omega)
  rw [List.getElem?_map] at hx
  obtain ⟨r, hr, rfl⟩ := Option.map_eq_some_iff.1 hx
  exact ⟨a, r, e, hb, hr, h.ok r (List.mem_of_getElem? hr), hc⟩
theorem RolesIn.nil (w : World) (B : Nat) (A : Option Addr) : RolesIn w B A 0 [] := ⟨CsIn.nil _ _ _, by simp⟩
end
theorem roles_each {l : List LRole} (h : ∀ r ∈ l, RoleOk r) : ∀ k ∈ l.map LRole.cells, k.length = 34 := fun k hk => by
  obtain ⟨r, hr, rfl⟩ := List.mem_map.1 hk
  exact role_len (h r hr).1
theorem roles_row {w : World} {g t : Nat} {l : List LRole} {ys : List Value} {n B : Nat} (hr : Row w g t ((l.map LRole.cells).flatten ++ ys)) (hn : l.length = n) (he : ∀ r ∈ l, RoleOk r) (hB : g < B) : RolesIn w B (some ⟨g, 0, none⟩) n l :=
  ⟨csIn_row hr (by rw [List.length_map, hn]) (roles_each he) hB, he⟩
/-- the zero role -/
def r0 : LRole := ⟨List.replicate 32 0, false, false⟩
end Go.Proofs.Ytodoaebpkmhhmaa

/-
  Of part GetN: what is needed here.
-/
namespace Go.Proofs.Ytodoaebpkmhhmaa
open Go.RowKit
set_option linter.unusedVariables false
set_option maxRecDepth 100000
/-- the number that the first k bytes are, the lowest first -/
def num : List Int → Nat → Int
  | _, 0 => 0
  | zs, k + 1 => num zs k + zs.getD k 0 * 256 ^ k
theorem num_bound (zs : List Int) (hb : Bytes zs) (k : Nat) : 0 ≤ num zs k ∧ num zs k < 256 ^ k := by
  induction k with
  | zero => simp [num]
  | succ k ih =>
    have h := hb k
    have e : (256 : Int) ^ (k + 1) = 256 ^ k * 256 := Int.pow_succ ..
    have hp : (0 : Int) < 256 ^ k := Int.pow_pos (by omega)
    simp only [num]
    rw [e]
    have h1 : 0 ≤ zs.getD k 0 * 256 ^ k := Int.mul_nonneg h.1 (by omega)
    have h2 : zs.getD k 0 * 256 ^ k ≤ 255 * 256 ^ k := Int.mul_le_mul_of_nonneg_right (by omega) (by omega)
    omega
theorem u64_in (x : Int) (h0 : 0 ≤ x) (h1 : x < 18446744073709551616) : IntKind.u64.wrap x = x := by rw [IntKind.wrap_u64]; omega
theorem num_step (zs : List Int) (hb : Bytes zs) (k : Nat) (hk : k < 8) :
    bits .or .u64 (num zs k) (IntKind.u64.wrap (IntKind.u64.wrap (zs.getD k 0) * 2 ^ (8 * k))) = num zs (k + 1) := by
  have h := hb k
  have hn := num_bound zs hb k
  simp only [num]
  generalize zs.getD k 0 = z at *
  generalize num zs k = p at *
  rw [u64_in z h.1 (by omega)]
  have key : ∀ e : Nat, e < 64 → (256 : Int) ^ k = 2 ^ e → 8 * k = e → bits .or .u64 p (IntKind.u64.wrap (z * 2 ^ (8 * k))) = p + z * 256 ^ k := by
    rintro e he h2 rfl
    have hp : (0 : Int) < 2 ^ (8 * k) := Int.pow_pos (by omega)
    have hz0 : 0 ≤ z * 2 ^ (8 * k) := Int.mul_nonneg h.1 (by omega)
    have hz1 : z * 2 ^ (8 * k) < 18446744073709551616 := by
      have h3 : z * 2 ^ (8 * k) ≤ 255 * 2 ^ (8 * k) := Int.mul_le_mul_of_nonneg_right (by omega) (by omega)
      have h4 : (2 : Int) ^ (8 * k) ≤ 2 ^ 56 := by exact_mod_cast Nat.pow_le_pow_right (by omega) (by omega)
      omega
    have hp1 : p < 18446744073709551616 := by
      have h4 : (2 : Int) ^ (8 * k) ≤ 2 ^ 56 := by exact_mod_cast Nat.pow_le_pow_right (by omega) (by omega)
      omega
    rw [u64_in _ hz0 hz1, u64_or_lo (8 * k) p _ hn.1 (by omega) hz0 (Int.mul_emod_left ..) hp1 hz1, h2]
  refine key (8 * k) (by omega) ?_ rfl
  rw [Int.pow_mul]; rfl
/-- what Get answers -/
def getN (zs : List Int) (many : Int) : Int × Int :=
  if many < 1 ∨ 8 < many then (0, 1) else if (zs.length : Int) < many then (0, 5) else (num zs many.toNat, 0)
set_option maxHeartbeats 400000 in
theorem fits_yes (m : Int) (w : World) (h0 : 1 ≤ m) (h1 : m ≤ 8) : Calls Try.prog 57 #[.int .i64 m] w fun e w' => e = .returned (.bool true) ∧ w = w' := by
  go_enter Try.func57, Try.ntmps57
  go_wp2
  go_ret
  exact ⟨rfl, rfl⟩
set_option maxHeartbeats 400000 in
theorem fits_no (m : Int) (w : World) (h : m < 1 ∨ 8 < m) : Calls Try.prog 57 #[.int .i64 m] w fun e w' => e = .returned (.bool false) ∧ w = w' := by
  rcases h with h | h
  · go_enter Try.func57, Try.ntmps57
    go_wp2
    go_ret
    exact ⟨rfl, rfl⟩
  · have h2 : 1 ≤ m := by omega
    have h3 : decide (m ≤ 8) = false := by simp; omega
    go_enter Try.func57, Try.ntmps57
    go_wp2
    go_ret
    exact ⟨rfl, rfl⟩
set_option maxHeartbeats 400000 in
theorem getMany (A : Option Addr) (n c : Nat) (zs : List Int) (m : Int) (w : World) (S : Nat)
    (hx : Sees w S A n (bv zs)) (hn : n ≤ maxLen) (hb : Bytes zs) :
    Calls Try.prog 52 #[.slice A n c, .int .i64 m] w fun e w' => e = .returned (.tuple #[.int .u64 (getN zs m).1, .int .i64 (getN zs m).2]) ∧ w = w' := by
  unfold maxLen at hn
  have lx := Lib.hid (show zs.length = n by have := hx.len; rwa [bv_length] at this)
  by_cases hm : m < 1 ∨ 8 < m
  · have hg : getN zs m = (0, 1) := by simp [getN, hm]
    have HG := Lib.hid hg
    have HM := Lib.hid (fits_no m w hm)
    clear hg hm
    go_enter Try.func52, Try.ntmps52
    go_wp2_with fail
    refine HM.out.mono ?_
    rintro e w1 ⟨rfl, rfl⟩
    go_wp2
    go_ret2
    exact ⟨tup2_of HG.out, rfl⟩
  · have HF := Lib.hid (fits_yes m w (by omega) (by omega))
    by_cases hl : (n : Int) < m
    · have hg : getN zs m = (0, 5) := by simp [getN, hm]; rw [lx.out]; exact hl
      have HG := Lib.hid hg
      clear hg hm
      go_enter Try.func52, Try.ntmps52
      go_wp2_with fail
      refine HF.out.mono ?_
      rintro e w1 ⟨rfl, rfl⟩
      go_wp2
      go_ret2
      exact ⟨tup2_of HG.out, rfl⟩
    · obtain ⟨mm, rfl⟩ := Int.eq_ofNat_of_zero_le (show 0 ≤ m by omega)
      have hg : getN zs mm = (num zs mm, 0) := by simp [getN, hm]; rw [lx.out]; omega
      have hm8 : mm ≤ 8 := by omega
      have hm1 : 1 ≤ mm := by omega
      have hmn : mm ≤ n := by omega
      have HG := Lib.hid hg
      clear hg hm hl
      go_enter Try.func52, Try.ntmps52
      go_wp2_with fail
      refine HF.out.mono ?_
      rintro e w1 ⟨rfl, rfl⟩
      go_wp2
      go_loop [6, 7, 16] (fun v _ i => ∃ (k : Nat), k ≤ mm ∧ i = .int .i64 k ∧ v = .int .u64 (num zs k)) (fun _ _ i => mm - (intOf i).toNat)
      case atStart => exact ⟨0, Nat.zero_le _, rfl, rfl⟩
      case round =>
        obtain ⟨k, hk, rfl, rfl⟩ := hrel
        by_cases hlt : k < mm
        · obtain ⟨a, rfl, ha, hca⟩ := hx.byte (k := k) (by omega)
          have HS := Lib.hid (num_step zs hb k (by omega))
          generalize zs.getD k 0 = z at *
          go_wp2
          go_round
          case rel => exact ⟨k + 1, by omega, by go_num, by rw [HS.out]⟩
          case measure => simp [intOf]; omega
        · have HK := Lib.hid (show k = mm by omega)
          go_wp2
          go_ret2
          exact ⟨tup2_of (by rw [HG.out, HK.out]), rfl⟩
end Go.Proofs.Ytodoaebpkmhhmaa

/-
  Of part Math14: what is needed here.
-/
namespace Go.Proofs.Ytodoaebpkmhhmaa
set_option linter.unusedVariables false
def key0 : List Int := List.replicate 32 0
/-- what data ask for -/
structure LAsk where
  tag : Int
  coins : Int
  space : Int
  owner : List Int
def dat14 (b : List Int) : Option LAsk :=
  if b.length < 4 then none
  else if num b 4 = 0 ∧ b.length = 52 then some ⟨0, num (b.drop 4) 8, num (b.drop 12) 8, b.drop 20⟩
  else if num b 4 = 1 ∧ b.length = 36 then some ⟨1, 0, 0, b.drop 4⟩
  else if num b 4 = 2 ∧ b.length = 12 then some ⟨2, num (b.drop 4) 8, 0, key0⟩
  else if num b 4 = 8 ∧ b.length = 12 then some ⟨8, 0, num (b.drop 4) 8, key0⟩
  else none
def two14 (x : LAsk) : Prop := x.tag = 0 ∨ x.tag = 2
instance two14_dec (x : LAsk) : Decidable (two14 x) := inferInstanceAs (Decidable (x.tag = 0 ∨ x.tag = 2))
def need14 (x : LAsk) : Nat := if two14 x then 2 else 1
/-- the role at an index -/
def rol14 (r : List LRole) (i : Int) : LRole := r.getD i.toNat ⟨[], false, false⟩
/-- what stands in the way of one of them; m: must it sign? -/
def chk14 (m : Bool) (x : LRole) : Int := if m && !x.sg then 14 else if !x.wr then 15 else 0
/-- who takes part: what is wrong first, or 0 -/
def plc14 (x : LAsk) (r : List LRole) (acc : List Int) : Int :=
  if acc.length < need14 x then 8
  else if ∃ i ∈ acc, (r.length : Int) ≤ i then 8
  else if chk14 true (rol14 r (acc.getD 0 0)) ≠ 0 then chk14 true (rol14 r (acc.getD 0 0))
  else if two14 x then chk14 (decide (x.tag = 0)) (rol14 r (acc.getD 1 0))
  else 0
def getA (l : List LAcc) (i : Nat) : LAcc := l.getD i blank13
def plain14 (a : LAcc) : Prop := a.o = key0 ∧ a.s = 0
instance plain14_dec (a : LAcc) : Decidable (plain14 a) := inferInstanceAs (Decidable (a.o = key0 ∧ a.s = 0))
/-- a call's answer -/
structure Res14 where
  e : Int
  l : List LAcc
  n : Int
def bad14 (e : Int) : Res14 := ⟨e, [], 0⟩
def make14 (l : List LAcc) (x : LAsk) (a b : Nat) : Res14 :=
  if getA l b ≠ blank13 then bad14 12
  else if ¬ plain14 (getA l a) then bad14 16
  else if 1048576 < x.space then bad14 3
  else if (getA l a).c < x.coins then bad14 17
  else ⟨0, (l.set a ⟨(getA l a).c - x.coins, (getA l a).o, (getA l a).s⟩).set b ⟨x.coins, x.owner, x.space⟩, x.space⟩
def assign14 (l : List LAcc) (x : LAsk) (a : Nat) : Res14 :=
  if (getA l a).o ≠ key0 then bad14 16 else ⟨0, l.set a ⟨(getA l a).c, x.owner, (getA l a).s⟩, 0⟩
def move14 (l : List LAcc) (x : LAsk) (a b : Nat) : Res14 :=
  if ¬ plain14 (getA l a) then bad14 16
  else if (getA l a).c < x.coins then bad14 17
  else if a = b then ⟨0, l, 0⟩
  else if 18446744073709551615 - x.coins < (getA l b).c then bad14 18
  else ⟨0, (l.set a ⟨(getA l a).c - x.coins, (getA l a).o, (getA l a).s⟩).set b ⟨(getA l b).c + x.coins, (getA l b).o, (getA l b).s⟩, 0⟩
def space14 (l : List LAcc) (x : LAsk) (a : Nat) : Res14 :=
  if ¬ plain14 (getA l a) then bad14 12
  else if 1048576 < x.space then bad14 3
  else ⟨0, l.set a ⟨(getA l a).c, (getA l a).o, x.space⟩, x.space⟩
def deed14 (l : List LAcc) (x : LAsk) (a b : Nat) : Res14 :=
  if x.tag = 0 then make14 l x a b else if x.tag = 1 then assign14 l x a else if x.tag = 2 then move14 l x a b else space14 l x a
def do14 (l : List LAcc) (r : List LRole) (acc dat : List Int) : Res14 :=
  if l.length ≠ r.length then bad14 1
  else match dat14 dat with
  | none => bad14 13
  | some x => if plc14 x r acc ≠ 0 then bad14 (plc14 x r acc) else deed14 l x (acc.getD 0 0).toNat (acc.getD (need14 x - 1) 0).toNat
/-! ### what holds of it -/
structure AskOk (x : LAsk) : Prop where
  tag : x.tag = 0 ∨ x.tag = 1 ∨ x.tag = 2 ∨ x.tag = 8
  c : 0 ≤ x.coins ∧ x.coins < 18446744073709551616
  s : 0 ≤ x.space ∧ x.space < 18446744073709551616
  o : x.owner.length = 32 ∧ AllBytes x.owner
  one : x.tag = 1 → x.space = 0
  two : x.tag = 2 → x.space = 0
theorem bytes_of_all {b : List Int} (h : AllBytes b) : Bytes b := fun i => by
  rw [List.getD_eq_getElem?_getD]
  cases h1 : b[i]? with
  | none => simp
  | some z =>
    have := h z (List.mem_of_getElem? h1)
    exact this
theorem num8_in {b : List Int} (h : AllBytes b) (k : Nat) : 0 ≤ num (b.drop k) 8 ∧ num (b.drop k) 8 < 18446744073709551616 := by
  have := num_bound (b.drop k) (bytes_of_all fun z hz => h z (List.mem_of_mem_drop hz)) 8
  have e : (256 : Int) ^ 8 = 18446744073709551616 := by decide
  rw [e] at this
  exact this
theorem key0_ok : key0.length = 32 ∧ AllBytes key0 := ⟨rfl, fun z hz => by rw [List.eq_of_mem_replicate hz]; constructor <;> decide⟩
theorem zero_u64 : (0 : Int) ≤ 0 ∧ (0 : Int) < 18446744073709551616 := by decide
theorem dat14_ok {b : List Int} (h : AllBytes b) {x : LAsk} (hx : dat14 b = some x) : AskOk x := by
  unfold dat14 at hx
  have hd : ∀ k, AllBytes (b.drop k) := fun k z hz => h z (List.mem_of_mem_drop hz)
  split at hx
  · cases hx
  split at hx
  · rename_i h1 h2
    cases hx
    exact ⟨.inl rfl, num8_in h 4, num8_in h 12, ⟨by rw [List.length_drop]; omega, hd _⟩, fun e => (by cases e), fun e => (by cases e)⟩
  split at hx
  · rename_i h1 h2 h3
    cases hx
    exact ⟨.inr (.inl rfl), zero_u64, zero_u64, ⟨by rw [List.length_drop]; omega, hd _⟩, fun _ => rfl, fun e => (by cases e)⟩
  split at hx
  · cases hx
    exact ⟨.inr (.inr (.inl rfl)), num8_in h 4, zero_u64, key0_ok, fun e => (by cases e), fun _ => rfl⟩
  split at hx
  · cases hx
    exact ⟨.inr (.inr (.inr rfl)), zero_u64, num8_in h 4, key0_ok, fun e => (by cases e), fun e => (by cases e)⟩
  · cases hx
theorem getA_ok {l : List LAcc} (h : ∀ a ∈ l, AccOk a) (i : Nat) : AccOk (getA l i) := by
  unfold getA
  rw [List.getD_eq_getElem?_getD]
  cases h1 : l[i]? with
  | none => exact blank_ok
  | some a => exact h a (List.mem_of_getElem? h1)
theorem getA_at {l : List LAcc} {i : Nat} {a : LAcc} (h : l[i]? = some a) : getA l i = a := by
  unfold getA
  rw [List.getD_eq_getElem?_getD, h]
  rfl
theorem getA_some {l : List LAcc} {i : Nat} (h : i < l.length) : l[i]? = some (getA l i) := by
  rw [List.getElem?_eq_getElem h]
  rw [getA_at (List.getElem?_eq_getElem h)]
theorem getA_set {l : List LAcc} {i k : Nat} {a : LAcc} (hi : i < l.length) : getA (l.set i a) k = if k = i then a else getA l k := by
  unfold getA
  rw [List.getD_eq_getElem?_getD, List.getD_eq_getElem?_getD, List.getElem?_set]
  by_cases e : i = k
  · subst e
    simp [hi]
  · rw [if_neg e, if_neg (fun h => e h.symm)]
theorem set_ok {l : List LAcc} (h : ∀ a ∈ l, AccOk a) {i : Nat} {x : LAcc} (hx : AccOk x) : ∀ a ∈ l.set i x, AccOk a := fun a ha => by
  rcases List.mem_or_eq_of_mem_set ha with ha | rfl
  · exact h a ha
  · exact hx
end Go.Proofs.Ytodoaebpkmhhmaa

/-
  Of part SheetAc: what is needed here.
-/
namespace Go.Proofs.Ytodoaebpkmhhmaa
open Go.RowKit
set_option linter.unusedVariables false
set_option maxRecDepth 100000
/-- an element, as cells -/
structure IsAc (h : List Value) : Prop where
  len : h.length = 34
  one : ∀ u ∈ h, u.oneCell' = true
  neq : ∀ w, (binOp .neq 48 (.agg h.toArray) (.agg h.toArray)).run Try.prog w = .ok (.bool false) w
  size : (Try.prog.info? 48).map (·.size) = some h.length
end Go.Proofs.Ytodoaebpkmhhmaa

/-
  Of part Hold13: what is needed here.
-/
namespace Go.Proofs.Ytodoaebpkmhhmaa
open Go.RowKit
set_option linter.unusedVariables false
set_option maxRecDepth 100000
def LAcc.cells (a : LAcc) : List Value := .int .u64 a.c :: (bv a.o ++ [.int .u64 a.s])
theorem acc_len {a : LAcc} (h : a.o.length = 32) : a.cells.length = 34 := by simp [LAcc.cells, bv_length, h]
theorem acc_one (a : LAcc) : ∀ u ∈ a.cells, u.oneCell' = true := by
  intro u hu
  rcases List.mem_cons.1 hu with rfl | hu
  · rfl
  rcases List.mem_append.1 hu with hu | hu
  · exact bv_one _ _ hu
  · obtain rfl := List.mem_singleton.1 hu; rfl
theorem acc_c (a : LAcc) : a.cells[0]? = some (.int .u64 a.c) := rfl
theorem acc_s {a : LAcc} (h : a.o.length = 32) : a.cells[33]? = some (.int .u64 a.s) := by
  unfold LAcc.cells
  rw [show (33 : Nat) = 32 + 1 from rfl, List.getElem?_cons_succ, List.getElem?_append_right (by rw [bv_length, h]; omega), bv_length, h]
  rfl
theorem acc_o {a : LAcc} {j : Nat} {u : Value} (h : (bv a.o)[j]? = some u) : a.cells[1 + j]? = some u := by
  unfold LAcc.cells
  rw [Nat.add_comm, List.getElem?_cons_succ, List.getElem?_append_left (List.getElem?_eq_some_iff.1 h).1]
  exact h
theorem acc_ext {a b : LAcc} : a = b ↔ a.c = b.c ∧ a.o = b.o ∧ a.s = b.s := by
  obtain ⟨x, y, z⟩ := a
  obtain ⟨x', y', z'⟩ := b
  simp
theorem size_acc {a : LAcc} (h : a.o.length = 32) : (Try.prog.info? 48).map (·.size) = some a.cells.length := by
  rw [acc_len h]
  kernel_rfl
theorem built_blank : Try.prog.built 48 [] = some blank13.cells.toArray := by kernel_rfl
theorem run_part_u64 (xs : Array Value) (off : Nat) (w : World) {v : Value} (h : xs[off]? = some v) : (part 33 xs off).run Try.prog w = .ok v w :=
  run_part_plain (P := Try.prog) w (by kernel_rfl) h
theorem acc_keyAt {a : LAcc} (h : a.o.length = 32) : a.cells.toArray.extract 1 (1 + 32) = (bv a.o).toArray := by
  apply Array.ext'
  unfold LAcc.cells
  rw [Array.toList_extract]
  simp [List.extract, bv_length, h]
theorem acc_held : Try.prog.stoodInHeld 48 = false := by kernel_rfl
theorem acc_under : Try.prog.underlying 48 = some (.struct (Try.prog.fieldsOf 48)) := by kernel_rfl
theorem u64_eq (e : Nat) (a b : Int) (w : World) : (Op.equalIn (e + 1) 33 (.int .u64 a) (.int .u64 b)).run Try.prog w = .ok (a == b) w :=
  run_equalIn_int w e 33 .u64 .u64 _ _ Try.underlying33
/-- the fields, one behind the other -/
theorem acc_fields (e : Nat) (X Y : Array Value) (w : World) {a b : Value} {s s' v v' : Int} {c : Bool} (pa : (part 46 X 1).run Try.prog w = .ok a w) (pb : (part 46 Y 1).run Try.prog w = .ok b w)
    (ps : (part 33 X 0).run Try.prog w = .ok (.int .u64 s) w) (ps' : (part 33 Y 0).run Try.prog w = .ok (.int .u64 s') w) (pv : (part 33 X 33).run Try.prog w = .ok (.int .u64 v) w) (pv' : (part 33 Y 33).run Try.prog w = .ok (.int .u64 v') w)
    (hk : (Op.equalIn (e + 1) 46 a b).run Try.prog w = .ok c w) : (Op.eqFields (e + 1) X Y (Try.prog.fieldsOf 48).toList).run Try.prog w = .ok ((s == s') && c && (v == v')) w := by
  simp only [Program.fieldsOf, Try.underlying48]
  have hb := u64_eq e
  simp only [Op.eqFields, ne_eq, String.reduceEq, not_false_eq_true, if_true, Sem.run_bind, ps, ps', Result.andThen_ok, hb]
  cases hs : (s == s')
  · simp
  · simp only [Bool.not_true, Bool.false_eq_true, if_false, pa, pb, Sem.run_bind, Result.andThen_ok, hk]
    cases c
    · simp
    · simp only [Bool.not_true, Bool.false_eq_true, if_false, pv, pv', Sem.run_bind, Result.andThen_ok, hb]
      cases hv : (v == v') <;> simp
theorem acc_eqIn (d : Nat) {x y : LAcc} (hx : x.o.length = 32) (hy : y.o.length = 32) (w : World) :
    (Op.equalIn (d + 1 + 1 + 1) 48 (.agg x.cells.toArray) (.agg y.cells.toArray)).run Try.prog w = .ok (decide (x = y)) w := by
  have px1 := run_part_key x.cells.toArray 1 w
  have py1 := run_part_key y.cells.toArray 1 w
  rw [acc_keyAt hx] at px1
  rw [acc_keyAt hy] at py1
  have px2 := run_part_u64 x.cells.toArray 0 w (v := .int .u64 x.c) (by rw [List.getElem?_toArray]; exact acc_c x)
  have py2 := run_part_u64 y.cells.toArray 0 w (v := .int .u64 y.c) (by rw [List.getElem?_toArray]; exact acc_c y)
  have px3 := run_part_u64 x.cells.toArray 33 w (v := .int .u64 x.s) (by rw [List.getElem?_toArray]; exact acc_s hx)
  have py3 := run_part_u64 y.cells.toArray 33 w (v := .int .u64 y.s) (by rw [List.getElem?_toArray]; exact acc_s hy)
  rw [run_equalIn_struct w (d + 1 + 1) 48 _ _ acc_under acc_held, acc_fields (d + 1) _ _ w px1 py1 px2 py2 px3 py3 (keys_eqIn d hx hy w)]
  congr 1
  rw [Bool.eq_iff_iff, Bool.and_eq_true, Bool.and_eq_true, decide_eq_true_iff, decide_eq_true_iff, beq_iff_eq, beq_iff_eq, acc_ext, and_assoc]
theorem acc_eq0 {x y : LAcc} (hx : x.o.length = 32) (hy : y.o.length = 32) (w : World) (d : Nat) (hd : d = 9997) :
    (Op.equalIn 10000 48 (.agg x.cells.toArray) (.agg y.cells.toArray)).run Try.prog w = .ok (decide (x = y)) w := by
  have h := acc_eqIn d hx hy w
  subst hd
  exact h
theorem acc_eql {x y : LAcc} (hx : x.o.length = 32) (hy : y.o.length = 32) (w : World) : (binOp .eql 48 (.agg x.cells.toArray) (.agg y.cells.toArray)).run Try.prog w = .ok (.bool (decide (x = y))) w := by
  rw [run_eql_struct, acc_eq0 hx hy w _ rfl]
  rfl
theorem acc_neq {x y : LAcc} (hx : x.o.length = 32) (hy : y.o.length = 32) (w : World) : (binOp .neq 48 (.agg x.cells.toArray) (.agg y.cells.toArray)).run Try.prog w = .ok (.bool (!decide (x = y))) w := by
  rw [run_neq_struct, acc_eq0 hx hy w _ rfl]
  rfl
theorem key_neq {x y : List Int} (hx : x.length = 32) (hy : y.length = 32) (w : World) :
    (binOp .neq 46 (.agg (bv x).toArray) (.agg (bv y).toArray)).run Try.prog w = .ok (.bool (!decide (x = y))) w := by
  obtain ⟨i, hi⟩ := infoU8
  rw [run_neq_struct, show (10000 : Nat) = 9999 + 1 from rfl, run_equalIn_array w 9999 _ _ Try.underlying46 hi, cellsOfU8, eqItems_any x y w _ (fun i hi => by simp at hi; omega), same32_iff hx hy]
  rfl
end Go.Proofs.Ytodoaebpkmhhmaa

/-
  Of part TwinAc: what is needed here.
-/
namespace Go.Proofs.Ytodoaebpkmhhmaa
open Go.RowKit
set_option linter.unusedVariables false
set_option maxRecDepth 100000
set_option maxRecDepth 100000 in
set_option maxHeartbeats 600000 in
theorem sameAc (A B : Option Addr) (n c d : Nat) (l : List (List Value)) (w : World) (S T : Nat) (hx : CsIn 34 w S A n l) (hy : CsIn 34 w T B n l) (ho : ∀ k ∈ l, IsAc k) (hn : n ≤ maxLen) :
    Calls Try.prog 37 #[.slice A n c, .slice B n d] w fun e w' => e = .returned (.bool true) ∧ ∃ k, w' = w.drewN k := by
  unfold maxLen at hn
  have HX := Lib.hid hx
  have HY := Lib.hid hy
  have HO := Lib.hid ho
  clear hx hy ho
  go_enter Try.func37, Try.ntmps37
  go_wp2
  go_loopw [5] (fun i wr => ∃ k j : Nat, k ≤ n ∧ i = .int .i64 k ∧ wr = w.drewN j) (fun i _ => n - (intOf i).toNat)
  case atStart => exact ⟨0, 0, Nat.zero_le _, rfl, rfl⟩
  case round =>
    obtain ⟨k, j, hk, rfl, rfl⟩ := hrel
    by_cases hlt : k < n
    · obtain ⟨a, x, rfl, ha, hxl, _, ca⟩ := HX.out.get hlt (by omega)
      obtain ⟨b, y, rfl, hb, hyl, _, cb⟩ := HY.out.get hlt (by omega)
      obtain rfl : x = y := by rw [hxl] at hyl; exact Option.some.inj hyl
      have hxo := HO.out x (List.mem_of_getElem? hxl)
      have NQ := fun w => hxo.neq w
      have HSZ := Lib.hid hxo.size
      have CA := Lib.hid ca
      have CB := Lib.hid cb
      clear ca cb hxl hyl hxo
      go_wp2
      refine wp_region_quiet_lit (by kernel_rfl) (by kernel_rfl) ?_
      repeat (first
        | ((with_reducible show wpQuiet _ _ _ _ ({ dst := some 20, op := Op.load _ _, type := _, pos := _, after := _, guard := _ } :: _) _); go_must (refine quiet_load_at (by kernel_rfl) 48 (.tmp 19) rfl (a.add (k * 34)) x _ Try.underlying48 rfl HSZ.out (by rintro _ ⟨nq, rfl⟩; exact CA.out) ?_ ?_; go_simp; go_simp))
        | ((with_reducible show wpQuiet _ _ _ _ ({ dst := some 24, op := Op.load _ _, type := _, pos := _, after := _, guard := _ } :: _) _); go_must (refine quiet_load_at (by kernel_rfl) 48 (.tmp 23) rfl (b.add (k * 34)) x _ Try.underlying48 rfl HSZ.out (by rintro _ ⟨nq, rfl⟩; exact CB.out) ?_ ?_; go_simp; go_simp))
        | go_big_quiet_step (fail))
      refine wpQuiet_nil ?_
      intro nq
      go_wp2
      go_roundw
      case rel => exact ⟨k + 1, j + nq, by omega, by go_num, by simp⟩
      case measure => simp [intOf]; omega
    · go_wp2
      go_ret
      exact ⟨rfl, j, rfl⟩
end Go.Proofs.Ytodoaebpkmhhmaa

/-
  Of part BookAc: what is needed here.
-/
namespace Go.Proofs.Ytodoaebpkmhhmaa
open Go.RowKit
set_option linter.unusedVariables false
set_option maxRecDepth 100000
theorem acc_is {x : LAcc} (ho : x.o.length = 32) : IsAc x.cells := ⟨acc_len ho, acc_one x, fun w => by rw [acc_neq ho ho]; simp, size_acc ho⟩
end Go.Proofs.Ytodoaebpkmhhmaa

/-
  Of part Tail: what is needed here.
-/
namespace Go.Proofs.Ytodoaebpkmhhmaa
open Go.RowKit
set_option linter.unusedVariables false
set_option maxRecDepth 100000
section
variable {P : Program} {w : World} {o : Oper} {a : Act}
/-- where what is left of a list begins -/
def tailAt (A : Option Addr) (c k : Nat) : Option Addr := if c = k then A else A.map (·.add k)
theorem Sees.tail {B : Nat} {A : Option Addr} {n c k : Nat} {xs : List Value} (h : Sees w B A n xs) (hk : k ≤ n) (hn : n ≤ c) : Sees w B (tailAt A c k) (n - k) (xs.drop k) := by
  refine ⟨by rw [List.length_drop, h.len], fun j u hu => ?_⟩
  rw [List.getElem?_drop] at hu
  obtain ⟨ad, rfl, hb, hc⟩ := h.cell _ u hu
  have h1 := (List.getElem?_eq_some_iff.1 hu).1
  have h2 := h.len
  refine ⟨ad.add k, by unfold tailAt; rw [if_neg (by omega)]; rfl, by rw [addr_block]; exact hb, by rw [addr_add]; exact hc⟩
theorem run_tail (t e : TypeId) (x i : Operand) (ho : o.op = .slice t x (some i) none none) (ht : P.underlying t = some (.slice e)) (hsz : (P.info? e).map (·.size) = some 1)
    (A : Option Addr) (n c k : Nat) (hx : a.eval x = .slice A n c) (hi : a.eval i = .int .i64 k) (hk : k ≤ n) (hn : n ≤ c) (hc : c ≤ maxLen) :
    (execOp a.eval o).run P w = .ok (.value (.slice (tailAt A c k) (n - k) (c - k))) w := by
  unfold maxLen at hc
  obtain ⟨ie, hie, hs1⟩ : ∃ i, P.info? e = some i ∧ i.size = 1 := by
    cases h : P.info? e with
    | none => rw [h] at hsz; cases hsz
    | some i => rw [h] at hsz; exact ⟨i, rfl, by simpa using hsz⟩
  have he : P.elem t = e := by simp [Program.elem, ht]
  have ht' : P.underlying t = some (.slice (P.elem t)) := by rw [he]; exact ht
  have hso : (sizeOf e).run P w = .ok 1 w := by simp [sizeOf, typeInfo, hie, hs1]
  have h1 : (0 : Int) ≤ k := by omega
  have h2 : (k : Int) ≤ n := by omega
  unfold execOp
  simp only [ho, hx, hi, Option.map_some, Option.map_none]
  simp only [Sem.run_bind, run_sliceAt_slice w t _ _ _ _ ht', run_slice_l w t A n c ht' .i64 k h1 h2, he, hso, Result.andThen_ok, sliced, tailAt, Int.toNat_natCast, Nat.mul_one, Sem.run_pure]
theorem wpList_tail {ops : Array Oper} {rest : List Oper} {Q : Exit → Act → World → Prop} (hgd : o.guard = none) (t e : TypeId) (x i : Operand) (ho : o.op = .slice t x (some i) none none) (ht : P.underlying t = some (.slice e)) (hsz : (P.info? e).map (·.size) = some 1)
    (A : Option Addr) (n c k : Nat) (hx : a.eval x = .slice A n c) (hi : a.eval i = .int .i64 k) (hk : k ≤ n) (hn : n ≤ c) (hc : c ≤ maxLen)
    (h : wpList P ops Q rest (a.put o.dst (.slice (tailAt A c k) (n - k) (c - k))) w) : wpList P ops Q (o :: rest) a w :=
  wpList_plain hgd fun K hK => by
    unfold Oper.wp
    rw [run_tail t e x i ho ht hsz A n c k hx hi hk hn hc]
    exact hK _ _ h
end
end Go.Proofs.Ytodoaebpkmhhmaa

/-
  Of part Sigs: what is needed here.
-/
namespace Go.Proofs.Ytodoaebpkmhhmaa
open Go.RowKit
set_option linter.unusedVariables false
set_option maxRecDepth 100000
theorem wp_copy_splice {P : Program} {o : Oper} {a : Act} {w : World} {K : Act → World → Prop} {Q : Exit → Act → World → Prop} (hgd : o.guard = none) (d s : Operand) (dT sT : TypeId)
    (ho : o.op = .call { callee := .builtin .copy, args := #[d, s], argTypes := #[dT, sT] }) (elem : TypeId) (hu : P.underlying dT = some (.slice elem)) (hsz : (P.info? elem).map (·.size) = some 1)
    (dp sp : Option Addr) (dLen dCap sLen sCap : Nat) (hd : a.eval d = .slice dp dLen dCap) (hs : a.eval s = .slice sp sLen sCap)
    (g off : Nat) (cur : List Value) (t : TypeId) (hg : w.heap[g]? = some (.cells cur.toArray t (0, 0))) (cs : List Value) (hn : cs.length = Nat.min sLen dLen)
    (hpos : 0 < cs.length → dp = some ⟨g, off, none⟩ ∧ ∃ ad, sp = some ad ∧ ∀ j v, cs[j]? = some v → w.cell? (ad.add j) = some v)
    (hfit : off + cs.length ≤ cur.length) (h1 : ∀ v ∈ cs, v.oneCell' = true) (B : Nat) (w0 : World) (hb : Below B w0 w) (hBg : B ≤ g)
    (h : ∀ w', Hid (w'.heap[g]? = some (.cells (splice cur off cs).toArray t (0, 0))) → Below B w0 w' → K (a.put o.dst (goInt cs.length)) w') : Oper.wp P o a w K Q := by
  have := step_copy_splice (P := P) (ops := #[]) (E := True) (Q := Q) hgd d s dT sT ho elem hu hsz dp sp dLen dCap sLen sCap hd hs g off cur t hg cs hn hpos hfit h1 B w0 hb hBg h
  rwa [if_pos (by simp [Region.wanted, hgd])] at this
end Go.Proofs.Ytodoaebpkmhhmaa

/-
  Of part TxMsg: what is needed here.
-/
namespace Go.Proofs.Ytodoaebpkmhhmaa
open Go.RowKit
set_option linter.unusedVariables false
set_option maxRecDepth 100000
theorem wp_store_part {P : Program} {op : Oper} {a : Act} {w : World} {K : Act → World → Prop} {Q : Exit → Act → World → Prop} (ty : TypeId) (x y : Operand) (ho : op.op = .store ty x y)
    (g t o : Nat) (c cs : List Value) (hr : Row w g t c) (hi : (P.info? ty).map (·.size) = some cs.length) (hl : o + cs.length ≤ c.length) (h1 : ∀ u ∈ cs, u.oneCell' = true)
    (hx : a.eval x = .pointer (some ⟨g, o, none⟩)) (hy : a.eval y = .agg cs.toArray)
    (h : ∀ w', Row w' g t (c.take o ++ cs ++ c.drop (o + cs.length)) → Turned w w' g → K (a.put op.dst undef) w') : op.wp P a w K Q :=
  wp_store_mid ty x y ho g o cs.toArray hx hy (fun j hj => ⟨by
      have hj' : j < cs.length := by simpa using hj
      rw [hr.cell, List.getElem?_eq_getElem (by omega)]; rfl, hr.frozen _⟩) (by simpa using hi) (all_oneCell_toArray h1)
    (h _ (by simpa using row_setCells cs w o c hr hl) (turned_setCells cs w o))
end Go.Proofs.Ytodoaebpkmhhmaa

/-
  Of part GetTx: what is needed here.
-/
namespace Go.Proofs.Ytodoaebpkmhhmaa
open Go.RowKit
set_option linter.unusedVariables false
set_option maxRecDepth 100000
section
variable {P : Program}
theorem results_cell1 {fn : Func} {p0 p1 : Tmp} {t0 : TypeId} (h : fn.results = #[.cell p0 t0, .tmp p1]) (tmps : Array Value) (w : World) (a0 : Addr) (v0 v1 : Value)
    (h0 : tmps.getD p0 undef = .pointer (some a0)) (h1 : tmps.getD p1 undef = v1)
    (l0 : (loadVar t0 a0).run P w = .ok v0 w) :
    (results fn tmps).run P w = .ok (.tuple #[v0, v1]) w := by
  have h0' : tmps[p0]?.getD undef = .pointer (some a0) := by simpa using h0
  have h1' : tmps[p1]?.getD undef = v1 := by simpa using h1
  simp [results, h, h0', h1', asAddr, l0]
end
end Go.Proofs.Ytodoaebpkmhhmaa

/-
  Of part TwinMsg: what is needed here.
-/
namespace Go.Proofs.Ytodoaebpkmhhmaa
open Go.RowKit
set_option linter.unusedVariables false
set_option maxRecDepth 100000
/-- a load of many cells yields them -/
theorem exec_load_at {P : Program} {a : Act} {o : Oper} (w : World) (ty : TypeId) (x : Operand) (ho : o.op = .load ty x) (p : Addr) (cs : List Value) (d : TypeDesc) (hu : P.underlying ty = some d) (hd : d.isRow = true) (hi : (P.info? ty).map (·.size) = some cs.length)
    (hc : ∀ j v, cs[j]? = some v → w.cell? (p.add j) = some v) (hx : a.eval x = .pointer (some p)) : (execOp a.eval o).run P w = .ok (.value (.agg cs.toArray)) w := by
  unfold execOp
  simp only [ho, hx, Sem.run_bind, Sem.run_pure, run_loadAt_at w p ty cs d hc hu hd hi, Result.andThen_ok]
end Go.Proofs.Ytodoaebpkmhhmaa

/-
  Of part Strays: what is needed here.
-/
namespace Go.Proofs.Ytodoaebpkmhhmaa
open Go.RowKit
set_option linter.unusedVariables false
set_option maxRecDepth 100000
/-- a place's number that tells whether there is one -/
def IdxDone (p : Bool) (e : Ending) : Prop := ∃ r : Int, e = .returned (.int .i64 r) ∧ (0 ≤ r ↔ p = true)
theorem idx_told {r : Int} {p : Bool} (h : 0 ≤ r ↔ p = true) : decide (0 ≤ r) = p := by
  rw [Bool.eq_iff_iff, decide_eq_true_iff]
  exact h
theorem told_bool {p q : Bool} (h : p = q) : Ending.returned (.bool p) = .returned (.bool q) := by rw [h]
theorem any_take_succ {α : Type} {p : α → Bool} {l : List α} {k : Nat} {x : α} (h : l[k]? = some x) : (l.take (k + 1)).any p = ((l.take k).any p || p x) := by
  rw [List.take_add_one, h]
  simp
theorem any_hit {α : Type} {p : α → Bool} {l : List α} {k : Nat} {x : α} (h : l[k]? = some x) (hp : p x = true) : l.any p = true :=
  List.any_eq_true.2 ⟨x, List.mem_of_getElem? h, hp⟩
theorem getD_at {l : List Int} {k : Nat} (h : k < l.length) : l[k]? = some (l.getD k 0) := by
  rw [List.getD_eq_getElem?_getD, List.getElem?_eq_getElem h]; rfl
end Go.Proofs.Ytodoaebpkmhhmaa

/-
  Of part Example: what is needed here.
-/
namespace Go.Proofs.Ytodoaebpkmhhmaa
open Go.RowKit
set_option linter.unusedVariables false
set_option maxRecDepth 100000
def xk (a : Int) : List Int := a :: List.replicate 31 0
section
variable {P : Program}
/-- a slice literal of two elements of many cells -/
theorem wpList_buildTwo {ops : Array Oper} {rest : List Oper} {o : Oper} {a : Act} {w : World} {Q : Exit → Act → World → Prop} (hg : o.guard = none) (t e : TypeId) (y y' : Operand) (ho : o.op = .buildSlice t 2 #[(0, y), (1, y')])
    (cs cs' : List Value) (z : Value) (size bytes : Nat) (hu : P.underlying t = some (.slice e)) (hi : (P.info? e).map (fun i => (i.zero, i.size, i.bytes)) = some (some z, size, bytes)) (hzs : z.cells.size = size) (hs0 : 0 < size) (hs1 : size ≤ 1000)
    (hcs : cs.length = size) (hcs' : cs'.length = size) (hy : a.eval y = .agg cs.toArray) (hy' : a.eval y' = .agg cs'.toArray)
    (h : wpList P ops Q rest (a.put o.dst (.slice (some ⟨w.heap.size, 0, none⟩) 2 2)) (w.alloc (.cells (cs ++ cs').toArray e))) : wpList P ops Q (o :: rest) a w := by
  obtain ⟨ie, hie, h1, h2, _⟩ := info_parts hi
  subst h2
  refine wpList_buildSlice hg t e 2 _ ho (cs ++ cs').toArray ie z hu hie h1 (by omega) (by omega) ?_ h
  have := Go.Great.fill_whole (s := ie.size) hs0 [Value.agg cs.toArray, Value.agg cs'.toArray] ((Array.range (2 * ie.size)).map (z.cells[· % z.cells.size]!)) (by simp [Value.cells, hcs, hcs']) (by simp)
  simpa [hy, hy', Value.cells] using this
end
end Go.Proofs.Ytodoaebpkmhhmaa

/-
  Of part AppendN: what is needed here.
-/
namespace Go.Proofs.Ytodoaebpkmhhmaa
open Go.RowKit
set_option linter.unusedVariables false
set_option maxRecDepth 100000
section
variable {P : Program} {w : World} {base : Nat} {t ty e : TypeId} {i : TypeInfo} {z : Value} {size bytes : Nat} {v : Value} {n m c B : Nat} {A : Option Addr} {xs news : List Value}
theorem run_append_nothingN (ht : P.underlying t = some (.slice e)) (hi : P.info? e = some i) (hown : w.ownsRow base e size v n xs) (c : Nat) :
    (Builtin.append_ #[t, t] ty #[v, .slice none 0 c]).run P w = .ok v w := by
  rcases hown.2 with ⟨rfl, rfl⟩ | ⟨g, cap, cur, rfl, _, _, hnc, _⟩ <;>
    simp [Builtin.append_, run_underlying ht, sizeOf, typeInfo, Builtin.lenOf, Builtin.firstCells, storeCells, *]
theorem wp_appendN {o : Oper} {a : Act} {K : Act → World → Prop} {Q : Exit → Act → World → Prop} (s x : Operand) (t e : TypeId) (z : Value) (size bytes : Nat)
    (ho : o.op = .call { callee := .builtin .append, args := #[s, x], argTypes := #[t, t] })
    (ht : P.underlying t = some (.slice e)) (hi : (P.info? e).map (fun i => (i.zero, i.size, i.bytes)) = some (some z, size, bytes)) (hzs : z.cells.size = size) (hs0 : 0 < size)
    (v : Value) (n : Nat) (xs : List Value) (base B : Nat) (A : Option Addr) (m c : Nat) (news : List Value)
    (hs : a.eval s = v) (hown : w.ownsRow base e size v n xs) (hx : a.eval x = .slice A m c) (hr : Sees w B A (m * size) news) (h1 : ∀ u ∈ news, u.oneCell' = true)
    (hnm : n + m ≤ maxLen) (hbytes : (n + m) * bytes ≤ 140737488355328) (hbase : base ≤ w.heap.size)
    (h : ∀ v' w', w'.ownsRow base e size v' (n + m) (xs ++ news) → Grew w w' v v' → K (a.put o.dst v') w') : o.wp P a w K Q := by
  obtain ⟨i0, hi, hz0, hz1, hz2⟩ := info_parts hi
  have hrun : ∃ v' w', (Builtin.append_ #[t, t] o.type #[v, .slice A m c]).run P w = .ok v' w' ∧ w'.ownsRow base e size v' (n + m) (xs ++ news) ∧ Grew w w' v v' := by
    cases A with
    | none =>
      have hn : news = [] := by
        cases news with
        | nil => rfl
        | cons u r =>
          obtain ⟨a, h, _⟩ := hr.cell 0 u rfl
          cases h
      subst hn
      have hl : m * size = 0 := by simpa using hr.len.symm
      obtain rfl : m = 0 := by
        rcases Nat.mul_eq_zero.1 hl with h | h
        · exact h
        · omega
      exact ⟨v, w, run_append_nothingN ht hi hown c, by simpa using hown, Grew.refl _ _⟩
    | some ad =>
      obtain ⟨v', w', hrun, h2, h3, _, h5⟩ := run_append_own_at (P := P) w base t o.type e i0 z size bytes ht hi hz0 hz1 hz2 hzs hs0 v n xs hown ad m c news hr.len
        (fun j u hu => by
          obtain ⟨a, h, _, hc⟩ := hr.cell j u hu
          cases h
          exact hc) h1 hnm hbytes hbase
      refine ⟨v', w', hrun, h2, ⟨h3, fun k hk => ?_⟩⟩
      rcases h5 with h5 | h5
      · exact .inl (h5 ▸ hk)
      · rw [h5] at hk
        cases hk
        exact .inr (Nat.le_refl _)
  obtain ⟨v', w', hr2, h2, h3⟩ := hrun
  unfold Oper.wp execOp
  simp only [ho, resolve, invoke, builtin, Sem.run_bind, Sem.run_pure, Result.andThen_ok, List.map_toArray, List.map_cons, List.map_nil, hs, hx, hr2]
  exact h v' w' h2 h3
theorem wpList_appendN {ops : Array Oper} {rest : List Oper} {o : Oper} {a : Act} {Q : Exit → Act → World → Prop} (hgd : o.guard = none) (s x : Operand) (t e : TypeId) (z : Value) (size bytes : Nat)
    (ho : o.op = .call { callee := .builtin .append, args := #[s, x], argTypes := #[t, t] })
    (ht : P.underlying t = some (.slice e)) (hi : (P.info? e).map (fun i => (i.zero, i.size, i.bytes)) = some (some z, size, bytes)) (hzs : z.cells.size = size) (hs0 : 0 < size)
    (v : Value) (n : Nat) (xs : List Value) (base B : Nat) (A : Option Addr) (m c : Nat) (news : List Value)
    (hs : a.eval s = v) (hown : w.ownsRow base e size v n xs) (hx : a.eval x = .slice A m c) (hr : Sees w B A (m * size) news) (h1 : ∀ u ∈ news, u.oneCell' = true)
    (hnm : n + m ≤ maxLen) (hbytes : (n + m) * bytes ≤ 140737488355328) (hbase : base ≤ w.heap.size)
    (h : ∀ v' w', w'.ownsRow base e size v' (n + m) (xs ++ news) → Grew w w' v v' → wpList P ops Q rest (a.put o.dst v') w') : wpList P ops Q (o :: rest) a w :=
  wpList_plain hgd fun _ hK => wp_appendN s x t e z size bytes ho ht hi hzs hs0 v n xs base B A m c news hs hown hx hr h1 hnm hbytes hbase fun v' w' h2 h3 => hK _ _ (h v' w' h2 h3)
end
theorem own_form2 {w : World} {base : Nat} {e : TypeId} {size n : Nat} {v : Value} {xs : List Value} (h : w.ownsRow base e size v n xs) : ∃ A c, v = .slice A n c ∧ Sees w w.heap.size A (n * size) xs ∧ n ≤ c ∧ c ≤ maxLen ∧ (∀ g, v.ownBlock = some g → base ≤ g ∧ g < w.heap.size) := by
  have hlt := h.lt
  rcases h.2 with ⟨rfl, rfl⟩ | ⟨g, cap, cur, rfl, hg, hh, h1, h2, h3, h4⟩
  · have hx : xs = [] := List.eq_nil_of_length_eq_zero (by simpa using h.1)
    subst hx
    exact ⟨none, 0, rfl, by rw [Nat.zero_mul]; exact Sees.nil _ _ _, Nat.le_refl _, by simp [maxLen], hlt⟩
  · refine ⟨_, cap, rfl, ⟨h.1, fun j u hu => ⟨_, rfl, (Array.getElem?_eq_some_iff.1 hh).1, h.cells (g := g) rfl j u hu⟩⟩, h1, h2, hlt⟩
end Go.Proofs.Ytodoaebpkmhhmaa

/-
  Of part OtherMem: what is needed here.
-/
namespace Go.Proofs.Ytodoaebpkmhhmaa
open Go.RowKit
set_option linter.unusedVariables false
set_option maxRecDepth 100000
theorem own_of_row {w : World} {base g c : Nat} {e : TypeId} {size n : Nat} {xs rest : List Value} (h : Row w g e (xs ++ rest)) (hl : xs.length = n * size) (hc : (xs ++ rest).length = c * size) (h1 : n ≤ c) (h2 : c ≤ maxLen) (hb : base ≤ g) :
    w.ownsRow base e size (.slice (some ⟨g, 0, none⟩) n c) n xs :=
  ⟨hl, .inr ⟨g, c, (xs ++ rest).toArray, rfl, hb, h.is, h1, h2, by simpa using hc, by rw [← hl]; simp⟩⟩
theorem own_keep {w w' : World} {base : Nat} {e : TypeId} {size n : Nat} {v : Value} {xs : List Value} (h : w.ownsRow base e size v n xs) (hk : ∀ g, v.ownBlock = some g → w'.heap[g]? = w.heap[g]?) : w'.ownsRow base e size v n xs := by
  refine ⟨h.1, ?_⟩
  rcases h.2 with h2 | ⟨g, cap, cur, hv, hg, hh, r⟩
  · exact .inl h2
  · exact .inr ⟨g, cap, cur, hv, hg, (hk g (by rw [hv]; rfl)).trans hh, r⟩
theorem own_is {w : World} {base : Nat} {e : TypeId} {size n g : Nat} {v : Value} {xs : List Value} (h : w.ownsRow base e size v n xs) (hg : v.ownBlock = some g) : ∃ cur, w.heap[g]? = some (.cells cur e (0, 0)) := by
  rcases h.2 with ⟨rfl, _⟩ | ⟨g', cap, cur, rfl, _, hh, _⟩
  · cases hg
  · cases hg
    exact ⟨cur, hh⟩
/-- what the rules see of an instruction -/
def pa (i : LIn) : Int × List Int := (i.p, i.acc)
/-- 'copy' into the midst of a block that is known whole, as one step -/
theorem wp_copy_row {P : Program} {o : Oper} {a : Act} {w : World} {K : Act → World → Prop} {Q : Exit → Act → World → Prop} (d s : Operand) (dT sT elem : TypeId)
    (ho : o.op = .call { callee := .builtin .copy, args := #[d, s], argTypes := #[dT, sT] }) (hu : P.underlying dT = some (.slice elem)) (hsz : (P.info? elem).map (·.size) = some 1)
    (g off dLen dCap : Nat) (ad : Addr) (sLen sCap : Nat) (hd : a.eval d = .slice (some ⟨g, off, none⟩) dLen dCap) (hs : a.eval s = .slice (some ad) sLen sCap)
    (cur : List Value) (t : TypeId) (hg : Row w g t cur) (cs : List Value) (hn : cs.length = Nat.min sLen dLen)
    (hsrc : ∀ j v, cs[j]? = some v → w.cell? (ad.add j) = some v) (hfit : off + cs.length ≤ cur.length) (h1 : ∀ v ∈ cs, v.oneCell' = true)
    (h : ∀ w', Row w' g t (cur.take off ++ cs ++ cur.drop (off + cs.length)) → Turned w w' g → K (a.put o.dst (goInt cs.length)) w') : o.wp P a w K Q := by
  have hrun := run_copy_row (P := P) w dT sT o.type elem g off dLen dCap ad sLen sCap cur.toArray t cs hu hsz hg.is hn hsrc (by simpa using hfit) h1
  unfold Oper.wp execOp
  simp only [ho, resolve, invoke, builtin, Sem.run_bind, Sem.run_pure, Result.andThen_ok, List.map_toArray, List.map_cons, List.map_nil, hd, hs, hrun]
  exact h _ (by simpa using row_setRow hg (cur.take off ++ cs ++ cur.drop (off + cs.length))) (by simpa using turned_setRow w g _)
end Go.Proofs.Ytodoaebpkmhhmaa

/-
  Of part Rec12: what is needed here.
-/
namespace Go.Proofs.Ytodoaebpkmhhmaa
open Go.RowKit
set_option linter.unusedVariables false
set_option maxRecDepth 100000
/-- a variable of many cells is made -/
theorem wp_alloc_zero {P : Program} {o : Oper} {a : Act} {w : World} {K : Act → World → Prop} {Q : Exit → Act → World → Prop} (t : TypeId) (ho : o.op = .alloc t) (z : List Value)
    (hi : (P.info? t).map (·.zero) = some (some (.agg z.toArray))) (h : K (a.put o.dst (.pointer (some ⟨w.heap.size, 0, none⟩))) (w.alloc (.cells z.toArray t))) : o.wp P a w K Q := by
  cases hq : P.info? t with
  | none => simp [hq] at hi
  | some i =>
    have hz : i.zero = some (.agg z.toArray) := by simpa [hq] using hi
    unfold Oper.wp execOp
    simp [ho, Instr.alloc, zeroValue, typeInfo, hq, hz, newVar, newRow, Value.cells]
    exact h
theorem wpList_alloc_zero {P : Program} {ops : Array Oper} {rest : List Oper} {o : Oper} {a : Act} {w : World} {Q : Exit → Act → World → Prop} (hg : o.guard = none) (t : TypeId) (ho : o.op = .alloc t) (z : List Value)
    (hi : (P.info? t).map (·.zero) = some (some (.agg z.toArray))) (h : wpList P ops Q rest (a.put o.dst (.pointer (some ⟨w.heap.size, 0, none⟩))) (w.alloc (.cells z.toArray t))) : wpList P ops Q (o :: rest) a w :=
  wpList_plain hg fun K hK => wp_alloc_zero t ho z hi (hK _ _ h)
end Go.Proofs.Ytodoaebpkmhhmaa

/-
  Of part Accs14: what is needed here.
-/
namespace Go.Proofs.Ytodoaebpkmhhmaa
open Go.RowKit
set_option linter.unusedVariables false
set_option maxRecDepth 100000
theorem accs_is {L : List LAcc} (h : ∀ x ∈ L, AccOk x) : ∀ k ∈ L.map LAcc.cells, IsAc k := fun k hk => by
  obtain ⟨x, hx, rfl⟩ := List.mem_map.1 hk
  exact acc_is (h x hx).o.1
def accsC (L : List LAcc) : List Value := (L.map LAcc.cells).flatten
theorem accs_each {L : List LAcc} (h : ∀ x ∈ L, AccOk x) : ∀ k ∈ L.map LAcc.cells, k.length = 34 := fun k hk => by
  obtain ⟨x, hx, rfl⟩ := List.mem_map.1 hk
  exact acc_len (h x hx).o.1
theorem accsC_one (L : List LAcc) : ∀ u ∈ accsC L, u.oneCell' = true := fun u hu => by
  obtain ⟨c, hc, hu⟩ := List.mem_flatten.1 hu
  obtain ⟨x, _, rfl⟩ := List.mem_map.1 hc
  exact acc_one x u hu
theorem accsC_len {L : List LAcc} (h : ∀ x ∈ L, AccOk x) : (accsC L).length = L.length * 34 := by
  unfold accsC
  rw [cs_flat (accs_each h), List.length_map]
/-- accounts that lie below block B -/
structure AccsIn (w : World) (B : Nat) (A : Option Addr) (n : Nat) (L : List LAcc) : Prop where
  len : L.length = n
  ok : ∀ x ∈ L, AccOk x
  sees : Sees w B A (n * 34) (accsC L)
section
variable {n B B' : Nat} {w w' : World} {A : Option Addr} {L : List LAcc}
theorem AccsIn.cs (h : AccsIn w B A n L) : CsIn 34 w B A n (L.map LAcc.cells) := ⟨by rw [List.length_map, h.len], accs_each h.ok, h.sees⟩
theorem AccsIn.keep (h : AccsIn w B A n L) (hk : ∀ p : Addr, p.block < B → w'.cell? p = w.cell? p) : AccsIn w' B A n L := ⟨h.len, h.ok, h.sees.keep hk⟩
theorem AccsIn.below (h : AccsIn w B A n L) (hb : Below B w w') : AccsIn w' B A n L := ⟨h.len, h.ok, h.sees.below hb⟩
theorem AccsIn.get (h : AccsIn w B A n L) {k : Nat} (hk : k < n) : ∃ a x, A = some a ∧ a.block < B ∧ L[k]? = some x ∧ AccOk x ∧ ∀ j u, x.cells[j]? = some u → w.cell? ((a.add (k * 34)).add j) = some u := by
  obtain ⟨a, x, e, hb, hx, _, hcell⟩ := h.cs.get hk (by omega)
  rw [List.getElem?_map] at hx
  obtain ⟨r, hr, rfl⟩ := Option.map_eq_some_iff.1 hx
  exact ⟨a, r, e, hb, hr, h.ok r (List.mem_of_getElem? hr), hcell⟩
theorem accs_own {base c : Nat} (h : w.ownsRow base 48 34 (.slice A n c) L.length (accsC L)) (ho : ∀ x ∈ L, AccOk x) (hn : n = L.length) : AccsIn w w.heap.size A n L := by
  subst hn
  obtain ⟨A', c', h1, h2, _⟩ := own_form2 h
  cases h1
  exact ⟨rfl, ho, h2⟩
theorem accs_row {g t : Nat} {ys : List Value} (hr : Row w g t (accsC L ++ ys)) (hn : L.length = n) (he : ∀ r ∈ L, AccOk r) (hB : g < B) : AccsIn w B (some ⟨g, 0, none⟩) n L :=
  ⟨hn, he, (csIn_row (sz := 34) (l := L.map LAcc.cells) hr (by rw [List.length_map, hn]) (accs_each he) hB).sees⟩
end
/-- accounts of the call's own, whose room may be less than their block's -/
structure OA14 (w : World) (base : Nat) (v : Value) (L : List LAcc) : Prop where
  is : ∃ A c c', v = .slice A L.length c ∧ L.length ≤ c ∧ c ≤ c' ∧ w.ownsRow base 48 34 (.slice A L.length c') L.length (accsC L)
  ok : ∀ x ∈ L, AccOk x
theorem own_blk14 (A : Option Addr) (n c c' : Nat) : (Value.slice A n c).ownBlock = (Value.slice A n c').ownBlock := by cases A <;> rfl
section
variable {w w' : World} {base c n : Nat} {v : Value} {A : Option Addr} {L : List LAcc}
theorem OA14.keep (h : OA14 w base v L) (hk : ∀ g, v.ownBlock = some g → w'.heap[g]? = w.heap[g]?) : OA14 w' base v L := by
  obtain ⟨A, c, c', rfl, h1, h2, h3⟩ := h.is
  exact ⟨⟨A, c, c', rfl, h1, h2, own_keep h3 fun g hg => hk g ((own_blk14 A _ c c').trans hg)⟩, h.ok⟩
theorem OA14.lt (h : OA14 w base v L) : ∀ g, v.ownBlock = some g → base ≤ g ∧ g < w.heap.size := fun g hg => by
  obtain ⟨A, c, c', rfl, h1, h2, h3⟩ := h.is
  exact h3.lt g ((own_blk14 A _ c' c).trans hg)
theorem OA14.below (h : OA14 w base v L) (hb : Below w.heap.size w w') : OA14 w' base v L := h.keep fun g hg => hb.block g (h.lt g hg).2
theorem OA14.cells (h : OA14 w base v L) : ∀ g, v.ownBlock = some g → ∃ cur, w.heap[g]? = some (.cells cur 48 (0, 0)) := fun g hg => by
  obtain ⟨A, c, c', rfl, h1, h2, h3⟩ := h.is
  exact own_is h3 ((own_blk14 A _ c' c).trans hg)
theorem OA14.accs (h : OA14 w base (.slice A n c) L) (hn : n = L.length) : AccsIn w w.heap.size A n L := by
  subst hn
  obtain ⟨A', c1, c', e, h1, h2, h3⟩ := h.is
  injection e with e _ _
  subst e
  exact accs_own h3 h.ok rfl
theorem OA14.form (h : OA14 w base v L) : ∃ A c, v = .slice A L.length c ∧ L.length ≤ c ∧ c ≤ maxLen := by
  obtain ⟨A', c1, c', rfl, h1, h2, h3⟩ := h.is
  obtain ⟨_, _, e, _, _, hm, _⟩ := own_form2 h3
  injection e with _ _ e
  exact ⟨_, _, rfl, h1, by omega⟩
end
set_option maxHeartbeats 400000 in
theorem sameAccs (A B : Option Addr) (n c d : Nat) (L : List LAcc) (w : World) (S T : Nat) (hx : AccsIn w S A n L) (hy : AccsIn w T B n L) (hn : n ≤ maxLen) :
    Calls Try.prog 14 #[.slice A n c, .slice B n d] w fun e w' => e = .returned (.bool true) ∧ ∃ k, w' = w.drewN k := by
  have HS := Lib.hid (sameAc A B n c d _ w S T hx.cs hy.cs (accs_is hx.ok) hn)
  clear hx hy
  go_enter Try.func14, Try.ntmps14
  go_wp2_with fail
  refine HS.out.mono ?_
  rintro e w' ⟨rfl, k, rfl⟩
  go_wp2_with fail
  go_ret
  exact ⟨rfl, k, rfl⟩
end Go.Proofs.Ytodoaebpkmhhmaa

/-
  Of part RefData14: what is needed here.
-/
namespace Go.Proofs.Ytodoaebpkmhhmaa
open Go.RowKit
set_option linter.unusedVariables false
set_option maxRecDepth 100000
def askC (x : LAsk) : List Value := .int .u64 x.tag :: .int .u64 x.coins :: .int .u64 x.space :: bv x.owner
def ask0 : LAsk := ⟨0, 0, 0, key0⟩
theorem ask_len {x : LAsk} (h : x.owner.length = 32) : (askC x).length = 35 := by simp [askC, bv_length, h]
theorem ask_one (x : LAsk) : ∀ u ∈ askC x, u.oneCell' = true := by
  intro u hu
  unfold askC at hu
  simp only [List.mem_cons] at hu
  rcases hu with rfl | rfl | rfl | hu
  · rfl
  · rfl
  · rfl
  · exact bv_one _ _ hu
theorem size_u8_14 : (Try.prog.info? 5).map (·.size) = some 1 := by kernel_rfl
theorem getN_ok {zs : List Int} {m : Nat} (h1 : 1 ≤ m) (h2 : m ≤ 8) (h : m ≤ zs.length) : getN zs m = (num zs m, 0) := by
  unfold getN
  rw [if_neg (by omega), if_neg (by omega)]
  simp
theorem getN_short {zs : List Int} {m : Nat} (h1 : 1 ≤ m) (h2 : m ≤ 8) (h : zs.length < m) : getN zs m = (0, 5) := by
  unfold getN
  rw [if_neg (by omega), if_pos (by omega)]
theorem ask_owner {t c s : Int} {o o' : List Int} (h : o.length = 32) (h' : o'.length = 32) : (askC ⟨t, c, s, o⟩).take 3 ++ bv o' ++ (askC ⟨t, c, s, o⟩).drop (3 + (bv o').length) = askC ⟨t, c, s, o'⟩ := by
  unfold askC
  rw [bv_length, h']
  have : (bv o).length = 32 := by rw [bv_length, h]
  simp [List.drop_of_length_le, this]
end Go.Proofs.Ytodoaebpkmhhmaa

/-
  Of part RefPlaces14: what is needed here.
-/
namespace Go.Proofs.Ytodoaebpkmhhmaa
open Go.RowKit
set_option linter.unusedVariables false
set_option maxRecDepth 100000
theorem built_key14 : Try.prog.built 46 [] = some (bv key0).toArray := by kernel_rfl
/-- the instruction's cells -/
def insC (p : Int) (A : Option Addr) (n c : Nat) (D : Option Addr) (dn dc : Nat) : List Value := [.int .u8 p, .slice A n c, .slice D dn dc]
theorem plc_few {x : LAsk} {r : List LRole} {acc : List Int} (h : acc.length < need14 x) : plc14 x r acc = 8 := by unfold plc14; rw [if_pos h]
theorem plc_out {x : LAsk} {r : List LRole} {acc : List Int} (h : ¬ acc.length < need14 x) (h2 : ∃ i ∈ acc, (r.length : Int) ≤ i) : plc14 x r acc = 8 := by unfold plc14; rw [if_neg h, if_pos h2]
/-- what lies there while places is carried out -/
structure PX (w V : World) (B g3 g5 : Nat) (x : LAsk) (p : Int) (IA : Option Addr) (n c : Nat) (D : Option Addr) (dn dc : Nat) (acc : List Int) (RA : Option Addr) (rn : Nat) (r : List LRole) : Prop where
  b : Below w.heap.size w V
  r3 : Row V g3 77 (askC x)
  r5 : Row V g5 26 (insC p IA n c D dn dc)
  acc : Sees V B IA n (bv acc)
  rol : RolesIn V B RA rn r
  hB : B ≤ w.heap.size
theorem PX.below {w V V' : World} {B g3 g5 : Nat} {x : LAsk} {p : Int} {IA : Option Addr} {n c : Nat} {D : Option Addr} {dn dc : Nat} {acc : List Int} {RA : Option Addr} {rn : Nat} {r : List LRole} (h : PX w V B g3 g5 x p IA n c D dn dc acc RA rn r) (hb : Below V.heap.size V V') : PX w V' B g3 g5 x p IA n c D dn dc acc RA rn r :=
  ⟨h.b.trans (hb.mono h.b.size), h.r3.below hb h.r3.lt, h.r5.below hb h.r5.lt, h.acc.below (hb.mono (Nat.le_trans h.hB h.b.size)), h.rol.below (hb.mono (Nat.le_trans h.hB h.b.size)), h.hB⟩
theorem rol_at {r : List LRole} {i : Int} {k : Nat} {y : LRole} (hi : i = k) (h : r[k]? = some y) : rol14 r i = y := by
  unfold rol14
  rw [hi, Int.toNat_natCast, List.getD_eq_getElem?_getD, h]
  rfl
end Go.Proofs.Ytodoaebpkmhhmaa
