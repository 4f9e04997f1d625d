/-
  Parts joined: Mem Row Bits Longer Put Msg Math13 Get Parse Whole Append Many Looks PutMsg Read ReadIn GetMsg Guard SameMsg CameIn Enc Tx Great IsIn OpenMsg Rules KeyEq Book Sheet Take RefAt BookK Role GetN Math14 SheetR.
-/
import Derived.Below
import Derived.Laws.OwnMore
import Derived.Deep.AppendLies
import Derived.Deep.Draws
import Derived.Lib.Hide
import Derived.Laws.MakeOwn
import Derived.Laws.CopyOwn
import Derived.Laws.Rows
import Derived.Laws.BitsAllLaws
import Derived.WalkKit
import Derived.Test.YtodoaebpkmhhmaaRows
import Derived.WalkSpells
import Derived.WalkLawsBesides
import Derived.IntWalk
import Derived.Deep.MidRow
import Derived.Deep.WholeRow
import Derived.Maps.AppendAt
import Derived.OwnWalk
import Derived.Great.BuildSlice
import Derived.Recover
import Derived.Deep.RegionHeld
import Derived.Deep.QuietTactic
import Derived.BigQuiet
import Derived.ChangeKeysEq
import Derived.ProofKit
import Derived.OpenShut
import Derived.ShutString
import Derived.ChangeOld
import Derived.Lib.SmallJoins
import Derived.Deep.Slices
import Derived.Deep.Strs
import Derived.SizedLaws
import Derived.Deep.RegionHeld2
import Derived.Deep.CutBlock
import Derived.Laws.Tables
import Derived.Laws.StructEq
/-
  Of part Mem: what is needed here.
-/
namespace Go.Proofs.Ytodoaebpkmhhmaa
open Go.RowKit
/-- bytes (or numbers of another kind) as cells -/
def cv (k : IntKind) (zs : List Int) : List Value := zs.map (Value.int k)
def bv (zs : List Int) : List Value := cv .u8 zs
theorem cv_length (k : IntKind) (zs : List Int) : (cv k zs).length = zs.length := by simp [cv]
theorem bv_length (zs : List Int) : (bv zs).length = zs.length := cv_length _ zs
theorem bv_append (xs ys : List Int) : bv (xs ++ ys) = bv xs ++ bv ys := by simp [bv, cv]
theorem bv_getElem? (zs : List Int) (i : Nat) : (bv zs)[i]? = zs[i]?.map (Value.int .u8) := by simp [bv, cv]
theorem bv_at {zs : List Int} {i : Nat} (h : i < zs.length) : (bv zs)[i]? = some (.int .u8 (zs.getD i 0)) := by
  rw [bv_getElem?, List.getD_eq_getElem?_getD, List.getElem?_eq_getElem h]; rfl
theorem bv_one (zs : List Int) : ∀ u ∈ bv zs, u.oneCell' = true := by
  intro u hu
  simp only [bv, cv, List.mem_map] at hu
  obtain ⟨z, _, rfl⟩ := hu
  rfl
theorem addr_block (a : Addr) (n : Nat) : (a.add n).block = a.block := by unfold Addr.add; split <;> rfl
theorem addr_add (a : Addr) (i j : Nat) : (a.add i).add j = a.add (i + j) := by
  unfold Addr.add
  rcases Nat.eq_zero_or_pos i with hi | hi <;> rcases Nat.eq_zero_or_pos j with hj | hj
  · simp [hi, hj]
  · simp [hi, show j ≠ 0 by omega]
  · simp [hj, show i ≠ 0 by omega]
  · simp [show i ≠ 0 by omega, show j ≠ 0 by omega, Nat.add_assoc]
theorem addr_row (g i j : Nat) : (⟨g, i, none⟩ : Addr).add j = ⟨g, i + j, none⟩ := by unfold Addr.add; split <;> simp_all
/-- The slice value '.slice A n c' reads as the cells xs; each cell lies below block B. -/
structure Sees (w : World) (B : Nat) (A : Option Addr) (n : Nat) (xs : List Value) : Prop where
  len : xs.length = n
  cell : ∀ i u, xs[i]? = some u → ∃ a, A = some a ∧ a.block < B ∧ w.cell? (a.add i) = some u
section
variable {w w' : World} {B B' n : Nat} {A : Option Addr} {xs : List Value}
theorem Sees.nil (w : World) (B : Nat) (A : Option Addr) : Sees w B A 0 [] := ⟨rfl, fun i u h => by simp at h⟩
theorem Sees.keep (h : Sees w B A n xs) (hk : ∀ p : Addr, p.block < B → w'.cell? p = w.cell? p) : Sees w' B A n xs :=
  ⟨h.len, fun i u hu => by
    obtain ⟨a, e, hb, hc⟩ := h.cell i u hu
    exact ⟨a, e, hb, (hk _ (by rw [addr_block]; exact hb)).trans hc⟩⟩
theorem Sees.more (h : Sees w B A n xs) (hB : B ≤ B') : Sees w B' A n xs :=
  ⟨h.len, fun i u hu => by
    obtain ⟨a, e, hb, hc⟩ := h.cell i u hu
    exact ⟨a, e, by omega, hc⟩⟩
theorem Sees.below (h : Sees w B A n xs) (hb : Below B w w') : Sees w' B A n xs := h.keep fun _ hp => hb.cell hp
theorem Sees.drew (h : Sees w B A n xs) : Sees w.drew B A n xs := ⟨h.len, h.cell⟩
theorem Sees.drewN (h : Sees w B A n xs) (k : Nat) : Sees (w.drewN k) B A n xs := ⟨h.len, h.cell⟩
theorem Sees.alloc (h : Sees w B A n xs) (hB : B ≤ w.heap.size) (o : Obj) : Sees (w.alloc o) B A n xs := h.keep fun p hp => World.cell?_alloc_lt w o p (by omega)
theorem Sees.setCell (h : Sees w B A n xs) {p : Addr} (hB : B ≤ p.block) (u : Value) : Sees (w.setCell p u) B A n xs :=
  h.keep fun q hq => World.cell?_setCell_other w p q u (fun e => by subst e; omega)
theorem Sees.at_ {k : Nat} (h : Sees w B A n xs) (hk : k < n) : ∃ a u, A = some a ∧ a.block < B ∧ xs[k]? = some u ∧ w.cell? (a.add k) = some u := by
  have hl : k < xs.length := by have := h.len; omega
  obtain ⟨a, e, hb, hc⟩ := h.cell k _ (List.getElem?_eq_getElem hl)
  exact ⟨a, _, e, hb, List.getElem?_eq_getElem hl, hc⟩
theorem Sees.byte {zs : List Int} {k : Nat} (h : Sees w B A n (bv zs)) (hk : k < n) : ∃ a, A = some a ∧ a.block < B ∧ w.cell? (a.add k) = some (.int .u8 (zs.getD k 0)) := by
  obtain ⟨a, u, e, hb, hx, hc⟩ := h.at_ hk
  have hl : k < zs.length := by have := h.len; rw [bv_length] at this; omega
  rw [bv_at hl] at hx
  cases hx
  exact ⟨a, e, hb, hc⟩
theorem Sees.of_own {base : Nat} {e : TypeId} {c : Nat} (h : w.ownsRow base e 1 (.slice A n c) n xs) : Sees w w.heap.size A n xs := by
  refine ⟨by have := h.1; omega, fun i u hu => ?_⟩
  have hl : i < xs.length := (List.getElem?_eq_some_iff.1 hu).1
  rcases h.2 with ⟨_, rfl⟩ | ⟨g, cap, cur, hv, hg, hh, hnc, _, hsz, htk⟩
  · have := h.1; omega
  · have hA : A = some ⟨g, 0, none⟩ := by injection hv
    subst hA
    exact ⟨_, rfl, (Array.getElem?_eq_some_iff.1 hh).1, h.cells (g := g) rfl i u hu⟩
end
end Go.Proofs.Ytodoaebpkmhhmaa

/-
  Of part Row: what is needed here.
-/
namespace Go.Proofs.Ytodoaebpkmhhmaa
open Go.RowKit
set_option linter.unusedVariables false
set_option maxRecDepth 100000
/-- block g is just the cells xs of element type t; none is frozen -/
structure Row (w : World) (g : Nat) (t : TypeId) (xs : List Value) : Prop where
  is : w.heap[g]? = some (.cells xs.toArray t (0, 0))
section
variable {w w' : World} {g : Nat} {t : TypeId} {xs : List Value}
theorem Row.lt (h : Row w g t xs) : g < w.heap.size := (Array.getElem?_eq_some_iff.1 h.is).1
theorem Row.cell (h : Row w g t xs) (i : Nat) : w.cell? ⟨g, i, none⟩ = xs[i]? := by rw [cell_of_row w g i xs.toArray t (0, 0) h.is]; simp
theorem Row.frozen (h : Row w g t xs) (i : Nat) : w.frozen? ⟨g, i, none⟩ = false := by
  have := h.is
  simp [World.frozen?, this]
theorem Row.new (w : World) (t : TypeId) (xs : List Value) : Row (w.alloc (.cells xs.toArray t)) w.heap.size t xs := ⟨heap_alloc_new w _⟩
theorem Row.new' (w : World) (t : TypeId) (xs : List Value) {g : Nat} (hg : w.heap.size = g) : Row (w.alloc (.cells xs.toArray t)) g t xs := hg ▸ Row.new w t xs
theorem Row.drew (h : Row w g t xs) : Row w.drew g t xs := ⟨h.is⟩
theorem Row.drewN (h : Row w g t xs) (n : Nat) : Row (w.drewN n) g t xs := ⟨h.is⟩
theorem Row.alloc (h : Row w g t xs) (o : Obj) : Row (w.alloc o) g t xs := ⟨(Below.heap_alloc w o g h.lt).trans h.is⟩
theorem Row.set_ (h : Row w g t xs) (i : Nat) (u : Value) : Row (w.setCell ⟨g, i, none⟩ u) g t (xs.set i u) := by
  have := h.is
  exact ⟨by simp [World.setCell, Array.getElem?_modify, this]⟩
theorem Row.far (h : Row w g t xs) {p : Addr} (hp : g ≠ p.block) (u : Value) : Row (w.setCell p u) g t xs := ⟨(Below.heap_setCell w p u g hp).trans h.is⟩
theorem Row.below {B : Nat} (h : Row w g t xs) (hb : Below B w w') (hg : g < B) : Row w' g t xs := ⟨(hb.block g hg).trans h.is⟩
theorem Row.grown {row : Option Nat} (h : Row w g t xs) (hb : w.grownBy w' row) (hg : some g ≠ row) : Row w' g t xs := ⟨(hb.block g h.lt hg).trans h.is⟩
theorem Row.sees (h : Row w g t xs) (o : Nat) : Sees w w.heap.size (some ⟨g, o, none⟩) (xs.length - o) (xs.drop o) :=
  ⟨by simp, fun i u hu => ⟨_, rfl, h.lt, by rw [addr_row, h.cell]; simpa using hu⟩⟩
theorem Row.sees0 (h : Row w g t xs) : Sees w w.heap.size (some ⟨g, 0, none⟩) xs.length xs := by simpa using h.sees 0
theorem Row.own (h : Row w g t xs) {base : Nat} (hb : base ≤ g) {n : Nat} (hn : n ≤ xs.length) (hm : xs.length ≤ maxLen) : w.ownsRow base t 1 (.slice (some ⟨g, 0, none⟩) n xs.length) n (xs.take n) :=
  ⟨by simp; omega, .inr ⟨g, xs.length, xs.toArray, rfl, hb, h.is, hn, hm, by simp, by simp⟩⟩
theorem Row.of_own {base : Nat} {n : Nat} (h : w.ownsRow base t 1 (.slice (some ⟨g, 0, none⟩) n n) n xs) : Row w g t xs := by
  rcases h.2 with ⟨hv, _⟩ | ⟨g', cap, cur, hv, _, hh, _, _, hs, ht⟩
  · cases hv
  · cases hv
    have : cur = xs.toArray := by
      rw [← ht, List.take_of_length_le (by simp; omega)]
    exact ⟨by rw [hh, this]⟩
end
end Go.Proofs.Ytodoaebpkmhhmaa

/-
  Of part Bits: what is needed here.
-/
namespace Go.Proofs.Ytodoaebpkmhhmaa
open Go.RowKit
set_option linter.unusedVariables false
set_option maxRecDepth 100000
theorem nat_or_add (k y x : Nat) (hy : y < 2 ^ k) (hx : x % 2 ^ k = 0) : y ||| x = y + x := by
  obtain ⟨q, rfl⟩ : 2 ^ k ∣ x := Nat.dvd_of_mod_eq_zero hx
  rw [Nat.or_comm, Nat.add_comm, Nat.two_pow_add_eq_or_of_lt hy]
section
variable (k : Nat) (y x : Int) (h0 : 0 ≤ y) (h1 : y < 2 ^ k) (h2 : 0 ≤ x) (h3 : x % 2 ^ k = 0)
include h0 h1 h2 h3
theorem pow_facts : ∃ a b : Nat, y = a ∧ x = b ∧ a ||| b = a + b := by
  obtain ⟨a, rfl⟩ := Int.eq_ofNat_of_zero_le h0
  obtain ⟨b, rfl⟩ := Int.eq_ofNat_of_zero_le h2
  exact ⟨a, b, rfl, rfl, nat_or_add k a b (by exact_mod_cast h1) (by exact_mod_cast h3)⟩
theorem u64_or_lo (hy : y < 18446744073709551616) (hx : x < 18446744073709551616) : bits .or .u64 y x = y + x := by
  obtain ⟨a, b, rfl, rfl, h⟩ := pow_facts k y x h0 h1 h2 h3
  rw [u64_or_nat a b (by omega) (by omega), h]; simp
end
end Go.Proofs.Ytodoaebpkmhhmaa

/-
  Of part Longer: what is needed here.
-/
namespace Go.Proofs.Ytodoaebpkmhhmaa
open Go.RowKit
set_option linter.unusedVariables false
set_option maxRecDepth 100000
theorem info_u8 : (Try.prog.info? 5).map (fun i => (i.zero, i.size, i.bytes)) = some (some (.int .u8 0), 1, 1) := by kernel_rfl
end Go.Proofs.Ytodoaebpkmhhmaa

/-
  Of part Put: what is needed here.
-/
namespace Go.Proofs.Ytodoaebpkmhhmaa
open Go.RowKit
set_option linter.unusedVariables false
set_option maxRecDepth 100000
/-- the bytes of a short number -/
def short (n : Int) : List Int :=
  if n < 128 then [n] else if n < 16384 then [n % 128 + 128, n / 128] else [n % 128 + 128, n / 128 % 128 + 128, n / 16384]
theorem row1 {w1 : World} {g t : Nat} {zs : List Int} {c : Int} (R : Row w1 g t (bv (zs ++ List.replicate 1 0))) :
    Row (w1.setCell ⟨g, zs.length, none⟩ (.int .u8 c)) g t (bv (zs ++ [c])) := by
  have h := R.set_ zs.length (.int .u8 c)
  simpa [bv, cv, List.set_append, List.replicate] using h
end Go.Proofs.Ytodoaebpkmhhmaa

/-
  Of part Msg: what is needed here.
-/
namespace Go.Proofs.Ytodoaebpkmhhmaa
open Go.RowKit
set_option linter.unusedVariables false
set_option maxRecDepth 100000
/-- an instruction -/
structure LIn where
  p : Int
  acc : List Int
  dat : List Int
/-- a lookup -/
structure LLook where
  tab : List Int
  wr : List Int
  rd : List Int
/-- a message -/
structure LMsg where
  v0 : Bool
  s : Int
  r : Int
  o : Int
  keys : List (List Int)
  recent : List Int
  ins : List LIn
  looks : List LLook
/-- how many, and the bytes -/
def encL (l : List Int) : List Int := short l.length ++ l
def encIn (i : LIn) : List Int := i.p :: (encL i.acc ++ encL i.dat)
def encLook (l : LLook) : List Int := l.tab ++ (encL l.wr ++ encL l.rd)
def encHead (m : LMsg) : List Int := (if m.v0 then [128] else []) ++ [m.s, m.r, m.o]
def encTail (m : LMsg) : List Int := if m.v0 then short m.looks.length ++ m.looks.flatMap encLook else []
/-- a message's bytes -/
def enc (m : LMsg) : List Int := encHead m ++ (short m.keys.length ++ (m.keys.flatten ++ (m.recent ++ (short m.ins.length ++ (m.ins.flatMap encIn ++ encTail m)))))
/-- a byte -/
def IsByte (z : Int) : Prop := 0 ≤ z ∧ z < 256
def AllBytes (l : List Int) : Prop := ∀ z ∈ l, IsByte z
/-- all numbers are bytes, keys have 32 of them -/
structure LMsg.Wf (m : LMsg) : Prop where
  s : IsByte m.s
  r : IsByte m.r
  o : IsByte m.o
  keys : ∀ k ∈ m.keys, k.length = 32 ∧ AllBytes k
  recent : m.recent.length = 32 ∧ AllBytes m.recent
  ins : ∀ i ∈ m.ins, IsByte i.p ∧ AllBytes i.acc ∧ AllBytes i.dat
  looks : ∀ l ∈ m.looks, (l.tab.length = 32 ∧ AllBytes l.tab) ∧ AllBytes l.wr ∧ AllBytes l.rd
/-- a slice of bytes that lies below block B -/
structure BytesIn (w : World) (B : Nat) (v : Value) (l : List Int) : Prop where
  is : ∃ A c, v = .slice A l.length c ∧ Sees w B A l.length (bv l) ∧ l.length ≤ c ∧ c ≤ maxLen
/-- where a message's lists lie -/
structure Raw where
  KA : Option Addr
  kn : Nat
  kc : Nat
  IA : Option Addr
  n : Nat
  ic : Nat
  LA : Option Addr
  ln : Nat
  lc : Nat
/-- a message's cells -/
def Raw.cells (q : Raw) (m : LMsg) : List Value :=
  [.bool m.v0, .int .u8 m.s, .int .u8 m.r, .int .u8 m.o, .slice q.KA q.kn q.kc] ++ (bv m.recent ++ [.slice q.IA q.n q.ic, .slice q.LA q.ln q.lc])
section
variable {w w' : World} {B B' : Nat}
theorem BytesIn.keep {v : Value} {l : List Int} (h : BytesIn w B v l) (hk : ∀ p : Addr, p.block < B → w'.cell? p = w.cell? p) : BytesIn w' B v l := by
  obtain ⟨A, c, e, hs, h1, h2⟩ := h.is
  exact ⟨A, c, e, hs.keep hk, h1, h2⟩
theorem BytesIn.more {v : Value} {l : List Int} (h : BytesIn w B v l) (hB : B ≤ B') : BytesIn w B' v l := by
  obtain ⟨A, c, e, hs, h1, h2⟩ := h.is
  exact ⟨A, c, e, hs.more hB, h1, h2⟩
variable {q : Raw} {m : LMsg}
theorem BytesIn.below {v : Value} {l : List Int} (h : BytesIn w B v l) (hb : Below B w w') : BytesIn w' B v l := h.keep fun _ hp => hb.cell hp
end
end Go.Proofs.Ytodoaebpkmhhmaa

/-
  Of part Math13: what is needed here.
-/
namespace Go.Proofs.Ytodoaebpkmhhmaa
set_option linter.unusedVariables false
/-- an account; a key's -/
structure LAcc where
  c : Int
  o : List Int
  s : Int
  deriving DecidableEq
def blank13 : LAcc := ⟨0, List.replicate 32 0, 0⟩
structure AccOk (a : LAcc) : Prop where
  c : 0 ≤ a.c ∧ a.c < 18446744073709551616
  o : a.o.length = 32 ∧ AllBytes a.o
  s : 0 ≤ a.s ∧ a.s < 18446744073709551616
theorem blank_ok : AccOk blank13 := ⟨by decide, ⟨rfl, fun z hz => by rw [List.eq_of_mem_replicate hz]; constructor <;> decide⟩, by decide⟩
end Go.Proofs.Ytodoaebpkmhhmaa

/-
  Of part Get: what is needed here.
-/
namespace Go.Proofs.Ytodoaebpkmhhmaa
open Go.RowKit
set_option linter.unusedVariables false
set_option maxRecDepth 100000
/-- all are bytes -/
def Bytes (zs : List Int) : Prop := ∀ i, 0 ≤ zs.getD i 0 ∧ zs.getD i 0 < 256
theorem tup2_of {k l : IntKind} {a b : Int} {p : Int × Int} (h : p = (a, b)) : Ending.returned (.tuple #[.int k a, .int l b]) = .returned (.tuple #[.int k p.1, .int l p.2]) := by rw [h]
end Go.Proofs.Ytodoaebpkmhhmaa

/-
  Of part Parse: what is needed here.
-/
namespace Go.Proofs.Ytodoaebpkmhhmaa
open Go.RowKit
set_option linter.unusedVariables false
set_option maxRecDepth 100000
theorem AllBytes.drop {zs : List Int} (h : AllBytes zs) (k : Nat) : AllBytes (zs.drop k) := fun z hz => h z (List.mem_of_mem_drop hz)
theorem AllBytes.take {zs : List Int} (h : AllBytes zs) (k : Nat) : AllBytes (zs.take k) := fun z hz => h z (List.mem_of_mem_take hz)
theorem AllBytes.bytes {zs : List Int} (h : AllBytes zs) : Bytes zs := by
  intro i
  rw [List.getD_eq_getElem?_getD]
  by_cases hi : i < zs.length
  · rw [List.getElem?_eq_getElem hi]
    exact h _ (List.getElem_mem hi)
  · rw [List.getElem?_eq_none (by omega)]; simp
end Go.Proofs.Ytodoaebpkmhhmaa

/-
  Of part Whole: what is needed here.
-/
namespace Go.Proofs.Ytodoaebpkmhhmaa
open Go.RowKit
set_option linter.unusedVariables false
set_option maxRecDepth 100000
section
variable {P : Program}
/-- a value of many cells, read from an address -/
theorem run_loadAt_at (w : World) (p : Addr) (ty : TypeId) (cs : List Value) (d : TypeDesc) (hc : ∀ j v, cs[j]? = some v → w.cell? (p.add j) = some v)
    (hu : P.underlying ty = some d) (hd : d.isRow = true) (hi : (P.info? ty).map (·.size) = some cs.length) :
    (Instr.loadAt ty (.pointer (some p))).run P w = .ok (.agg cs.toArray) w := by
  have hl : (loadCells p cs.length).run P w = .ok cs.toArray w := run_loadCells_list (P := P) w p cs hc
  cases hq : P.info? ty with
  | none => simp [hq] at hi
  | some i =>
    have hs : i.size = cs.length := by simpa [hq] using hi
    have hagg : (isAgg ty).run P w = .ok true w := by
      unfold isAgg
      rw [Sem.run_bind, run_underlying hu w]
      cases d <;> simp_all
    simp [Instr.loadAt, Instr.sureAddr, loadVar, Sem.run_bind, hagg, sizeOf, typeInfo, hq, hs, hl]
theorem wpList_load_at {ops : Array Oper} {rest : List Oper} {op : Oper} {a : Act} {w : World} {Q : Exit → Act → World → Prop} (hgd : op.guard = none) (ty : TypeId) (x : Operand) (ho : op.op = .load ty x)
    (p : Addr) (cs : List Value) (d : TypeDesc) (hu : P.underlying ty = some d) (hd : d.isRow = true) (hi : (P.info? ty).map (·.size) = some cs.length) (hc : ∀ j v, cs[j]? = some v → w.cell? (p.add j) = some v)
    (hx : a.eval x = .pointer (some p)) (h : wpList P ops Q rest (a.put op.dst (.agg cs.toArray)) w) : wpList P ops Q (op :: rest) a w :=
  wpList_plain hgd fun _ hK => by
    unfold Oper.wp execOp
    simp only [ho, hx, Sem.run_bind, Sem.run_pure, run_loadAt_at w p ty cs d hc hu hd hi, Result.andThen_ok]
    exact hK _ _ h
/-- the same, the pointer's block a whole row -/
theorem wpList_load_whole {ops : Array Oper} {rest : List Oper} {op : Oper} {a : Act} {w : World} {Q : Exit → Act → World → Prop} (hgd : op.guard = none) (ty : TypeId) (x : Operand) (ho : op.op = .load ty x)
    (g t : Nat) (cs : List Value) (d : TypeDesc) (hu : P.underlying ty = some d) (hd : d.isRow = true) (hi : (P.info? ty).map (·.size) = some cs.length) (hr : Row w g t cs)
    (hx : a.eval x = .pointer (some ⟨g, 0, none⟩)) (h : wpList P ops Q rest (a.put op.dst (.agg cs.toArray)) w) : wpList P ops Q (op :: rest) a w :=
  wpList_load_at hgd ty x ho ⟨g, 0, none⟩ cs d hu hd hi (fun j v hv => by rw [addr_row, hr.cell]; simpa using hv) hx h
/-- a value of many cells into a block that is known whole: the world behind it, of which this is told -/
theorem run_storeAt_whole (w : World) (g ty : Nat) (c cs : List Value) (hr : Row w g ty c) (hi : (P.info? ty).map (·.size) = some cs.length) (hl : c.length = cs.length) (h1 : ∀ u ∈ cs, u.oneCell' = true) :
    (Instr.storeAt ty (.pointer (some ⟨g, 0, none⟩)) (.agg cs.toArray)).run P w = .ok () (w.setRow g cs.toArray) := by
  have := run_storeVar_row (P := P) w g ty ty c.toArray cs.toArray hr.is (by simpa using hi) (by simpa using hl) (all_oneCell_toArray h1)
  simp only [Instr.storeAt, Instr.sureAddr, Sem.run_bind, Sem.run_pure, Result.andThen_ok, this]
/-- but for block g, w' is w -/
structure Turned (w w' : World) (g : Nat) : Prop where
  os : w'.os = w.os
  tape : w'.tape = w.tape
  output : w'.output = w.output
  size : w'.heap.size = w.heap.size
  block : ∀ k, k ≠ g → w'.heap[k]? = w.heap[k]?
theorem turned_setRow (w : World) (g : Nat) (cs : Array Value) : Turned w (w.setRow g cs) g :=
  ⟨rfl, rfl, rfl, by simp, fun k hk => setRow_other w g k cs hk⟩
theorem turned_setCell (w : World) (p : Addr) (u : Value) : Turned w (w.setCell p u) p.block :=
  ⟨rfl, rfl, rfl, by simp [World.setCell], fun k hk => Below.heap_setCell _ _ _ _ hk⟩
theorem row_setRow {w : World} {g t : Nat} {c : List Value} (hr : Row w g t c) (cs : List Value) : Row (w.setRow g cs.toArray) g t cs :=
  ⟨setRow_heap w g c.toArray cs.toArray t _ hr.is⟩
theorem Turned.below {w w' : World} {g B : Nat} (h : Turned w w' g) (hB : B ≤ g) : Below B w w' :=
  ⟨h.os, h.tape, h.output, by rw [h.size]; exact Nat.le_refl _, fun k hk => h.block k (by omega)⟩
theorem Turned.row {w w' : World} {g k t : Nat} {xs : List Value} (h : Turned w w' g) (hr : Row w k t xs) (hk : k ≠ g) : Row w' k t xs := ⟨(h.block k hk).trans hr.is⟩
theorem wpList_store_whole {ops : Array Oper} {rest : List Oper} {op : Oper} {a : Act} {w : World} {Q : Exit → Act → World → Prop} (hgd : op.guard = none) (ty : TypeId) (x y : Operand) (ho : op.op = .store ty x y)
    (g : Nat) (c cs : List Value) (hr : Row w g ty c) (hi : (P.info? ty).map (·.size) = some cs.length) (hl : c.length = cs.length) (h1 : ∀ u ∈ cs, u.oneCell' = true)
    (hx : a.eval x = .pointer (some ⟨g, 0, none⟩)) (hy : a.eval y = .agg cs.toArray)
    (h : ∀ w', Row w' g ty cs → Turned w w' g → wpList P ops Q rest (a.put op.dst undef) w') : wpList P ops Q (op :: rest) a w :=
  wpList_plain hgd fun _ hK => by
    unfold Oper.wp execOp
    simp only [ho, hx, hy, Sem.run_bind, Sem.run_pure, run_storeAt_whole w g ty c cs hr hi hl h1, Result.andThen_ok]
    exact hK _ _ (h _ (row_setRow hr cs) (turned_setRow w g _))
/-- a variable that has just been made is given its value -/
theorem wpList_store_new {ops : Array Oper} {rest : List Oper} {op : Oper} {a : Act} {w0 : World} {c : Array Value} {Q : Exit → Act → World → Prop} (hgd : op.guard = none) (ty : TypeId) (x y : Operand) (ho : op.op = .store ty x y)
    (cs : List Value) (hi : (P.info? ty).map (·.size) = some cs.length) (h1 : ∀ u ∈ cs, u.oneCell' = true) (hl : c.size = cs.length)
    (hx : a.eval x = .pointer (some ⟨w0.heap.size, 0, none⟩)) (hy : a.eval y = .agg cs.toArray)
    (h : ∀ w', Row w' w0.heap.size ty cs → Below w0.heap.size w0 w' → w'.heap.size = w0.heap.size + 1 → wpList P ops Q rest (a.put op.dst undef) w') : wpList P ops Q (op :: rest) a (w0.alloc (.cells c ty)) := by
  have hr : Row (w0.alloc (.cells c ty)) w0.heap.size ty c.toList := by
    have := Row.new w0 ty c.toList
    simpa using this
  refine wpList_store_whole hgd ty x y ho w0.heap.size c.toList cs hr hi (by simpa using hl) h1 hx hy fun w' hr' ht => ?_
  exact h w' hr' (((Below.refl _ w0).alloc (Nat.le_refl _) _).trans (ht.below (Nat.le_refl _))) (by rw [ht.size]; simp)
theorem row_setCells {g t : Nat} : ∀ (cs : List Value) (w : World) (o : Nat) (c : List Value), Row w g t c → o + cs.length ≤ c.length → Row (w.setCells g o cs) g t (c.take o ++ cs ++ c.drop (o + cs.length))
  | [], w, o, c, h, _ => by simpa [World.setCells] using h
  | v :: r, w, o, c, h, hl => by
    have h1 := row_setCells r (w.setCell ⟨g, o, none⟩ v) (o + 1) (c.set o v) (h.set_ o v) (by simp at hl ⊢; omega)
    have e : (c.set o v).take (o + 1) ++ r ++ (c.set o v).drop (o + 1 + r.length) = c.take o ++ (v :: r) ++ c.drop (o + (v :: r).length) := by
      have ho : o < c.length := by simp at hl; omega
      rw [List.take_succ_eq_append_getElem (by simpa using ho), List.drop_set_of_lt (by omega), List.take_set_of_le (Nat.le_refl o)]
      simp only [List.getElem_set_self, List.append_assoc, List.cons_append, List.nil_append, List.length_cons]
      rw [show o + 1 + r.length = o + (r.length + 1) by omega]
    rw [e] at h1
    exact h1
theorem turned_setCells {g : Nat} : ∀ (cs : List Value) (w : World) (o : Nat), Turned w (w.setCells g o cs) g
  | [], w, o => ⟨rfl, rfl, rfl, rfl, fun _ _ => rfl⟩
  | v :: r, w, o => by
    have h1 := turned_setCell w ⟨g, o, none⟩ v
    have h2 := turned_setCells (g := g) r (w.setCell ⟨g, o, none⟩ v) (o + 1)
    exact ⟨h2.os.trans h1.os, h2.tape.trans h1.tape, h2.output.trans h1.output, h2.size.trans h1.size, fun k hk => (h2.block k hk).trans (h1.block k hk)⟩
/-- a value of many cells into a part of a block -/
theorem wpList_store_part {ops : Array Oper} {rest : List Oper} {op : Oper} {a : Act} {w : World} {Q : Exit → Act → World → Prop} (hgd : op.guard = none) (ty : TypeId) (x y : Operand) (ho : op.op = .store ty x y)
    (g t o : Nat) (c cs : List Value) (hr : Row w g t c) (hi : (P.info? ty).map (·.size) = some cs.length) (hl : o + cs.length ≤ c.length) (h1 : ∀ u ∈ cs, u.oneCell' = true)
    (hx : a.eval x = .pointer (some ⟨g, o, none⟩)) (hy : a.eval y = .agg cs.toArray)
    (h : ∀ w', Row w' g t (c.take o ++ cs ++ c.drop (o + cs.length)) → Turned w w' g → wpList P ops Q rest (a.put op.dst undef) w') : wpList P ops Q (op :: rest) a w :=
  wpList_store_mid hgd ty x y ho g o cs.toArray hx hy (fun j hj => ⟨by
      have hj' : j < cs.length := by simpa using hj
      rw [hr.cell, List.getElem?_eq_getElem (by omega)]; rfl, hr.frozen _⟩) (by simpa using hi) (all_oneCell_toArray h1)
    (h _ (by simpa using row_setCells cs w o c hr hl) (turned_setCells cs w o))
end
end Go.Proofs.Ytodoaebpkmhhmaa

/-
  Of part Append: what is needed here.
-/
namespace Go.Proofs.Ytodoaebpkmhhmaa
open Go.RowKit
set_option linter.unusedVariables false
set_option maxRecDepth 100000
section
variable {P : Program} {w : World} {base : Nat} {t ty e : TypeId} {i : TypeInfo} {z : Value} {bytes : Nat} {v : Value} {n m c B : Nat} {A : Option Addr} {xs news : List Value}
theorem run_append_nothing (ht : P.underlying t = some (.slice e)) (hi : P.info? e = some i) (hown : w.ownsRow base e 1 v n xs) (c : Nat) :
    (Builtin.append_ #[t, t] ty #[v, .slice none 0 c]).run P w = .ok v w := by
  rcases hown.2 with ⟨rfl, rfl⟩ | ⟨g, cap, cur, rfl, _, _, hnc, _⟩ <;>
    simp [Builtin.append_, run_underlying ht, sizeOf, typeInfo, Builtin.lenOf, Builtin.firstCells, storeCells, *]
theorem run_append_sees (ht : P.underlying t = some (.slice e)) (hi : P.info? e = some i) (hz : i.zero = some z) (hsize : i.size = 1) (hby : i.bytes = bytes) (hzs : z.cells.size = 1)
    (hown : w.ownsRow base e 1 v n xs) (hr : Sees w B A m news) (h1 : ∀ u ∈ news, u.oneCell' = true) (hnm : n + m ≤ maxLen) (hbytes : (n + m) * bytes ≤ 140737488355328) (hbase : base ≤ w.heap.size) (c : Nat) :
    ∃ v' w', (Builtin.append_ #[t, t] ty #[v, .slice A m c]).run P w = .ok v' w' ∧ w'.ownsRow base e 1 v' (n + m) (xs ++ news) ∧ w.grownBy w' v.ownBlock ∧ (v'.ownBlock = v.ownBlock ∨ v'.ownBlock = some w.heap.size) := by
  cases A with
  | none =>
    have hn : news = [] := by
      cases news with
      | nil => rfl
      | cons u r =>
        obtain ⟨a, h, _⟩ := hr.cell 0 u rfl
        cases h
    subst hn
    obtain rfl : m = 0 := by simpa using hr.len.symm
    exact ⟨v, w, run_append_nothing ht hi hown c, by simpa using hown, World.grownBy.refl w _, .inl rfl⟩
  | some ad =>
    obtain ⟨v', w', hrun, h2, h3, _, h5⟩ := run_append_own_at (P := P) w base t ty e i z 1 bytes ht hi hz hsize hby hzs (by omega) v n xs hown ad m c news (by rw [hr.len]; omega)
      (fun j u hu => by
        obtain ⟨a, h, _, hc⟩ := hr.cell j u hu
        cases h
        exact hc) h1 hnm hbytes hbase
    exact ⟨v', w', hrun, h2, h3, h5⟩
theorem wp_append_sees {o : Oper} {a : Act} {K : Act → World → Prop} {Q : Exit → Act → World → Prop} (s x : Operand)
    (ho : o.op = .call { callee := .builtin .append, args := #[s, x], argTypes := #[t, t] })
    (ht : P.underlying t = some (.slice e)) (hi : P.info? e = some i) (hz : i.zero = some z) (hsize : i.size = 1) (hby : i.bytes = bytes) (hzs : z.cells.size = 1)
    (hs : a.eval s = v) (hown : w.ownsRow base e 1 v n xs) (hx : a.eval x = .slice A m c) (hr : Sees w B A m news) (h1 : ∀ u ∈ news, u.oneCell' = true)
    (hnm : n + m ≤ maxLen) (hbytes : (n + m) * bytes ≤ 140737488355328) (hbase : base ≤ w.heap.size)
    (h : ∀ v' w', w'.ownsRow base e 1 v' (n + m) (xs ++ news) → w.grownBy w' v.ownBlock → (v'.ownBlock = v.ownBlock ∨ v'.ownBlock = some w.heap.size) → K (a.put o.dst v') w') : o.wp P a w K Q := by
  obtain ⟨v', w', hrun, h2, h3, h4⟩ := run_append_sees (P := P) (ty := o.type) ht hi hz hsize hby hzs hown hr h1 hnm hbytes hbase c
  unfold Oper.wp execOp
  simp only [ho, resolve, invoke, builtin, Sem.run_bind, Sem.run_pure, Result.andThen_ok, List.map_toArray, List.map_cons, List.map_nil, hs, hx, hrun]
  exact h v' w' h2 h3 h4
theorem wpList_append_sees {ops : Array Oper} {rest : List Oper} {o : Oper} {a : Act} {Q : Exit → Act → World → Prop} (hgd : o.guard = none) (s x : Operand) (t : TypeId)
    (ho : o.op = .call { callee := .builtin .append, args := #[s, x], argTypes := #[t, t] })
    (base : Nat) (e : TypeId) (i : TypeInfo) (z : Value) (bytes : Nat)
    (ht : P.underlying t = some (.slice e)) (hi : P.info? e = some i) (hz : i.zero = some z) (hsize : i.size = 1) (hby : i.bytes = bytes) (hzs : z.cells.size = 1)
    (v : Value) (n : Nat) (xs : List Value) (hs : a.eval s = v) (hown : w.ownsRow base e 1 v n xs) (B : Nat) (A : Option Addr) (m c : Nat) (news : List Value) (hx : a.eval x = .slice A m c) (hr : Sees w B A m news) (h1 : ∀ u ∈ news, u.oneCell' = true)
    (hnm : n + m ≤ maxLen) (hbytes : (n + m) * bytes ≤ 140737488355328) (hbase : base ≤ w.heap.size)
    (h : ∀ v' w', w'.ownsRow base e 1 v' (n + m) (xs ++ news) → w.grownBy w' v.ownBlock → (v'.ownBlock = v.ownBlock ∨ v'.ownBlock = some w.heap.size) → wpList P ops Q rest (a.put o.dst v') w') : wpList P ops Q (o :: rest) a w :=
  wpList_plain hgd fun _ hK => wp_append_sees s x ho ht hi hz hsize hby hzs hs hown hx hr h1 hnm hbytes hbase fun v' w' h2 h3 h4 => hK _ _ (h v' w' h2 h3 h4)
end
theorem own_form {w : World} {base : Nat} {e : TypeId} {v : Value} {n : Nat} {xs : List Value} (h : w.ownsRow base e 1 v n xs) : ∃ A c, v = .slice A n c := by
  rcases h.2 with ⟨rfl, rfl⟩ | ⟨g, cap, cur, rfl, _⟩
  · exact ⟨_, _, rfl⟩
  · exact ⟨_, _, rfl⟩
theorem own_row_ne {w : World} {base : Nat} {e t : TypeId} {v : Value} {n g : Nat} {xs ys : List Value} (h : w.ownsRow base e 1 v n xs) (hr : Row w g t ys) (hne : e ≠ t) : some g ≠ v.ownBlock := by
  rcases h.2 with ⟨rfl, _⟩ | ⟨g', cap, cur, rfl, _, hh, _⟩
  · simp [Value.ownBlock]
  · intro he
    have hg : g = g' := by simpa [Value.ownBlock] using he
    subst hg
    have := hr.is
    rw [hh] at this
    injection this with this
    injection this with _ ht
    exact hne ht
theorem grownBy_setCell (w : World) (p : Addr) (u : Value) : w.grownBy (w.setCell p u) (some p.block) :=
  ⟨rfl, rfl, rfl, by simp [World.setCell], fun k _ hne => Below.heap_setCell w p u k (fun e => hne (by rw [e]))⟩
theorem own_far {w : World} {base : Nat} {e t : TypeId} {v : Value} {n g : Nat} {xs ys : List Value} (h : w.ownsRow base e 1 v n xs) (hr : Row w g t ys) (hne : e ≠ t) (i : Nat) (u : Value) : (w.setCell ⟨g, i, none⟩ u).ownsRow base e 1 v n xs :=
  h.kept (grownBy_setCell w _ u) (.inr (fun e' => own_row_ne h hr hne e'.symm))
end Go.Proofs.Ytodoaebpkmhhmaa

/-
  Of part Many: what is needed here.
-/
namespace Go.Proofs.Ytodoaebpkmhhmaa
open Go.RowKit
set_option linter.unusedVariables false
set_option maxRecDepth 100000
/-- 'v' is a row of bytes of the call's own, from block 'base' on -/
def OwnB (w : World) (base : Nat) (v : Value) (xs : List Int) : Prop := w.ownsRow base 5 1 v xs.length (bv xs)
theorem own_below {w w' : World} {base n size : Nat} {e : TypeId} {v : Value} {xs : List Value} (h : w.ownsRow base e size v n xs) (hb : Below w.heap.size w w') : w'.ownsRow base e size v n xs := by
  refine ⟨h.1, ?_⟩
  rcases h.2 with h2 | ⟨g, cap, cur, hv, hg, hh, r⟩
  · exact .inl h2
  · exact .inr ⟨g, cap, cur, hv, hg, (hb.block g (Array.getElem?_eq_some_iff.1 hh).1).trans hh, r⟩
theorem OwnB.below {w w' : World} {base : Nat} {v : Value} {xs : List Int} (h : OwnB w base v xs) (hb : Below w.heap.size w w') : OwnB w' base v xs := own_below h hb
theorem OwnB.alloc {w : World} {base : Nat} {v : Value} {xs : List Int} (h : OwnB w base v xs) (o : Obj) : OwnB (w.alloc o) base v xs := World.ownsRow.alloc h o
theorem OwnB.nil (w : World) (base : Nat) : OwnB w base (.slice none 0 0) [] := World.ownsRow_nil w base _ _
theorem OwnB.drewN {w : World} {base : Nat} {v : Value} {xs : List Int} (h : OwnB w base v xs) (k : Nat) : OwnB (w.drewN k) base v xs := h
theorem OwnB.form {w : World} {base : Nat} {v : Value} {xs : List Int} (h : OwnB w base v xs) : ∃ A c, v = .slice A xs.length c := own_form h
theorem OwnB.sees {w : World} {base : Nat} {A : Option Addr} {n c : Nat} {xs : List Int} (h : OwnB w base (.slice A n c) xs) : Sees w w.heap.size A n (bv xs) := by
  obtain ⟨A', c', e⟩ := h.form
  cases e
  exact Sees.of_own h
/-- from w, with the row v, to w', with the row v': of what was there v's block alone may have been written -/
structure Grew (w w' : World) (v v' : Value) : Prop where
  grown : w.grownBy w' v.ownBlock
  fresh : ∀ k, v'.ownBlock = some k → v.ownBlock = some k ∨ w.heap.size ≤ k
section
variable {w w' w'' : World} {v v' v'' : Value}
theorem Grew.refl (w : World) (v : Value) : Grew w w v v := ⟨World.grownBy.refl w _, fun k h => .inl h⟩
theorem Grew.size (h : Grew w w' v v') : w.heap.size ≤ w'.heap.size := h.grown.size
theorem Grew.trans (h : Grew w w' v v') (k : Grew w' w'' v' v'') : Grew w w'' v v'' :=
  ⟨⟨k.grown.os.trans h.grown.os, k.grown.tape.trans h.grown.tape, k.grown.output.trans h.grown.output, Nat.le_trans h.size k.size, fun i hi hne =>
      (k.grown.block i (Nat.lt_of_lt_of_le hi h.size) fun e => by
        rcases h.fresh i e.symm with h1 | h1
        · exact hne h1.symm
        · omega).trans (h.grown.block i hi hne)⟩,
    fun i hi => by
      rcases k.fresh i hi with h1 | h1
      · exact h.fresh i h1
      · exact .inr (Nat.le_trans h.size h1)⟩
theorem Grew.of_below (hb : Below w.heap.size w w') (v : Value) : Grew w w' v v := ⟨⟨hb.os, hb.tape, hb.output, hb.size, fun k hk _ => hb.block k hk⟩, fun k h => .inl h⟩
theorem Grew.alloc (h : Grew w w' v v') (o : Obj) : Grew w (w'.alloc o) v v' := h.trans (.of_below ((Below.refl _ _).alloc (Nat.le_refl _) o) v')
theorem Grew.row {g t : Nat} {ys : List Value} (h : Grew w w' v v') (hr : Row w g t ys) (hg : some g ≠ v.ownBlock) : Row w' g t ys := hr.grown h.grown hg
theorem Grew.ne {g : Nat} (h : Grew w w' v v') (hg : some g ≠ v.ownBlock) (hlt : g < w.heap.size) : some g ≠ v'.ownBlock := fun e => by
  rcases h.fresh g e.symm with h1 | h1
  · exact hg h1.symm
  · omega
theorem Grew.below {base n size : Nat} {e : TypeId} {xs : List Value} (h : Grew w w' v v') (hown : w.ownsRow base e size v n xs) (hbase : base ≤ w.heap.size) : Below base w w' :=
  (Below.refl base w).grown h.grown hbase fun k hk => (hown.lt k hk).1
end
end Go.Proofs.Ytodoaebpkmhhmaa

/-
  Of part Looks: what is needed here.
-/
namespace Go.Proofs.Ytodoaebpkmhhmaa
open Go.RowKit
set_option linter.unusedVariables false
set_option maxRecDepth 100000
theorem size_key : (Try.prog.info? 46).map (·.size) = some 32 := by kernel_rfl
end Go.Proofs.Ytodoaebpkmhhmaa

/-
  Of part PutMsg: what is needed here.
-/
namespace Go.Proofs.Ytodoaebpkmhhmaa
open Go.RowKit
set_option linter.unusedVariables false
set_option maxRecDepth 100000
theorem OwnB.row {w : World} {base : Nat} {v : Value} {ys : List Int} (h : OwnB w base v ys) (h0 : 0 < ys.length) : ∃ g rest c, v = .slice (some ⟨g, 0, none⟩) ys.length c ∧ base ≤ g ∧ Row w g 5 (bv ys ++ rest) ∧ ys.length ≤ c ∧ c ≤ maxLen := by
  rcases h.2 with ⟨_, h1⟩ | ⟨g, cap, cur, rfl, hg, hh, h2, h3, h4, h5⟩
  · omega
  · refine ⟨g, cur.toList.drop ys.length, cap, rfl, hg, ⟨?_⟩, h2, h3⟩
    rw [hh]
    have : bv ys ++ cur.toList.drop ys.length = cur.toList := by
      rw [← h5]; simp
    rw [this]
end Go.Proofs.Ytodoaebpkmhhmaa

/-
  Of part Read: what is needed here.
-/
namespace Go.Proofs.Ytodoaebpkmhhmaa
open Go.RowKit
set_option linter.unusedVariables false
set_option maxRecDepth 100000
/-- but for block p, all that was there is as it was -/
structure But (p : Nat) (w w' : World) : Prop where
  os : w'.os = w.os
  tape : w'.tape = w.tape
  output : w'.output = w.output
  size : w.heap.size ≤ w'.heap.size
  block : ∀ k, k < w.heap.size → k ≠ p → w'.heap[k]? = w.heap[k]?
section
variable {w w' w'' : World} {p B : Nat} {zs : List Int}
theorem But.refl (p : Nat) (w : World) : But p w w := ⟨rfl, rfl, rfl, Nat.le_refl _, fun _ _ _ => rfl⟩
theorem But.trans (h : But p w w') (k : But p w' w'') : But p w w'' :=
  ⟨k.os.trans h.os, k.tape.trans h.tape, k.output.trans h.output, Nat.le_trans h.size k.size, fun i hi hp => (k.block i (Nat.lt_of_lt_of_le hi h.size) hp).trans (h.block i hi hp)⟩
theorem But.of_below (hb : Below w.heap.size w w') (p : Nat) : But p w w' := ⟨hb.os, hb.tape, hb.output, hb.size, fun k hk _ => hb.block k hk⟩
theorem But.of_turned (h : Turned w w' p) : But p w w' := ⟨h.os, h.tape, h.output, by rw [h.size]; exact Nat.le_refl _, fun k _ hk => h.block k hk⟩
theorem But.below (h : But p w w') (hB : B ≤ p) (hs : B ≤ w.heap.size) : Below B w w' := ⟨h.os, h.tape, h.output, h.size, fun k hk => h.block k (by omega) (by omega)⟩
theorem But.row {g t : Nat} {xs : List Value} (h : But p w w') (hr : Row w g t xs) (hg : g ≠ p) : Row w' g t xs := ⟨(h.block g hr.lt hg).trans hr.is⟩
end
theorem But.drew {w w' : World} {p : Nat} (h : But p w w') : But p w w'.drew := ⟨h.os, h.tape, h.output, h.size, h.block⟩
theorem But.alloc {w w' : World} {p : Nat} (h : But p w w') (o : Obj) : But p w (w'.alloc o) := h.trans (.of_below ((Below.refl _ _).alloc (Nat.le_refl _) o) p)
end Go.Proofs.Ytodoaebpkmhhmaa

/-
  Of part ReadIn: what is needed here.
-/
namespace Go.Proofs.Ytodoaebpkmhhmaa
open Go.RowKit
set_option linter.unusedVariables false
set_option maxRecDepth 100000
section
variable {w w' : World} {p B g lo : Nat} {zs : List Int} {v : Value} {xs : List Int}
theorem But.turned {w0 : World} (h : But p w0 w) (ht : Turned w w' g) (hg : w0.heap.size ≤ g) : But p w0 w' :=
  ⟨ht.os.trans h.os, ht.tape.trans h.tape, ht.output.trans h.output, by rw [ht.size]; exact h.size, fun k hk hne => (ht.block k (by omega)).trans (h.block k hk hne)⟩
theorem OwnB.turned (h : OwnB w lo v xs) (ht : Turned w w' g) (hg : g < lo) : OwnB w' lo v xs := by
  refine ⟨h.1, ?_⟩
  rcases h.2 with h2 | ⟨k, cap, cur, hv, hk, hh, r⟩
  · exact .inl h2
  · exact .inr ⟨k, cap, cur, hv, hk, (ht.block k (by omega)).trans hh, r⟩
theorem OwnB.lt (h : OwnB w lo v xs) : ∀ k, v.ownBlock = some k → lo ≤ k ∧ k < w.heap.size := World.ownsRow.lt h
theorem OwnB.more {lo' : Nat} (h : OwnB w lo v xs) (hl : lo' ≤ lo) : OwnB w lo' v xs := by
  refine ⟨h.1, ?_⟩
  rcases h.2 with h2 | ⟨k, cap, cur, hv, hk, hh, r⟩
  · exact .inl h2
  · exact .inr ⟨k, cap, cur, hv, by omega, hh, r⟩
theorem OwnB.one (h : OwnB w lo v xs) : v.oneCell' = true := by
  obtain ⟨A, c, rfl⟩ := h.form
  rfl
end
end Go.Proofs.Ytodoaebpkmhhmaa

/-
  Of part GetMsg: what is needed here.
-/
namespace Go.Proofs.Ytodoaebpkmhhmaa
open Go.RowKit
set_option linter.unusedVariables false
set_option maxRecDepth 100000
/-- 'wpAnyH_take', the operations a list: the operation comes out written out -/
theorem takeL {P : Program} {L : List Oper} {Q : Exit → Act → World → Prop} {md : Region.Mode} {S : World → Prop} {i : Nat} {oi : Oper} {v : Value} {fuel : Nat} {listed : Array Bool} {a : Act} {w : World} (hi : L[i]? = some oi)
    (hs : Region.noSelect L.toArray = true) (hf : Region.free md L.toArray listed i = true) (hr : (Region.ready md L.toArray listed).contains i = true)
    (hQ : ∀ c a w, Q (.panic c) (a.put oi.dst v) w → Q (.panic c) a w) (hy : YieldsIf P L.toArray S oi v a) (hS : S w)
    (h : wpAnyH P md L.toArray Q S fuel (listed.setIfInBounds i true) (a.put oi.dst v) w) : wpAnyH P md L.toArray Q S (fuel + 1) listed a w :=
  wpAnyH_take (by simpa using hi) hs hf hr hQ hy hS h
/-- 'AllReadyH.cons', likewise, for one operation -/
theorem readyL {P : Program} {L : List Oper} {Q : Exit → Act → World → Prop} {md : Region.Mode} {S : World → Prop} {i : Nat} {o : Oper} {fuel : Nat} {listed : Array Bool} {a : Act} {w : World} (ho : L[i]? = some o) (hr : Region.ready md L.toArray listed = [i])
    (hw : Region.wanted o (yielded L.toArray a.tmps) = true)
    (h : ∀ K' : Act → World → Prop, Shut (∀ a w, S w → wpAnyH P md L.toArray Q S fuel (listed.setIfInBounds i true) a w → K' a w) → Oper.wp P o a w K' Q) : wpAnyH P md L.toArray Q S (fuel + 1) listed a w :=
  wpAnyH_ready hr (by simp) (AllReadyH.cons (by simpa using ho) (fun K hK => by
    rw [if_pos hw]
    exact h K (fun a w hS hW => hK a w hS fun _ => hW)) AllReadyH.nil)
end Go.Proofs.Ytodoaebpkmhhmaa

/-
  Of part Guard: what is needed here.
-/
namespace Go.Proofs.Ytodoaebpkmhhmaa
open Go.RowKit
set_option linter.unusedVariables false
set_option maxRecDepth 100000
section
variable {P : Program} {ops : Array Oper} {rest : List Oper} {o : Oper} {a : Act} {Q : Exit → Act → World → Prop}
theorem wpList_addBg {w : World} (hw : Region.wanted o (yielded ops a.tmps) = true) (s x : Operand) (t : TypeId)
    (ho : o.op = .call { callee := .builtin .append, args := #[s, x], argTypes := #[t, t] })
    (base : Nat) (ht : P.underlying t = some (.slice 5)) (hi : (P.info? 5).map (fun i => (i.zero, i.size, i.bytes)) = some (some (.int .u8 0), 1, 1))
    (v : Value) (xs : List Int) (hs : a.eval s = v) (hown : OwnB w base v xs) (B : Nat) (A : Option Addr) (m c : Nat) (news : List Int) (hx : a.eval x = .slice A m c) (hr : Sees w B A m (bv news))
    (hbase : base ≤ w.heap.size) (hnm : (xs ++ news).length ≤ 1099511627776)
    (h : ∀ v' w', OwnB w' base v' (xs ++ news) → Grew w w' v v' → wpList P ops Q rest (a.put o.dst v') w') : wpList P ops Q (o :: rest) a w := by
  obtain ⟨i0, hi, hz0, hz1, hz2⟩ := info_parts hi
  have hm : news.length = m := by have := hr.len; rwa [bv_length] at this
  subst hm
  have hl : xs.length + news.length ≤ 1099511627776 := by simpa using hnm
  refine BigFrame.wpList_want hw fun K hK => ?_
  refine wp_append_sees s x ho ht hi hz0 hz1 hz2 rfl hs hown hx hr (bv_one news) (by unfold maxLen; omega) (by omega) hbase ?_
  intro v' w' ho' hg hat
  refine hK _ _ (h v' w' ?_ ⟨hg, fun k hk => ?_⟩)
  · have := ho'
    unfold OwnB
    rw [bv_append]
    simpa using this
  · rcases hat with hat | hat
    · exact .inl (hat ▸ hk)
    · rw [hat] at hk
      cases hk
      exact .inr (Nat.le_refl _)
theorem wpList_addLitg {w0 : World} {c : Array Value} (hw : Region.wanted o (yielded ops a.tmps) = true) (s x : Operand) (t : TypeId)
    (ho : o.op = .call { callee := .builtin .append, args := #[s, x], argTypes := #[t, t] })
    (base : Nat) (ht : P.underlying t = some (.slice 5)) (hi : (P.info? 5).map (fun i => (i.zero, i.size, i.bytes)) = some (some (.int .u8 0), 1, 1))
    (v : Value) (xs news : List Int) (cc : Nat) (hc : c = (bv news).toArray) (hs : a.eval s = v) (hown : OwnB w0 base v xs) (hx : a.eval x = .slice (some ⟨w0.heap.size, 0, none⟩) news.length cc)
    (hbase : base ≤ w0.heap.size) (hnm : (xs ++ news).length ≤ 1099511627776)
    (h : ∀ v' w', OwnB w' base v' (xs ++ news) → Grew w0 w' v v' → wpList P ops Q rest (a.put o.dst v') w') : wpList P ops Q (o :: rest) a (w0.alloc (.cells c 5)) := by
  subst hc
  have hr := (Row.new w0 5 (bv news)).sees0
  rw [bv_length] at hr
  refine wpList_addBg hw s x t ho base ht hi v xs hs (hown.alloc _) _ _ _ cc news hx hr (by simp; omega) hnm ?_
  intro v' w' ho' hg'
  exact h v' w' ho' ((Grew.of_below ((Below.refl _ w0).alloc (Nat.le_refl _) _) v).trans hg')
end
end Go.Proofs.Ytodoaebpkmhhmaa

/-
  Of part SameMsg: what is needed here.
-/
namespace Go.Proofs.Ytodoaebpkmhhmaa
open Go.RowKit
set_option linter.unusedVariables false
set_option maxRecDepth 100000
section
variable {P : Program} {ops : Array Oper} {C : World → Prop} {Q : Act → Prop} {a : Act} {o : Oper} {rest : List Oper}
/-- a value of many cells, read in a region that only reads -/
theorem quiet_load_at (hw : Region.wanted o (yielded ops a.tmps) = true) (ty : TypeId) (x : Operand) (ho : o.op = .load ty x)
    (p : Addr) (cs : List Value) (d : TypeDesc) (hu : P.underlying ty = some d) (hd : d.isRow = true) (hi : (P.info? ty).map (·.size) = some cs.length) (hc : ∀ w, C w → ∀ j v, cs[j]? = some v → w.cell? (p.add j) = some v)
    (hx : a.eval x = .pointer (some p)) (h : wpQuiet P ops C Q rest (a.put o.dst (.agg cs.toArray))) : wpQuiet P ops C Q (o :: rest) a :=
  BigFrame.wpQuiet_want hw fun K hK => ⟨_, fun w hC => by
    unfold Oper.quietAt execOp
    simp only [ho, hx, Sem.run_bind, Sem.run_pure, run_loadAt_at w p ty cs d (hc w hC) hu hd hi, Result.andThen_ok]
    exact ⟨rfl, rfl⟩, hK _ h⟩
end
theorem plainU8 : Try.prog.plainKey 5 = true := by kernel_rfl
theorem infoU8 : ∃ i, Try.prog.info? 5 = some i := by
  obtain ⟨i, h, _⟩ := info_parts info_u8
  exact ⟨i, h⟩
theorem cellsOfU8 : Try.prog.cellsOf 5 = 1 := by kernel_rfl
end Go.Proofs.Ytodoaebpkmhhmaa

/-
  Of part CameIn: what is needed here.
-/
namespace Go.Proofs.Ytodoaebpkmhhmaa
open Go.RowKit
set_option linter.unusedVariables false
set_option maxRecDepth 100000
/-- a slice that came in reads as the numbers zs, each fitting its kind -/
structure CameIn (k : IntKind) (w : World) (A : Option Addr) (n c : Nat) (zs : List Int) : Prop where
  sees : Sees w w.heap.size A n (cv k zs)
  cap : n ≤ c
  max : c ≤ maxLen
  wf : ∀ z ∈ zs, (Lit.int k z).wf = true
theorem CameIn.nil (k : IntKind) (w : World) : CameIn k w none 0 0 [] := ⟨Sees.nil _ _ _, Nat.le_refl _, Nat.zero_le _, by simp⟩
theorem CameIn.of {k : IntKind} {w : World} {x : Addr} {l c : Nat} {zs : List Int} (hl : l ≤ c) (hm : c ≤ maxLen) (hz : zs.length = c)
    (hcell : ∀ i, i < zs.length → w.cell? (x.add i) = some (.int k (zs.getD i 0))) (hw : ∀ z ∈ zs, (Lit.int k z).wf = true) : CameIn k w (some x) l c (zs.take l) :=
  ⟨⟨by simp [cv]; omega, fun i u hu => by
    have hi : i < l ∧ i < zs.length := by
      have := (List.getElem?_eq_some_iff.1 hu).1
      simp [cv] at this
      omega
    have hc := hcell i hi.2
    have hu' : u = .int k (zs.getD i 0) := by
      simp [cv, hi.1, hi.2] at hu
      rw [List.getD_eq_getElem?_getD, List.getElem?_eq_getElem hi.2]
      exact hu.symm
    refine ⟨x, rfl, ?_, by rw [hu']; exact hc⟩
    have := World.block_lt_of_cell? w _ hc
    rwa [addr_block] at this⟩, hl, hm, fun z hz => hw z (List.mem_of_mem_take hz)⟩
end Go.Proofs.Ytodoaebpkmhhmaa

/-
  Of part Enc: what is needed here.
-/
namespace Go.Proofs.Ytodoaebpkmhhmaa
open Go.RowKit
set_option linter.unusedVariables false
set_option maxRecDepth 100000
theorem AllBytes.map {α : Type} {f : α → List Int} {l : List α} (h : ∀ x ∈ l, AllBytes (f x)) : AllBytes (l.flatMap f) := fun z hz => by
  obtain ⟨x, hx, hz⟩ := List.mem_flatMap.1 hz
  exact h x hx z hz
end Go.Proofs.Ytodoaebpkmhhmaa

/-
  Of part Tx: what is needed here.
-/
namespace Go.Proofs.Ytodoaebpkmhhmaa
open Go.RowKit
set_option linter.unusedVariables false
set_option maxRecDepth 100000
/-- a transaction -/
structure LTx where
  sigs : List (List Int)
  m : LMsg
/-- all numbers are bytes, signatures have 64 of them -/
structure LTx.Wf (x : LTx) : Prop where
  sigs : ∀ s ∈ x.sigs, s.length = 64 ∧ AllBytes s
  m : x.m.Wf
end Go.Proofs.Ytodoaebpkmhhmaa

/-
  Of part Great: what is needed here.
-/
namespace Go.Proofs.Ytodoaebpkmhhmaa
open Go.RowKit
set_option linter.unusedVariables false
set_option maxRecDepth 100000
def lookSize (l : List LLook) : Nat := (l.map fun i => i.wr.length + i.rd.length).sum
end Go.Proofs.Ytodoaebpkmhhmaa

/-
  Of part IsIn: what is needed here.
-/
namespace Go.Proofs.Ytodoaebpkmhhmaa
open Go.RowKit
set_option linter.unusedVariables false
set_option maxRecDepth 100000
theorem flatten_at {α : Type} (size : Nat) : ∀ (l : List (List α)) (k : Nat) (x : List α), (∀ (i : Nat) y, l[i]? = some y → y.length = size) → l[k]? = some x → ∀ j u, x[j]? = some u → l.flatten[k * size + j]? = some u
  | [], k, x, _, h, _, _, _ => by simp at h
  | y :: r, 0, x, hl, h, j, u, hu => by
    have : y = x := by simpa using h
    subst this
    have hj := (List.getElem?_eq_some_iff.1 hu).1
    rw [List.flatten_cons, List.getElem?_append_left (by simpa using hj)]
    simpa using hu
  | y :: r, k + 1, x, hl, h, j, u, hu => by
    have hy := hl 0 y (by simp)
    rw [List.flatten_cons, List.getElem?_append_right (by rw [hy, Nat.add_mul]; omega)]
    have := flatten_at size r k x (fun i z hz => hl (i + 1) z (by simpa using hz)) (by simpa using h) j u hu
    rw [← this]
    congr 1
    rw [hy, Nat.add_mul]
    omega
end Go.Proofs.Ytodoaebpkmhhmaa

/-
  Of part OpenMsg: what is needed here.
-/
namespace Go.Proofs.Ytodoaebpkmhhmaa
open Go.RowKit
set_option linter.unusedVariables false
set_option maxRecDepth 100000
open Go.ChangeShapes Go.WideShapes Go.RowKit
theorem list_of {α : Type} {p : Nat → α → Prop} : ∀ (n : Nat), (∀ i, i < n → ∃ x, p i x) → ∃ l : List α, l.length = n ∧ ∀ i x, l[i]? = some x → p i x
  | 0, _ => ⟨[], rfl, fun i x h => by simp at h⟩
  | n + 1, h => by
    obtain ⟨l, hl, hp⟩ := list_of n fun i hi => h i (by omega)
    obtain ⟨x, hx⟩ := h n (Nat.lt_succ_self _)
    refine ⟨l ++ [x], by simp [hl], fun i y hy => ?_⟩
    by_cases hi : i < n
    · rw [List.getElem?_append_left (by omega)] at hy
      exact hp i y hy
    · rw [List.getElem?_append_right (by omega)] at hy
      have h1 := (List.getElem?_eq_some_iff.1 hy).1
      simp at h1
      have : i = n := by omega
      subst this
      rw [show i - l.length = 0 by omega] at hy
      simp at hy
      exact hy ▸ hx
theorem byte_wf {z : Int} (h : (Lit.int .u8 z).wf = true) : IsByte z := by
  have := bounds_u8 h
  unfold IsByte
  omega
section
variable {H : Type} {enc : TypeId × Value → H}
/-- no list in it is longer than the form's reach -/
def Wt (t : TypeId) (d : DataW H) : Prop := ∀ n ∈ d.weights Try.prog t, n ≤ reachBytes
theorem wt_all {e : TypeId} : ∀ {l : List (DataW H)}, (∀ n ∈ DataW.weightsAll Try.prog e l, n ≤ reachBytes) → ∀ d ∈ l, Wt e d
  | [], _, d, hd => by simp at hd
  | y :: r, h, d, hd => by
    rcases List.mem_cons.1 hd with rfl | hd
    · exact fun n hn => h n (by simp [DataW.weightsAll, hn])
    · exact wt_all (l := r) (fun n hn => h n (by simp [DataW.weightsAll, hn])) d hd
variable {w : World} {base : Nat} {held : Bool}
theorem open_sl {t e : TypeId} {fuel : Nat} {cs : List Value} {x : DataW H × List MemPlace} (ht : Try.prog.underlying t = some (.slice e)) (hc : 0 < Try.prog.cellsOf e)
    (h : DataW.trod enc Try.prog w base (fun _ => true) held fuel t cs = some x) (hw : Wt t x.1) :
    ∃ A n c, cs = [.slice A n c] ∧ n ≤ c ∧ c ≤ maxLen ∧ n * Try.prog.bytesOf e ≤ reachBytes ∧ ∀ i, i < n → ∃ a cs' y m, A = some a ∧ a.block < w.heap.size ∧ cs'.length = Try.prog.cellsOf e ∧
      (∀ j u, cs'[j]? = some u → w.cell? (a.add (i * Try.prog.cellsOf e + j)) = some u) ∧ DataW.trod enc Try.prog w base (fun _ => true) held m e cs' = some y ∧ Wt e y.1 := by
  rcases Go.Deep.open_slice ht h with ⟨rfl, rfl⟩ | ⟨a, len, cap, m, n, D, Pl, rfl, hb, hl, hm, hmm, rfl, hx⟩
  · exact ⟨none, 0, 0, rfl, Nat.le_refl _, Nat.zero_le _, by simp, fun i hi => by omega⟩
  · have hm' : m = cap := by simpa using hmm
    have h1 : ((len + (m - len)) * Try.prog.bytesOf e) ≤ reachBytes := by
      refine hw _ ?_
      simp [DataW.weights, ht]
    have h2 : ∀ d ∈ (List.range len).map D, Wt e d := wt_all fun n hn => hw n (by simp only [DataW.weights, ht]; simp [hn])
    refine ⟨some a, len, cap, rfl, hl, hm, Nat.le_trans (Nat.mul_le_mul_right _ (by omega)) h1, fun i hi => ?_⟩
    obtain ⟨cs', hcs, htr⟩ := hx i (by omega)
    have hbl := World.cells?_block hcs hc
    obtain ⟨_, hlen, hat⟩ := World.cells?_some hcs
    refine ⟨a, cs', _, n, rfl, by rwa [addr_block] at hbl, hlen, fun j u hu => ?_, htr, h2 _ (by simp; exact ⟨i, hi, rfl⟩)⟩
    have := hat j (by have := (List.getElem?_eq_some_iff.1 hu).1; omega)
    rw [addr_add] at this
    rw [this, hu]
theorem cellsU8 : Try.prog.cellsOf 5 = 1 := by kernel_rfl
theorem bytesU8 : Try.prog.bytesOf 5 = 1 := by kernel_rfl
theorem cellsKey : Try.prog.cellsOf 46 = 32 := by kernel_rfl
theorem cellsBs : Try.prog.cellsOf 24 = 1 := by kernel_rfl
theorem reach47 : reachBytes ≤ 140737488355328 := by decide
theorem open_bytes {fuel : Nat} {v : Value} {x : DataW H × List MemPlace} (h : DataW.trod enc Try.prog w base (fun _ => true) held fuel 24 [v] = some x) (hw : Wt 24 x.1) :
    ∃ l, BytesIn w w.heap.size v l ∧ AllBytes l ∧ l.length ≤ 140737488355328 := by
  obtain ⟨A, n, c, hcs, h1, h2, h3, h4⟩ := open_sl Try.underlying24 (by rw [cellsU8]; omega) h hw
  obtain rfl : v = .slice A n c := by simpa using hcs
  rw [bytesU8] at h3
  have := reach47
  obtain ⟨l, hl, hp⟩ := list_of (α := Int) (p := fun i z => IsByte z ∧ ∃ a, A = some a ∧ a.block < w.heap.size ∧ w.cell? (a.add i) = some (.int .u8 z)) n fun i hi => by
    obtain ⟨a, cs', y, m, e1, e2, e3, e4, e5, _⟩ := h4 i hi
    obtain ⟨z, rfl, _, hz⟩ := DataW.trod_int Try.underlying5 e5
    have := e4 0 _ rfl
    rw [cellsU8, Nat.mul_one, Nat.add_zero] at this
    exact ⟨z, byte_wf hz, a, e1, e2, this⟩
  subst hl
  refine ⟨l, ⟨A, c, rfl, ⟨bv_length _, fun i u hu => ?_⟩, h1, h2⟩, fun z hz => ?_, by omega⟩
  · rw [bv_getElem?] at hu
    cases hq : l[i]? with
    | none => rw [hq] at hu; simp at hu
    | some z =>
      rw [hq] at hu
      obtain ⟨_, a, e1, e2, e3⟩ := hp i z hq
      obtain rfl : Value.int .u8 z = u := by simpa using hu
      exact ⟨a, e1, e2, e3⟩
  · obtain ⟨i, hi, rfl⟩ := List.getElem_of_mem hz
    exact (hp i _ (List.getElem?_eq_getElem hi)).1
theorem open_32 {t : TypeId} {fuel : Nat} {cs : List Value} {x : DataW H × List MemPlace} (ht : Try.prog.underlying t = some (.array 32 5)) (hc : Try.prog.cellsOf t = 32) (h : DataW.trod enc Try.prog w base (fun _ => true) held fuel t cs = some x) :
    ∃ l : List Int, cs = bv l ∧ l.length = 32 ∧ AllBytes l := by
  obtain ⟨xs, m, _, _, hl, hxs, hat⟩ := DataW.trod_array ht h
  obtain ⟨l, hll, hp⟩ := list_of (α := Int) (p := fun i z => IsByte z ∧ cs[i]? = some (.int .u8 z)) 32 fun i hi => by
    have h1 := hat i hi
    have hx : xs[i]? = some xs[i] := List.getElem?_eq_getElem (by omega)
    rw [cellsU8, hx] at h1
    obtain ⟨z, hz, _, hwz⟩ := DataW.trod_int Try.underlying5 h1
    refine ⟨z, byte_wf hwz, ?_⟩
    have := congrArg List.head? hz
    simpa [List.head?_take] using this
  rw [hc] at hl
  refine ⟨l, List.ext_getElem? fun i => ?_, hll, fun z hz => ?_⟩
  · by_cases hi : i < 32
    · have e := List.getElem?_eq_getElem (l := l) (i := i) (by omega)
      rw [bv_getElem?, e, (hp i _ e).2]
      rfl
    · rw [List.getElem?_eq_none (by omega), List.getElem?_eq_none (by rw [bv_length]; omega)]
  · obtain ⟨i, hi, rfl⟩ := List.getElem_of_mem hz
    exact (hp i _ (List.getElem?_eq_getElem hi)).1
end
open Go.ChangeShapes Go.WideShapes Go.RowKit
theorem two_of {cs : List Value} (h : cs.length = 2) : ∃ a b, cs = [a, b] := by
  match cs, h with
  | [a, b], _ => exact ⟨a, b, rfl⟩
section
variable {H : Type} {enc : TypeId × Value → H} {w : World} {base : Nat} {held : Bool}
theorem wt_in {y0 y1 y2 : DataW H} (h : Wt 26 (.agg [y0, y1, y2])) : Wt 24 y1 ∧ Wt 24 y2 := by
  refine ⟨fun n hn => h n ?_, fun n hn => h n ?_⟩ <;> simp only [DataW.weights, Try.underlying26] <;> simp [DataW.weightsEach, hn]
end
open Go.ChangeShapes Go.WideShapes Go.RowKit
theorem one_of {cs : List Value} (h : cs.length = 1) : ∃ a, cs = [a] := by
  match cs, h with
  | [a], _ => exact ⟨a, rfl⟩
theorem cellsBool : Try.prog.cellsOf 4 = 1 := by kernel_rfl
theorem cut {α : Type} (cs : List α) (a k b : Nat) (h : a + k = b) : cs.drop a = (cs.drop a).take k ++ cs.drop b := by
  subst h
  rw [← List.drop_drop, List.take_append_drop]
end Go.Proofs.Ytodoaebpkmhhmaa

/-
  Of part Rules: what is needed here.
-/
namespace Go.Proofs.Ytodoaebpkmhhmaa
open Go.RowKit
set_option linter.unusedVariables false
set_option maxRecDepth 100000
/-- all keys -/
def tot (m : LMsg) : Nat := m.keys.length + lookSize m.looks
/-- an instruction that names a key that there is not -/
def astray (tt : Nat) (a : Int) : Bool := decide ((tt : Int) ≤ a)
def pstray (own : Nat) (p : Int) : Bool := decide (p = 0 ∨ (own : Int) ≤ p)
def stray (own tt : Nat) (i : LIn) : Bool := pstray own i.p || i.acc.any (astray tt)
/-- the rules, broken -/
def b1 (x : LTx) : Bool := decide (x.m.s = 0 ∨ (x.sigs.length : Int) ≠ x.m.s)
def b2 (m : LMsg) : Bool := decide (m.s ≤ m.r ∨ (m.keys.length : Int) < m.s + m.o)
def b5 (m : LMsg) : Bool := m.ins.any (stray m.keys.length (tot m))
end Go.Proofs.Ytodoaebpkmhhmaa

/-
  Of part KeyEq: what is needed here.
-/
namespace Go.Proofs.Ytodoaebpkmhhmaa
open Go.RowKit
set_option linter.unusedVariables false
set_option maxRecDepth 100000
def same32 (x y : List Int) (is : List Nat) : Bool := is.all fun i => x.getD i 0 == y.getD i 0
theorem eqItems_any (x y : List Int) (w : World) : ∀ (is : List Nat), (∀ i ∈ is, i < x.length ∧ i < y.length) → (Op.eqItems 9999 5 1 (bv x).toArray (bv y).toArray is).run Try.prog w = .ok (same32 x y is) w
  | [], _ => by simp [Op.eqItems, same32]
  | i :: is, h => by
    have hi := h i (by simp)
    have hc : (bv x).toArray[i]? = some (.int .u8 (x.getD i 0)) := by
      rw [List.getElem?_toArray]
      exact bv_at hi.1
    have hd : (bv y).toArray[i]? = some (.int .u8 (y.getD i 0)) := by
      rw [List.getElem?_toArray]
      exact bv_at hi.2
    have p := run_part_plain (P := Try.prog) w plainU8 (xs := (bv x).toArray) (off := i) hc
    have p2 := run_part_plain (P := Try.prog) w plainU8 (xs := (bv y).toArray) (off := i) hd
    have ih := eqItems_any x y w is fun k hk => h k (by simp [hk])
    simp only [Op.eqItems, Nat.mul_one, Sem.run_bind, p, p2, Result.andThen_ok, run_equalIn_int w 9998 5 .u8 .u8 _ _ Try.underlying5]
    cases hb : (x.getD i 0 == y.getD i 0)
    · have : same32 x y (i :: is) = false := by simp only [same32, List.all_cons, hb, Bool.false_and]
      rw [this]
      simp
    · have : same32 x y (i :: is) = same32 x y is := by simp only [same32, List.all_cons, hb, Bool.true_and]
      rw [this]
      simpa using ih
theorem same32_iff {x y : List Int} {n : Nat} (hx : x.length = n) (hy : y.length = n) : same32 x y (List.range n) = decide (x = y) := by
  rw [Bool.eq_iff_iff, decide_eq_true_iff]
  unfold same32
  rw [List.all_eq_true]
  constructor
  · intro h
    refine List.ext_getElem (by omega) fun i h1 h2 => ?_
    have := h i (by simp; omega)
    rw [beq_iff_eq, List.getD_eq_getElem?_getD, List.getD_eq_getElem?_getD, List.getElem?_eq_getElem h1, List.getElem?_eq_getElem h2] at this
    exact this
  · rintro rfl i _
    simp
theorem key_eql {x y : List Int} (hx : x.length = 32) (hy : y.length = 32) (w : World) :
    (binOp .eql 46 (.agg (bv x).toArray) (.agg (bv y).toArray)).run Try.prog w = .ok (.bool (decide (x = y))) w := by
  obtain ⟨i, hi⟩ := infoU8
  rw [run_eql_struct, show (10000 : Nat) = 9999 + 1 from rfl, run_equalIn_array w 9999 _ _ Try.underlying46 hi, cellsOfU8, eqItems_any x y w _ (fun i hi => by simp at hi; omega), same32_iff hx hy]
  rfl
end Go.Proofs.Ytodoaebpkmhhmaa

/-
  Of part Book: what is needed here.
-/
namespace Go.Proofs.Ytodoaebpkmhhmaa
open Go.RowKit
set_option linter.unusedVariables false
set_option maxRecDepth 100000
theorem info_page : (Try.prog.info? 89).map (fun i => (i.zero, i.size, i.bytes)) = some (some .nilIface, 1, 16) := by kernel_rfl
set_option maxHeartbeats 400000 in
theorem number_ (p : Nat) (A : Option Addr) (n c : Nat) (w : World) (hr : Row w p 41 [.slice A n c]) (hn : n ≤ 1000000) :
    Calls Try.prog 40 #[.pointer (some ⟨p, 0, none⟩)] w fun e w' => e = .returned (.int .i64 ((n : Int) + 1)) ∧ w = w' := by
  have c0 : w.cell? ⟨p, 0, none⟩ = some (.slice A n c) := hr.cell 0
  clear hr
  go_enter Try.func40, Try.ntmps40
  go_wp2
  go_ret
  exact ⟨rfl, rfl⟩
end Go.Proofs.Ytodoaebpkmhhmaa

/-
  Of part Sheet: what is needed here.
-/
namespace Go.Proofs.Ytodoaebpkmhhmaa
open Go.RowKit
set_option linter.unusedVariables false
set_option maxRecDepth 100000
theorem grown_trans {a b c : World} {r : Option Nat} (h : a.grownBy b r) (k : b.grownBy c r) : a.grownBy c r :=
  ⟨k.os.trans h.os, k.tape.trans h.tape, k.output.trans h.output, Nat.le_trans h.size k.size, fun i hi hne => (k.block i (Nat.lt_of_lt_of_le hi h.size) hne).trans (h.block i hi hne)⟩
end Go.Proofs.Ytodoaebpkmhhmaa

/-
  Of part Take: what is needed here.
-/
namespace Go.Proofs.Ytodoaebpkmhhmaa
open Go.RowKit
set_option linter.unusedVariables false
set_option maxRecDepth 100000
theorem But.drewN {w w' : World} {p : Nat} (h : But p w w') (n : Nat) : But p w (w'.drewN n) := ⟨h.os, h.tape, h.output, h.size, h.block⟩
end Go.Proofs.Ytodoaebpkmhhmaa

/-
  Of part RefAt: what is needed here.
-/
namespace Go.Proofs.Ytodoaebpkmhhmaa
open Go.RowKit
set_option linter.unusedVariables false
set_option maxRecDepth 100000
/-- two that may come up -/
theorem readyL2 {P : Program} {L : List Oper} {Q : Exit → Act → World → Prop} {md : Region.Mode} {S : World → Prop} {i j : Nat} {o o' : Oper} {fuel : Nat} {listed : Array Bool} {a : Act} {w : World} (ho : L[i]? = some o) (ho' : L[j]? = some o') (hr : Region.ready md L.toArray listed = [i, j])
    (hw : Region.wanted o (yielded L.toArray a.tmps) = true) (hw' : Region.wanted o' (yielded L.toArray a.tmps) = true)
    (h : ∀ K' : Act → World → Prop, Shut (∀ a w, S w → wpAnyH P md L.toArray Q S fuel (listed.setIfInBounds i true) a w → K' a w) → Oper.wp P o a w K' Q)
    (h' : ∀ K' : Act → World → Prop, Shut (∀ a w, S w → wpAnyH P md L.toArray Q S fuel (listed.setIfInBounds j true) a w → K' a w) → Oper.wp P o' a w K' Q) : wpAnyH P md L.toArray Q S (fuel + 1) listed a w :=
  wpAnyH_ready hr (by simp) (AllReadyH.cons (by simpa using ho) (fun K hK => by
    rw [if_pos hw]
    exact h K (fun a w hS hW => hK a w hS fun _ => hW)) (AllReadyH.cons (by simpa using ho') (fun K hK => by
    rw [if_pos hw']
    exact h' K (fun a w hS hW => hK a w hS fun _ => hW)) AllReadyH.nil))
end Go.Proofs.Ytodoaebpkmhhmaa

/-
  Of part BookK: what is needed here.
-/
namespace Go.Proofs.Ytodoaebpkmhhmaa
open Go.RowKit
set_option linter.unusedVariables false
set_option maxRecDepth 100000
theorem exec_built {a : Act} {o : Oper} (w : World) (t : TypeId) (parts : Array (Nat × Operand)) (cells : Array Value) (ho : o.op = .build t parts) (h : Try.prog.built t (parts.map fun (i, x) => (i, a.eval x)).toList = some cells) : (execOp a.eval o).run Try.prog w = .ok (.value (.agg cells)) w := by
  simp only [execOp, ho, Sem.run_bind, run_build w t _ cells h, Result.andThen_ok]
  rfl
theorem wp_built {o : Oper} {a : Act} {w : World} {K : Act → World → Prop} {Q : Exit → Act → World → Prop} (t : TypeId) (parts : Array (Nat × Operand)) (cells : Array Value) (ho : o.op = .build t parts)
    (h : Try.prog.built t (parts.map fun (i, x) => (i, a.eval x)).toList = some cells) (hK : K (a.put o.dst (.agg cells)) w) : o.wp Try.prog a w K Q :=
  wp_build t parts ho (by rw [h]; rfl) (by rw [h]; exact hK)
/-- of the blocks below 'base' only p has been written -/
structure ButOne (base p : Nat) (w w' : World) : Prop where
  os : w'.os = w.os
  tape : w'.tape = w.tape
  output : w'.output = w.output
  size : w.heap.size ≤ w'.heap.size
  block : ∀ k, k < base → k ≠ p → w'.heap[k]? = w.heap[k]?
theorem ButOne.refl (base p : Nat) (w : World) : ButOne base p w w := ⟨rfl, rfl, rfl, Nat.le_refl _, fun _ _ _ => rfl⟩
theorem ButOne.trans {base p : Nat} {a b c : World} (h : ButOne base p a b) (k : ButOne base p b c) : ButOne base p a c :=
  ⟨k.os.trans h.os, k.tape.trans h.tape, k.output.trans h.output, Nat.le_trans h.size k.size, fun i hi hp => (k.block i hi hp).trans (h.block i hi hp)⟩
theorem ButOne.below {base p B : Nat} {a b : World} (h : ButOne base p a b) (hB : B ≤ base) (hp : B ≤ p) : Below B a b :=
  ⟨h.os, h.tape, h.output, h.size, fun k hk => h.block k (by omega) (by omega)⟩
/-- block k holds no pages -/
def NoPages (w : World) (k : Nat) : Prop := ∀ xs fr, w.heap[k]? ≠ some (.cells xs 89 fr)
/-- a book, its pages of the call's own, from world w0 on -/
structure BookW (w0 : World) (p base : Nat) (A : Option Addr) (n c : Nat) (ps : List Value) (w : World) : Prop where
  row : Row w p 41 [.slice A n c]
  own : w.ownsRow base 89 1 (.slice A n c) n ps
  one : ButOne base p w0 w
  lt : base ≤ w.heap.size
  keep : ∀ k, k < w0.heap.size → k ≠ p → NoPages w0 k → w.heap[k]? = w0.heap[k]?
section
variable {w0 w w' : World} {p base n c : Nat} {A : Option Addr} {ps : List Value}
theorem BookW.trans {A' : Option Addr} {n' c' : Nat} {ps' : List Value} (h : BookW w0 p base A n c ps w) (h' : BookW w p base A' n' c' ps' w') : BookW w0 p base A' n' c' ps' w' :=
  ⟨h'.row, h'.own, h.one.trans h'.one, h'.lt, fun k hk hp hn => by
    have e := h.keep k hk hp hn
    refine (h'.keep k (Nat.lt_of_lt_of_le hk h.one.size) hp ?_).trans e
    intro xs fr
    rw [e]
    exact hn xs fr⟩
theorem BookW.below (h : BookW w0 p base A n c ps w) (hb : Below w.heap.size w w') : BookW w0 p base A n c ps w' :=
  ⟨h.row.below hb h.row.lt, own_below h.own hb, h.one.trans ⟨hb.os, hb.tape, hb.output, hb.size, fun k hk _ => hb.block k (by have := h.lt; omega)⟩, by have := h.lt; have := hb.size; omega,
    fun k hk hp hn => (hb.block k (Nat.lt_of_lt_of_le hk h.one.size)).trans (h.keep k hk hp hn)⟩
theorem BookW.alloc (h : BookW w0 p base A n c ps w) (o : Obj) : BookW w0 p base A n c ps (w.alloc o) := h.below ((Below.refl _ _).alloc (Nat.le_refl _) o)
theorem BookW.drewN (h : BookW w0 p base A n c ps w) (k : Nat) : BookW w0 p base A n c ps (w.drewN k) := ⟨h.row.drewN k, h.own, ⟨h.one.os, h.one.tape, h.one.output, h.one.size, h.one.block⟩, h.lt, h.keep⟩
theorem own_pages {v : Value} {m : Nat} (h : w.ownsRow base 89 1 v m ps) {k : Nat} (hn : NoPages w k) : some k ≠ v.ownBlock := by
  rcases h.2 with ⟨rfl, _⟩ | ⟨g', cap, cur, rfl, _, hh, _⟩
  · simp [Value.ownBlock]
  · intro he
    have hg : k = g' := by simpa [Value.ownBlock] using he
    subst hg
    exact hn _ _ hh
theorem BookW.last {q : List Value} {m : Nat} {A' : Option Addr} {c' : Nat} (h : BookW w0 p base A n c ps w) (hr : Row w' p 41 [.slice A n c]) (ho : w'.ownsRow base 89 1 (.slice A' m c') m (ps ++ q)) (hg : w.grownBy w' (Value.slice A n c).ownBlock) :
    BookW w0 p base A' m c' (ps ++ q) (w'.setCell ⟨p, 0, none⟩ (.slice A' m c')) := by
  have hT := turned_setCell w' ⟨p, 0, none⟩ (.slice A' m c')
  have hz := hg.size
  have hl := h.lt
  refine ⟨hr.set_ 0 _, own_far ho hr (by decide) 0 _, h.one.trans ⟨hg.os, hg.tape, hg.output, ?_, fun k hk hp => ?_⟩, by rw [hT.size]; omega, fun k hk hp hn => ?_⟩
  · rw [hT.size]; exact hz
  · rw [hT.block k hp]
    exact hg.block k (by omega) fun e => by have := (h.own.lt k e.symm).1; omega
  · have e := h.keep k hk hp hn
    rw [hT.block k hp]
    refine (hg.block k (Nat.lt_of_lt_of_le hk h.one.size) (own_pages h.own ?_)).trans e
    intro xs fr
    rw [e]
    exact hn xs fr
/-- a row of other things stays -/
theorem BookW.rowK {g t : Nat} {xs : List Value} (h : BookW w0 p base A n c ps w) (hr : Row w0 g t xs) (hg : g ≠ p) (ht : t ≠ 89) : Row w g t xs :=
  ⟨(h.keep g hr.lt hg (fun ys fr e => by
    rw [hr.is] at e
    injection e with e
    injection e with _ e
    exact ht e)).trans hr.is⟩
end
end Go.Proofs.Ytodoaebpkmhhmaa

/-
  Of part Role: what is needed here.
-/
namespace Go.Proofs.Ytodoaebpkmhhmaa
open Go.RowKit
set_option linter.unusedVariables false
set_option maxRecDepth 100000
/-- elements of sz cells each that lie below block B -/
structure CsIn (sz : Nat) (w : World) (B : Nat) (A : Option Addr) (n : Nat) (l : List (List Value)) : Prop where
  len : l.length = n
  each : ∀ k ∈ l, k.length = sz
  sees : Sees w B A (n * sz) l.flatten
theorem cs_flat {sz : Nat} : ∀ {l : List (List Value)}, (∀ k ∈ l, k.length = sz) → l.flatten.length = l.length * sz
  | [], _ => by simp
  | y :: r, h => by
    rw [List.flatten_cons, List.length_append, cs_flat (l := r) (fun z hz => h z (List.mem_cons_of_mem _ hz)), h y (by simp), List.length_cons, Nat.add_mul]
    omega
section
variable {sz n B B' : Nat} {w w' : World} {A : Option Addr} {l : List (List Value)}
theorem CsIn.keep (h : CsIn sz w B A n l) (hk : ∀ p : Addr, p.block < B → w'.cell? p = w.cell? p) : CsIn sz w' B A n l := ⟨h.len, h.each, h.sees.keep hk⟩
theorem CsIn.below (h : CsIn sz w B A n l) (hb : Below B w w') : CsIn sz w' B A n l := ⟨h.len, h.each, h.sees.below hb⟩
theorem CsIn.more (h : CsIn sz w B A n l) (hB : B ≤ B') : CsIn sz w B' A n l := ⟨h.len, h.each, h.sees.more hB⟩
theorem CsIn.get (h : CsIn sz w B A n l) {k : Nat} (hk : k < n) (h0 : 0 < sz) : ∃ a x, A = some a ∧ a.block < B ∧ l[k]? = some x ∧ x.length = sz ∧ ∀ j u, x[j]? = some u → w.cell? ((a.add (k * sz)).add j) = some u := by
  obtain ⟨x, hx⟩ : ∃ x, l[k]? = some x := ⟨_, List.getElem?_eq_getElem (by rw [h.len]; exact hk)⟩
  have hxl := h.each x (List.mem_of_getElem? hx)
  have hat := flatten_at sz l k x (fun i y hy => h.each y (List.mem_of_getElem? hy)) hx
  obtain ⟨u0, hu0⟩ : ∃ u, x[0]? = some u := ⟨_, List.getElem?_eq_getElem (by rw [hxl]; exact h0)⟩
  obtain ⟨a, e, hb, _⟩ := h.sees.cell _ _ (hat 0 u0 hu0)
  refine ⟨a, x, e, hb, hx, hxl, fun j u hu => ?_⟩
  obtain ⟨a', e', _, hc⟩ := h.sees.cell _ _ (hat j u hu)
  rw [e] at e'
  cases e'
  rw [addr_add]
  exact hc
theorem CsIn.nil (w : World) (B : Nat) (A : Option Addr) : CsIn sz w B A 0 [] := ⟨rfl, by simp, by rw [Nat.zero_mul]; exact Sees.nil _ _ _⟩
end
theorem csIn_row {sz : Nat} {w : World} {g t : Nat} {l : List (List Value)} {ys : List Value} {n B : Nat} (hr : Row w g t (l.flatten ++ ys)) (hn : l.length = n) (h : ∀ k ∈ l, k.length = sz) (hB : g < B) : CsIn sz w B (some ⟨g, 0, none⟩) n l :=
  ⟨hn, h, ⟨by rw [cs_flat h, hn], fun i u hu => ⟨_, rfl, hB, by
    rw [addr_row, hr.cell, Nat.zero_add, List.getElem?_append_left (List.getElem?_eq_some_iff.1 hu).1]
    exact hu⟩⟩⟩
/-- so many of one -/
def rowOf (n : Nat) (z : List Value) : List Value := (List.replicate n z).flatten
theorem rowOf_len {sz : Nat} (n : Nat) {z : List Value} (hz : z.length = sz) : (rowOf n z).length = n * sz := by
  unfold rowOf
  rw [cs_flat (sz := sz) (fun k hk => by rw [List.eq_of_mem_replicate hk, hz]), List.length_replicate]
theorem rowOf_succ (k : Nat) (z : List Value) : rowOf (k + 1) z = rowOf k z ++ z := by
  unfold rowOf
  rw [List.replicate_succ', List.flatten_append]
  simp
theorem rowOf_cell {sz n k : Nat} {z : List Value} (hz : z.length = sz) (hk : k < n) {j : Nat} {v : Value} (hv : z[j]? = some v) : (rowOf n z)[k * sz + j]? = some v :=
  flatten_at sz (List.replicate n z) k z (fun i y hy => by
    have := List.mem_of_getElem? hy
    rw [List.eq_of_mem_replicate this, hz]) (by rw [List.getElem?_replicate_of_lt hk]) j v hv
/-- a role -/
structure LRole where
  key : List Int
  sg : Bool
  wr : Bool
theorem LRole.ext_iff' {a b : LRole} : a = b ↔ a.key = b.key ∧ a.sg = b.sg ∧ a.wr = b.wr := by
  obtain ⟨x, y, z⟩ := a
  obtain ⟨x', y', z'⟩ := b
  constructor
  · rintro h
    cases h
    exact ⟨rfl, rfl, rfl⟩
  · rintro ⟨h1, h2, h3⟩
    simp only at h1 h2 h3
    rw [h1, h2, h3]
instance : DecidableEq LRole := fun a b => decidable_of_iff (a.key = b.key ∧ a.sg = b.sg ∧ a.wr = b.wr) LRole.ext_iff'.symm
def LRole.cells (r : LRole) : List Value := bv r.key ++ [.bool r.sg, .bool r.wr]
/-- a role whose key has 32 bytes -/
def RoleOk (r : LRole) : Prop := r.key.length = 32 ∧ AllBytes r.key
theorem role_len {r : LRole} (h : r.key.length = 32) : r.cells.length = 34 := by simp [LRole.cells, bv_length, h]
theorem role_one (r : LRole) : ∀ u ∈ r.cells, u.oneCell' = true := by
  intro u hu
  rcases List.mem_append.1 hu with hu | hu
  · exact bv_one _ _ hu
  · simp only [List.mem_cons, List.not_mem_nil, or_false] at hu
    rcases hu with rfl | rfl <;> rfl
theorem role_sg {r : LRole} (h : r.key.length = 32) : r.cells[32]? = some (.bool r.sg) := by
  unfold LRole.cells
  rw [List.getElem?_append_right (by rw [bv_length, h]; omega), bv_length, h]
  rfl
theorem role_wr {r : LRole} (h : r.key.length = 32) : r.cells[33]? = some (.bool r.wr) := by
  unfold LRole.cells
  rw [List.getElem?_append_right (by rw [bv_length, h]; omega), bv_length, h]
  rfl
theorem size_role {r : LRole} (h : r.key.length = 32) : (Try.prog.info? 50).map (·.size) = some r.cells.length := by
  rw [role_len h]
  kernel_rfl
theorem run_part_key (xs : Array Value) (off : Nat) (w : World) : (part 46 xs off).run Try.prog w = .ok (.agg (xs.extract off (off + 32))) w := by
  have h1 : (isAgg 46).run Try.prog w = .ok true w := by kernel_rfl
  simp [part, h1]
theorem run_part_bool (xs : Array Value) (off : Nat) (w : World) {v : Value} (h : xs[off]? = some v) : (part 4 xs off).run Try.prog w = .ok v w :=
  run_part_plain (P := Try.prog) w (by kernel_rfl) h
theorem eqItems_at (d : Nat) (x y : List Int) (w : World) : ∀ (is : List Nat), (∀ i ∈ is, i < x.length ∧ i < y.length) → (Op.eqItems (d + 1) 5 1 (bv x).toArray (bv y).toArray is).run Try.prog w = .ok (same32 x y is) w
  | [], _ => by simp [Op.eqItems, same32]
  | i :: is, h => by
    have hi := h i (by simp)
    have hc : (bv x).toArray[i]? = some (.int .u8 (x.getD i 0)) := by
      rw [List.getElem?_toArray]
      exact bv_at hi.1
    have hd : (bv y).toArray[i]? = some (.int .u8 (y.getD i 0)) := by
      rw [List.getElem?_toArray]
      exact bv_at hi.2
    have p := run_part_plain (P := Try.prog) w plainU8 (xs := (bv x).toArray) (off := i) hc
    have p2 := run_part_plain (P := Try.prog) w plainU8 (xs := (bv y).toArray) (off := i) hd
    have ih := eqItems_at d x y w is fun k hk => h k (by simp [hk])
    simp only [Op.eqItems, Nat.mul_one, Sem.run_bind, p, p2, Result.andThen_ok, run_equalIn_int w d 5 .u8 .u8 _ _ Try.underlying5]
    cases hb : (x.getD i 0 == y.getD i 0)
    · have : same32 x y (i :: is) = false := by simp only [same32, List.all_cons, hb, Bool.false_and]
      rw [this]
      simp
    · have : same32 x y (i :: is) = same32 x y is := by simp only [same32, List.all_cons, hb, Bool.true_and]
      rw [this]
      simpa using ih
theorem keys_eqIn (d : Nat) {x y : List Int} (hx : x.length = 32) (hy : y.length = 32) (w : World) :
    (Op.equalIn (d + 1 + 1) 46 (.agg (bv x).toArray) (.agg (bv y).toArray)).run Try.prog w = .ok (decide (x = y)) w := by
  obtain ⟨i, hi⟩ := infoU8
  rw [run_equalIn_array w (d + 1) _ _ Try.underlying46 hi, cellsOfU8, eqItems_at d x y w _ (fun i hi => by simp at hi; omega), same32_iff hx hy]
theorem role_keyAt {r : LRole} (h : r.key.length = 32) : r.cells.toArray.extract 0 (0 + 32) = (bv r.key).toArray := by
  apply Array.ext'
  unfold LRole.cells
  rw [Array.toList_extract]
  simp [List.extract, bv_length, h]
theorem keys_eq9 {x y : List Int} (hx : x.length = 32) (hy : y.length = 32) (w : World) (d : Nat) (hd : d = 9997) :
    (Op.equalIn 9999 46 (.agg (bv x).toArray) (.agg (bv y).toArray)).run Try.prog w = .ok (decide (x = y)) w := by
  have h := keys_eqIn d hx hy w
  subst hd
  exact h
theorem bool_eq9 (a b : Bool) (w : World) : (Op.equalIn 9999 4 (.bool a) (.bool b)).run Try.prog w = .ok (a == b) w := by
  have := run_equalIn_bool w 9998 4 a b Try.underlying4
  rwa [show (9998 + 1 : Nat) = 9999 from rfl] at this
theorem role_held : Try.prog.stoodInHeld 50 = false := by kernel_rfl
theorem role_under : Try.prog.underlying 50 = some (.struct (Try.prog.fieldsOf 50)) := by kernel_rfl
/-- the fields, one behind the other -/
theorem role_fields (X Y : Array Value) (w : World) {a b : Value} {s s' v v' c : Bool} (pa : (part 46 X 0).run Try.prog w = .ok a w) (pb : (part 46 Y 0).run Try.prog w = .ok b w)
    (ps : (part 4 X 32).run Try.prog w = .ok (.bool s) w) (ps' : (part 4 Y 32).run Try.prog w = .ok (.bool s') w) (pv : (part 4 X 33).run Try.prog w = .ok (.bool v) w) (pv' : (part 4 Y 33).run Try.prog w = .ok (.bool v') w)
    (hk : (Op.equalIn 9999 46 a b).run Try.prog w = .ok c w) : (Op.eqFields 9999 X Y (Try.prog.fieldsOf 50).toList).run Try.prog w = .ok (c && (s == s') && (v == v')) w := by
  simp only [Program.fieldsOf, Try.underlying50]
  have hb := bool_eq9
  simp only [Op.eqFields, ne_eq, String.reduceEq, not_false_eq_true, if_true, Sem.run_bind, pa, pb, Result.andThen_ok, hk]
  cases c
  · simp
  · simp only [Bool.not_true, Bool.false_eq_true, if_false, ps, ps', Sem.run_bind, Result.andThen_ok, hb]
    cases hs : (s == s')
    · simp
    · simp only [Bool.not_true, Bool.false_eq_true, if_false, pv, pv', Sem.run_bind, Result.andThen_ok, hb]
      cases hv : (v == v') <;> simp
set_option maxRecDepth 100000 in
theorem roles_eqIn {x y : LRole} (hx : x.key.length = 32) (hy : y.key.length = 32) (w : World) :
    (Op.equalIn 10000 50 (.agg x.cells.toArray) (.agg y.cells.toArray)).run Try.prog w = .ok (decide (x = y)) w := by
  have px1 := run_part_key x.cells.toArray 0 w
  have py1 := run_part_key y.cells.toArray 0 w
  rw [role_keyAt hx] at px1
  rw [role_keyAt hy] at py1
  have px2 := run_part_bool x.cells.toArray 32 w (v := .bool x.sg) (by rw [List.getElem?_toArray]; exact role_sg hx)
  have py2 := run_part_bool y.cells.toArray 32 w (v := .bool y.sg) (by rw [List.getElem?_toArray]; exact role_sg hy)
  have px3 := run_part_bool x.cells.toArray 33 w (v := .bool x.wr) (by rw [List.getElem?_toArray]; exact role_wr hx)
  have py3 := run_part_bool y.cells.toArray 33 w (v := .bool y.wr) (by rw [List.getElem?_toArray]; exact role_wr hy)
  rw [show (10000 : Nat) = 9999 + 1 from rfl, run_equalIn_struct w 9999 50 _ _ role_under role_held, role_fields _ _ w px1 py1 px2 py2 px3 py3 (keys_eq9 hx hy w _ rfl)]
  congr 1
  rw [Bool.eq_iff_iff, Bool.and_eq_true, Bool.and_eq_true, decide_eq_true_iff, decide_eq_true_iff, beq_iff_eq, beq_iff_eq, LRole.ext_iff', and_assoc]
theorem role_neq {x y : LRole} (hx : x.key.length = 32) (hy : y.key.length = 32) (w : World) : (binOp .neq 50 (.agg x.cells.toArray) (.agg y.cells.toArray)).run Try.prog w = .ok (.bool (!decide (x = y))) w := by
  rw [run_neq_struct, roles_eqIn hx hy]
  rfl
/-- roles that lie below block B -/
structure RolesIn (w : World) (B : Nat) (A : Option Addr) (n : Nat) (l : List LRole) : Prop where
  cs : CsIn 34 w B A n (l.map LRole.cells)
  ok : ∀ r ∈ l, RoleOk r
section
variable {n B B' : Nat} {w w' : World} {A : Option Addr} {l : List LRole}
theorem RolesIn.len (h : RolesIn w B A n l) : l.length = n := by have := h.cs.len; rwa [List.length_map] at this
theorem RolesIn.keep (h : RolesIn w B A n l) (hk : ∀ p : Addr, p.block < B → w'.cell? p = w.cell? p) : RolesIn w' B A n l := ⟨h.cs.keep hk, h.ok⟩
theorem RolesIn.below (h : RolesIn w B A n l) (hb : Below B w w') : RolesIn w' B A n l := ⟨h.cs.below hb, h.ok⟩
theorem RolesIn.more (h : RolesIn w B A n l) (hB : B ≤ B') : RolesIn w B' A n l := ⟨h.cs.more hB, h.ok⟩
theorem RolesIn.get (h : RolesIn w B A n l) {k : Nat} (hk : k < n) : ∃ a r, A = some a ∧ a.block < B ∧ l[k]? = some r ∧ RoleOk r ∧ ∀ j u, r.cells[j]? = some u → w.cell? ((a.add (k * 34)).add j) = some u := by
  obtain ⟨a, x, e, hb, hx, _, hc⟩ := h.cs.get hk (by omega)
  rw [List.getElem?_map] at hx
  obtain ⟨r, hr, rfl⟩ := Option.map_eq_some_iff.1 hx
  exact ⟨a, r, e, hb, hr, h.ok r (List.mem_of_getElem? hr), hc⟩
theorem RolesIn.nil (w : World) (B : Nat) (A : Option Addr) : RolesIn w B A 0 [] := ⟨CsIn.nil _ _ _, by simp⟩
end
theorem roles_each {l : List LRole} (h : ∀ r ∈ l, RoleOk r) : ∀ k ∈ l.map LRole.cells, k.length = 34 := fun k hk => by
  obtain ⟨r, hr, rfl⟩ := List.mem_map.1 hk
  exact role_len (h r hr).1
theorem roles_row {w : World} {g t : Nat} {l : List LRole} {ys : List Value} {n B : Nat} (hr : Row w g t ((l.map LRole.cells).flatten ++ ys)) (hn : l.length = n) (he : ∀ r ∈ l, RoleOk r) (hB : g < B) : RolesIn w B (some ⟨g, 0, none⟩) n l :=
  ⟨csIn_row hr (by rw [List.length_map, hn]) (roles_each he) hB, he⟩
/-- the zero role -/
def r0 : LRole := ⟨List.replicate 32 0, false, false⟩
def zR : Value := .agg r0.cells.toArray
theorem infoR : (Try.prog.info? 50).map (fun i => (i.zero, i.size, i.bytes)) = some (some zR, 34, 34) := by kernel_rfl
end Go.Proofs.Ytodoaebpkmhhmaa

/-
  Of part GetN: what is needed here.
-/
namespace Go.Proofs.Ytodoaebpkmhhmaa
open Go.RowKit
set_option linter.unusedVariables false
set_option maxRecDepth 100000
/-- the number that the first k bytes are, the lowest first -/
def num : List Int → Nat → Int
  | _, 0 => 0
  | zs, k + 1 => num zs k + zs.getD k 0 * 256 ^ k
theorem num_bound (zs : List Int) (hb : Bytes zs) (k : Nat) : 0 ≤ num zs k ∧ num zs k < 256 ^ k := by
  induction k with
  | zero => simp [num]
  | succ k ih =>
    have h := hb k
    have e : (256 : Int) ^ (k + 1) = 256 ^ k * 256 := Int.pow_succ ..
    have hp : (0 : Int) < 256 ^ k := Int.pow_pos (by omega)
    simp only [num]
    rw [e]
    have h1 : 0 ≤ zs.getD k 0 * 256 ^ k := Int.mul_nonneg h.1 (by omega)
    have h2 : zs.getD k 0 * 256 ^ k ≤ 255 * 256 ^ k := Int.mul_le_mul_of_nonneg_right (by omega) (by omega)
    omega
theorem num_shift (zs : List Int) (k : Nat) : num zs (k + 1) = zs.getD 0 0 + 256 * num (zs.drop 1) k := by
  induction k with
  | zero => simp [num]
  | succ k ih =>
    rw [num, ih, num]
    have : (zs.drop 1).getD k 0 = zs.getD (k + 1) 0 := by simp [List.getD_eq_getElem?_getD]
    rw [this, Int.pow_succ, Int.mul_add, Int.add_assoc]
    congr 2
    rw [Int.mul_comm (256 ^ k) 256, ← Int.mul_assoc, ← Int.mul_assoc, Int.mul_comm 256]
theorem u64_in (x : Int) (h0 : 0 ≤ x) (h1 : x < 18446744073709551616) : IntKind.u64.wrap x = x := by rw [IntKind.wrap_u64]; omega
theorem num_step (zs : List Int) (hb : Bytes zs) (k : Nat) (hk : k < 8) :
    bits .or .u64 (num zs k) (IntKind.u64.wrap (IntKind.u64.wrap (zs.getD k 0) * 2 ^ (8 * k))) = num zs (k + 1) := by
  have h := hb k
  have hn := num_bound zs hb k
  simp only [num]
  generalize zs.getD k 0 = z at *
  generalize num zs k = p at *
  rw [u64_in z h.1 (by omega)]
  have key : ∀ e : Nat, e < 64 → (256 : Int) ^ k = 2 ^ e → 8 * k = e → bits .or .u64 p (IntKind.u64.wrap (z * 2 ^ (8 * k))) = p + z * 256 ^ k := by
    rintro e he h2 rfl
    have hp : (0 : Int) < 2 ^ (8 * k) := Int.pow_pos (by omega)
    have hz0 : 0 ≤ z * 2 ^ (8 * k) := Int.mul_nonneg h.1 (by omega)
    have hz1 : z * 2 ^ (8 * k) < 18446744073709551616 := by
      have h3 : z * 2 ^ (8 * k) ≤ 255 * 2 ^ (8 * k) := Int.mul_le_mul_of_nonneg_right (by omega) (by omega)
      have h4 : (2 : Int) ^ (8 * k) ≤ 2 ^ 56 := by exact_mod_cast Nat.pow_le_pow_right (by omega) (by omega)
      omega
    have hp1 : p < 18446744073709551616 := by
      have h4 : (2 : Int) ^ (8 * k) ≤ 2 ^ 56 := by exact_mod_cast Nat.pow_le_pow_right (by omega) (by omega)
      omega
    rw [u64_in _ hz0 hz1, u64_or_lo (8 * k) p _ hn.1 (by omega) hz0 (Int.mul_emod_left ..) hp1 hz1, h2]
  refine key (8 * k) (by omega) ?_ rfl
  rw [Int.pow_mul]; rfl
/-- what Get answers -/
def getN (zs : List Int) (many : Int) : Int × Int :=
  if many < 1 ∨ 8 < many then (0, 1) else if (zs.length : Int) < many then (0, 5) else (num zs many.toNat, 0)
set_option maxHeartbeats 400000 in
theorem fits_yes (m : Int) (w : World) (h0 : 1 ≤ m) (h1 : m ≤ 8) : Calls Try.prog 57 #[.int .i64 m] w fun e w' => e = .returned (.bool true) ∧ w = w' := by
  go_enter Try.func57, Try.ntmps57
  go_wp2
  go_ret
  exact ⟨rfl, rfl⟩
set_option maxHeartbeats 400000 in
theorem fits_no (m : Int) (w : World) (h : m < 1 ∨ 8 < m) : Calls Try.prog 57 #[.int .i64 m] w fun e w' => e = .returned (.bool false) ∧ w = w' := by
  rcases h with h | h
  · go_enter Try.func57, Try.ntmps57
    go_wp2
    go_ret
    exact ⟨rfl, rfl⟩
  · have h2 : 1 ≤ m := by omega
    have h3 : decide (m ≤ 8) = false := by simp; omega
    go_enter Try.func57, Try.ntmps57
    go_wp2
    go_ret
    exact ⟨rfl, rfl⟩
set_option maxHeartbeats 400000 in
theorem getMany (A : Option Addr) (n c : Nat) (zs : List Int) (m : Int) (w : World) (S : Nat)
    (hx : Sees w S A n (bv zs)) (hn : n ≤ maxLen) (hb : Bytes zs) :
    Calls Try.prog 52 #[.slice A n c, .int .i64 m] w fun e w' => e = .returned (.tuple #[.int .u64 (getN zs m).1, .int .i64 (getN zs m).2]) ∧ w = w' := by
  unfold maxLen at hn
  have lx := Lib.hid (show zs.length = n by have := hx.len; rwa [bv_length] at this)
  by_cases hm : m < 1 ∨ 8 < m
  · have hg : getN zs m = (0, 1) := by simp [getN, hm]
    have HG := Lib.hid hg
    have HM := Lib.hid (fits_no m w hm)
    clear hg hm
    go_enter Try.func52, Try.ntmps52
    go_wp2_with fail
    refine HM.out.mono ?_
    rintro e w1 ⟨rfl, rfl⟩
    go_wp2
    go_ret2
    exact ⟨tup2_of HG.out, rfl⟩
  · have HF := Lib.hid (fits_yes m w (by omega) (by omega))
    by_cases hl : (n : Int) < m
    · have hg : getN zs m = (0, 5) := by simp [getN, hm]; rw [lx.out]; exact hl
      have HG := Lib.hid hg
      clear hg hm
      go_enter Try.func52, Try.ntmps52
      go_wp2_with fail
      refine HF.out.mono ?_
      rintro e w1 ⟨rfl, rfl⟩
      go_wp2
      go_ret2
      exact ⟨tup2_of HG.out, rfl⟩
    · obtain ⟨mm, rfl⟩ := Int.eq_ofNat_of_zero_le (show 0 ≤ m by omega)
      have hg : getN zs mm = (num zs mm, 0) := by simp [getN, hm]; rw [lx.out]; omega
      have hm8 : mm ≤ 8 := by omega
      have hm1 : 1 ≤ mm := by omega
      have hmn : mm ≤ n := by omega
      have HG := Lib.hid hg
      clear hg hm hl
      go_enter Try.func52, Try.ntmps52
      go_wp2_with fail
      refine HF.out.mono ?_
      rintro e w1 ⟨rfl, rfl⟩
      go_wp2
      go_loop [6, 7, 16] (fun v _ i => ∃ (k : Nat), k ≤ mm ∧ i = .int .i64 k ∧ v = .int .u64 (num zs k)) (fun _ _ i => mm - (intOf i).toNat)
      case atStart => exact ⟨0, Nat.zero_le _, rfl, rfl⟩
      case round =>
        obtain ⟨k, hk, rfl, rfl⟩ := hrel
        by_cases hlt : k < mm
        · obtain ⟨a, rfl, ha, hca⟩ := hx.byte (k := k) (by omega)
          have HS := Lib.hid (num_step zs hb k (by omega))
          generalize zs.getD k 0 = z at *
          go_wp2
          go_round
          case rel => exact ⟨k + 1, by omega, by go_num, by rw [HS.out]⟩
          case measure => simp [intOf]; omega
        · have HK := Lib.hid (show k = mm by omega)
          go_wp2
          go_ret2
          exact ⟨tup2_of (by rw [HG.out, HK.out]), rfl⟩
end Go.Proofs.Ytodoaebpkmhhmaa

/-
  Of part Math14: what is needed here.
-/
namespace Go.Proofs.Ytodoaebpkmhhmaa
set_option linter.unusedVariables false
def key0 : List Int := List.replicate 32 0
/-- what data ask for -/
structure LAsk where
  tag : Int
  coins : Int
  space : Int
  owner : List Int
def dat14 (b : List Int) : Option LAsk :=
  if b.length < 4 then none
  else if num b 4 = 0 ∧ b.length = 52 then some ⟨0, num (b.drop 4) 8, num (b.drop 12) 8, b.drop 20⟩
  else if num b 4 = 1 ∧ b.length = 36 then some ⟨1, 0, 0, b.drop 4⟩
  else if num b 4 = 2 ∧ b.length = 12 then some ⟨2, num (b.drop 4) 8, 0, key0⟩
  else if num b 4 = 8 ∧ b.length = 12 then some ⟨8, 0, num (b.drop 4) 8, key0⟩
  else none
def two14 (x : LAsk) : Prop := x.tag = 0 ∨ x.tag = 2
instance two14_dec (x : LAsk) : Decidable (two14 x) := inferInstanceAs (Decidable (x.tag = 0 ∨ x.tag = 2))
def need14 (x : LAsk) : Nat := if two14 x then 2 else 1
/-- the role at an index -/
def rol14 (r : List LRole) (i : Int) : LRole := r.getD i.toNat ⟨[], false, false⟩
/-- what stands in the way of one of them; m: must it sign? -/
def chk14 (m : Bool) (x : LRole) : Int := if m && !x.sg then 14 else if !x.wr then 15 else 0
/-- who takes part: what is wrong first, or 0 -/
def plc14 (x : LAsk) (r : List LRole) (acc : List Int) : Int :=
  if acc.length < need14 x then 8
  else if ∃ i ∈ acc, (r.length : Int) ≤ i then 8
  else if chk14 true (rol14 r (acc.getD 0 0)) ≠ 0 then chk14 true (rol14 r (acc.getD 0 0))
  else if two14 x then chk14 (decide (x.tag = 0)) (rol14 r (acc.getD 1 0))
  else 0
def getA (l : List LAcc) (i : Nat) : LAcc := l.getD i blank13
def plain14 (a : LAcc) : Prop := a.o = key0 ∧ a.s = 0
instance plain14_dec (a : LAcc) : Decidable (plain14 a) := inferInstanceAs (Decidable (a.o = key0 ∧ a.s = 0))
/-- a call's answer -/
structure Res14 where
  e : Int
  l : List LAcc
  n : Int
def bad14 (e : Int) : Res14 := ⟨e, [], 0⟩
def make14 (l : List LAcc) (x : LAsk) (a b : Nat) : Res14 :=
  if getA l b ≠ blank13 then bad14 12
  else if ¬ plain14 (getA l a) then bad14 16
  else if 1048576 < x.space then bad14 3
  else if (getA l a).c < x.coins then bad14 17
  else ⟨0, (l.set a ⟨(getA l a).c - x.coins, (getA l a).o, (getA l a).s⟩).set b ⟨x.coins, x.owner, x.space⟩, x.space⟩
def assign14 (l : List LAcc) (x : LAsk) (a : Nat) : Res14 :=
  if (getA l a).o ≠ key0 then bad14 16 else ⟨0, l.set a ⟨(getA l a).c, x.owner, (getA l a).s⟩, 0⟩
def move14 (l : List LAcc) (x : LAsk) (a b : Nat) : Res14 :=
  if ¬ plain14 (getA l a) then bad14 16
  else if (getA l a).c < x.coins then bad14 17
  else if a = b then ⟨0, l, 0⟩
  else if 18446744073709551615 - x.coins < (getA l b).c then bad14 18
  else ⟨0, (l.set a ⟨(getA l a).c - x.coins, (getA l a).o, (getA l a).s⟩).set b ⟨(getA l b).c + x.coins, (getA l b).o, (getA l b).s⟩, 0⟩
def space14 (l : List LAcc) (x : LAsk) (a : Nat) : Res14 :=
  if ¬ plain14 (getA l a) then bad14 12
  else if 1048576 < x.space then bad14 3
  else ⟨0, l.set a ⟨(getA l a).c, (getA l a).o, x.space⟩, x.space⟩
def deed14 (l : List LAcc) (x : LAsk) (a b : Nat) : Res14 :=
  if x.tag = 0 then make14 l x a b else if x.tag = 1 then assign14 l x a else if x.tag = 2 then move14 l x a b else space14 l x a
def do14 (l : List LAcc) (r : List LRole) (acc dat : List Int) : Res14 :=
  if l.length ≠ r.length then bad14 1
  else match dat14 dat with
  | none => bad14 13
  | some x => if plc14 x r acc ≠ 0 then bad14 (plc14 x r acc) else deed14 l x (acc.getD 0 0).toNat (acc.getD (need14 x - 1) 0).toNat
/-! ### what holds of it -/
structure AskOk (x : LAsk) : Prop where
  tag : x.tag = 0 ∨ x.tag = 1 ∨ x.tag = 2 ∨ x.tag = 8
  c : 0 ≤ x.coins ∧ x.coins < 18446744073709551616
  s : 0 ≤ x.space ∧ x.space < 18446744073709551616
  o : x.owner.length = 32 ∧ AllBytes x.owner
  one : x.tag = 1 → x.space = 0
  two : x.tag = 2 → x.space = 0
theorem bytes_of_all {b : List Int} (h : AllBytes b) : Bytes b := fun i => by
  rw [List.getD_eq_getElem?_getD]
  cases h1 : b[i]? with
  | none => simp
  | some z =>
    have := h z (List.mem_of_getElem? h1)
    exact this
theorem num8_in {b : List Int} (h : AllBytes b) (k : Nat) : 0 ≤ num (b.drop k) 8 ∧ num (b.drop k) 8 < 18446744073709551616 := by
  have := num_bound (b.drop k) (bytes_of_all fun z hz => h z (List.mem_of_mem_drop hz)) 8
  have e : (256 : Int) ^ 8 = 18446744073709551616 := by decide
  rw [e] at this
  exact this
theorem key0_ok : key0.length = 32 ∧ AllBytes key0 := ⟨rfl, fun z hz => by rw [List.eq_of_mem_replicate hz]; constructor <;> decide⟩
theorem zero_lim : (0 : Int) ≤ 0 ∧ (0 : Int) ≤ 1048576 := by decide
theorem zero_u64 : (0 : Int) ≤ 0 ∧ (0 : Int) < 18446744073709551616 := by decide
theorem dat14_ok {b : List Int} (h : AllBytes b) {x : LAsk} (hx : dat14 b = some x) : AskOk x := by
  unfold dat14 at hx
  have hd : ∀ k, AllBytes (b.drop k) := fun k z hz => h z (List.mem_of_mem_drop hz)
  split at hx
  · cases hx
  split at hx
  · rename_i h1 h2
    cases hx
    exact ⟨.inl rfl, num8_in h 4, num8_in h 12, ⟨by rw [List.length_drop]; omega, hd _⟩, fun e => (by cases e), fun e => (by cases e)⟩
  split at hx
  · rename_i h1 h2 h3
    cases hx
    exact ⟨.inr (.inl rfl), zero_u64, zero_u64, ⟨by rw [List.length_drop]; omega, hd _⟩, fun _ => rfl, fun e => (by cases e)⟩
  split at hx
  · cases hx
    exact ⟨.inr (.inr (.inl rfl)), num8_in h 4, zero_u64, key0_ok, fun e => (by cases e), fun _ => rfl⟩
  split at hx
  · cases hx
    exact ⟨.inr (.inr (.inr rfl)), zero_u64, num8_in h 4, key0_ok, fun e => (by cases e), fun e => (by cases e)⟩
  · cases hx
theorem getA_ok {l : List LAcc} (h : ∀ a ∈ l, AccOk a) (i : Nat) : AccOk (getA l i) := by
  unfold getA
  rw [List.getD_eq_getElem?_getD]
  cases h1 : l[i]? with
  | none => exact blank_ok
  | some a => exact h a (List.mem_of_getElem? h1)
theorem getA_at {l : List LAcc} {i : Nat} {a : LAcc} (h : l[i]? = some a) : getA l i = a := by
  unfold getA
  rw [List.getD_eq_getElem?_getD, h]
  rfl
theorem getA_some {l : List LAcc} {i : Nat} (h : i < l.length) : l[i]? = some (getA l i) := by
  rw [List.getElem?_eq_getElem h]
  rw [getA_at (List.getElem?_eq_getElem h)]
theorem getA_set {l : List LAcc} {i k : Nat} {a : LAcc} (hi : i < l.length) : getA (l.set i a) k = if k = i then a else getA l k := by
  unfold getA
  rw [List.getD_eq_getElem?_getD, List.getD_eq_getElem?_getD, List.getElem?_set]
  by_cases e : i = k
  · subst e
    simp [hi]
  · rw [if_neg e, if_neg (fun h => e h.symm)]
theorem set_ok {l : List LAcc} (h : ∀ a ∈ l, AccOk a) {i : Nat} {x : LAcc} (hx : AccOk x) : ∀ a ∈ l.set i x, AccOk a := fun a ha => by
  rcases List.mem_or_eq_of_mem_set ha with ha | rfl
  · exact h a ha
  · exact hx
/-- all coins -/
def sumA : List LAcc → Int
  | [] => 0
  | x :: r => x.c + sumA r
theorem sumA_set : ∀ {l : List LAcc} {i : Nat} (x : LAcc), i < l.length → sumA (l.set i x) = sumA l - (getA l i).c + x.c
  | [], i, x, h => by simp at h
  | a :: r, 0, x, _ => by
    show x.c + sumA r = a.c + sumA r - a.c + x.c
    omega
  | a :: r, i + 1, x, h => by
    have h' : i < r.length := by simpa using h
    have ih := sumA_set (l := r) x h'
    show a.c + sumA (r.set i x) = a.c + sumA r - (getA r i).c + x.c
    omega
theorem sumA_app : ∀ (a b : List LAcc), sumA (a ++ b) = sumA a + sumA b
  | [], b => by simp [sumA]
  | x :: a, b => by
    show x.c + sumA (a ++ b) = x.c + sumA a + sumA b
    rw [sumA_app a b]
    omega
theorem sumA_bound : ∀ {l : List LAcc}, (∀ a ∈ l, AccOk a) → 0 ≤ sumA l ∧ sumA l ≤ l.length * 18446744073709551615
  | [], _ => by simp [sumA]
  | x :: r, h => by
    have h1 := (h x List.mem_cons_self).c
    have h2 := sumA_bound (l := r) fun a ha => h a (List.mem_cons_of_mem _ ha)
    simp only [sumA, List.length_cons]
    omega
/-- what became of accounts, of whom a and b took part -/
structure Deed (l : List LAcc) (out : List LAcc) (n : Int) (a b : Nat) (sa sb : Bool) : Prop where
  len : out.length = l.length
  ok : ∀ x ∈ out, AccOk x
  sum : sumA out = sumA l
  lim : 0 ≤ n ∧ n ≤ 1048576
  off : ∀ k, k ≠ a → k ≠ b → getA out k = getA l k
  own : ∀ k, (getA l k).o ≠ key0 → (getA l k).c ≤ (getA out k).c ∧ (getA out k).o = (getA l k).o
  sg : ∀ k, getA out k ≠ getA l k → (k = a ∧ sa = true) ∨ (k = b ∧ sb = true) ∨ ((getA l k).c ≤ (getA out k).c ∧ (getA out k).o = (getA l k).o ∧ (getA out k).s = (getA l k).s)
  sp : ∀ k, (getA out k).s ≠ (getA l k).s → (getA l k).s = 0 ∧ (getA out k).s = n
theorem plain_is {a : LAcc} (h : ¬ ¬ plain14 a) : a.o = key0 ∧ a.s = 0 := Classical.not_not.1 h
theorem make_deed {l : List LAcc} (hl : ∀ a ∈ l, AccOk a) {x : LAsk} (hx : AskOk x) {a b : Nat} (ha : a < l.length) (hb : b < l.length) (h0 : (make14 l x a b).e = 0) :
    Deed l (make14 l x a b).l (make14 l x a b).n a b true true := by
  unfold make14 at h0 ⊢
  split at h0
  · cases h0
  rename_i h1
  split at h0
  · cases h0
  rename_i h2
  split at h0
  · cases h0
  rename_i h3
  split at h0
  · cases h0
  rename_i h4
  rw [if_neg h1, if_neg h2, if_neg h3, if_neg h4]
  dsimp only
  have h1 : getA l b = blank13 := Classical.not_not.1 h1
  have h2 := plain_is h2
  have oa := getA_ok hl a
  have hb' : b < (l.set a ⟨(getA l a).c - x.coins, (getA l a).o, (getA l a).s⟩).length := by rw [List.length_set]; exact hb
  have ga : ∀ k, getA ((l.set a ⟨(getA l a).c - x.coins, (getA l a).o, (getA l a).s⟩).set b ⟨x.coins, x.owner, x.space⟩) k = if k = b then ⟨x.coins, x.owner, x.space⟩ else if k = a then ⟨(getA l a).c - x.coins, (getA l a).o, (getA l a).s⟩ else getA l k := fun k => by
    rw [getA_set hb', getA_set ha]
  have hcoin : a = b → x.coins = 0 := fun e => by
    subst e
    rw [h1] at h4
    have := hx.c.1
    simp only [blank13] at h4
    omega
  have oo : AccOk ⟨x.coins, x.owner, x.space⟩ := ⟨hx.c, hx.o, hx.s⟩
  have oz : AccOk ⟨(getA l a).c - x.coins, (getA l a).o, (getA l a).s⟩ := ⟨by have := oa.c; have := hx.c; constructor <;> simp only <;> omega, oa.o, oa.s⟩
  refine ⟨by simp, set_ok (set_ok hl oz) oo, ?_, ⟨hx.s.1, by show x.space ≤ 1048576; omega⟩, fun k h5 h6 => by rw [ga, if_neg h6, if_neg h5], fun k hk => ?_, fun k hk => ?_, fun k hk => ?_⟩
  · rw [sumA_set _ hb', sumA_set _ ha, getA_set ha]
    by_cases e : b = a
    · have := hcoin e.symm
      have hz : (getA l a).c = 0 := by rw [← e, h1]; rfl
      rw [if_pos e]
      simp only
      omega
    · rw [if_neg e, h1]
      simp only [blank13]
      omega
  · rw [ga]
    by_cases e : k = b
    · subst e
      rw [h1] at hk
      exact absurd rfl hk
    · rw [if_neg e]
      by_cases e2 : k = a
      · subst e2
        exact absurd h2.1 hk
      · rw [if_neg e2]
        exact ⟨Int.le_refl _, rfl⟩
  · rw [ga] at hk
    by_cases e : k = b
    · exact .inr (.inl ⟨e, rfl⟩)
    · by_cases e2 : k = a
      · exact .inl ⟨e2, rfl⟩
      · rw [if_neg e, if_neg e2] at hk
        exact absurd rfl hk
  · rw [ga] at hk ⊢
    by_cases e : k = b
    · subst e
      rw [if_pos rfl, h1]
      exact ⟨rfl, rfl⟩
    · rw [if_neg e] at hk
      by_cases e2 : k = a
      · subst e2
        rw [if_pos rfl] at hk
        exact absurd rfl hk
      · rw [if_neg e2] at hk
        exact absurd rfl hk
theorem one_deed {l : List LAcc} (hl : ∀ a ∈ l, AccOk a) {y : LAcc} {a b : Nat} (ha : a < l.length) (hy : AccOk y) (hc : y.c = (getA l a).c) (ho : (getA l a).o = key0) {n : Int} (hn : 0 ≤ n ∧ n ≤ 1048576) (hsp : y.s ≠ (getA l a).s → (getA l a).s = 0 ∧ y.s = n) {sb : Bool} :
    Deed l (l.set a y) n a b true sb := by
  have ga : ∀ k, getA (l.set a y) k = if k = a then y else getA l k := fun k => getA_set ha
  refine ⟨by simp, set_ok hl hy, by rw [sumA_set _ ha]; omega, hn, fun k h5 _ => by rw [ga, if_neg h5], fun k hk => ?_, fun k hk => ?_, fun k hk => ?_⟩
  · by_cases e : k = a
    · subst e
      exact absurd ho hk
    · rw [ga, if_neg e]
      exact ⟨Int.le_refl _, rfl⟩
  · by_cases e : k = a
    · exact .inl ⟨e, rfl⟩
    · rw [ga, if_neg e] at hk
      exact absurd rfl hk
  · by_cases e : k = a
    · subst e
      rw [ga, if_pos rfl] at hk ⊢
      exact hsp hk
    · rw [ga, if_neg e] at hk
      exact absurd rfl hk
theorem assign_deed {l : List LAcc} (hl : ∀ a ∈ l, AccOk a) {x : LAsk} (hx : AskOk x) {a : Nat} (b : Nat) (ha : a < l.length) (h0 : (assign14 l x a).e = 0) (sb : Bool) : Deed l (assign14 l x a).l (assign14 l x a).n a b true sb := by
  unfold assign14 at h0 ⊢
  split at h0
  · cases h0
  rename_i h1
  rw [if_neg h1]
  dsimp only
  have oa := getA_ok hl a
  exact one_deed (n := 0) (y := ⟨(getA l a).c, x.owner, (getA l a).s⟩) hl ha ⟨oa.c, hx.o, oa.s⟩ rfl (Classical.not_not.1 h1) (by decide) fun h => absurd rfl h
theorem space_deed {l : List LAcc} (hl : ∀ a ∈ l, AccOk a) {x : LAsk} (hx : AskOk x) {a : Nat} (b : Nat) (ha : a < l.length) (h0 : (space14 l x a).e = 0) (sb : Bool) : Deed l (space14 l x a).l (space14 l x a).n a b true sb := by
  unfold space14 at h0 ⊢
  split at h0
  · cases h0
  rename_i h1
  split at h0
  · cases h0
  rename_i h2
  rw [if_neg h1, if_neg h2]
  dsimp only
  have oa := getA_ok hl a
  have h1 := plain_is h1
  exact one_deed (n := x.space) (y := ⟨(getA l a).c, (getA l a).o, x.space⟩) hl ha ⟨oa.c, oa.o, hx.s⟩ rfl h1.1 ⟨hx.s.1, by show x.space ≤ 1048576; omega⟩ fun _ => ⟨h1.2, rfl⟩
theorem move_deed {l : List LAcc} (hl : ∀ a ∈ l, AccOk a) {x : LAsk} (hx : AskOk x) {a b : Nat} (ha : a < l.length) (hb : b < l.length) (h0 : (move14 l x a b).e = 0) (sb : Bool) :
    Deed l (move14 l x a b).l (move14 l x a b).n a b true sb := by
  unfold move14 at h0 ⊢
  split at h0
  · cases h0
  rename_i h1
  split at h0
  · cases h0
  rename_i h2
  rw [if_neg h1, if_neg h2]
  have h1 := plain_is h1
  have oa := getA_ok hl a
  have ob := getA_ok hl b
  by_cases e : a = b
  · rw [if_pos e]
    exact ⟨rfl, hl, rfl, zero_lim, fun _ _ _ => rfl, fun _ _ => ⟨Int.le_refl _, rfl⟩, fun _ h => absurd rfl h, fun _ h => absurd rfl h⟩
  rw [if_neg e] at h0 ⊢
  split at h0
  · cases h0
  rename_i h3
  rw [if_neg h3]
  dsimp only
  have hb' : b < (l.set a ⟨(getA l a).c - x.coins, (getA l a).o, (getA l a).s⟩).length := by rw [List.length_set]; exact hb
  have ga : ∀ k, getA ((l.set a ⟨(getA l a).c - x.coins, (getA l a).o, (getA l a).s⟩).set b ⟨(getA l b).c + x.coins, (getA l b).o, (getA l b).s⟩) k = if k = b then ⟨(getA l b).c + x.coins, (getA l b).o, (getA l b).s⟩ else if k = a then ⟨(getA l a).c - x.coins, (getA l a).o, (getA l a).s⟩ else getA l k := fun k => by
    rw [getA_set hb', getA_set ha]
  have hc := hx.c
  have oca := oa.c
  have ocb := ob.c
  have o1 : AccOk ⟨(getA l b).c + x.coins, (getA l b).o, (getA l b).s⟩ := ⟨by constructor <;> simp only <;> omega, ob.o, ob.s⟩
  have o2 : AccOk ⟨(getA l a).c - x.coins, (getA l a).o, (getA l a).s⟩ := ⟨by constructor <;> simp only <;> omega, oa.o, oa.s⟩
  refine ⟨by simp, set_ok (set_ok hl o2) o1, ?_, zero_lim, fun k h5 h6 => by rw [ga, if_neg h6, if_neg h5], fun k hk => ?_, fun k hk => ?_, fun k hk => ?_⟩
  · rw [sumA_set _ hb', sumA_set _ ha, getA_set ha, if_neg (fun h => e h.symm)]
    simp only
    omega
  · rw [ga]
    by_cases e1 : k = b
    · subst e1
      rw [if_pos rfl]
      exact ⟨by simp only; omega, rfl⟩
    · rw [if_neg e1]
      by_cases e2 : k = a
      · subst e2
        exact absurd h1.1 hk
      · rw [if_neg e2]
        exact ⟨Int.le_refl _, rfl⟩
  · by_cases e1 : k = b
    · subst e1
      right
      right
      rw [ga, if_pos rfl]
      exact ⟨by simp only; omega, rfl, rfl⟩
    · by_cases e2 : k = a
      · exact .inl ⟨e2, rfl⟩
      · rw [ga, if_neg e1, if_neg e2] at hk
        exact absurd rfl hk
  · rw [ga] at hk
    by_cases e1 : k = b
    · subst e1
      rw [if_pos rfl] at hk
      exact absurd rfl hk
    · rw [if_neg e1] at hk
      by_cases e2 : k = a
      · subst e2
        rw [if_pos rfl] at hk
        exact absurd rfl hk
      · rw [if_neg e2] at hk
        exact absurd rfl hk
end Go.Proofs.Ytodoaebpkmhhmaa

/-
  Of part SheetR: what is needed here.
-/
namespace Go.Proofs.Ytodoaebpkmhhmaa
open Go.RowKit
set_option linter.unusedVariables false
set_option maxRecDepth 100000
/-- an element, as cells -/
structure IsR (h : List Value) : Prop where
  len : h.length = 34
  one : ∀ u ∈ h, u.oneCell' = true
  neq : ∀ w, (binOp .neq 50 (.agg h.toArray) (.agg h.toArray)).run Try.prog w = .ok (.bool false) w
  size : (Try.prog.info? 50).map (·.size) = some h.length
/-- a page's cells: its list, its two signs -/
def sheetC (l : Value) (h f : List Value) : List Value := l :: (h ++ f)
theorem rowSetR {k : Nat} {z : List Value} (hz : z.length = 34) (xs ys : List Value) (hys : (k + 1) * 34 ≤ ys.length) :
    (xs ++ (rowOf k z ++ ys.drop (k * 34))).take (xs.length + k * 34) ++ z ++ (xs ++ (rowOf k z ++ ys.drop (k * 34))).drop (xs.length + k * 34 + z.length) = xs ++ (rowOf (k + 1) z ++ ys.drop ((k + 1) * 34)) := by
  have hl := rowOf_len k hz
  have hl2 : (xs ++ rowOf k z).length = xs.length + k * 34 := by rw [List.length_append, hl]
  have e2 : xs.length + k * 34 + z.length = (xs ++ rowOf k z).length + 34 := by rw [hl2, hz]
  rw [← List.append_assoc, List.take_left' hl2, e2, List.drop_length_add_append, List.drop_drop, rowOf_succ, show k * 34 + 34 = (k + 1) * 34 by omega]
  simp only [List.append_assoc]
end Go.Proofs.Ytodoaebpkmhhmaa
