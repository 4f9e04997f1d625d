/-
  Parts joined: Mem Row Bits Longer Put Msg Get Parse Whole Many Looks PutMsg Read ListV Message GetMsg SameZero SameMsg IsIn Take RefAt BookK Enc Tx Great OpenMsg OpenTx Rules KeyEq Role BookR Math13.
-/
import Derived.Below
import Derived.Laws.OwnMore
import Derived.Deep.AppendLies
import Derived.Deep.Draws
import Derived.Lib.Hide
import Derived.Laws.MakeOwn
import Derived.Laws.CopyOwn
import Derived.Laws.Rows
import Derived.Laws.BitsAllLaws
import Derived.WalkKit
import Derived.Test.YtfaefpniiiandaaDoorRows
import Derived.WalkSpells
import Derived.WalkLawsBesides
import Derived.IntWalk
import Derived.Deep.MidRow
import Derived.Deep.WholeRow
import Derived.Maps.AppendAt
import Derived.OwnWalk
import Derived.Great.BuildSlice
import Derived.Recover
import Derived.Deep.RegionHeld
import Derived.Deep.QuietTactic
import Derived.BigQuiet
import Derived.ChangeKeysEq
import Derived.Deep.RegionHeld2
import Derived.Deep.CutBlock
import Derived.Laws.Tables
import Derived.ProofKit
import Derived.OpenShut
import Derived.ShutString
import Derived.ChangeOld
import Derived.Lib.SmallJoins
import Derived.Deep.Slices
import Derived.Deep.Strs
import Derived.SizedLaws
import Derived.Laws.StructEq
/-
  Of part Mem: what is needed here.
-/
namespace Go.Proofs.YtfaefpniiiandaaDoor
open Go.RowKit
/-- bytes (or numbers of another kind) as cells -/
def cv (k : IntKind) (zs : List Int) : List Value := zs.map (Value.int k)
def bv (zs : List Int) : List Value := cv .u8 zs
theorem cv_length (k : IntKind) (zs : List Int) : (cv k zs).length = zs.length := by simp [cv]
theorem bv_length (zs : List Int) : (bv zs).length = zs.length := cv_length _ zs
theorem bv_getElem? (zs : List Int) (i : Nat) : (bv zs)[i]? = zs[i]?.map (Value.int .u8) := by simp [bv, cv]
theorem bv_at {zs : List Int} {i : Nat} (h : i < zs.length) : (bv zs)[i]? = some (.int .u8 (zs.getD i 0)) := by
  rw [bv_getElem?, List.getD_eq_getElem?_getD, List.getElem?_eq_getElem h]; rfl
theorem bv_one (zs : List Int) : ∀ u ∈ bv zs, u.oneCell' = true := by
  intro u hu
  simp only [bv, cv, List.mem_map] at hu
  obtain ⟨z, _, rfl⟩ := hu
  rfl
theorem addr_block (a : Addr) (n : Nat) : (a.add n).block = a.block := by unfold Addr.add; split <;> rfl
theorem addr_add (a : Addr) (i j : Nat) : (a.add i).add j = a.add (i + j) := by
  unfold Addr.add
  rcases Nat.eq_zero_or_pos i with hi | hi <;> rcases Nat.eq_zero_or_pos j with hj | hj
  · simp [hi, hj]
  · simp [hi, show j ≠ 0 by omega]
  · simp [hj, show i ≠ 0 by omega]
  · simp [show i ≠ 0 by omega, show j ≠ 0 by omega, Nat.add_assoc]
theorem addr_row (g i j : Nat) : (⟨g, i, none⟩ : Addr).add j = ⟨g, i + j, none⟩ := by unfold Addr.add; split <;> simp_all
/-- The slice value '.slice A n c' reads as the cells xs; each cell lies below block B. -/
structure Sees (w : World) (B : Nat) (A : Option Addr) (n : Nat) (xs : List Value) : Prop where
  len : xs.length = n
  cell : ∀ i u, xs[i]? = some u → ∃ a, A = some a ∧ a.block < B ∧ w.cell? (a.add i) = some u
section
variable {w w' : World} {B B' n : Nat} {A : Option Addr} {xs : List Value}
theorem Sees.nil (w : World) (B : Nat) (A : Option Addr) : Sees w B A 0 [] := ⟨rfl, fun i u h => by simp at h⟩
theorem Sees.keep (h : Sees w B A n xs) (hk : ∀ p : Addr, p.block < B → w'.cell? p = w.cell? p) : Sees w' B A n xs :=
  ⟨h.len, fun i u hu => by
    obtain ⟨a, e, hb, hc⟩ := h.cell i u hu
    exact ⟨a, e, hb, (hk _ (by rw [addr_block]; exact hb)).trans hc⟩⟩
theorem Sees.more (h : Sees w B A n xs) (hB : B ≤ B') : Sees w B' A n xs :=
  ⟨h.len, fun i u hu => by
    obtain ⟨a, e, hb, hc⟩ := h.cell i u hu
    exact ⟨a, e, by omega, hc⟩⟩
theorem Sees.below (h : Sees w B A n xs) (hb : Below B w w') : Sees w' B A n xs := h.keep fun _ hp => hb.cell hp
theorem Sees.drew (h : Sees w B A n xs) : Sees w.drew B A n xs := ⟨h.len, h.cell⟩
theorem Sees.drewN (h : Sees w B A n xs) (k : Nat) : Sees (w.drewN k) B A n xs := ⟨h.len, h.cell⟩
theorem Sees.alloc (h : Sees w B A n xs) (hB : B ≤ w.heap.size) (o : Obj) : Sees (w.alloc o) B A n xs := h.keep fun p hp => World.cell?_alloc_lt w o p (by omega)
theorem Sees.setCell (h : Sees w B A n xs) {p : Addr} (hB : B ≤ p.block) (u : Value) : Sees (w.setCell p u) B A n xs :=
  h.keep fun q hq => World.cell?_setCell_other w p q u (fun e => by subst e; omega)
theorem Sees.at_ {k : Nat} (h : Sees w B A n xs) (hk : k < n) : ∃ a u, A = some a ∧ a.block < B ∧ xs[k]? = some u ∧ w.cell? (a.add k) = some u := by
  have hl : k < xs.length := by have := h.len; omega
  obtain ⟨a, e, hb, hc⟩ := h.cell k _ (List.getElem?_eq_getElem hl)
  exact ⟨a, _, e, hb, List.getElem?_eq_getElem hl, hc⟩
theorem Sees.byte {zs : List Int} {k : Nat} (h : Sees w B A n (bv zs)) (hk : k < n) : ∃ a, A = some a ∧ a.block < B ∧ w.cell? (a.add k) = some (.int .u8 (zs.getD k 0)) := by
  obtain ⟨a, u, e, hb, hx, hc⟩ := h.at_ hk
  have hl : k < zs.length := by have := h.len; rw [bv_length] at this; omega
  rw [bv_at hl] at hx
  cases hx
  exact ⟨a, e, hb, hc⟩
end
end Go.Proofs.YtfaefpniiiandaaDoor

/-
  Of part Row: what is needed here.
-/
namespace Go.Proofs.YtfaefpniiiandaaDoor
open Go.RowKit
set_option linter.unusedVariables false
set_option maxRecDepth 100000
/-- block g is just the cells xs of element type t; none is frozen -/
structure Row (w : World) (g : Nat) (t : TypeId) (xs : List Value) : Prop where
  is : w.heap[g]? = some (.cells xs.toArray t (0, 0))
section
variable {w w' : World} {g : Nat} {t : TypeId} {xs : List Value}
theorem Row.lt (h : Row w g t xs) : g < w.heap.size := (Array.getElem?_eq_some_iff.1 h.is).1
theorem Row.cell (h : Row w g t xs) (i : Nat) : w.cell? ⟨g, i, none⟩ = xs[i]? := by rw [cell_of_row w g i xs.toArray t (0, 0) h.is]; simp
theorem Row.frozen (h : Row w g t xs) (i : Nat) : w.frozen? ⟨g, i, none⟩ = false := by
  have := h.is
  simp [World.frozen?, this]
theorem Row.new (w : World) (t : TypeId) (xs : List Value) : Row (w.alloc (.cells xs.toArray t)) w.heap.size t xs := ⟨heap_alloc_new w _⟩
theorem Row.new' (w : World) (t : TypeId) (xs : List Value) {g : Nat} (hg : w.heap.size = g) : Row (w.alloc (.cells xs.toArray t)) g t xs := hg ▸ Row.new w t xs
theorem Row.drew (h : Row w g t xs) : Row w.drew g t xs := ⟨h.is⟩
theorem Row.drewN (h : Row w g t xs) (n : Nat) : Row (w.drewN n) g t xs := ⟨h.is⟩
theorem Row.alloc (h : Row w g t xs) (o : Obj) : Row (w.alloc o) g t xs := ⟨(Below.heap_alloc w o g h.lt).trans h.is⟩
theorem Row.set_ (h : Row w g t xs) (i : Nat) (u : Value) : Row (w.setCell ⟨g, i, none⟩ u) g t (xs.set i u) := by
  have := h.is
  exact ⟨by simp [World.setCell, Array.getElem?_modify, this]⟩
theorem Row.far (h : Row w g t xs) {p : Addr} (hp : g ≠ p.block) (u : Value) : Row (w.setCell p u) g t xs := ⟨(Below.heap_setCell w p u g hp).trans h.is⟩
theorem Row.below {B : Nat} (h : Row w g t xs) (hb : Below B w w') (hg : g < B) : Row w' g t xs := ⟨(hb.block g hg).trans h.is⟩
theorem Row.grown {row : Option Nat} (h : Row w g t xs) (hb : w.grownBy w' row) (hg : some g ≠ row) : Row w' g t xs := ⟨(hb.block g h.lt hg).trans h.is⟩
theorem Row.sees (h : Row w g t xs) (o : Nat) : Sees w w.heap.size (some ⟨g, o, none⟩) (xs.length - o) (xs.drop o) :=
  ⟨by simp, fun i u hu => ⟨_, rfl, h.lt, by rw [addr_row, h.cell]; simpa using hu⟩⟩
theorem Row.sees0 (h : Row w g t xs) : Sees w w.heap.size (some ⟨g, 0, none⟩) xs.length xs := by simpa using h.sees 0
theorem Row.own (h : Row w g t xs) {base : Nat} (hb : base ≤ g) {n : Nat} (hn : n ≤ xs.length) (hm : xs.length ≤ maxLen) : w.ownsRow base t 1 (.slice (some ⟨g, 0, none⟩) n xs.length) n (xs.take n) :=
  ⟨by simp; omega, .inr ⟨g, xs.length, xs.toArray, rfl, hb, h.is, hn, hm, by simp, by simp⟩⟩
end
end Go.Proofs.YtfaefpniiiandaaDoor

/-
  Of part Bits: what is needed here.
-/
namespace Go.Proofs.YtfaefpniiiandaaDoor
open Go.RowKit
set_option linter.unusedVariables false
set_option maxRecDepth 100000
theorem nat_or_add (k y x : Nat) (hy : y < 2 ^ k) (hx : x % 2 ^ k = 0) : y ||| x = y + x := by
  obtain ⟨q, rfl⟩ : 2 ^ k ∣ x := Nat.dvd_of_mod_eq_zero hx
  rw [Nat.or_comm, Nat.add_comm, Nat.two_pow_add_eq_or_of_lt hy]
section
variable (k : Nat) (y x : Int) (h0 : 0 ≤ y) (h1 : y < 2 ^ k) (h2 : 0 ≤ x) (h3 : x % 2 ^ k = 0)
include h0 h1 h2 h3
theorem pow_facts : ∃ a b : Nat, y = a ∧ x = b ∧ a ||| b = a + b := by
  obtain ⟨a, rfl⟩ := Int.eq_ofNat_of_zero_le h0
  obtain ⟨b, rfl⟩ := Int.eq_ofNat_of_zero_le h2
  exact ⟨a, b, rfl, rfl, nat_or_add k a b (by exact_mod_cast h1) (by exact_mod_cast h3)⟩
theorem u64_or_lo (hy : y < 18446744073709551616) (hx : x < 18446744073709551616) : bits .or .u64 y x = y + x := by
  obtain ⟨a, b, rfl, rfl, h⟩ := pow_facts k y x h0 h1 h2 h3
  rw [u64_or_nat a b (by omega) (by omega), h]; simp
end
end Go.Proofs.YtfaefpniiiandaaDoor

/-
  Of part Longer: what is needed here.
-/
namespace Go.Proofs.YtfaefpniiiandaaDoor
open Go.RowKit
set_option linter.unusedVariables false
set_option maxRecDepth 100000
theorem info_u8 : (Tryd.prog.info? 5).map (fun i => (i.zero, i.size, i.bytes)) = some (some (.int .u8 0), 1, 1) := by kernel_rfl
end Go.Proofs.YtfaefpniiiandaaDoor

/-
  Of part Put: what is needed here.
-/
namespace Go.Proofs.YtfaefpniiiandaaDoor
open Go.RowKit
set_option linter.unusedVariables false
set_option maxRecDepth 100000
/-- the bytes of a short number -/
def short (n : Int) : List Int :=
  if n < 128 then [n] else if n < 16384 then [n % 128 + 128, n / 128] else [n % 128 + 128, n / 128 % 128 + 128, n / 16384]
end Go.Proofs.YtfaefpniiiandaaDoor

/-
  Of part Msg: what is needed here.
-/
namespace Go.Proofs.YtfaefpniiiandaaDoor
open Go.RowKit
set_option linter.unusedVariables false
set_option maxRecDepth 100000
/-- an instruction -/
structure LIn where
  p : Int
  acc : List Int
  dat : List Int
/-- a lookup -/
structure LLook where
  tab : List Int
  wr : List Int
  rd : List Int
/-- a message -/
structure LMsg where
  v0 : Bool
  s : Int
  r : Int
  o : Int
  keys : List (List Int)
  recent : List Int
  ins : List LIn
  looks : List LLook
/-- how many, and the bytes -/
def encL (l : List Int) : List Int := short l.length ++ l
def encIn (i : LIn) : List Int := i.p :: (encL i.acc ++ encL i.dat)
def encLook (l : LLook) : List Int := l.tab ++ (encL l.wr ++ encL l.rd)
def encHead (m : LMsg) : List Int := (if m.v0 then [128] else []) ++ [m.s, m.r, m.o]
def encTail (m : LMsg) : List Int := if m.v0 then short m.looks.length ++ m.looks.flatMap encLook else []
/-- a message's bytes -/
def enc (m : LMsg) : List Int := encHead m ++ (short m.keys.length ++ (m.keys.flatten ++ (m.recent ++ (short m.ins.length ++ (m.ins.flatMap encIn ++ encTail m)))))
/-- a byte -/
def IsByte (z : Int) : Prop := 0 ≤ z ∧ z < 256
def AllBytes (l : List Int) : Prop := ∀ z ∈ l, IsByte z
/-- all numbers are bytes, keys have 32 of them -/
structure LMsg.Wf (m : LMsg) : Prop where
  s : IsByte m.s
  r : IsByte m.r
  o : IsByte m.o
  keys : ∀ k ∈ m.keys, k.length = 32 ∧ AllBytes k
  recent : m.recent.length = 32 ∧ AllBytes m.recent
  ins : ∀ i ∈ m.ins, IsByte i.p ∧ AllBytes i.acc ∧ AllBytes i.dat
  looks : ∀ l ∈ m.looks, (l.tab.length = 32 ∧ AllBytes l.tab) ∧ AllBytes l.wr ∧ AllBytes l.rd
/-- a slice of bytes that lies below block B -/
structure BytesIn (w : World) (B : Nat) (v : Value) (l : List Int) : Prop where
  is : ∃ A c, v = .slice A l.length c ∧ Sees w B A l.length (bv l) ∧ l.length ≤ c ∧ c ≤ maxLen
/-- instructions that lie below block B -/
structure InsIn (w : World) (B : Nat) (A : Option Addr) (n : Nat) (l : List LIn) : Prop where
  len : l.length = n
  at_ : ∀ i x, l[i]? = some x → ∃ a va vd, A = some a ∧ a.block < B ∧ w.cell? (a.add (i * 3)) = some (.int .u8 x.p) ∧ w.cell? (a.add (i * 3 + 1)) = some va ∧ w.cell? (a.add (i * 3 + 2)) = some vd ∧ BytesIn w B va x.acc ∧ BytesIn w B vd x.dat
/-- lookups that lie below block B -/
structure LooksIn (w : World) (B : Nat) (A : Option Addr) (n : Nat) (l : List LLook) : Prop where
  len : l.length = n
  at_ : ∀ i x, l[i]? = some x → ∃ a va vd, A = some a ∧ a.block < B ∧ (∀ j u, (bv x.tab ++ [va, vd])[j]? = some u → w.cell? (a.add (i * 34 + j)) = some u) ∧ x.tab.length = 32 ∧ BytesIn w B va x.wr ∧ BytesIn w B vd x.rd
/-- keys that lie below block B -/
structure KeysIn (w : World) (B : Nat) (A : Option Addr) (n : Nat) (l : List (List Int)) : Prop where
  len : l.length = n
  each : ∀ k ∈ l, k.length = 32
  sees : Sees w B A (n * 32) (bv l.flatten)
/-- where a message's lists lie -/
structure Raw where
  KA : Option Addr
  kn : Nat
  kc : Nat
  IA : Option Addr
  n : Nat
  ic : Nat
  LA : Option Addr
  ln : Nat
  lc : Nat
/-- a message's cells -/
def Raw.cells (q : Raw) (m : LMsg) : List Value :=
  [.bool m.v0, .int .u8 m.s, .int .u8 m.r, .int .u8 m.o, .slice q.KA q.kn q.kc] ++ (bv m.recent ++ [.slice q.IA q.n q.ic, .slice q.LA q.ln q.lc])
/-- a message's lists lie below block B -/
structure MsgIn (w : World) (B : Nat) (q : Raw) (m : LMsg) : Prop where
  recent : m.recent.length = 32
  keys : KeysIn w B q.KA q.kn m.keys
  ins : InsIn w B q.IA q.n m.ins
  looks : LooksIn w B q.LA q.ln m.looks
  kn : q.kn ≤ q.kc ∧ q.kc ≤ maxLen
  n : q.n ≤ q.ic ∧ q.ic ≤ maxLen
  ln : q.ln ≤ q.lc ∧ q.lc ≤ maxLen
section
variable {w w' : World} {B B' : Nat}
theorem BytesIn.keep {v : Value} {l : List Int} (h : BytesIn w B v l) (hk : ∀ p : Addr, p.block < B → w'.cell? p = w.cell? p) : BytesIn w' B v l := by
  obtain ⟨A, c, e, hs, h1, h2⟩ := h.is
  exact ⟨A, c, e, hs.keep hk, h1, h2⟩
theorem BytesIn.more {v : Value} {l : List Int} (h : BytesIn w B v l) (hB : B ≤ B') : BytesIn w B' v l := by
  obtain ⟨A, c, e, hs, h1, h2⟩ := h.is
  exact ⟨A, c, e, hs.more hB, h1, h2⟩
theorem InsIn.keep {A : Option Addr} {n : Nat} {l : List LIn} (h : InsIn w B A n l) (hk : ∀ p : Addr, p.block < B → w'.cell? p = w.cell? p) : InsIn w' B A n l :=
  ⟨h.len, fun i x hx => by
    obtain ⟨a, va, vd, e, hb, h1, h2, h3, h4, h5⟩ := h.at_ i x hx
    exact ⟨a, va, vd, e, hb, (hk _ (by rw [addr_block]; exact hb)).trans h1, (hk _ (by rw [addr_block]; exact hb)).trans h2, (hk _ (by rw [addr_block]; exact hb)).trans h3, h4.keep hk, h5.keep hk⟩⟩
theorem InsIn.more {A : Option Addr} {n : Nat} {l : List LIn} (h : InsIn w B A n l) (hB : B ≤ B') : InsIn w B' A n l :=
  ⟨h.len, fun i x hx => by
    obtain ⟨a, va, vd, e, hb, h1, h2, h3, h4, h5⟩ := h.at_ i x hx
    exact ⟨a, va, vd, e, by omega, h1, h2, h3, h4.more hB, h5.more hB⟩⟩
theorem LooksIn.keep {A : Option Addr} {n : Nat} {l : List LLook} (h : LooksIn w B A n l) (hk : ∀ p : Addr, p.block < B → w'.cell? p = w.cell? p) : LooksIn w' B A n l :=
  ⟨h.len, fun i x hx => by
    obtain ⟨a, va, vd, e, hb, h1, h2, h4, h5⟩ := h.at_ i x hx
    exact ⟨a, va, vd, e, hb, fun j u hu => (hk _ (by rw [addr_block]; exact hb)).trans (h1 j u hu), h2, h4.keep hk, h5.keep hk⟩⟩
theorem LooksIn.more {A : Option Addr} {n : Nat} {l : List LLook} (h : LooksIn w B A n l) (hB : B ≤ B') : LooksIn w B' A n l :=
  ⟨h.len, fun i x hx => by
    obtain ⟨a, va, vd, e, hb, h1, h2, h4, h5⟩ := h.at_ i x hx
    exact ⟨a, va, vd, e, by omega, h1, h2, h4.more hB, h5.more hB⟩⟩
theorem KeysIn.keep {A : Option Addr} {n : Nat} {l : List (List Int)} (h : KeysIn w B A n l) (hk : ∀ p : Addr, p.block < B → w'.cell? p = w.cell? p) : KeysIn w' B A n l := ⟨h.len, h.each, h.sees.keep hk⟩
theorem KeysIn.more {A : Option Addr} {n : Nat} {l : List (List Int)} (h : KeysIn w B A n l) (hB : B ≤ B') : KeysIn w B' A n l := ⟨h.len, h.each, h.sees.more hB⟩
variable {q : Raw} {m : LMsg}
theorem MsgIn.keep (h : MsgIn w B q m) (hk : ∀ p : Addr, p.block < B → w'.cell? p = w.cell? p) : MsgIn w' B q m := ⟨h.recent, h.keys.keep hk, h.ins.keep hk, h.looks.keep hk, h.kn, h.n, h.ln⟩
theorem MsgIn.more (h : MsgIn w B q m) (hB : B ≤ B') : MsgIn w B' q m := ⟨h.recent, h.keys.more hB, h.ins.more hB, h.looks.more hB, h.kn, h.n, h.ln⟩
theorem MsgIn.below (h : MsgIn w B q m) (hb : Below B w w') : MsgIn w' B q m := h.keep fun _ hp => hb.cell hp
theorem MsgIn.alloc (h : MsgIn w B q m) (hB : B ≤ w.heap.size) (o : Obj) : MsgIn (w.alloc o) B q m := h.keep fun p hp => World.cell?_alloc_lt w o p (by omega)
theorem MsgIn.drewN (h : MsgIn w B q m) (n : Nat) : MsgIn (w.drewN n) B q m := h.keep fun p hp => rfl
theorem InsIn.below {A : Option Addr} {n : Nat} {l : List LIn} (h : InsIn w B A n l) (hb : Below B w w') : InsIn w' B A n l := h.keep fun _ hp => hb.cell hp
theorem LooksIn.below {A : Option Addr} {n : Nat} {l : List LLook} (h : LooksIn w B A n l) (hb : Below B w w') : LooksIn w' B A n l := h.keep fun _ hp => hb.cell hp
theorem KeysIn.below {A : Option Addr} {n : Nat} {l : List (List Int)} (h : KeysIn w B A n l) (hb : Below B w w') : KeysIn w' B A n l := h.keep fun _ hp => hb.cell hp
theorem BytesIn.below {v : Value} {l : List Int} (h : BytesIn w B v l) (hb : Below B w w') : BytesIn w' B v l := h.keep fun _ hp => hb.cell hp
end
section
variable {q : Raw} {m : LMsg}
theorem cells_len (h : m.recent.length = 32) : (q.cells m).length = 39 := by simp [Raw.cells, bv_length, h]
theorem cells_37 (h : m.recent.length = 32) : (q.cells m)[37]? = some (.slice q.IA q.n q.ic) := by
  simp [Raw.cells, bv_length, h]
theorem cells_one : ∀ u ∈ q.cells m, u.oneCell' = true := by
  intro u hu
  simp only [Raw.cells, List.mem_append, List.mem_cons, List.not_mem_nil, or_false] at hu
  rcases hu with (rfl | rfl | rfl | rfl | rfl) | hu | rfl | rfl
  all_goals first | rfl | exact bv_one _ _ hu
end
end Go.Proofs.YtfaefpniiiandaaDoor

/-
  Of part Get: what is needed here.
-/
namespace Go.Proofs.YtfaefpniiiandaaDoor
open Go.RowKit
set_option linter.unusedVariables false
set_option maxRecDepth 100000
/-- all are bytes -/
def Bytes (zs : List Int) : Prop := ∀ i, 0 ≤ zs.getD i 0 ∧ zs.getD i 0 < 256
theorem tup2_of {k l : IntKind} {a b : Int} {p : Int × Int} (h : p = (a, b)) : Ending.returned (.tuple #[.int k a, .int l b]) = .returned (.tuple #[.int k p.1, .int l p.2]) := by rw [h]
end Go.Proofs.YtfaefpniiiandaaDoor

/-
  Of part Parse: what is needed here.
-/
namespace Go.Proofs.YtfaefpniiiandaaDoor
open Go.RowKit
set_option linter.unusedVariables false
set_option maxRecDepth 100000
theorem AllBytes.drop {zs : List Int} (h : AllBytes zs) (k : Nat) : AllBytes (zs.drop k) := fun z hz => h z (List.mem_of_mem_drop hz)
theorem AllBytes.take {zs : List Int} (h : AllBytes zs) (k : Nat) : AllBytes (zs.take k) := fun z hz => h z (List.mem_of_mem_take hz)
theorem AllBytes.bytes {zs : List Int} (h : AllBytes zs) : Bytes zs := by
  intro i
  rw [List.getD_eq_getElem?_getD]
  by_cases hi : i < zs.length
  · rw [List.getElem?_eq_getElem hi]
    exact h _ (List.getElem_mem hi)
  · rw [List.getElem?_eq_none (by omega)]; simp
end Go.Proofs.YtfaefpniiiandaaDoor

/-
  Of part Whole: what is needed here.
-/
namespace Go.Proofs.YtfaefpniiiandaaDoor
open Go.RowKit
set_option linter.unusedVariables false
set_option maxRecDepth 100000
section
variable {P : Program}
/-- a value of many cells, read from an address -/
theorem run_loadAt_at (w : World) (p : Addr) (ty : TypeId) (cs : List Value) (d : TypeDesc) (hc : ∀ j v, cs[j]? = some v → w.cell? (p.add j) = some v)
    (hu : P.underlying ty = some d) (hd : d.isRow = true) (hi : (P.info? ty).map (·.size) = some cs.length) :
    (Instr.loadAt ty (.pointer (some p))).run P w = .ok (.agg cs.toArray) w := by
  have hl : (loadCells p cs.length).run P w = .ok cs.toArray w := run_loadCells_list (P := P) w p cs hc
  cases hq : P.info? ty with
  | none => simp [hq] at hi
  | some i =>
    have hs : i.size = cs.length := by simpa [hq] using hi
    have hagg : (isAgg ty).run P w = .ok true w := by
      unfold isAgg
      rw [Sem.run_bind, run_underlying hu w]
      cases d <;> simp_all
    simp [Instr.loadAt, Instr.sureAddr, loadVar, Sem.run_bind, hagg, sizeOf, typeInfo, hq, hs, hl]
theorem wpList_load_at {ops : Array Oper} {rest : List Oper} {op : Oper} {a : Act} {w : World} {Q : Exit → Act → World → Prop} (hgd : op.guard = none) (ty : TypeId) (x : Operand) (ho : op.op = .load ty x)
    (p : Addr) (cs : List Value) (d : TypeDesc) (hu : P.underlying ty = some d) (hd : d.isRow = true) (hi : (P.info? ty).map (·.size) = some cs.length) (hc : ∀ j v, cs[j]? = some v → w.cell? (p.add j) = some v)
    (hx : a.eval x = .pointer (some p)) (h : wpList P ops Q rest (a.put op.dst (.agg cs.toArray)) w) : wpList P ops Q (op :: rest) a w :=
  wpList_plain hgd fun _ hK => by
    unfold Oper.wp execOp
    simp only [ho, hx, Sem.run_bind, Sem.run_pure, run_loadAt_at w p ty cs d hc hu hd hi, Result.andThen_ok]
    exact hK _ _ h
/-- the same, the pointer's block a whole row -/
theorem wpList_load_whole {ops : Array Oper} {rest : List Oper} {op : Oper} {a : Act} {w : World} {Q : Exit → Act → World → Prop} (hgd : op.guard = none) (ty : TypeId) (x : Operand) (ho : op.op = .load ty x)
    (g t : Nat) (cs : List Value) (d : TypeDesc) (hu : P.underlying ty = some d) (hd : d.isRow = true) (hi : (P.info? ty).map (·.size) = some cs.length) (hr : Row w g t cs)
    (hx : a.eval x = .pointer (some ⟨g, 0, none⟩)) (h : wpList P ops Q rest (a.put op.dst (.agg cs.toArray)) w) : wpList P ops Q (op :: rest) a w :=
  wpList_load_at hgd ty x ho ⟨g, 0, none⟩ cs d hu hd hi (fun j v hv => by rw [addr_row, hr.cell]; simpa using hv) hx h
/-- a value of many cells into a block that is known whole: the world behind it, of which this is told -/
theorem run_storeAt_whole (w : World) (g ty : Nat) (c cs : List Value) (hr : Row w g ty c) (hi : (P.info? ty).map (·.size) = some cs.length) (hl : c.length = cs.length) (h1 : ∀ u ∈ cs, u.oneCell' = true) :
    (Instr.storeAt ty (.pointer (some ⟨g, 0, none⟩)) (.agg cs.toArray)).run P w = .ok () (w.setRow g cs.toArray) := by
  have := run_storeVar_row (P := P) w g ty ty c.toArray cs.toArray hr.is (by simpa using hi) (by simpa using hl) (all_oneCell_toArray h1)
  simp only [Instr.storeAt, Instr.sureAddr, Sem.run_bind, Sem.run_pure, Result.andThen_ok, this]
/-- but for block g, w' is w -/
structure Turned (w w' : World) (g : Nat) : Prop where
  os : w'.os = w.os
  tape : w'.tape = w.tape
  output : w'.output = w.output
  size : w'.heap.size = w.heap.size
  block : ∀ k, k ≠ g → w'.heap[k]? = w.heap[k]?
theorem turned_setRow (w : World) (g : Nat) (cs : Array Value) : Turned w (w.setRow g cs) g :=
  ⟨rfl, rfl, rfl, by simp, fun k hk => setRow_other w g k cs hk⟩
theorem turned_setCell (w : World) (p : Addr) (u : Value) : Turned w (w.setCell p u) p.block :=
  ⟨rfl, rfl, rfl, by simp [World.setCell], fun k hk => Below.heap_setCell _ _ _ _ hk⟩
theorem row_setRow {w : World} {g t : Nat} {c : List Value} (hr : Row w g t c) (cs : List Value) : Row (w.setRow g cs.toArray) g t cs :=
  ⟨setRow_heap w g c.toArray cs.toArray t _ hr.is⟩
theorem Turned.below {w w' : World} {g B : Nat} (h : Turned w w' g) (hB : B ≤ g) : Below B w w' :=
  ⟨h.os, h.tape, h.output, by rw [h.size]; exact Nat.le_refl _, fun k hk => h.block k (by omega)⟩
theorem Turned.row {w w' : World} {g k t : Nat} {xs : List Value} (h : Turned w w' g) (hr : Row w k t xs) (hk : k ≠ g) : Row w' k t xs := ⟨(h.block k hk).trans hr.is⟩
theorem wpList_store_whole {ops : Array Oper} {rest : List Oper} {op : Oper} {a : Act} {w : World} {Q : Exit → Act → World → Prop} (hgd : op.guard = none) (ty : TypeId) (x y : Operand) (ho : op.op = .store ty x y)
    (g : Nat) (c cs : List Value) (hr : Row w g ty c) (hi : (P.info? ty).map (·.size) = some cs.length) (hl : c.length = cs.length) (h1 : ∀ u ∈ cs, u.oneCell' = true)
    (hx : a.eval x = .pointer (some ⟨g, 0, none⟩)) (hy : a.eval y = .agg cs.toArray)
    (h : ∀ w', Row w' g ty cs → Turned w w' g → wpList P ops Q rest (a.put op.dst undef) w') : wpList P ops Q (op :: rest) a w :=
  wpList_plain hgd fun _ hK => by
    unfold Oper.wp execOp
    simp only [ho, hx, hy, Sem.run_bind, Sem.run_pure, run_storeAt_whole w g ty c cs hr hi hl h1, Result.andThen_ok]
    exact hK _ _ (h _ (row_setRow hr cs) (turned_setRow w g _))
/-- a variable that has just been made is given its value -/
theorem wpList_store_new {ops : Array Oper} {rest : List Oper} {op : Oper} {a : Act} {w0 : World} {c : Array Value} {Q : Exit → Act → World → Prop} (hgd : op.guard = none) (ty : TypeId) (x y : Operand) (ho : op.op = .store ty x y)
    (cs : List Value) (hi : (P.info? ty).map (·.size) = some cs.length) (h1 : ∀ u ∈ cs, u.oneCell' = true) (hl : c.size = cs.length)
    (hx : a.eval x = .pointer (some ⟨w0.heap.size, 0, none⟩)) (hy : a.eval y = .agg cs.toArray)
    (h : ∀ w', Row w' w0.heap.size ty cs → Below w0.heap.size w0 w' → w'.heap.size = w0.heap.size + 1 → wpList P ops Q rest (a.put op.dst undef) w') : wpList P ops Q (op :: rest) a (w0.alloc (.cells c ty)) := by
  have hr : Row (w0.alloc (.cells c ty)) w0.heap.size ty c.toList := by
    have := Row.new w0 ty c.toList
    simpa using this
  refine wpList_store_whole hgd ty x y ho w0.heap.size c.toList cs hr hi (by simpa using hl) h1 hx hy fun w' hr' ht => ?_
  exact h w' hr' (((Below.refl _ w0).alloc (Nat.le_refl _) _).trans (ht.below (Nat.le_refl _))) (by rw [ht.size]; simp)
theorem row_setCells {g t : Nat} : ∀ (cs : List Value) (w : World) (o : Nat) (c : List Value), Row w g t c → o + cs.length ≤ c.length → Row (w.setCells g o cs) g t (c.take o ++ cs ++ c.drop (o + cs.length))
  | [], w, o, c, h, _ => by simpa [World.setCells] using h
  | v :: r, w, o, c, h, hl => by
    have h1 := row_setCells r (w.setCell ⟨g, o, none⟩ v) (o + 1) (c.set o v) (h.set_ o v) (by simp at hl ⊢; omega)
    have e : (c.set o v).take (o + 1) ++ r ++ (c.set o v).drop (o + 1 + r.length) = c.take o ++ (v :: r) ++ c.drop (o + (v :: r).length) := by
      have ho : o < c.length := by simp at hl; omega
      rw [List.take_succ_eq_append_getElem (by simpa using ho), List.drop_set_of_lt (by omega), List.take_set_of_le (Nat.le_refl o)]
      simp only [List.getElem_set_self, List.append_assoc, List.cons_append, List.nil_append, List.length_cons]
      rw [show o + 1 + r.length = o + (r.length + 1) by omega]
    rw [e] at h1
    exact h1
theorem turned_setCells {g : Nat} : ∀ (cs : List Value) (w : World) (o : Nat), Turned w (w.setCells g o cs) g
  | [], w, o => ⟨rfl, rfl, rfl, rfl, fun _ _ => rfl⟩
  | v :: r, w, o => by
    have h1 := turned_setCell w ⟨g, o, none⟩ v
    have h2 := turned_setCells (g := g) r (w.setCell ⟨g, o, none⟩ v) (o + 1)
    exact ⟨h2.os.trans h1.os, h2.tape.trans h1.tape, h2.output.trans h1.output, h2.size.trans h1.size, fun k hk => (h2.block k hk).trans (h1.block k hk)⟩
/-- a value of many cells into a part of a block -/
theorem wpList_store_part {ops : Array Oper} {rest : List Oper} {op : Oper} {a : Act} {w : World} {Q : Exit → Act → World → Prop} (hgd : op.guard = none) (ty : TypeId) (x y : Operand) (ho : op.op = .store ty x y)
    (g t o : Nat) (c cs : List Value) (hr : Row w g t c) (hi : (P.info? ty).map (·.size) = some cs.length) (hl : o + cs.length ≤ c.length) (h1 : ∀ u ∈ cs, u.oneCell' = true)
    (hx : a.eval x = .pointer (some ⟨g, o, none⟩)) (hy : a.eval y = .agg cs.toArray)
    (h : ∀ w', Row w' g t (c.take o ++ cs ++ c.drop (o + cs.length)) → Turned w w' g → wpList P ops Q rest (a.put op.dst undef) w') : wpList P ops Q (op :: rest) a w :=
  wpList_store_mid hgd ty x y ho g o cs.toArray hx hy (fun j hj => ⟨by
      have hj' : j < cs.length := by simpa using hj
      rw [hr.cell, List.getElem?_eq_getElem (by omega)]; rfl, hr.frozen _⟩) (by simpa using hi) (all_oneCell_toArray h1)
    (h _ (by simpa using row_setCells cs w o c hr hl) (turned_setCells cs w o))
end
end Go.Proofs.YtfaefpniiiandaaDoor

/-
  Of part Many: what is needed here.
-/
namespace Go.Proofs.YtfaefpniiiandaaDoor
open Go.RowKit
set_option linter.unusedVariables false
set_option maxRecDepth 100000
theorem own_below {w w' : World} {base n size : Nat} {e : TypeId} {v : Value} {xs : List Value} (h : w.ownsRow base e size v n xs) (hb : Below w.heap.size w w') : w'.ownsRow base e size v n xs := by
  refine ⟨h.1, ?_⟩
  rcases h.2 with h2 | ⟨g, cap, cur, hv, hg, hh, r⟩
  · exact .inl h2
  · exact .inr ⟨g, cap, cur, hv, hg, (hb.block g (Array.getElem?_eq_some_iff.1 hh).1).trans hh, r⟩
/-- from w, with the row v, to w', with the row v': of what was there v's block alone may have been written -/
structure Grew (w w' : World) (v v' : Value) : Prop where
  grown : w.grownBy w' v.ownBlock
  fresh : ∀ k, v'.ownBlock = some k → v.ownBlock = some k ∨ w.heap.size ≤ k
section
variable {w w' w'' : World} {v v' v'' : Value}
theorem Grew.refl (w : World) (v : Value) : Grew w w v v := ⟨World.grownBy.refl w _, fun k h => .inl h⟩
theorem Grew.size (h : Grew w w' v v') : w.heap.size ≤ w'.heap.size := h.grown.size
theorem Grew.trans (h : Grew w w' v v') (k : Grew w' w'' v' v'') : Grew w w'' v v'' :=
  ⟨⟨k.grown.os.trans h.grown.os, k.grown.tape.trans h.grown.tape, k.grown.output.trans h.grown.output, Nat.le_trans h.size k.size, fun i hi hne =>
      (k.grown.block i (Nat.lt_of_lt_of_le hi h.size) fun e => by
        rcases h.fresh i e.symm with h1 | h1
        · exact hne h1.symm
        · omega).trans (h.grown.block i hi hne)⟩,
    fun i hi => by
      rcases k.fresh i hi with h1 | h1
      · exact h.fresh i h1
      · exact .inr (Nat.le_trans h.size h1)⟩
theorem Grew.of_below (hb : Below w.heap.size w w') (v : Value) : Grew w w' v v := ⟨⟨hb.os, hb.tape, hb.output, hb.size, fun k hk _ => hb.block k hk⟩, fun k h => .inl h⟩
theorem Grew.alloc (h : Grew w w' v v') (o : Obj) : Grew w (w'.alloc o) v v' := h.trans (.of_below ((Below.refl _ _).alloc (Nat.le_refl _) o) v')
theorem Grew.row {g t : Nat} {ys : List Value} (h : Grew w w' v v') (hr : Row w g t ys) (hg : some g ≠ v.ownBlock) : Row w' g t ys := hr.grown h.grown hg
theorem Grew.ne {g : Nat} (h : Grew w w' v v') (hg : some g ≠ v.ownBlock) (hlt : g < w.heap.size) : some g ≠ v'.ownBlock := fun e => by
  rcases h.fresh g e.symm with h1 | h1
  · exact hg h1.symm
  · omega
theorem Grew.below {base n size : Nat} {e : TypeId} {xs : List Value} (h : Grew w w' v v') (hown : w.ownsRow base e size v n xs) (hbase : base ≤ w.heap.size) : Below base w w' :=
  (Below.refl base w).grown h.grown hbase fun k hk => (hown.lt k hk).1
end
end Go.Proofs.YtfaefpniiiandaaDoor

/-
  Of part Looks: what is needed here.
-/
namespace Go.Proofs.YtfaefpniiiandaaDoor
open Go.RowKit
set_option linter.unusedVariables false
set_option maxRecDepth 100000
theorem size_key : (Tryd.prog.info? 57).map (·.size) = some 32 := by kernel_rfl
/-- an instruction's cells -/
def inCells (p : Int) (va vd : Value) : List Value := [.int .u8 p, va, vd]
/-- the k-th instruction, in a world that is as it was below B -/
structure InAt (w : World) (B : Nat) (a : Addr) (k : Nat) (x : LIn) (va vd : Value) : Prop where
  cells : ∀ j u, (inCells x.p va vd)[j]? = some u → w.cell? ((a.add (k * 3)).add j) = some u
  acc : BytesIn w B va x.acc
  dat : BytesIn w B vd x.dat
theorem InsIn.get {w : World} {B n : Nat} {A : Option Addr} {l : List LIn} (h : InsIn w B A n l) {k : Nat} (hk : k < n) : ∃ a x va vd, A = some a ∧ a.block < B ∧ l[k]? = some x ∧ InAt w B a k x va vd := by
  obtain ⟨x, hx⟩ : ∃ x, l[k]? = some x := ⟨_, List.getElem?_eq_getElem (by rw [h.len]; exact hk)⟩
  obtain ⟨a, va, vd, rfl, hb, h1, h2, h3, h4, h5⟩ := h.at_ k x hx
  refine ⟨a, x, va, vd, rfl, hb, hx, fun j u hu => ?_, h4, h5⟩
  rw [addr_add]
  match j, hu with
  | 0, hu => cases hu; exact h1
  | 1, hu => cases hu; exact h2
  | 2, hu => cases hu; exact h3
theorem InAt.keep {w w' : World} {B k : Nat} {a : Addr} {x : LIn} {va vd : Value} (h : InAt w B a k x va vd) (ha : a.block < B) (hk : ∀ p : Addr, p.block < B → w'.cell? p = w.cell? p) : InAt w' B a k x va vd :=
  ⟨fun j u hu => (hk _ (by rw [addr_block, addr_block]; exact ha)).trans (h.cells j u hu), h.acc.keep hk, h.dat.keep hk⟩
/-- the k-th lookup -/
structure LookAt (w : World) (B : Nat) (a : Addr) (k : Nat) (x : LLook) (va vd : Value) : Prop where
  cells : ∀ j u, (bv x.tab ++ [va, vd])[j]? = some u → w.cell? ((a.add (k * 34)).add j) = some u
  len : x.tab.length = 32
  wr : BytesIn w B va x.wr
  rd : BytesIn w B vd x.rd
theorem LooksIn.get {w : World} {B n : Nat} {A : Option Addr} {l : List LLook} (h : LooksIn w B A n l) {k : Nat} (hk : k < n) : ∃ a x va vd, A = some a ∧ a.block < B ∧ l[k]? = some x ∧ LookAt w B a k x va vd := by
  obtain ⟨x, hx⟩ : ∃ x, l[k]? = some x := ⟨_, List.getElem?_eq_getElem (by rw [h.len]; exact hk)⟩
  obtain ⟨a, va, vd, rfl, hb, h1, h2, h4, h5⟩ := h.at_ k x hx
  exact ⟨a, x, va, vd, rfl, hb, hx, fun j u hu => by rw [addr_add]; exact h1 j u hu, h2, h4, h5⟩
theorem LookAt.size {w : World} {B k : Nat} {a : Addr} {x : LLook} {va vd : Value} (h : LookAt w B a k x va vd) : (bv x.tab ++ [va, vd]).length = 34 := by simp [bv_length, h.len]
end Go.Proofs.YtfaefpniiiandaaDoor

/-
  Of part PutMsg: what is needed here.
-/
namespace Go.Proofs.YtfaefpniiiandaaDoor
open Go.RowKit
set_option linter.unusedVariables false
set_option maxRecDepth 100000
theorem flatten_get : ∀ (l : List (List Int)) (k : Nat) (x : List Int), (∀ y ∈ l, y.length = 32) → l[k]? = some x → ∀ j, j < 32 → l.flatten[k * 32 + j]? = x[j]?
  | [], k, x, _, h, _, _ => by simp at h
  | y :: r, 0, x, hl, h, j, hj => by
    have : y = x := by simpa using h
    subst this
    have hy := hl y (by simp)
    rw [List.flatten_cons, List.getElem?_append_left (by omega)]
    simp
  | y :: r, k + 1, x, hl, h, j, hj => by
    have hy := hl y (by simp)
    rw [List.flatten_cons, List.getElem?_append_right (by omega)]
    have := flatten_get r k x (fun z hz => hl z (by simp [hz])) (by simpa using h) j hj
    rw [← this]
    congr 1
    omega
/-- the k-th key -/
structure KeyAt (w : World) (a : Addr) (k : Nat) (x : List Int) : Prop where
  cells : ∀ j u, (bv x)[j]? = some u → w.cell? ((a.add (k * 32)).add j) = some u
  len : x.length = 32
theorem KeysIn.get {w : World} {B n : Nat} {A : Option Addr} {l : List (List Int)} (h : KeysIn w B A n l) {k : Nat} (hk : k < n) : ∃ a x, A = some a ∧ a.block < B ∧ l[k]? = some x ∧ KeyAt w a k x := by
  obtain ⟨x, hx⟩ : ∃ x, l[k]? = some x := ⟨_, List.getElem?_eq_getElem (by rw [h.len]; exact hk)⟩
  have hxl := h.each x (List.mem_of_getElem? hx)
  obtain ⟨a, u, e, hb, _, _⟩ := h.sees.at_ (k := k * 32) (by omega)
  refine ⟨a, x, e, hb, hx, fun j u hu => ?_, hxl⟩
  have hj : j < 32 := by have := (List.getElem?_eq_some_iff.1 hu).1; rw [bv_length] at this; omega
  rw [bv_getElem?, ← flatten_get l k x h.each hx j hj, ← bv_getElem?] at hu
  obtain ⟨a', e', _, hc⟩ := h.sees.cell _ u hu
  rw [e] at e'
  cases e'
  rw [addr_add]
  exact hc
theorem KeyAt.keep {w w' : World} {B k : Nat} {a : Addr} {x : List Int} (h : KeyAt w a k x) (ha : a.block < B) (hk : ∀ p : Addr, p.block < B → w'.cell? p = w.cell? p) : KeyAt w' a k x :=
  ⟨fun j u hu => (hk _ (by rw [addr_block, addr_block]; exact ha)).trans (h.cells j u hu), h.len⟩
end Go.Proofs.YtfaefpniiiandaaDoor

/-
  Of part Read: what is needed here.
-/
namespace Go.Proofs.YtfaefpniiiandaaDoor
open Go.RowKit
set_option linter.unusedVariables false
set_option maxRecDepth 100000
/-- but for block p, all that was there is as it was -/
structure But (p : Nat) (w w' : World) : Prop where
  os : w'.os = w.os
  tape : w'.tape = w.tape
  output : w'.output = w.output
  size : w.heap.size ≤ w'.heap.size
  block : ∀ k, k < w.heap.size → k ≠ p → w'.heap[k]? = w.heap[k]?
section
variable {w w' w'' : World} {p B : Nat} {zs : List Int}
theorem But.refl (p : Nat) (w : World) : But p w w := ⟨rfl, rfl, rfl, Nat.le_refl _, fun _ _ _ => rfl⟩
theorem But.trans (h : But p w w') (k : But p w' w'') : But p w w'' :=
  ⟨k.os.trans h.os, k.tape.trans h.tape, k.output.trans h.output, Nat.le_trans h.size k.size, fun i hi hp => (k.block i (Nat.lt_of_lt_of_le hi h.size) hp).trans (h.block i hi hp)⟩
theorem But.of_below (hb : Below w.heap.size w w') (p : Nat) : But p w w' := ⟨hb.os, hb.tape, hb.output, hb.size, fun k hk _ => hb.block k hk⟩
theorem But.of_turned (h : Turned w w' p) : But p w w' := ⟨h.os, h.tape, h.output, by rw [h.size]; exact Nat.le_refl _, fun k _ hk => h.block k hk⟩
theorem But.below (h : But p w w') (hB : B ≤ p) (hs : B ≤ w.heap.size) : Below B w w' := ⟨h.os, h.tape, h.output, h.size, fun k hk => h.block k (by omega) (by omega)⟩
theorem But.row {g t : Nat} {xs : List Value} (h : But p w w') (hr : Row w g t xs) (hg : g ≠ p) : Row w' g t xs := ⟨(h.block g hr.lt hg).trans hr.is⟩
end
theorem But.drew {w w' : World} {p : Nat} (h : But p w w') : But p w w'.drew := ⟨h.os, h.tape, h.output, h.size, h.block⟩
theorem But.alloc {w w' : World} {p : Nat} (h : But p w w') (o : Obj) : But p w (w'.alloc o) := h.trans (.of_below ((Below.refl _ _).alloc (Nat.le_refl _) o) p)
end Go.Proofs.YtfaefpniiiandaaDoor

/-
  Of part ListV: what is needed here.
-/
namespace Go.Proofs.YtfaefpniiiandaaDoor
open Go.RowKit
set_option linter.unusedVariables false
set_option maxRecDepth 100000
section
variable {P : Program}
/-- a slice literal of one element of many cells -/
theorem wpList_buildOne {ops : Array Oper} {rest : List Oper} {o : Oper} {a : Act} {w : World} {Q : Exit → Act → World → Prop} (hg : o.guard = none) (t e : TypeId) (y : Operand) (ho : o.op = .buildSlice t 1 #[(0, y)])
    (cs : List Value) (z : Value) (size bytes : Nat) (hu : P.underlying t = some (.slice e)) (hi : (P.info? e).map (fun i => (i.zero, i.size, i.bytes)) = some (some z, size, bytes)) (hzs : z.cells.size = size) (hs0 : 0 < size) (hs1 : size ≤ 1000)
    (hcs : cs.length = size) (hy : a.eval y = .agg cs.toArray)
    (h : wpList P ops Q rest (a.put o.dst (.slice (some ⟨w.heap.size, 0, none⟩) 1 1)) (w.alloc (.cells cs.toArray e))) : wpList P ops Q (o :: rest) a w := by
  obtain ⟨ie, hie, h1, h2, _⟩ := info_parts hi
  subst h2
  refine wpList_buildSlice hg t e 1 _ ho cs.toArray ie z hu hie h1 (by omega) (by omega) ?_ h
  have := Go.Great.fill_whole (s := ie.size) hs0 [Value.agg cs.toArray] ((Array.range (1 * ie.size)).map (z.cells[· % z.cells.size]!)) (by simp [Value.cells, hcs]) (by simp)
  simpa [hy, Value.cells] using this
end
end Go.Proofs.YtfaefpniiiandaaDoor

/-
  Of part Message: what is needed here.
-/
namespace Go.Proofs.YtfaefpniiiandaaDoor
open Go.RowKit
set_option linter.unusedVariables false
set_option maxRecDepth 100000
def zero32 : List Int := List.replicate 32 0
end Go.Proofs.YtfaefpniiiandaaDoor

/-
  Of part GetMsg: what is needed here.
-/
namespace Go.Proofs.YtfaefpniiiandaaDoor
open Go.RowKit
set_option linter.unusedVariables false
set_option maxRecDepth 100000
section
variable {P : Program}
theorem wp_store_whole {op : Oper} {a : Act} {w : World} {K : Act → World → Prop} {Q : Exit → Act → World → Prop} (ty : TypeId) (x y : Operand) (ho : op.op = .store ty x y)
    (g : Nat) (c cs : List Value) (hr : Row w g ty c) (hi : (P.info? ty).map (·.size) = some cs.length) (hl : c.length = cs.length) (h1 : ∀ u ∈ cs, u.oneCell' = true)
    (hx : a.eval x = .pointer (some ⟨g, 0, none⟩)) (hy : a.eval y = .agg cs.toArray)
    (h : ∀ w', Row w' g ty cs → Turned w w' g → K (a.put op.dst undef) w') : op.wp P a w K Q := by
  unfold Oper.wp execOp
  simp only [ho, hx, hy, Sem.run_bind, Sem.run_pure, run_storeAt_whole w g ty c cs hr hi hl h1, Result.andThen_ok]
  exact h _ (row_setRow hr cs) (turned_setRow w g _)
end
/-- 'wpAnyH_take', the operations a list: the operation comes out written out -/
theorem takeL {P : Program} {L : List Oper} {Q : Exit → Act → World → Prop} {md : Region.Mode} {S : World → Prop} {i : Nat} {oi : Oper} {v : Value} {fuel : Nat} {listed : Array Bool} {a : Act} {w : World} (hi : L[i]? = some oi)
    (hs : Region.noSelect L.toArray = true) (hf : Region.free md L.toArray listed i = true) (hr : (Region.ready md L.toArray listed).contains i = true)
    (hQ : ∀ c a w, Q (.panic c) (a.put oi.dst v) w → Q (.panic c) a w) (hy : YieldsIf P L.toArray S oi v a) (hS : S w)
    (h : wpAnyH P md L.toArray Q S fuel (listed.setIfInBounds i true) (a.put oi.dst v) w) : wpAnyH P md L.toArray Q S (fuel + 1) listed a w :=
  wpAnyH_take (by simpa using hi) hs hf hr hQ hy hS h
/-- 'AllReadyH.cons', likewise, for one operation -/
theorem readyL {P : Program} {L : List Oper} {Q : Exit → Act → World → Prop} {md : Region.Mode} {S : World → Prop} {i : Nat} {o : Oper} {fuel : Nat} {listed : Array Bool} {a : Act} {w : World} (ho : L[i]? = some o) (hr : Region.ready md L.toArray listed = [i])
    (hw : Region.wanted o (yielded L.toArray a.tmps) = true)
    (h : ∀ K' : Act → World → Prop, Shut (∀ a w, S w → wpAnyH P md L.toArray Q S fuel (listed.setIfInBounds i true) a w → K' a w) → Oper.wp P o a w K' Q) : wpAnyH P md L.toArray Q S (fuel + 1) listed a w :=
  wpAnyH_ready hr (by simp) (AllReadyH.cons (by simpa using ho) (fun K hK => by
    rw [if_pos hw]
    exact h K (fun a w hS hW => hK a w hS fun _ => hW)) AllReadyH.nil)
end Go.Proofs.YtfaefpniiiandaaDoor

/-
  Of part SameZero: what is needed here.
-/
namespace Go.Proofs.YtfaefpniiiandaaDoor
open Go.RowKit
set_option linter.unusedVariables false
set_option maxRecDepth 100000
section
variable {P : Program}
theorem wpList_load_atg {ops : Array Oper} {rest : List Oper} {op : Oper} {a : Act} {w : World} {Q : Exit → Act → World → Prop} (hw : Region.wanted op (yielded ops a.tmps) = true) (ty : TypeId) (x : Operand) (ho : op.op = .load ty x)
    (p : Addr) (cs : List Value) (d : TypeDesc) (hu : P.underlying ty = some d) (hd : d.isRow = true) (hi : (P.info? ty).map (·.size) = some cs.length) (hc : ∀ j v, cs[j]? = some v → w.cell? (p.add j) = some v)
    (hx : a.eval x = .pointer (some p)) (h : wpList P ops Q rest (a.put op.dst (.agg cs.toArray)) w) : wpList P ops Q (op :: rest) a w :=
  BigFrame.wpList_want hw fun _ hK => by
    unfold Oper.wp execOp
    simp only [ho, hx, Sem.run_bind, Sem.run_pure, run_loadAt_at w p ty cs d hc hu hd hi, Result.andThen_ok]
    exact hK _ _ h
end
end Go.Proofs.YtfaefpniiiandaaDoor

/-
  Of part SameMsg: what is needed here.
-/
namespace Go.Proofs.YtfaefpniiiandaaDoor
open Go.RowKit
set_option linter.unusedVariables false
set_option maxRecDepth 100000
section
variable {P : Program} {ops : Array Oper} {C : World → Prop} {Q : Act → Prop} {a : Act} {o : Oper} {rest : List Oper}
/-- a value of many cells, read in a region that only reads -/
theorem quiet_load_at (hw : Region.wanted o (yielded ops a.tmps) = true) (ty : TypeId) (x : Operand) (ho : o.op = .load ty x)
    (p : Addr) (cs : List Value) (d : TypeDesc) (hu : P.underlying ty = some d) (hd : d.isRow = true) (hi : (P.info? ty).map (·.size) = some cs.length) (hc : ∀ w, C w → ∀ j v, cs[j]? = some v → w.cell? (p.add j) = some v)
    (hx : a.eval x = .pointer (some p)) (h : wpQuiet P ops C Q rest (a.put o.dst (.agg cs.toArray))) : wpQuiet P ops C Q (o :: rest) a :=
  BigFrame.wpQuiet_want hw fun K hK => ⟨_, fun w hC => by
    unfold Oper.quietAt execOp
    simp only [ho, hx, Sem.run_bind, Sem.run_pure, run_loadAt_at w p ty cs d (hc w hC) hu hd hi, Result.andThen_ok]
    exact ⟨rfl, rfl⟩, hK _ h⟩
end
theorem plainU8 : Tryd.prog.plainKey 5 = true := by kernel_rfl
theorem infoU8 : ∃ i, Tryd.prog.info? 5 = some i := by
  obtain ⟨i, h, _⟩ := info_parts info_u8
  exact ⟨i, h⟩
theorem cellsOfU8 : Tryd.prog.cellsOf 5 = 1 := by kernel_rfl
end Go.Proofs.YtfaefpniiiandaaDoor

/-
  Of part IsIn: what is needed here.
-/
namespace Go.Proofs.YtfaefpniiiandaaDoor
open Go.RowKit
set_option linter.unusedVariables false
set_option maxRecDepth 100000
theorem flatten_at {α : Type} (size : Nat) : ∀ (l : List (List α)) (k : Nat) (x : List α), (∀ (i : Nat) y, l[i]? = some y → y.length = size) → l[k]? = some x → ∀ j u, x[j]? = some u → l.flatten[k * size + j]? = some u
  | [], k, x, _, h, _, _, _ => by simp at h
  | y :: r, 0, x, hl, h, j, u, hu => by
    have : y = x := by simpa using h
    subst this
    have hj := (List.getElem?_eq_some_iff.1 hu).1
    rw [List.flatten_cons, List.getElem?_append_left (by simpa using hj)]
    simpa using hu
  | y :: r, k + 1, x, hl, h, j, u, hu => by
    have hy := hl 0 y (by simp)
    rw [List.flatten_cons, List.getElem?_append_right (by rw [hy, Nat.add_mul]; omega)]
    have := flatten_at size r k x (fun i z hz => hl (i + 1) z (by simpa using hz)) (by simpa using h) j u hu
    rw [← this]
    congr 1
    rw [hy, Nat.add_mul]
    omega
end Go.Proofs.YtfaefpniiiandaaDoor

/-
  Of part Take: what is needed here.
-/
namespace Go.Proofs.YtfaefpniiiandaaDoor
open Go.RowKit
set_option linter.unusedVariables false
set_option maxRecDepth 100000
theorem But.drewN {w w' : World} {p : Nat} (h : But p w w') (n : Nat) : But p w (w'.drewN n) := ⟨h.os, h.tape, h.output, h.size, h.block⟩
end Go.Proofs.YtfaefpniiiandaaDoor

/-
  Of part RefAt: what is needed here.
-/
namespace Go.Proofs.YtfaefpniiiandaaDoor
open Go.RowKit
set_option linter.unusedVariables false
set_option maxRecDepth 100000
/-- two that may come up -/
theorem readyL2 {P : Program} {L : List Oper} {Q : Exit → Act → World → Prop} {md : Region.Mode} {S : World → Prop} {i j : Nat} {o o' : Oper} {fuel : Nat} {listed : Array Bool} {a : Act} {w : World} (ho : L[i]? = some o) (ho' : L[j]? = some o') (hr : Region.ready md L.toArray listed = [i, j])
    (hw : Region.wanted o (yielded L.toArray a.tmps) = true) (hw' : Region.wanted o' (yielded L.toArray a.tmps) = true)
    (h : ∀ K' : Act → World → Prop, Shut (∀ a w, S w → wpAnyH P md L.toArray Q S fuel (listed.setIfInBounds i true) a w → K' a w) → Oper.wp P o a w K' Q)
    (h' : ∀ K' : Act → World → Prop, Shut (∀ a w, S w → wpAnyH P md L.toArray Q S fuel (listed.setIfInBounds j true) a w → K' a w) → Oper.wp P o' a w K' Q) : wpAnyH P md L.toArray Q S (fuel + 1) listed a w :=
  wpAnyH_ready hr (by simp) (AllReadyH.cons (by simpa using ho) (fun K hK => by
    rw [if_pos hw]
    exact h K (fun a w hS hW => hK a w hS fun _ => hW)) (AllReadyH.cons (by simpa using ho') (fun K hK => by
    rw [if_pos hw']
    exact h' K (fun a w hS hW => hK a w hS fun _ => hW)) AllReadyH.nil))
section
variable {P : Program}
/-- 'wpList_buildOne' as one step -/
theorem wp_buildOne {o : Oper} {a : Act} {w : World} {K : Act → World → Prop} {Q : Exit → Act → World → Prop} (t e : TypeId) (y : Operand) (ho : o.op = .buildSlice t 1 #[(0, y)])
    (cs : List Value) (z : Value) (size bytes : Nat) (hu : P.underlying t = some (.slice e)) (hi : (P.info? e).map (fun i => (i.zero, i.size, i.bytes)) = some (some z, size, bytes)) (hzs : z.cells.size = size) (hs0 : 0 < size) (hs1 : size ≤ 1000)
    (hcs : cs.length = size) (hy : a.eval y = .agg cs.toArray)
    (h : K (a.put o.dst (.slice (some ⟨w.heap.size, 0, none⟩) 1 1)) (w.alloc (.cells cs.toArray e))) : o.wp P a w K Q := by
  obtain ⟨ie, hie, h1, h2, _⟩ := info_parts hi
  subst h2
  refine wp_buildSlice t e 1 _ ho cs.toArray ie z hu hie h1 (by omega) (by omega) ?_ h
  have := Go.Great.fill_whole (s := ie.size) hs0 [Value.agg cs.toArray] ((Array.range (1 * ie.size)).map (z.cells[· % z.cells.size]!)) (by simp [Value.cells, hcs]) (by simp)
  simpa [hy, Value.cells] using this
/-- 'wpList_addRow' as one step -/
theorem wp_addRow {w0 : World} {c : Array Value} {o : Oper} {a : Act} {K : Act → World → Prop} {Q : Exit → Act → World → Prop} (s x : Operand) (t : TypeId)
    (ho : o.op = .call { callee := .builtin .append, args := #[s, x], argTypes := #[t, t] })
    (base : Nat) (e : TypeId) (z : Value) (size bytes : Nat) (ht : P.underlying t = some (.slice e)) (hi : (P.info? e).map (fun i => (i.zero, i.size, i.bytes)) = some (some z, size, bytes)) (hzs : z.cells.size = size) (hs0 : 0 < size)
    (v : Value) (n : Nat) (xs cs : List Value) (cc : Nat) (hcs : cs.length = size) (h1 : ∀ u ∈ cs, u.oneCell' = true) (hc : c = cs.toArray) (hs : a.eval s = v) (hown : w0.ownsRow base e size v n xs)
    (hx : a.eval x = .slice (some ⟨w0.heap.size, 0, none⟩) 1 cc) (hbase : base ≤ w0.heap.size) (hnm : n + 1 ≤ maxLen) (hbytes : (n + 1) * bytes ≤ 140737488355328)
    (h : ∀ v' w', w'.ownsRow base e size v' (n + 1) (xs ++ cs) → Grew w0 w' v v' → K (a.put o.dst v') w') : o.wp P a (w0.alloc (.cells c e)) K Q := by
  subst hc
  obtain ⟨i0, hi, hz0, hz1, hz2⟩ := info_parts hi
  have hr := Row.new w0 e cs
  obtain ⟨v', w', hrun, h2, h3, _, h5⟩ := run_append_own_at (P := P) (w0.alloc (.cells cs.toArray e)) base t o.type e i0 z size bytes ht hi hz0 hz1 hz2 hzs hs0 v n xs (hown.alloc _) ⟨w0.heap.size, 0, none⟩ 1 cc cs (by omega)
    (fun j u hu => by rw [addr_row, hr.cell]; simpa using hu) h1 hnm hbytes (by simp; omega)
  unfold Oper.wp execOp
  simp only [ho, resolve, invoke, builtin, Sem.run_bind, Sem.run_pure, Result.andThen_ok, List.map_toArray, List.map_cons, List.map_nil, hs, hx, hrun]
  refine h v' w' h2 ((Grew.of_below ((Below.refl _ w0).alloc (Nat.le_refl _) _) v).trans ⟨h3, fun k hk => ?_⟩)
  rcases h5 with h5 | h5
  · exact .inl (h5 ▸ hk)
  · rw [h5] at hk
    cases hk
    exact .inr (Nat.le_refl _)
end
end Go.Proofs.YtfaefpniiiandaaDoor

/-
  Of part BookK: what is needed here.
-/
namespace Go.Proofs.YtfaefpniiiandaaDoor
open Go.RowKit
set_option linter.unusedVariables false
set_option maxRecDepth 100000
theorem exec_built {a : Act} {o : Oper} (w : World) (t : TypeId) (parts : Array (Nat × Operand)) (cells : Array Value) (ho : o.op = .build t parts) (h : Tryd.prog.built t (parts.map fun (i, x) => (i, a.eval x)).toList = some cells) : (execOp a.eval o).run Tryd.prog w = .ok (.value (.agg cells)) w := by
  simp only [execOp, ho, Sem.run_bind, run_build w t _ cells h, Result.andThen_ok]
  rfl
theorem wp_built {o : Oper} {a : Act} {w : World} {K : Act → World → Prop} {Q : Exit → Act → World → Prop} (t : TypeId) (parts : Array (Nat × Operand)) (cells : Array Value) (ho : o.op = .build t parts)
    (h : Tryd.prog.built t (parts.map fun (i, x) => (i, a.eval x)).toList = some cells) (hK : K (a.put o.dst (.agg cells)) w) : o.wp Tryd.prog a w K Q :=
  wp_build t parts ho (by rw [h]; rfl) (by rw [h]; exact hK)
end Go.Proofs.YtfaefpniiiandaaDoor

/-
  Of part Enc: what is needed here.
-/
namespace Go.Proofs.YtfaefpniiiandaaDoor
open Go.RowKit
set_option linter.unusedVariables false
set_option maxRecDepth 100000
theorem AllBytes.map {α : Type} {f : α → List Int} {l : List α} (h : ∀ x ∈ l, AllBytes (f x)) : AllBytes (l.flatMap f) := fun z hz => by
  obtain ⟨x, hx, hz⟩ := List.mem_flatMap.1 hz
  exact h x hx z hz
end Go.Proofs.YtfaefpniiiandaaDoor

/-
  Of part Tx: what is needed here.
-/
namespace Go.Proofs.YtfaefpniiiandaaDoor
open Go.RowKit
set_option linter.unusedVariables false
set_option maxRecDepth 100000
/-- a transaction -/
structure LTx where
  sigs : List (List Int)
  m : LMsg
/-- all numbers are bytes, signatures have 64 of them -/
structure LTx.Wf (x : LTx) : Prop where
  sigs : ∀ s ∈ x.sigs, s.length = 64 ∧ AllBytes s
  m : x.m.Wf
/-- signatures that lie below block B -/
structure SigsIn (w : World) (B : Nat) (A : Option Addr) (n : Nat) (l : List (List Int)) : Prop where
  len : l.length = n
  each : ∀ k ∈ l, k.length = 64
  sees : Sees w B A (n * 64) (bv l.flatten)
/-- where a transaction's lists lie -/
structure TRaw where
  SA : Option Addr
  sn : Nat
  sc : Nat
  q : Raw
/-- a transaction's cells -/
def TRaw.cells (s : TRaw) (x : LTx) : List Value := .slice s.SA s.sn s.sc :: s.q.cells x.m
/-- a transaction's lists lie below block B -/
structure TxIn (w : World) (B : Nat) (s : TRaw) (x : LTx) : Prop where
  sigs : SigsIn w B s.SA s.sn x.sigs
  sn : s.sn ≤ s.sc ∧ s.sc ≤ maxLen
  m : MsgIn w B s.q x.m
section
variable {w w' : World} {B B' : Nat}
theorem SigsIn.keep {A : Option Addr} {n : Nat} {l : List (List Int)} (h : SigsIn w B A n l) (hk : ∀ p : Addr, p.block < B → w'.cell? p = w.cell? p) : SigsIn w' B A n l := ⟨h.len, h.each, h.sees.keep hk⟩
theorem SigsIn.more {A : Option Addr} {n : Nat} {l : List (List Int)} (h : SigsIn w B A n l) (hB : B ≤ B') : SigsIn w B' A n l := ⟨h.len, h.each, h.sees.more hB⟩
theorem SigsIn.below {A : Option Addr} {n : Nat} {l : List (List Int)} (h : SigsIn w B A n l) (hb : Below B w w') : SigsIn w' B A n l := h.keep fun _ hp => hb.cell hp
variable {s : TRaw} {x : LTx}
theorem TxIn.keep (h : TxIn w B s x) (hk : ∀ p : Addr, p.block < B → w'.cell? p = w.cell? p) : TxIn w' B s x := ⟨h.sigs.keep hk, h.sn, h.m.keep hk⟩
theorem TxIn.more (h : TxIn w B s x) (hB : B ≤ B') : TxIn w B' s x := ⟨h.sigs.more hB, h.sn, h.m.more hB⟩
theorem TxIn.below (h : TxIn w B s x) (hb : Below B w w') : TxIn w' B s x := h.keep fun _ hp => hb.cell hp
theorem TxIn.alloc (h : TxIn w B s x) (hB : B ≤ w.heap.size) (o : Obj) : TxIn (w.alloc o) B s x := h.keep fun p hp => World.cell?_alloc_lt w o p (by omega)
theorem TxIn.drewN (h : TxIn w B s x) (n : Nat) : TxIn (w.drewN n) B s x := h.keep fun p hp => rfl
theorem tcells_len (h : x.m.recent.length = 32) : (s.cells x).length = 40 := by simp [TRaw.cells, cells_len h]
theorem tcells_m (j : Nat) : (s.cells x)[1 + j]? = (s.q.cells x.m)[j]? := by unfold TRaw.cells; rw [show 1 + j = j + 1 by omega]; rfl
theorem tcells_one : ∀ u ∈ s.cells x, u.oneCell' = true := by
  intro u hu
  rcases List.mem_cons.1 hu with rfl | hu
  · rfl
  · exact cells_one u hu
end
theorem flatten_get64 : ∀ (l : List (List Int)) (k : Nat) (x : List Int), (∀ y ∈ l, y.length = 64) → l[k]? = some x → ∀ j, j < 64 → l.flatten[k * 64 + j]? = x[j]?
  | [], k, x, _, h, _, _ => by simp at h
  | y :: r, 0, x, hl, h, j, hj => by
    have : y = x := by simpa using h
    subst this
    have hy := hl y (by simp)
    rw [List.flatten_cons, List.getElem?_append_left (by omega)]
    simp
  | y :: r, k + 1, x, hl, h, j, hj => by
    have hy := hl y (by simp)
    rw [List.flatten_cons, List.getElem?_append_right (by omega)]
    have := flatten_get64 r k x (fun z hz => hl z (by simp [hz])) (by simpa using h) j hj
    rw [← this]
    congr 1
    omega
/-- the k-th signature -/
structure SigAt (w : World) (a : Addr) (k : Nat) (x : List Int) : Prop where
  cells : ∀ j u, (bv x)[j]? = some u → w.cell? ((a.add (k * 64)).add j) = some u
  len : x.length = 64
theorem SigsIn.get {w : World} {B n : Nat} {A : Option Addr} {l : List (List Int)} (h : SigsIn w B A n l) {k : Nat} (hk : k < n) : ∃ a x, A = some a ∧ a.block < B ∧ l[k]? = some x ∧ SigAt w a k x := by
  obtain ⟨x, hx⟩ : ∃ x, l[k]? = some x := ⟨_, List.getElem?_eq_getElem (by rw [h.len]; exact hk)⟩
  have hxl := h.each x (List.mem_of_getElem? hx)
  obtain ⟨a, u, e, hb, _, _⟩ := h.sees.at_ (k := k * 64) (by omega)
  refine ⟨a, x, e, hb, hx, fun j u hu => ?_, hxl⟩
  have hj : j < 64 := by have := (List.getElem?_eq_some_iff.1 hu).1; rw [bv_length] at this; omega
  rw [bv_getElem?, ← flatten_get64 l k x h.each hx j hj, ← bv_getElem?] at hu
  obtain ⟨a', e', _, hc⟩ := h.sees.cell _ u hu
  rw [e] at e'
  cases e'
  rw [addr_add]
  exact hc
theorem SigAt.keep {w w' : World} {B k : Nat} {a : Addr} {x : List Int} (h : SigAt w a k x) (ha : a.block < B) (hk : ∀ p : Addr, p.block < B → w'.cell? p = w.cell? p) : SigAt w' a k x :=
  ⟨fun j u hu => (hk _ (by rw [addr_block, addr_block]; exact ha)).trans (h.cells j u hu), h.len⟩
/-- the zero transaction -/
def zRaw : TRaw := ⟨none, 0, 0, ⟨none, 0, 0, none, 0, 0, none, 0, 0⟩⟩
def zTx : LTx := ⟨[], ⟨false, 0, 0, 0, [], zero32, [], []⟩⟩
end Go.Proofs.YtfaefpniiiandaaDoor

/-
  Of part Great: what is needed here.
-/
namespace Go.Proofs.YtfaefpniiiandaaDoor
open Go.RowKit
set_option linter.unusedVariables false
set_option maxRecDepth 100000
/-- no list of it is longer than memory is wide -/
structure Sized (m : LMsg) : Prop where
  keys : m.keys.length ≤ 140737488355328
  ins : m.ins.length ≤ 140737488355328
  looks : m.looks.length ≤ 140737488355328
  inl : ∀ i ∈ m.ins, i.acc.length ≤ 140737488355328 ∧ i.dat.length ≤ 140737488355328
  lol : ∀ l ∈ m.looks, l.wr.length ≤ 140737488355328 ∧ l.rd.length ≤ 140737488355328
def inSize (l : List LIn) : Nat := (l.map fun i => i.acc.length + i.dat.length).sum
def lookSize (l : List LLook) : Nat := (l.map fun i => i.wr.length + i.rd.length).sum
theorem size_mem {l : List LIn} {x : LIn} (h : x ∈ l) : x.acc.length + x.dat.length ≤ inSize l := by
  induction l with
  | nil => cases h
  | cons y r ih =>
    simp only [inSize, List.map_cons, List.sum_cons] at ih ⊢
    rcases List.mem_cons.1 h with rfl | h
    · omega
    · have := ih h; omega
end Go.Proofs.YtfaefpniiiandaaDoor

/-
  Of part OpenMsg: what is needed here.
-/
namespace Go.Proofs.YtfaefpniiiandaaDoor
open Go.RowKit
set_option linter.unusedVariables false
set_option maxRecDepth 100000
open Go.ChangeShapes Go.WideShapes Go.RowKit
theorem list_of {α : Type} {p : Nat → α → Prop} : ∀ (n : Nat), (∀ i, i < n → ∃ x, p i x) → ∃ l : List α, l.length = n ∧ ∀ i x, l[i]? = some x → p i x
  | 0, _ => ⟨[], rfl, fun i x h => by simp at h⟩
  | n + 1, h => by
    obtain ⟨l, hl, hp⟩ := list_of n fun i hi => h i (by omega)
    obtain ⟨x, hx⟩ := h n (Nat.lt_succ_self _)
    refine ⟨l ++ [x], by simp [hl], fun i y hy => ?_⟩
    by_cases hi : i < n
    · rw [List.getElem?_append_left (by omega)] at hy
      exact hp i y hy
    · rw [List.getElem?_append_right (by omega)] at hy
      have h1 := (List.getElem?_eq_some_iff.1 hy).1
      simp at h1
      have : i = n := by omega
      subst this
      rw [show i - l.length = 0 by omega] at hy
      simp at hy
      exact hy ▸ hx
theorem KeysIn.of_at {w : World} {B : Nat} {A : Option Addr} {n : Nat} {l : List (List Int)} (hn : l.length = n) (h : ∀ (i : Nat) x, l[i]? = some x → x.length = 32 ∧ ∃ a, A = some a ∧ a.block < B ∧ ∀ j u, (bv x)[j]? = some u → w.cell? (a.add (i * 32 + j)) = some u) : KeysIn w B A n l := by
  have he : ∀ k ∈ l, k.length = 32 := fun k hk => by
    obtain ⟨i, hi, rfl⟩ := List.getElem_of_mem hk
    exact (h i _ (List.getElem?_eq_getElem hi)).1
  have hf : l.flatten.length = n * 32 := by
    rw [← hn]
    clear hn h
    induction l with
    | nil => rfl
    | cons y r ih =>
      have h1 := ih (fun k hk => he k (by simp [hk]))
      have h2 := he y (by simp)
      simp only [List.flatten_cons, List.length_append, List.length_cons, h1, h2]
      omega
  refine ⟨hn, he, ⟨by rw [bv_length]; exact hf, fun i u hu => ?_⟩⟩
  have hi := (List.getElem?_eq_some_iff.1 hu).1
  rw [bv_length, hf] at hi
  have hk : i / 32 < l.length := by omega
  obtain ⟨h1, a, rfl, h2, h3⟩ := h (i / 32) _ (List.getElem?_eq_getElem hk)
  refine ⟨_, rfl, h2, ?_⟩
  have hlt : i % 32 < (bv l[i / 32]).length := by rw [bv_length, h1]; omega
  obtain ⟨u', hu'⟩ : ∃ u', (bv l[i / 32])[i % 32]? = some u' := ⟨_, List.getElem?_eq_getElem hlt⟩
  have h4 := h3 _ _ hu'
  rw [show i / 32 * 32 + i % 32 = i by omega] at h4
  rw [h4]
  rw [bv_getElem?] at hu hu'
  obtain ⟨z', hz', rfl⟩ : ∃ z, (l[i / 32])[i % 32]? = some z ∧ u' = .int .u8 z := by
    cases hq : (l[i / 32])[i % 32]? with
    | none => rw [hq] at hu'; simp at hu'
    | some z => rw [hq] at hu'; exact ⟨z, rfl, by simpa using hu'.symm⟩
  have h5 := flatten_at 32 l (i / 32) _ (fun i y hy => he y (List.mem_of_getElem? hy)) (List.getElem?_eq_getElem hk) (i % 32) z' hz'
  rw [show i / 32 * 32 + i % 32 = i by omega] at h5
  rw [h5] at hu
  exact hu
theorem byte_wf {z : Int} (h : (Lit.int .u8 z).wf = true) : IsByte z := by
  have := bounds_u8 h
  unfold IsByte
  omega
section
variable {H : Type} {enc : TypeId × Value → H}
/-- no list in it is longer than the form's reach -/
def Wt (t : TypeId) (d : DataW H) : Prop := ∀ n ∈ d.weights Tryd.prog t, n ≤ reachBytes
theorem wt_all {e : TypeId} : ∀ {l : List (DataW H)}, (∀ n ∈ DataW.weightsAll Tryd.prog e l, n ≤ reachBytes) → ∀ d ∈ l, Wt e d
  | [], _, d, hd => by simp at hd
  | y :: r, h, d, hd => by
    rcases List.mem_cons.1 hd with rfl | hd
    · exact fun n hn => h n (by simp [DataW.weightsAll, hn])
    · exact wt_all (l := r) (fun n hn => h n (by simp [DataW.weightsAll, hn])) d hd
variable {w : World} {base : Nat} {held : Bool}
theorem open_sl {t e : TypeId} {fuel : Nat} {cs : List Value} {x : DataW H × List MemPlace} (ht : Tryd.prog.underlying t = some (.slice e)) (hc : 0 < Tryd.prog.cellsOf e)
    (h : DataW.trod enc Tryd.prog w base (fun _ => true) held fuel t cs = some x) (hw : Wt t x.1) :
    ∃ A n c, cs = [.slice A n c] ∧ n ≤ c ∧ c ≤ maxLen ∧ n * Tryd.prog.bytesOf e ≤ reachBytes ∧ ∀ i, i < n → ∃ a cs' y m, A = some a ∧ a.block < w.heap.size ∧ cs'.length = Tryd.prog.cellsOf e ∧
      (∀ j u, cs'[j]? = some u → w.cell? (a.add (i * Tryd.prog.cellsOf e + j)) = some u) ∧ DataW.trod enc Tryd.prog w base (fun _ => true) held m e cs' = some y ∧ Wt e y.1 := by
  rcases Go.Deep.open_slice ht h with ⟨rfl, rfl⟩ | ⟨a, len, cap, m, n, D, Pl, rfl, hb, hl, hm, hmm, rfl, hx⟩
  · exact ⟨none, 0, 0, rfl, Nat.le_refl _, Nat.zero_le _, by simp, fun i hi => by omega⟩
  · have hm' : m = cap := by simpa using hmm
    have h1 : ((len + (m - len)) * Tryd.prog.bytesOf e) ≤ reachBytes := by
      refine hw _ ?_
      simp [DataW.weights, ht]
    have h2 : ∀ d ∈ (List.range len).map D, Wt e d := wt_all fun n hn => hw n (by simp only [DataW.weights, ht]; simp [hn])
    refine ⟨some a, len, cap, rfl, hl, hm, Nat.le_trans (Nat.mul_le_mul_right _ (by omega)) h1, fun i hi => ?_⟩
    obtain ⟨cs', hcs, htr⟩ := hx i (by omega)
    have hbl := World.cells?_block hcs hc
    obtain ⟨_, hlen, hat⟩ := World.cells?_some hcs
    refine ⟨a, cs', _, n, rfl, by rwa [addr_block] at hbl, hlen, fun j u hu => ?_, htr, h2 _ (by simp; exact ⟨i, hi, rfl⟩)⟩
    have := hat j (by have := (List.getElem?_eq_some_iff.1 hu).1; omega)
    rw [addr_add] at this
    rw [this, hu]
theorem cellsU8 : Tryd.prog.cellsOf 5 = 1 := by kernel_rfl
theorem bytesU8 : Tryd.prog.bytesOf 5 = 1 := by kernel_rfl
theorem cellsKey : Tryd.prog.cellsOf 57 = 32 := by kernel_rfl
theorem bytesKey : Tryd.prog.bytesOf 57 = 32 := by kernel_rfl
theorem cellsHash : Tryd.prog.cellsOf 29 = 32 := by kernel_rfl
theorem cellsIn : Tryd.prog.cellsOf 70 = 3 := by kernel_rfl
theorem bytesIn : Tryd.prog.bytesOf 70 = 56 := by kernel_rfl
theorem cellsLook : Tryd.prog.cellsOf 88 = 34 := by kernel_rfl
theorem bytesLook : Tryd.prog.bytesOf 88 = 80 := by kernel_rfl
theorem cellsBs : Tryd.prog.cellsOf 23 = 1 := by kernel_rfl
theorem reach47 : reachBytes ≤ 140737488355328 := by decide
theorem open_bytes {fuel : Nat} {v : Value} {x : DataW H × List MemPlace} (h : DataW.trod enc Tryd.prog w base (fun _ => true) held fuel 23 [v] = some x) (hw : Wt 23 x.1) :
    ∃ l, BytesIn w w.heap.size v l ∧ AllBytes l ∧ l.length ≤ 140737488355328 := by
  obtain ⟨A, n, c, hcs, h1, h2, h3, h4⟩ := open_sl Tryd.underlying23 (by rw [cellsU8]; omega) h hw
  obtain rfl : v = .slice A n c := by simpa using hcs
  rw [bytesU8] at h3
  have := reach47
  obtain ⟨l, hl, hp⟩ := list_of (α := Int) (p := fun i z => IsByte z ∧ ∃ a, A = some a ∧ a.block < w.heap.size ∧ w.cell? (a.add i) = some (.int .u8 z)) n fun i hi => by
    obtain ⟨a, cs', y, m, e1, e2, e3, e4, e5, _⟩ := h4 i hi
    obtain ⟨z, rfl, _, hz⟩ := DataW.trod_int Tryd.underlying5 e5
    have := e4 0 _ rfl
    rw [cellsU8, Nat.mul_one, Nat.add_zero] at this
    exact ⟨z, byte_wf hz, a, e1, e2, this⟩
  subst hl
  refine ⟨l, ⟨A, c, rfl, ⟨bv_length _, fun i u hu => ?_⟩, h1, h2⟩, fun z hz => ?_, by omega⟩
  · rw [bv_getElem?] at hu
    cases hq : l[i]? with
    | none => rw [hq] at hu; simp at hu
    | some z =>
      rw [hq] at hu
      obtain ⟨_, a, e1, e2, e3⟩ := hp i z hq
      obtain rfl : Value.int .u8 z = u := by simpa using hu
      exact ⟨a, e1, e2, e3⟩
  · obtain ⟨i, hi, rfl⟩ := List.getElem_of_mem hz
    exact (hp i _ (List.getElem?_eq_getElem hi)).1
theorem open_32 {t : TypeId} {fuel : Nat} {cs : List Value} {x : DataW H × List MemPlace} (ht : Tryd.prog.underlying t = some (.array 32 5)) (hc : Tryd.prog.cellsOf t = 32) (h : DataW.trod enc Tryd.prog w base (fun _ => true) held fuel t cs = some x) :
    ∃ l : List Int, cs = bv l ∧ l.length = 32 ∧ AllBytes l := by
  obtain ⟨xs, m, _, _, hl, hxs, hat⟩ := DataW.trod_array ht h
  obtain ⟨l, hll, hp⟩ := list_of (α := Int) (p := fun i z => IsByte z ∧ cs[i]? = some (.int .u8 z)) 32 fun i hi => by
    have h1 := hat i hi
    have hx : xs[i]? = some xs[i] := List.getElem?_eq_getElem (by omega)
    rw [cellsU8, hx] at h1
    obtain ⟨z, hz, _, hwz⟩ := DataW.trod_int Tryd.underlying5 h1
    refine ⟨z, byte_wf hwz, ?_⟩
    have := congrArg List.head? hz
    simpa [List.head?_take] using this
  rw [hc] at hl
  refine ⟨l, List.ext_getElem? fun i => ?_, hll, fun z hz => ?_⟩
  · by_cases hi : i < 32
    · have e := List.getElem?_eq_getElem (l := l) (i := i) (by omega)
      rw [bv_getElem?, e, (hp i _ e).2]
      rfl
    · rw [List.getElem?_eq_none (by omega), List.getElem?_eq_none (by rw [bv_length]; omega)]
  · obtain ⟨i, hi, rfl⟩ := List.getElem_of_mem hz
    exact (hp i _ (List.getElem?_eq_getElem hi)).1
end
open Go.ChangeShapes Go.WideShapes Go.RowKit
theorem three_of {cs : List Value} (h : cs.length = 3) : ∃ a b c, cs = [a, b, c] := by
  match cs, h with
  | [a, b, c], _ => exact ⟨a, b, c, rfl⟩
theorem two_of {cs : List Value} (h : cs.length = 2) : ∃ a b, cs = [a, b] := by
  match cs, h with
  | [a, b], _ => exact ⟨a, b, rfl⟩
section
variable {H : Type} {enc : TypeId × Value → H} {w : World} {base : Nat} {held : Bool}
theorem wt_in {y0 y1 y2 : DataW H} (h : Wt 70 (.agg [y0, y1, y2])) : Wt 23 y1 ∧ Wt 23 y2 := by
  refine ⟨fun n hn => h n ?_, fun n hn => h n ?_⟩ <;> simp only [DataW.weights, Tryd.underlying70] <;> simp [DataW.weightsEach, hn]
theorem wt_look {y0 y1 y2 : DataW H} (h : Wt 88 (.agg [y0, y1, y2])) : Wt 23 y1 ∧ Wt 23 y2 := by
  refine ⟨fun n hn => h n ?_, fun n hn => h n ?_⟩ <;> simp only [DataW.weights, Tryd.underlying88] <;> simp [DataW.weightsEach, hn]
theorem wt_msg {y0 y1 y2 y3 y4 y5 : DataW H} (h : Wt 33 (.agg [y0, y1, y2, y3, y4, y5])) : Wt 27 y2 ∧ Wt 30 y4 ∧ Wt 31 y5 := by
  refine ⟨fun n hn => h n ?_, fun n hn => h n ?_, fun n hn => h n ?_⟩ <;> simp only [DataW.weights, Tryd.underlying33] <;> simp [DataW.weightsEach, hn]
theorem open_keys {fuel : Nat} {v : Value} {x : DataW H × List MemPlace} (h : DataW.trod enc Tryd.prog w base (fun _ => true) held fuel 27 [v] = some x) (hw : Wt 27 x.1) :
    ∃ A n c l, v = .slice A n c ∧ n ≤ c ∧ c ≤ maxLen ∧ KeysIn w w.heap.size A n l ∧ (∀ k ∈ l, k.length = 32 ∧ AllBytes k) ∧ l.length ≤ 140737488355328 := by
  obtain ⟨A, n, c, hcs, h1, h2, h3, h4⟩ := open_sl Tryd.underlying27 (by rw [cellsKey]; omega) h hw
  obtain rfl : v = .slice A n c := by simpa using hcs
  rw [bytesKey] at h3
  have := reach47
  obtain ⟨l, hl, hp⟩ := list_of (α := List Int) (p := fun i z => (z.length = 32 ∧ AllBytes z) ∧ ∃ a, A = some a ∧ a.block < w.heap.size ∧ ∀ j u, (bv z)[j]? = some u → w.cell? (a.add (i * 32 + j)) = some u) n fun i hi => by
    obtain ⟨a, cs', y, m, e1, e2, e3, e4, e5, _⟩ := h4 i hi
    obtain ⟨z, rfl, hz, hz'⟩ := open_32 Tryd.underlying57 cellsKey e5
    rw [cellsKey] at e4
    exact ⟨z, ⟨hz, hz'⟩, a, e1, e2, e4⟩
  subst hl
  refine ⟨A, l.length, c, l, rfl, h1, h2, KeysIn.of_at rfl fun i x hx => ⟨(hp i x hx).1.1, (hp i x hx).2⟩, fun k hk => ?_, by omega⟩
  obtain ⟨i, hi, rfl⟩ := List.getElem_of_mem hk
  exact (hp i _ (List.getElem?_eq_getElem hi)).1
theorem open_ins {fuel : Nat} {v : Value} {x : DataW H × List MemPlace} (h : DataW.trod enc Tryd.prog w base (fun _ => true) held fuel 30 [v] = some x) (hw : Wt 30 x.1) :
    ∃ A n c l, v = .slice A n c ∧ n ≤ c ∧ c ≤ maxLen ∧ InsIn w w.heap.size A n l ∧ (∀ i ∈ l, (IsByte i.p ∧ AllBytes i.acc ∧ AllBytes i.dat) ∧ i.acc.length ≤ 140737488355328 ∧ i.dat.length ≤ 140737488355328) ∧ l.length ≤ 140737488355328 := by
  obtain ⟨A, n, c, hcs, h1, h2, h3, h4⟩ := open_sl Tryd.underlying30 (by rw [cellsIn]; omega) h hw
  obtain rfl : v = .slice A n c := by simpa using hcs
  rw [bytesIn] at h3
  have := reach47
  obtain ⟨l, hl, hp⟩ := list_of (α := LIn) (p := fun i z => ((IsByte z.p ∧ AllBytes z.acc ∧ AllBytes z.dat) ∧ z.acc.length ≤ 140737488355328 ∧ z.dat.length ≤ 140737488355328) ∧
      ∃ a va vd, A = some a ∧ a.block < w.heap.size ∧ w.cell? (a.add (i * 3)) = some (.int .u8 z.p) ∧ w.cell? (a.add (i * 3 + 1)) = some va ∧ w.cell? (a.add (i * 3 + 2)) = some vd ∧ BytesIn w w.heap.size va z.acc ∧ BytesIn w w.heap.size vd z.dat) n fun i hi => by
    obtain ⟨a, cs', y, m, e1, e2, e3, e4, e5, e6⟩ := h4 i hi
    obtain ⟨y0, y1, y2, k, rfl, hl, t0, t1, t2⟩ := Go.Deep.trod_struct3 Tryd.underlying70 e5
    rw [cellsIn] at e3 e4
    obtain ⟨c0, c1, c2, rfl⟩ : ∃ c0 c1 c2, cs' = [c0, c1, c2] := three_of e3
    obtain ⟨w1, w2⟩ := wt_in e6
    have t0' : DataW.trod enc Tryd.prog w base (fun _ => true) held k 5 [c0] = some y0 := by simpa [cellsU8] using t0
    have t1' : DataW.trod enc Tryd.prog w base (fun _ => true) held k 23 [c1] = some y1 := by simpa [cellsBs] using t1
    have t2' : DataW.trod enc Tryd.prog w base (fun _ => true) held k 23 [c2] = some y2 := by simpa [cellsBs] using t2
    obtain ⟨z, hz, _, hz'⟩ := DataW.trod_int Tryd.underlying5 t0'
    obtain rfl : c0 = .int .u8 z := by simpa using hz
    obtain ⟨la, a1, a2, a3⟩ := open_bytes t1' w1
    obtain ⟨ld, d1, d2, d3⟩ := open_bytes t2' w2
    exact ⟨⟨z, la, ld⟩, ⟨⟨byte_wf hz', a2, d2⟩, a3, d3⟩, a, c1, c2, e1, e2, e4 0 _ rfl, e4 1 _ rfl, e4 2 _ rfl, a1, d1⟩
  subst hl
  refine ⟨A, l.length, c, l, rfl, h1, h2, ⟨rfl, fun i x hx => (hp i x hx).2⟩, fun k hk => ?_, by omega⟩
  obtain ⟨i, hi, rfl⟩ := List.getElem_of_mem hk
  exact (hp i _ (List.getElem?_eq_getElem hi)).1
theorem open_looks {fuel : Nat} {v : Value} {x : DataW H × List MemPlace} (h : DataW.trod enc Tryd.prog w base (fun _ => true) held fuel 31 [v] = some x) (hw : Wt 31 x.1) :
    ∃ A n c l, v = .slice A n c ∧ n ≤ c ∧ c ≤ maxLen ∧ LooksIn w w.heap.size A n l ∧ (∀ i ∈ l, ((i.tab.length = 32 ∧ AllBytes i.tab) ∧ AllBytes i.wr ∧ AllBytes i.rd) ∧ i.wr.length ≤ 140737488355328 ∧ i.rd.length ≤ 140737488355328) ∧ l.length ≤ 140737488355328 := by
  obtain ⟨A, n, c, hcs, h1, h2, h3, h4⟩ := open_sl Tryd.underlying31 (by rw [cellsLook]; omega) h hw
  obtain rfl : v = .slice A n c := by simpa using hcs
  rw [bytesLook] at h3
  have := reach47
  obtain ⟨l, hl, hp⟩ := list_of (α := LLook) (p := fun i z => (((z.tab.length = 32 ∧ AllBytes z.tab) ∧ AllBytes z.wr ∧ AllBytes z.rd) ∧ z.wr.length ≤ 140737488355328 ∧ z.rd.length ≤ 140737488355328) ∧
      ∃ a va vd, A = some a ∧ a.block < w.heap.size ∧ (∀ j u, (bv z.tab ++ [va, vd])[j]? = some u → w.cell? (a.add (i * 34 + j)) = some u) ∧ z.tab.length = 32 ∧ BytesIn w w.heap.size va z.wr ∧ BytesIn w w.heap.size vd z.rd) n fun i hi => by
    obtain ⟨a, cs', y, m, e1, e2, e3, e4, e5, e6⟩ := h4 i hi
    obtain ⟨y0, y1, y2, k, rfl, hl, t0, t1, t2⟩ := Go.Deep.trod_struct3 Tryd.underlying88 e5
    rw [cellsLook] at e3 e4
    obtain ⟨w1, w2⟩ := wt_look e6
    have t0' : DataW.trod enc Tryd.prog w base (fun _ => true) held k 57 (cs'.take 32) = some y0 := by simpa [cellsKey] using t0
    obtain ⟨z, hz, hz1, hz2⟩ := open_32 Tryd.underlying57 cellsKey t0'
    obtain ⟨c1, c2, hc12⟩ : ∃ c1 c2, cs'.drop 32 = [c1, c2] := two_of (by rw [List.length_drop, e3])
    obtain rfl : cs' = bv z ++ [c1, c2] := by rw [← hz, ← hc12, List.take_append_drop]
    have t1' : DataW.trod enc Tryd.prog w base (fun _ => true) held k 23 [c1] = some y1 := by
      have := t1
      simp only [cellsBs] at this
      rw [hc12] at this
      exact this
    have t2' : DataW.trod enc Tryd.prog w base (fun _ => true) held k 23 [c2] = some y2 := by
      have := t2
      simp only [cellsBs] at this
      rw [show (33 : Nat) = 32 + 1 from rfl, ← List.drop_drop, hc12] at this
      exact this
    obtain ⟨la, a1, a2, a3⟩ := open_bytes t1' w1
    obtain ⟨ld, d1, d2, d3⟩ := open_bytes t2' w2
    exact ⟨⟨z, la, ld⟩, ⟨⟨⟨hz1, hz2⟩, a2, d2⟩, a3, d3⟩, a, c1, c2, e1, e2, e4, hz1, a1, d1⟩
  subst hl
  refine ⟨A, l.length, c, l, rfl, h1, h2, ⟨rfl, fun i x hx => (hp i x hx).2⟩, fun k hk => ?_, by omega⟩
  obtain ⟨i, hi, rfl⟩ := List.getElem_of_mem hk
  exact (hp i _ (List.getElem?_eq_getElem hi)).1
end
open Go.ChangeShapes Go.WideShapes Go.RowKit
theorem six_of {α : Type} {xs : List α} (h : xs.length = 6) : ∃ a b c d e f, xs = [a, b, c, d, e, f] := by
  match xs, h with
  | [a, b, c, d, e, f], _ => exact ⟨a, b, c, d, e, f, rfl⟩
theorem one_of {cs : List Value} (h : cs.length = 1) : ∃ a, cs = [a] := by
  match cs, h with
  | [a], _ => exact ⟨a, rfl⟩
theorem cellsBool : Tryd.prog.cellsOf 4 = 1 := by kernel_rfl
theorem cellsHead : Tryd.prog.cellsOf 26 = 3 := by kernel_rfl
theorem cellsKeys : Tryd.prog.cellsOf 27 = 1 := by kernel_rfl
theorem cellsIns : Tryd.prog.cellsOf 30 = 1 := by kernel_rfl
theorem cellsLooks : Tryd.prog.cellsOf 31 = 1 := by kernel_rfl
theorem cellsMsg : Tryd.prog.cellsOf 33 = 39 := by kernel_rfl
theorem cut {α : Type} (cs : List α) (a k b : Nat) (h : a + k = b) : cs.drop a = (cs.drop a).take k ++ cs.drop b := by
  subst h
  rw [← List.drop_drop, List.take_append_drop]
section
variable {H : Type} {enc : TypeId × Value → H} {w : World} {base b0 : Nat} {held : Bool}
theorem open_msg_cells {fuel : Nat} {cs : List Value} {x : DataW H × List MemPlace} (hf : DataW.trod enc Tryd.prog w base (fun _ => true) held fuel 33 cs = some x) (hw : Wt 33 x.1) :
    ∃ q m, cs = Raw.cells q m ∧ MsgIn w w.heap.size q m ∧ m.Wf ∧ Sized m := by
  obtain ⟨xs, n, _, hx, hl, hlen, ht⟩ := DataW.trod_struct Tryd.underlying33 hf
  rw [cellsMsg] at hl
  obtain ⟨y0, y1, y2, y3, y4, y5, rfl⟩ := six_of hlen
  have hx1 : x.1 = .agg [y0.1, y1.1, y2.1, y3.1, y4.1, y5.1] := by simpa using congrArg Prod.fst hx
  rw [hx1] at hw
  obtain ⟨w2, w4, w5⟩ := wt_msg hw
  have t0 : DataW.trod enc Tryd.prog w base (fun _ => true) held n 4 ((cs.drop 0).take 1) = some y0 := by rw [← cellsBool]; exact ht 0 _ rfl
  have t1 : DataW.trod enc Tryd.prog w base (fun _ => true) held n 26 ((cs.drop 1).take 3) = some y1 := by rw [← cellsHead]; exact ht 1 _ rfl
  have t2 : DataW.trod enc Tryd.prog w base (fun _ => true) held n 27 ((cs.drop 4).take 1) = some y2 := by rw [← cellsKeys]; exact ht 2 _ rfl
  have t3 : DataW.trod enc Tryd.prog w base (fun _ => true) held n 29 ((cs.drop 5).take 32) = some y3 := by rw [← cellsHash]; exact ht 3 _ rfl
  have t4 : DataW.trod enc Tryd.prog w base (fun _ => true) held n 30 ((cs.drop 37).take 1) = some y4 := by rw [← cellsIns]; exact ht 4 _ rfl
  have t5 : DataW.trod enc Tryd.prog w base (fun _ => true) held n 31 ((cs.drop 38).take 1) = some y5 := by rw [← cellsLooks]; exact ht 5 _ rfl
  have hsplit : cs = (cs.drop 0).take 1 ++ ((cs.drop 1).take 3 ++ ((cs.drop 4).take 1 ++ ((cs.drop 5).take 32 ++ ((cs.drop 37).take 1 ++ (cs.drop 38).take 1)))) := by
    have e5 : cs.drop 38 = (cs.drop 38).take 1 := (List.take_of_length_le (by rw [List.length_drop]; omega)).symm
    rw [← e5, ← cut cs 37 1 38 rfl, ← cut cs 5 32 37 rfl, ← cut cs 4 1 5 rfl, ← cut cs 1 3 4 rfl, ← cut cs 0 1 1 rfl]
    rfl
  obtain ⟨b, hb, _⟩ := DataW.trod_bool Tryd.underlying4 t0
  obtain ⟨z0, z1, z2, k, _, _, s0, s1, s2⟩ := Go.Deep.trod_struct3 Tryd.underlying26 t1
  obtain ⟨c0, c1, c2, hc⟩ := three_of (cs := (cs.drop 1).take 3) (by simp; omega)
  rw [hc] at s0 s1 s2
  have s0' : DataW.trod enc Tryd.prog w base (fun _ => true) held k 5 [c0] = some z0 := by simpa [cellsU8] using s0
  have s1' : DataW.trod enc Tryd.prog w base (fun _ => true) held k 5 [c1] = some z1 := by simpa [cellsU8] using s1
  have s2' : DataW.trod enc Tryd.prog w base (fun _ => true) held k 5 [c2] = some z2 := by simpa [cellsU8] using s2
  obtain ⟨i0, hi0, _, wi0⟩ := DataW.trod_int Tryd.underlying5 s0'
  obtain ⟨i1, hi1, _, wi1⟩ := DataW.trod_int Tryd.underlying5 s1'
  obtain ⟨i2, hi2, _, wi2⟩ := DataW.trod_int Tryd.underlying5 s2'
  obtain ⟨v2, hv2⟩ := one_of (cs := (cs.drop 4).take 1) (by simp; omega)
  obtain ⟨v4, hv4⟩ := one_of (cs := (cs.drop 37).take 1) (by simp; omega)
  obtain ⟨v5, hv5⟩ := one_of (cs := (cs.drop 38).take 1) (by simp; omega)
  rw [hv2] at t2
  rw [hv4] at t4
  rw [hv5] at t5
  obtain ⟨KA, kn, kc, ks, rfl, k1, k2, k3, k4, k5⟩ := open_keys t2 w2
  obtain ⟨hh, hh1, hh2, hh3⟩ := open_32 Tryd.underlying29 cellsHash t3
  obtain ⟨IA, ni, ic, is, rfl, n1, n2, n3, n4, n5⟩ := open_ins t4 w4
  obtain ⟨LA, ln, lc, ls, rfl, l1, l2, l3, l4, l5⟩ := open_looks t5 w5
  obtain rfl : c0 = .int .u8 i0 := by simpa using hi0
  obtain rfl : c1 = .int .u8 i1 := by simpa using hi1
  obtain rfl : c2 = .int .u8 i2 := by simpa using hi2
  refine ⟨⟨KA, kn, kc, IA, ni, ic, LA, ln, lc⟩, ⟨b, i0, i1, i2, ks, hh, is, ls⟩, ?_, ⟨hh2, k3, n3, l3, ⟨k1, k2⟩, ⟨n1, n2⟩, ⟨l1, l2⟩⟩,
    ⟨byte_wf wi0, byte_wf wi1, byte_wf wi2, k4, ⟨hh2, hh3⟩, fun i hi => (n4 i hi).1, fun l hl => (l4 l hl).1⟩, ⟨k5, n5, l5, fun i hi => (n4 i hi).2, fun l hl => (l4 l hl).2⟩⟩
  rw [hsplit, hb, hc, hv2, hh1, hv4, hv5]
  rfl
end
end Go.Proofs.YtfaefpniiiandaaDoor

/-
  Of part OpenTx: what is needed here.
-/
namespace Go.Proofs.YtfaefpniiiandaaDoor
open Go.ChangeShapes Go.WideShapes Go.RowKit
set_option linter.unusedVariables false
set_option maxRecDepth 100000
theorem SigsIn.of_at {w : World} {B : Nat} {A : Option Addr} {n : Nat} {l : List (List Int)} (hn : l.length = n) (h : ∀ (i : Nat) x, l[i]? = some x → x.length = 64 ∧ ∃ a, A = some a ∧ a.block < B ∧ ∀ j u, (bv x)[j]? = some u → w.cell? (a.add (i * 64 + j)) = some u) : SigsIn w B A n l := by
  have he : ∀ k ∈ l, k.length = 64 := fun k hk => by
    obtain ⟨i, hi, rfl⟩ := List.getElem_of_mem hk
    exact (h i _ (List.getElem?_eq_getElem hi)).1
  have hf : l.flatten.length = n * 64 := by
    rw [← hn]
    clear hn h
    induction l with
    | nil => rfl
    | cons y r ih =>
      have h1 := ih (fun k hk => he k (by simp [hk]))
      have h2 := he y (by simp)
      simp only [List.flatten_cons, List.length_append, List.length_cons, h1, h2]
      omega
  refine ⟨hn, he, ⟨by rw [bv_length]; exact hf, fun i u hu => ?_⟩⟩
  have hi := (List.getElem?_eq_some_iff.1 hu).1
  rw [bv_length, hf] at hi
  have hk : i / 64 < l.length := by omega
  obtain ⟨h1, a, rfl, h2, h3⟩ := h (i / 64) _ (List.getElem?_eq_getElem hk)
  refine ⟨_, rfl, h2, ?_⟩
  have hlt : i % 64 < (bv l[i / 64]).length := by rw [bv_length, h1]; omega
  obtain ⟨u', hu'⟩ : ∃ u', (bv l[i / 64])[i % 64]? = some u' := ⟨_, List.getElem?_eq_getElem hlt⟩
  have h4 := h3 _ _ hu'
  rw [show i / 64 * 64 + i % 64 = i by omega] at h4
  rw [h4]
  rw [bv_getElem?] at hu hu'
  obtain ⟨z', hz', rfl⟩ : ∃ z, (l[i / 64])[i % 64]? = some z ∧ u' = .int .u8 z := by
    cases hq : (l[i / 64])[i % 64]? with
    | none => rw [hq] at hu'; simp at hu'
    | some z => rw [hq] at hu'; exact ⟨z, rfl, by simpa using hu'.symm⟩
  have h5 := flatten_at 64 l (i / 64) _ (fun i y hy => he y (List.mem_of_getElem? hy)) (List.getElem?_eq_getElem hk) (i % 64) z' hz'
  rw [show i / 64 * 64 + i % 64 = i by omega] at h5
  rw [h5] at hu
  exact hu
section
variable {H : Type} {enc : TypeId × Value → H} {w : World} {base b0 : Nat} {held : Bool}
theorem cellsSig : Tryd.prog.cellsOf 217 = 64 := by kernel_rfl
theorem bytesSig : Tryd.prog.bytesOf 217 = 64 := by kernel_rfl
theorem cellsSigs : Tryd.prog.cellsOf 24 = 1 := by kernel_rfl
theorem cellsTx : Tryd.prog.cellsOf 35 = 40 := by kernel_rfl
theorem open_64 {t : TypeId} {fuel : Nat} {cs : List Value} {x : DataW H × List MemPlace} (ht : Tryd.prog.underlying t = some (.array 64 5)) (hc : Tryd.prog.cellsOf t = 64) (h : DataW.trod enc Tryd.prog w base (fun _ => true) held fuel t cs = some x) :
    ∃ l : List Int, cs = bv l ∧ l.length = 64 ∧ AllBytes l := by
  obtain ⟨xs, m, _, _, hl, hxs, hat⟩ := DataW.trod_array ht h
  obtain ⟨l, hll, hp⟩ := list_of (α := Int) (p := fun i z => IsByte z ∧ cs[i]? = some (.int .u8 z)) 64 fun i hi => by
    have h1 := hat i hi
    have hx : xs[i]? = some xs[i] := List.getElem?_eq_getElem (by omega)
    rw [cellsU8, hx] at h1
    obtain ⟨z, hz, _, hwz⟩ := DataW.trod_int Tryd.underlying5 h1
    refine ⟨z, byte_wf hwz, ?_⟩
    have := congrArg List.head? hz
    simpa [List.head?_take] using this
  rw [hc] at hl
  refine ⟨l, List.ext_getElem? fun i => ?_, hll, fun z hz => ?_⟩
  · by_cases hi : i < 64
    · have e := List.getElem?_eq_getElem (l := l) (i := i) (by omega)
      rw [bv_getElem?, e, (hp i _ e).2]
      rfl
    · rw [List.getElem?_eq_none (by omega), List.getElem?_eq_none (by rw [bv_length]; omega)]
  · obtain ⟨i, hi, rfl⟩ := List.getElem_of_mem hz
    exact (hp i _ (List.getElem?_eq_getElem hi)).1
theorem open_sigs {fuel : Nat} {v : Value} {x : DataW H × List MemPlace} (h : DataW.trod enc Tryd.prog w base (fun _ => true) held fuel 24 [v] = some x) (hw : Wt 24 x.1) :
    ∃ A n c l, v = .slice A n c ∧ n ≤ c ∧ c ≤ maxLen ∧ SigsIn w w.heap.size A n l ∧ (∀ k ∈ l, k.length = 64 ∧ AllBytes k) ∧ l.length ≤ 140737488355328 := by
  obtain ⟨A, n, c, hcs, h1, h2, h3, h4⟩ := open_sl Tryd.underlying24 (by rw [cellsSig]; omega) h hw
  obtain rfl : v = .slice A n c := by simpa using hcs
  rw [bytesSig] at h3
  have := reach47
  obtain ⟨l, hl, hp⟩ := list_of (α := List Int) (p := fun i z => (z.length = 64 ∧ AllBytes z) ∧ ∃ a, A = some a ∧ a.block < w.heap.size ∧ ∀ j u, (bv z)[j]? = some u → w.cell? (a.add (i * 64 + j)) = some u) n fun i hi => by
    obtain ⟨a, cs', y, m, e1, e2, e3, e4, e5, _⟩ := h4 i hi
    obtain ⟨z, rfl, hz, hz'⟩ := open_64 Tryd.underlying217 cellsSig e5
    rw [cellsSig] at e4
    exact ⟨z, ⟨hz, hz'⟩, a, e1, e2, e4⟩
  subst hl
  refine ⟨A, l.length, c, l, rfl, h1, h2, SigsIn.of_at rfl fun i x hx => ⟨(hp i x hx).1.1, (hp i x hx).2⟩, fun k hk => ?_, by omega⟩
  obtain ⟨i, hi, rfl⟩ := List.getElem_of_mem hk
  exact (hp i _ (List.getElem?_eq_getElem hi)).1
theorem wt_tx {y0 y1 : DataW H} (h : Wt 35 (.agg [y0, y1])) : Wt 24 y0 ∧ Wt 33 y1 := by
  refine ⟨fun n hn => h n ?_, fun n hn => h n ?_⟩ <;> simp only [DataW.weights, Tryd.underlying35] <;> simp [DataW.weightsEach, hn]
theorem open_tx_cells {fuel : Nat} {cs : List Value} {x : DataW H × List MemPlace} (hf : DataW.trod enc Tryd.prog w base (fun _ => true) held fuel 35 cs = some x) (hw : Wt 35 x.1) :
    ∃ s t, cs = TRaw.cells s t ∧ TxIn w w.heap.size s t ∧ t.Wf ∧ Sized t.m ∧ t.sigs.length ≤ 140737488355328 := by
  obtain ⟨xs, n, _, hx, hl, hlen, ht⟩ := DataW.trod_struct Tryd.underlying35 hf
  rw [cellsTx] at hl
  obtain ⟨y0, y1, rfl⟩ : ∃ a b, xs = [a, b] := by
    match xs, hlen with
    | [a, b], _ => exact ⟨a, b, rfl⟩
  have hx1 : x.1 = .agg [y0.1, y1.1] := by simpa using congrArg Prod.fst hx
  rw [hx1] at hw
  obtain ⟨w0, w1⟩ := wt_tx hw
  have t0 : DataW.trod enc Tryd.prog w base (fun _ => true) held n 24 ((cs.drop 0).take 1) = some y0 := by rw [← cellsSigs]; exact ht 0 _ rfl
  have t1 : DataW.trod enc Tryd.prog w base (fun _ => true) held n 33 ((cs.drop 1).take 39) = some y1 := by rw [← cellsMsg]; exact ht 1 _ rfl
  have hsplit : cs = (cs.drop 0).take 1 ++ (cs.drop 1).take 39 := by
    have e5 : cs.drop 1 = (cs.drop 1).take 39 := (List.take_of_length_le (by rw [List.length_drop]; omega)).symm
    rw [← e5, ← cut cs 0 1 1 rfl]
    rfl
  obtain ⟨v0, hv0⟩ := one_of (cs := (cs.drop 0).take 1) (by simp; omega)
  rw [hv0] at t0
  obtain ⟨SA, sn, sc, ss, rfl, k1, k2, k3, k4, k5⟩ := open_sigs t0 w0
  obtain ⟨q, m, e1, e2, e3, e4⟩ := open_msg_cells t1 w1
  refine ⟨⟨SA, sn, sc, q⟩, ⟨ss, m⟩, ?_, ⟨k3, ⟨k1, k2⟩, e2⟩, ⟨k4, e3⟩, e4, k5⟩
  rw [hsplit, hv0, e1]
  rfl
end
end Go.Proofs.YtfaefpniiiandaaDoor

/-
  Of part Rules: what is needed here.
-/
namespace Go.Proofs.YtfaefpniiiandaaDoor
open Go.RowKit
set_option linter.unusedVariables false
set_option maxRecDepth 100000
/-- a lookup's indices -/
def ixs (l : LLook) : Nat := l.wr.length + l.rd.length
/-- all keys -/
def tot (m : LMsg) : Nat := m.keys.length + lookSize m.looks
/-- an instruction that names a key that there is not -/
def astray (tt : Nat) (a : Int) : Bool := decide ((tt : Int) ≤ a)
def pstray (own : Nat) (p : Int) : Bool := decide (p = 0 ∨ (own : Int) ≤ p)
def stray (own tt : Nat) (i : LIn) : Bool := pstray own i.p || i.acc.any (astray tt)
def noix (l : LLook) : Bool := decide (ixs l = 0)
/-- the rules, broken -/
def b1 (x : LTx) : Bool := decide (x.m.s = 0 ∨ (x.sigs.length : Int) ≠ x.m.s)
def b2 (m : LMsg) : Bool := decide (m.s ≤ m.r ∨ (m.keys.length : Int) < m.s + m.o)
def b3 (m : LMsg) : Bool := m.looks.any noix
def b5 (m : LMsg) : Bool := m.ins.any (stray m.keys.length (tot m))
end Go.Proofs.YtfaefpniiiandaaDoor

/-
  Of part KeyEq: what is needed here.
-/
namespace Go.Proofs.YtfaefpniiiandaaDoor
open Go.RowKit
set_option linter.unusedVariables false
set_option maxRecDepth 100000
def same32 (x y : List Int) (is : List Nat) : Bool := is.all fun i => x.getD i 0 == y.getD i 0
theorem eqItems_any (x y : List Int) (w : World) : ∀ (is : List Nat), (∀ i ∈ is, i < x.length ∧ i < y.length) → (Op.eqItems 9999 5 1 (bv x).toArray (bv y).toArray is).run Tryd.prog w = .ok (same32 x y is) w
  | [], _ => by simp [Op.eqItems, same32]
  | i :: is, h => by
    have hi := h i (by simp)
    have hc : (bv x).toArray[i]? = some (.int .u8 (x.getD i 0)) := by
      rw [List.getElem?_toArray]
      exact bv_at hi.1
    have hd : (bv y).toArray[i]? = some (.int .u8 (y.getD i 0)) := by
      rw [List.getElem?_toArray]
      exact bv_at hi.2
    have p := run_part_plain (P := Tryd.prog) w plainU8 (xs := (bv x).toArray) (off := i) hc
    have p2 := run_part_plain (P := Tryd.prog) w plainU8 (xs := (bv y).toArray) (off := i) hd
    have ih := eqItems_any x y w is fun k hk => h k (by simp [hk])
    simp only [Op.eqItems, Nat.mul_one, Sem.run_bind, p, p2, Result.andThen_ok, run_equalIn_int w 9998 5 .u8 .u8 _ _ Tryd.underlying5]
    cases hb : (x.getD i 0 == y.getD i 0)
    · have : same32 x y (i :: is) = false := by simp only [same32, List.all_cons, hb, Bool.false_and]
      rw [this]
      simp
    · have : same32 x y (i :: is) = same32 x y is := by simp only [same32, List.all_cons, hb, Bool.true_and]
      rw [this]
      simpa using ih
theorem same32_iff {x y : List Int} {n : Nat} (hx : x.length = n) (hy : y.length = n) : same32 x y (List.range n) = decide (x = y) := by
  rw [Bool.eq_iff_iff, decide_eq_true_iff]
  unfold same32
  rw [List.all_eq_true]
  constructor
  · intro h
    refine List.ext_getElem (by omega) fun i h1 h2 => ?_
    have := h i (by simp; omega)
    rw [beq_iff_eq, List.getD_eq_getElem?_getD, List.getD_eq_getElem?_getD, List.getElem?_eq_getElem h1, List.getElem?_eq_getElem h2] at this
    exact this
  · rintro rfl i _
    simp
theorem key_eql {x y : List Int} (hx : x.length = 32) (hy : y.length = 32) (w : World) :
    (binOp .eql 57 (.agg (bv x).toArray) (.agg (bv y).toArray)).run Tryd.prog w = .ok (.bool (decide (x = y))) w := by
  obtain ⟨i, hi⟩ := infoU8
  rw [run_eql_struct, show (10000 : Nat) = 9999 + 1 from rfl, run_equalIn_array w 9999 _ _ Tryd.underlying57 hi, cellsOfU8, eqItems_any x y w _ (fun i hi => by simp at hi; omega), same32_iff hx hy]
  rfl
end Go.Proofs.YtfaefpniiiandaaDoor

/-
  Of part Role: what is needed here.
-/
namespace Go.Proofs.YtfaefpniiiandaaDoor
open Go.RowKit
set_option linter.unusedVariables false
set_option maxRecDepth 100000
/-- elements of sz cells each that lie below block B -/
structure CsIn (sz : Nat) (w : World) (B : Nat) (A : Option Addr) (n : Nat) (l : List (List Value)) : Prop where
  len : l.length = n
  each : ∀ k ∈ l, k.length = sz
  sees : Sees w B A (n * sz) l.flatten
theorem cs_flat {sz : Nat} : ∀ {l : List (List Value)}, (∀ k ∈ l, k.length = sz) → l.flatten.length = l.length * sz
  | [], _ => by simp
  | y :: r, h => by
    rw [List.flatten_cons, List.length_append, cs_flat (l := r) (fun z hz => h z (List.mem_cons_of_mem _ hz)), h y (by simp), List.length_cons, Nat.add_mul]
    omega
section
variable {sz n B B' : Nat} {w w' : World} {A : Option Addr} {l : List (List Value)}
theorem CsIn.keep (h : CsIn sz w B A n l) (hk : ∀ p : Addr, p.block < B → w'.cell? p = w.cell? p) : CsIn sz w' B A n l := ⟨h.len, h.each, h.sees.keep hk⟩
theorem CsIn.below (h : CsIn sz w B A n l) (hb : Below B w w') : CsIn sz w' B A n l := ⟨h.len, h.each, h.sees.below hb⟩
theorem CsIn.more (h : CsIn sz w B A n l) (hB : B ≤ B') : CsIn sz w B' A n l := ⟨h.len, h.each, h.sees.more hB⟩
theorem CsIn.get (h : CsIn sz w B A n l) {k : Nat} (hk : k < n) (h0 : 0 < sz) : ∃ a x, A = some a ∧ a.block < B ∧ l[k]? = some x ∧ x.length = sz ∧ ∀ j u, x[j]? = some u → w.cell? ((a.add (k * sz)).add j) = some u := by
  obtain ⟨x, hx⟩ : ∃ x, l[k]? = some x := ⟨_, List.getElem?_eq_getElem (by rw [h.len]; exact hk)⟩
  have hxl := h.each x (List.mem_of_getElem? hx)
  have hat := flatten_at sz l k x (fun i y hy => h.each y (List.mem_of_getElem? hy)) hx
  obtain ⟨u0, hu0⟩ : ∃ u, x[0]? = some u := ⟨_, List.getElem?_eq_getElem (by rw [hxl]; exact h0)⟩
  obtain ⟨a, e, hb, _⟩ := h.sees.cell _ _ (hat 0 u0 hu0)
  refine ⟨a, x, e, hb, hx, hxl, fun j u hu => ?_⟩
  obtain ⟨a', e', _, hc⟩ := h.sees.cell _ _ (hat j u hu)
  rw [e] at e'
  cases e'
  rw [addr_add]
  exact hc
theorem CsIn.nil (w : World) (B : Nat) (A : Option Addr) : CsIn sz w B A 0 [] := ⟨rfl, by simp, by rw [Nat.zero_mul]; exact Sees.nil _ _ _⟩
end
theorem csIn_row {sz : Nat} {w : World} {g t : Nat} {l : List (List Value)} {ys : List Value} {n B : Nat} (hr : Row w g t (l.flatten ++ ys)) (hn : l.length = n) (h : ∀ k ∈ l, k.length = sz) (hB : g < B) : CsIn sz w B (some ⟨g, 0, none⟩) n l :=
  ⟨hn, h, ⟨by rw [cs_flat h, hn], fun i u hu => ⟨_, rfl, hB, by
    rw [addr_row, hr.cell, Nat.zero_add, List.getElem?_append_left (List.getElem?_eq_some_iff.1 hu).1]
    exact hu⟩⟩⟩
/-- a role -/
structure LRole where
  key : List Int
  sg : Bool
  wr : Bool
theorem LRole.ext_iff' {a b : LRole} : a = b ↔ a.key = b.key ∧ a.sg = b.sg ∧ a.wr = b.wr := by
  obtain ⟨x, y, z⟩ := a
  obtain ⟨x', y', z'⟩ := b
  constructor
  · rintro h
    cases h
    exact ⟨rfl, rfl, rfl⟩
  · rintro ⟨h1, h2, h3⟩
    simp only at h1 h2 h3
    rw [h1, h2, h3]
instance : DecidableEq LRole := fun a b => decidable_of_iff (a.key = b.key ∧ a.sg = b.sg ∧ a.wr = b.wr) LRole.ext_iff'.symm
def LRole.cells (r : LRole) : List Value := bv r.key ++ [.bool r.sg, .bool r.wr]
/-- a role whose key has 32 bytes -/
def RoleOk (r : LRole) : Prop := r.key.length = 32 ∧ AllBytes r.key
theorem role_len {r : LRole} (h : r.key.length = 32) : r.cells.length = 34 := by simp [LRole.cells, bv_length, h]
theorem role_one (r : LRole) : ∀ u ∈ r.cells, u.oneCell' = true := by
  intro u hu
  rcases List.mem_append.1 hu with hu | hu
  · exact bv_one _ _ hu
  · simp only [List.mem_cons, List.not_mem_nil, or_false] at hu
    rcases hu with rfl | rfl <;> rfl
theorem role_sg {r : LRole} (h : r.key.length = 32) : r.cells[32]? = some (.bool r.sg) := by
  unfold LRole.cells
  rw [List.getElem?_append_right (by rw [bv_length, h]; omega), bv_length, h]
  rfl
theorem role_wr {r : LRole} (h : r.key.length = 32) : r.cells[33]? = some (.bool r.wr) := by
  unfold LRole.cells
  rw [List.getElem?_append_right (by rw [bv_length, h]; omega), bv_length, h]
  rfl
theorem role_key {r : LRole} {j : Nat} {u : Value} (h : (bv r.key)[j]? = some u) : r.cells[j]? = some u := by
  unfold LRole.cells
  rw [List.getElem?_append_left (List.getElem?_eq_some_iff.1 h).1]
  exact h
theorem size_role {r : LRole} (h : r.key.length = 32) : (Tryd.prog.info? 62).map (·.size) = some r.cells.length := by
  rw [role_len h]
  kernel_rfl
theorem run_part_key (xs : Array Value) (off : Nat) (w : World) : (part 57 xs off).run Tryd.prog w = .ok (.agg (xs.extract off (off + 32))) w := by
  have h1 : (isAgg 57).run Tryd.prog w = .ok true w := by kernel_rfl
  simp [part, h1]
theorem eqItems_at (d : Nat) (x y : List Int) (w : World) : ∀ (is : List Nat), (∀ i ∈ is, i < x.length ∧ i < y.length) → (Op.eqItems (d + 1) 5 1 (bv x).toArray (bv y).toArray is).run Tryd.prog w = .ok (same32 x y is) w
  | [], _ => by simp [Op.eqItems, same32]
  | i :: is, h => by
    have hi := h i (by simp)
    have hc : (bv x).toArray[i]? = some (.int .u8 (x.getD i 0)) := by
      rw [List.getElem?_toArray]
      exact bv_at hi.1
    have hd : (bv y).toArray[i]? = some (.int .u8 (y.getD i 0)) := by
      rw [List.getElem?_toArray]
      exact bv_at hi.2
    have p := run_part_plain (P := Tryd.prog) w plainU8 (xs := (bv x).toArray) (off := i) hc
    have p2 := run_part_plain (P := Tryd.prog) w plainU8 (xs := (bv y).toArray) (off := i) hd
    have ih := eqItems_at d x y w is fun k hk => h k (by simp [hk])
    simp only [Op.eqItems, Nat.mul_one, Sem.run_bind, p, p2, Result.andThen_ok, run_equalIn_int w d 5 .u8 .u8 _ _ Tryd.underlying5]
    cases hb : (x.getD i 0 == y.getD i 0)
    · have : same32 x y (i :: is) = false := by simp only [same32, List.all_cons, hb, Bool.false_and]
      rw [this]
      simp
    · have : same32 x y (i :: is) = same32 x y is := by simp only [same32, List.all_cons, hb, Bool.true_and]
      rw [this]
      simpa using ih
theorem keys_eqIn (d : Nat) {x y : List Int} (hx : x.length = 32) (hy : y.length = 32) (w : World) :
    (Op.equalIn (d + 1 + 1) 57 (.agg (bv x).toArray) (.agg (bv y).toArray)).run Tryd.prog w = .ok (decide (x = y)) w := by
  obtain ⟨i, hi⟩ := infoU8
  rw [run_equalIn_array w (d + 1) _ _ Tryd.underlying57 hi, cellsOfU8, eqItems_at d x y w _ (fun i hi => by simp at hi; omega), same32_iff hx hy]
/-- roles that lie below block B -/
structure RolesIn (w : World) (B : Nat) (A : Option Addr) (n : Nat) (l : List LRole) : Prop where
  cs : CsIn 34 w B A n (l.map LRole.cells)
  ok : ∀ r ∈ l, RoleOk r
section
variable {n B B' : Nat} {w w' : World} {A : Option Addr} {l : List LRole}
theorem RolesIn.len (h : RolesIn w B A n l) : l.length = n := by have := h.cs.len; rwa [List.length_map] at this
theorem RolesIn.keep (h : RolesIn w B A n l) (hk : ∀ p : Addr, p.block < B → w'.cell? p = w.cell? p) : RolesIn w' B A n l := ⟨h.cs.keep hk, h.ok⟩
theorem RolesIn.below (h : RolesIn w B A n l) (hb : Below B w w') : RolesIn w' B A n l := ⟨h.cs.below hb, h.ok⟩
theorem RolesIn.more (h : RolesIn w B A n l) (hB : B ≤ B') : RolesIn w B' A n l := ⟨h.cs.more hB, h.ok⟩
theorem RolesIn.get (h : RolesIn w B A n l) {k : Nat} (hk : k < n) : ∃ a r, A = some a ∧ a.block < B ∧ l[k]? = some r ∧ RoleOk r ∧ ∀ j u, r.cells[j]? = some u → w.cell? ((a.add (k * 34)).add j) = some u := by
  obtain ⟨a, x, e, hb, hx, _, hc⟩ := h.cs.get hk (by omega)
  rw [List.getElem?_map] at hx
  obtain ⟨r, hr, rfl⟩ := Option.map_eq_some_iff.1 hx
  exact ⟨a, r, e, hb, hr, h.ok r (List.mem_of_getElem? hr), hc⟩
theorem RolesIn.nil (w : World) (B : Nat) (A : Option Addr) : RolesIn w B A 0 [] := ⟨CsIn.nil _ _ _, by simp⟩
end
theorem roles_each {l : List LRole} (h : ∀ r ∈ l, RoleOk r) : ∀ k ∈ l.map LRole.cells, k.length = 34 := fun k hk => by
  obtain ⟨r, hr, rfl⟩ := List.mem_map.1 hk
  exact role_len (h r hr).1
theorem roles_row {w : World} {g t : Nat} {l : List LRole} {ys : List Value} {n B : Nat} (hr : Row w g t ((l.map LRole.cells).flatten ++ ys)) (hn : l.length = n) (he : ∀ r ∈ l, RoleOk r) (hB : g < B) : RolesIn w B (some ⟨g, 0, none⟩) n l :=
  ⟨csIn_row hr (by rw [List.length_map, hn]) (roles_each he) hB, he⟩
/-- the zero role -/
def r0 : LRole := ⟨List.replicate 32 0, false, false⟩
def zR : Value := .agg r0.cells.toArray
theorem infoR : (Tryd.prog.info? 62).map (fun i => (i.zero, i.size, i.bytes)) = some (some zR, 34, 34) := by kernel_rfl
end Go.Proofs.YtfaefpniiiandaaDoor

/-
  Of part BookR: what is needed here.
-/
namespace Go.Proofs.YtfaefpniiiandaaDoor
open Go.RowKit
set_option linter.unusedVariables false
set_option maxRecDepth 100000
theorem of_fn32 {l : List Value} (hl : l.length = 32) : ∃ f : Fin 32 → Value, l = List.ofFn f := ⟨fun i => l.getD i undef, by
    refine List.ext_getElem (by simpa using hl) fun i h1 h2 => ?_
    rw [List.getElem_ofFn, List.getD_eq_getElem?_getD, List.getElem?_eq_getElem h1]
    rfl⟩
end Go.Proofs.YtfaefpniiiandaaDoor

/-
  Of part Math13: what is needed here.
-/
namespace Go.Proofs.YtfaefpniiiandaaDoor
set_option linter.unusedVariables false
/-- of two lists of bytes the one goes ahead of the other one -/
def kless : List Int → List Int → Bool
  | _, [] => false
  | [], _ :: _ => true
  | a :: x, b :: y => decide (a < b) || (decide (a = b) && kless x y)
theorem kless_irrefl : ∀ x : List Int, kless x x = false
  | [] => rfl
  | a :: x => by simp [kless, kless_irrefl x]
theorem kless_trans : ∀ x y z : List Int, kless x y = true → kless y z = true → kless x z = true
  | _, _, [], _, h => by simp [kless] at h
  | _, [], _ :: _, h, _ => by simp [kless] at h
  | [], _ :: _, _ :: _, _, _ => rfl
  | a :: x, b :: y, c :: z, h1, h2 => by
    simp only [kless, Bool.or_eq_true, Bool.and_eq_true, decide_eq_true_iff] at h1 h2 ⊢
    rcases h1 with h1 | ⟨h1, h1'⟩ <;> rcases h2 with h2 | ⟨h2, h2'⟩
    · left; omega
    · left; omega
    · left; omega
    · right; exact ⟨by omega, kless_trans x y z h1' h2'⟩
theorem kless_total : ∀ x y : List Int, kless x y = false → kless y x = false → x = y
  | [], [], _, _ => rfl
  | [], _ :: _, h, _ => by simp [kless] at h
  | _ :: _, [], _, h => by simp [kless] at h
  | a :: x, b :: y, h1, h2 => by
    simp only [kless, Bool.or_eq_false_iff, Bool.and_eq_false_iff, decide_eq_false_iff_not] at h1 h2
    have e : a = b := by omega
    subst e
    have h3 : kless x y = false := by rcases h1.2 with h | h <;> simp_all
    have h4 : kless y x = false := by rcases h2.2 with h | h <;> simp_all
    rw [kless_total x y h3 h4]
theorem kless_asymm {x y : List Int} (h : kless x y = true) : kless y x = false := by
  cases h2 : kless y x with
  | false => rfl
  | true =>
    have := kless_trans x y x h h2
    rw [kless_irrefl] at this
    cases this
theorem kless_ne {x y : List Int} (h : kless x y = true) : x ≠ y := fun e => by
  subst e
  rw [kless_irrefl] at h
  cases h
/-- an account; a key's -/
structure LAcc where
  c : Int
  o : List Int
  s : Int
  deriving DecidableEq
structure LHold where
  k : List Int
  a : LAcc
  deriving DecidableEq
def blank13 : LAcc := ⟨0, List.replicate 32 0, 0⟩
structure AccOk (a : LAcc) : Prop where
  c : 0 ≤ a.c ∧ a.c < 18446744073709551616
  o : a.o.length = 32 ∧ AllBytes a.o
  s : 0 ≤ a.s ∧ a.s < 18446744073709551616
theorem blank_ok : AccOk blank13 := ⟨by decide, ⟨rfl, fun z hz => by rw [List.eq_of_mem_replicate hz]; constructor <;> decide⟩, by decide⟩
structure HoldOk (x : LHold) : Prop where
  k : x.k.length = 32 ∧ AllBytes x.k
  a : AccOk x.a
/-- accounts that are not blank, by rising keys -/
structure Sto (L : List LHold) : Prop where
  rise : L.Pairwise fun x y => kless x.k y.k = true
  nb : ∀ x ∈ L, x.a ≠ blank13
  ok : ∀ x ∈ L, HoldOk x
theorem sto_nil : Sto [] := ⟨List.Pairwise.nil, by simp, by simp⟩
theorem Sto.tail {x : LHold} {r : List LHold} (h : Sto (x :: r)) : Sto r := ⟨(List.pairwise_cons.1 h.rise).2, fun y hy => h.nb y (List.mem_cons_of_mem _ hy), fun y hy => h.ok y (List.mem_cons_of_mem _ hy)⟩
/-- a key's account -/
def getH : List LHold → List Int → LAcc
  | [], _ => blank13
  | x :: r, k => if x.k = k then x.a else getH r k
theorem getH_none : ∀ {L : List LHold} {k : List Int}, (∀ x ∈ L, x.k ≠ k) → getH L k = blank13
  | [], _, _ => rfl
  | x :: r, k, h => by
    unfold getH
    rw [if_neg (h x (by simp)), getH_none fun y hy => h y (List.mem_cons_of_mem _ hy)]
theorem getH_cases : ∀ (L : List LHold) (k : List Int), ((∀ x ∈ L, x.k ≠ k) ∧ getH L k = blank13) ∨ ⟨k, getH L k⟩ ∈ L
  | [], _ => .inl ⟨by simp, rfl⟩
  | x :: r, k => by
    unfold getH
    by_cases e : x.k = k
    · rw [if_pos e]
      right
      subst e
      exact List.mem_cons_self
    · rw [if_neg e]
      rcases getH_cases r k with ⟨h1, h2⟩ | h
      · exact .inl ⟨fun y hy => by
          rcases List.mem_cons.1 hy with rfl | hy
          · exact e
          · exact h1 y hy, h2⟩
      · exact .inr (List.mem_cons_of_mem _ h)
theorem getH_at : ∀ {L : List LHold}, (L.Pairwise fun x y => kless x.k y.k = true) → ∀ {x : LHold}, x ∈ L → getH L x.k = x.a
  | y :: r, h, x, hx => by
    obtain ⟨h1, h2⟩ := List.pairwise_cons.1 h
    unfold getH
    rcases List.mem_cons.1 hx with rfl | hx
    · rw [if_pos rfl]
    · rw [if_neg (kless_ne (h1 x hx)), getH_at h2 hx]
theorem Sto.mem {L : List LHold} (h : Sto L) {x : LHold} : x ∈ L ↔ x.a ≠ blank13 ∧ getH L x.k = x.a := by
  constructor
  · intro hx
    exact ⟨h.nb x hx, getH_at h.rise hx⟩
  · rintro ⟨h1, h2⟩
    rcases getH_cases L x.k with ⟨_, h3⟩ | h3
    · exact absurd (h2.symm.trans h3) h1
    · rw [h2] at h3
      exact h3
theorem Sto.get_ok {L : List LHold} (h : Sto L) (k : List Int) : AccOk (getH L k) := by
  rcases getH_cases L k with ⟨_, h1⟩ | h1
  · rw [h1]; exact blank_ok
  · exact (h.ok _ h1).a
/-- who has the same members is the same -/
theorem rise_ext : ∀ {L M : List LHold}, (L.Pairwise fun x y => kless x.k y.k = true) → (M.Pairwise fun x y => kless x.k y.k = true) → (∀ x, x ∈ L ↔ x ∈ M) → L = M
  | [], [], _, _, _ => rfl
  | [], y :: r, _, _, h => absurd ((h y).2 List.mem_cons_self) (by simp)
  | x :: r, [], _, _, h => absurd ((h x).1 List.mem_cons_self) (by simp)
  | x :: r, y :: t, h1, h2, h => by
    obtain ⟨a1, a2⟩ := List.pairwise_cons.1 h1
    obtain ⟨b1, b2⟩ := List.pairwise_cons.1 h2
    have e : x = y := by
      rcases List.mem_cons.1 ((h x).1 List.mem_cons_self) with e | hx
      · exact e
      rcases List.mem_cons.1 ((h y).2 List.mem_cons_self) with e | hy
      · exact e.symm
      have h3 := kless_asymm (b1 x hx)
      rw [a1 y hy] at h3
      cases h3
    subst e
    congr 1
    refine rise_ext a2 b2 fun z => ?_
    constructor
    · intro hz
      rcases List.mem_cons.1 ((h z).1 (List.mem_cons_of_mem _ hz)) with rfl | hz'
      · exact absurd rfl (kless_ne (a1 z hz))
      · exact hz'
    · intro hz
      rcases List.mem_cons.1 ((h z).2 (List.mem_cons_of_mem _ hz)) with rfl | hz'
      · exact absurd rfl (kless_ne (b1 z hz))
      · exact hz'
theorem Sto.ext {L M : List LHold} (h : Sto L) (h' : Sto M) (he : ∀ k, getH L k = getH M k) : L = M :=
  rise_ext h.rise h'.rise fun x => by rw [h.mem, h'.mem, he]
/-- a put, gone through from the front: what is still to be put is put ahead of the first greater key -/
def putG (k : List Int) (a : LAcc) : Bool → List LHold → List LHold
  | put, [] => if put then [] else [⟨k, a⟩]
  | put, x :: r => (if !put && kless k x.k then [⟨k, a⟩] else []) ++ ((if x.k = k then [] else [x]) ++ putG k a (put || kless k x.k) r)
def putH (L : List LHold) (k : List Int) (a : LAcc) : List LHold := putG k a (decide (a = blank13)) L
theorem putG_mem (k : List Int) (a : LAcc) : ∀ (L : List LHold) (put : Bool) (x : LHold), x ∈ putG k a put L ↔ (x ∈ L ∧ x.k ≠ k) ∨ (put = false ∧ x = ⟨k, a⟩)
  | [], put, x => by cases put <;> simp [putG]
  | y :: r, put, x => by
    unfold putG
    rw [List.mem_append, List.mem_append, putG_mem k a r]
    have h1 : (x ∈ (if y.k = k then ([] : List LHold) else [y])) ↔ (x = y ∧ x.k ≠ k) := by
      split
      · rename_i e
        constructor
        · simp
        · rintro ⟨rfl, h⟩; exact absurd e h
      · rename_i e
        constructor
        · intro h
          obtain rfl := List.mem_singleton.1 h
          exact ⟨rfl, e⟩
        · rintro ⟨rfl, _⟩; simp
    rw [h1, List.mem_cons]
    cases put <;> cases hk : kless k y.k <;> simp <;> grind
theorem putG_true (k : List Int) (a : LAcc) : ∀ (L : List LHold), putG k a true L = L.filter fun x => x.k ≠ k
  | [] => rfl
  | x :: r => by
    unfold putG
    rw [Bool.true_or, putG_true k a r]
    by_cases e : x.k = k <;> simp [e]
theorem putG_rise (k : List Int) (a : LAcc) : ∀ (L : List LHold) (put : Bool), (L.Pairwise fun x y => kless x.k y.k = true) → (putG k a put L).Pairwise fun x y => kless x.k y.k = true
  | [], put, _ => by cases put <;> simp [putG]
  | x :: r, true, h => by
    rw [putG_true]
    exact h.sublist List.filter_sublist
  | x :: r, false, h => by
    obtain ⟨h1, h2⟩ := List.pairwise_cons.1 h
    unfold putG
    cases hk : kless k x.k with
    | true =>
      have hne : x.k ≠ k := fun e => kless_ne hk e.symm
      simp only [Bool.not_false, Bool.true_and, if_true, Bool.false_or, if_neg hne]
      rw [putG_true]
      refine List.pairwise_cons.2 ⟨fun y hy => ?_, List.pairwise_cons.2 ⟨fun y hy => h1 y (List.mem_filter.1 hy).1, h2.sublist List.filter_sublist⟩⟩
      rcases List.mem_cons.1 hy with rfl | hy
      · exact hk
      · exact kless_trans _ _ _ hk (h1 y (List.mem_filter.1 hy).1)
    | false =>
      simp only [Bool.not_false, Bool.true_and, Bool.false_eq_true, if_false, Bool.false_or, List.nil_append]
      by_cases e : x.k = k
      · rw [if_pos e, List.nil_append]
        exact putG_rise k a r false h2
      · rw [if_neg e]
        refine List.pairwise_cons.2 ⟨fun y hy => ?_, putG_rise k a r false h2⟩
        rcases (putG_mem k a r false y).1 hy with ⟨hy, _⟩ | ⟨_, rfl⟩
        · exact h1 y hy
        · cases h3 : kless x.k k with
          | true => rfl
          | false => exact absurd (kless_total _ _ h3 hk) e
theorem putH_mem {L : List LHold} {k : List Int} {a : LAcc} {x : LHold} : x ∈ putH L k a ↔ (x ∈ L ∧ x.k ≠ k) ∨ (a ≠ blank13 ∧ x = ⟨k, a⟩) := by
  unfold putH
  rw [putG_mem]
  simp
theorem Sto.put {L : List LHold} (h : Sto L) {k : List Int} {a : LAcc} (hk : k.length = 32 ∧ AllBytes k) (ha : AccOk a) : Sto (putH L k a) := by
  refine ⟨putG_rise k a L _ h.rise, fun x hx => ?_, fun x hx => ?_⟩
  · rcases putH_mem.1 hx with ⟨hx, _⟩ | ⟨h1, rfl⟩
    · exact h.nb x hx
    · exact h1
  · rcases putH_mem.1 hx with ⟨hx, _⟩ | ⟨h1, rfl⟩
    · exact h.ok x hx
    · exact ⟨hk, ha⟩
theorem getH_put {L : List LHold} (h : Sto L) {k : List Int} {a : LAcc} (hk : k.length = 32 ∧ AllBytes k) (ha : AccOk a) (k' : List Int) : getH (putH L k a) k' = if k' = k then a else getH L k' := by
  have hs := h.put hk ha
  by_cases e : k' = k
  · rw [if_pos e]
    subst e
    by_cases hb : a = blank13
    · rw [hb, getH_none]
      intro x hx
      rcases putH_mem.1 hx with ⟨_, h1⟩ | ⟨h1, _⟩
      · exact h1
      · exact absurd rfl h1
    · have : (⟨k', a⟩ : LHold) ∈ putH L k' a := putH_mem.2 (.inr ⟨hb, rfl⟩)
      exact getH_at hs.rise this
  · rw [if_neg e]
    rcases getH_cases L k' with ⟨h1, h2⟩ | h1
    · rw [h2, getH_none]
      intro x hx
      rcases putH_mem.1 hx with ⟨hx, _⟩ | ⟨_, rfl⟩
      · exact h1 x hx
      · exact fun e' => e e'.symm
    · have : (⟨k', getH L k'⟩ : LHold) ∈ putH L k a := putH_mem.2 (.inl ⟨h1, e⟩)
      exact getH_at hs.rise this
theorem putG_len (k : List Int) (a : LAcc) : ∀ (L : List LHold) (put : Bool), (putG k a put L).length ≤ L.length + 1
  | [], put => by cases put <;> simp [putG]
  | x :: r, put => by
    unfold putG
    rw [List.length_append, List.length_append]
    have hf : (putG k a true r).length ≤ r.length := by
      rw [putG_true]
      exact List.length_filter_le _ _
    have hx : (if x.k = k then ([] : List LHold) else [x]).length ≤ 1 := by split <;> simp
    rw [List.length_cons]
    cases put with
    | true =>
      rw [Bool.true_or]
      simp only [Bool.not_true, Bool.false_and, Bool.false_eq_true, if_false, List.length_nil]
      omega
    | false =>
      cases hk : kless k x.k with
      | true =>
        simp only [Bool.not_false, Bool.true_and, if_true, Bool.false_or, List.length_singleton]
        omega
      | false =>
        have := putG_len k a r false
        simp only [Bool.not_false, Bool.true_and, Bool.false_eq_true, if_false, Bool.false_or, List.length_nil]
        omega
theorem putH_len (L : List LHold) (k : List Int) (a : LAcc) : (putH L k a).length ≤ L.length + 1 := putG_len k a L _
end Go.Proofs.YtfaefpniiiandaaDoor
