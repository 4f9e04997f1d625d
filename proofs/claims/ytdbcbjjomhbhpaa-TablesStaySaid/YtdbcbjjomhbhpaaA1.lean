/-
  Parts joined: Mem Row Longer Put Msg Get Parse Append Many Whole Looks PutMsg Read ReadIn ListV ListK Enc GetMsg Tx Great IsIn OpenMsg Rules KeyMap Sheet SameZero SameMsg BookK TwinK Pages BookMsg TwinMsg Strays Example AppendN HoldWalk OtherMem Tabs Copied.
-/
import Derived.Below
import Derived.Laws.OwnMore
import Derived.Deep.AppendLies
import Derived.Deep.Draws
import Derived.Lib.Hide
import Derived.Laws.MakeOwn
import Derived.Laws.CopyOwn
import Derived.Laws.Rows
import Derived.Laws.BitsAllLaws
import Derived.WalkKit
import Derived.Test.YtdbcbjjomhbhpaaRows
import Derived.WalkSpells
import Derived.WalkLawsBesides
import Derived.IntWalk
import Derived.Maps.AppendAt
import Derived.OwnWalk
import Derived.Deep.MidRow
import Derived.Deep.WholeRow
import Derived.Great.BuildSlice
import Derived.ProofKit
import Derived.OpenShut
import Derived.ShutString
import Derived.ChangeOld
import Derived.Lib.SmallJoins
import Derived.Recover
import Derived.Deep.RegionHeld
import Derived.Deep.QuietTactic
import Derived.BigQuiet
import Derived.Deep.Slices
import Derived.Deep.Strs
import Derived.SizedLaws
import Derived.Maps.OwnSet
import Derived.DeepKeys4
import Derived.WideKeyArr
import Derived.ChangeKeysEq
import Derived.Deep.RegionHeld2
import Derived.Deep.CutBlock
import Derived.Laws.Tables
import Derived.Deep.DeepCutAuto
import Derived.Laws.Slices
import Derived.Laws.EntriesVeiled
import Derived.Deep.RegionHeld3
import Derived.WideKeyEntry
import Derived.Shelf.SlMaps.Clone
/-
  Of part Mem: what is needed here.
-/
namespace Go.Proofs.Ytdbcbjjomhbhpaa
open Go.RowKit
/-- bytes (or numbers of another kind) as cells -/
def cv (k : IntKind) (zs : List Int) : List Value := zs.map (Value.int k)
def bv (zs : List Int) : List Value := cv .u8 zs
theorem cv_length (k : IntKind) (zs : List Int) : (cv k zs).length = zs.length := by simp [cv]
theorem bv_length (zs : List Int) : (bv zs).length = zs.length := cv_length _ zs
theorem bv_append (xs ys : List Int) : bv (xs ++ ys) = bv xs ++ bv ys := by simp [bv, cv]
theorem bv_getElem? (zs : List Int) (i : Nat) : (bv zs)[i]? = zs[i]?.map (Value.int .u8) := by simp [bv, cv]
theorem bv_at {zs : List Int} {i : Nat} (h : i < zs.length) : (bv zs)[i]? = some (.int .u8 (zs.getD i 0)) := by
  rw [bv_getElem?, List.getD_eq_getElem?_getD, List.getElem?_eq_getElem h]; rfl
theorem bv_one (zs : List Int) : ∀ u ∈ bv zs, u.oneCell' = true := by
  intro u hu
  simp only [bv, cv, List.mem_map] at hu
  obtain ⟨z, _, rfl⟩ := hu
  rfl
theorem addr_block (a : Addr) (n : Nat) : (a.add n).block = a.block := by unfold Addr.add; split <;> rfl
theorem addr_add (a : Addr) (i j : Nat) : (a.add i).add j = a.add (i + j) := by
  unfold Addr.add
  rcases Nat.eq_zero_or_pos i with hi | hi <;> rcases Nat.eq_zero_or_pos j with hj | hj
  · simp [hi, hj]
  · simp [hi, show j ≠ 0 by omega]
  · simp [hj, show i ≠ 0 by omega]
  · simp [show i ≠ 0 by omega, show j ≠ 0 by omega, Nat.add_assoc]
theorem addr_row (g i j : Nat) : (⟨g, i, none⟩ : Addr).add j = ⟨g, i + j, none⟩ := by unfold Addr.add; split <;> simp_all
/-- The slice value '.slice A n c' reads as the cells xs; each cell lies below block B. -/
structure Sees (w : World) (B : Nat) (A : Option Addr) (n : Nat) (xs : List Value) : Prop where
  len : xs.length = n
  cell : ∀ i u, xs[i]? = some u → ∃ a, A = some a ∧ a.block < B ∧ w.cell? (a.add i) = some u
section
variable {w w' : World} {B B' n : Nat} {A : Option Addr} {xs : List Value}
theorem Sees.nil (w : World) (B : Nat) (A : Option Addr) : Sees w B A 0 [] := ⟨rfl, fun i u h => by simp at h⟩
theorem Sees.keep (h : Sees w B A n xs) (hk : ∀ p : Addr, p.block < B → w'.cell? p = w.cell? p) : Sees w' B A n xs :=
  ⟨h.len, fun i u hu => by
    obtain ⟨a, e, hb, hc⟩ := h.cell i u hu
    exact ⟨a, e, hb, (hk _ (by rw [addr_block]; exact hb)).trans hc⟩⟩
theorem Sees.more (h : Sees w B A n xs) (hB : B ≤ B') : Sees w B' A n xs :=
  ⟨h.len, fun i u hu => by
    obtain ⟨a, e, hb, hc⟩ := h.cell i u hu
    exact ⟨a, e, by omega, hc⟩⟩
theorem Sees.below (h : Sees w B A n xs) (hb : Below B w w') : Sees w' B A n xs := h.keep fun _ hp => hb.cell hp
theorem Sees.drew (h : Sees w B A n xs) : Sees w.drew B A n xs := ⟨h.len, h.cell⟩
theorem Sees.drewN (h : Sees w B A n xs) (k : Nat) : Sees (w.drewN k) B A n xs := ⟨h.len, h.cell⟩
theorem Sees.alloc (h : Sees w B A n xs) (hB : B ≤ w.heap.size) (o : Obj) : Sees (w.alloc o) B A n xs := h.keep fun p hp => World.cell?_alloc_lt w o p (by omega)
theorem Sees.at_ {k : Nat} (h : Sees w B A n xs) (hk : k < n) : ∃ a u, A = some a ∧ a.block < B ∧ xs[k]? = some u ∧ w.cell? (a.add k) = some u := by
  have hl : k < xs.length := by have := h.len; omega
  obtain ⟨a, e, hb, hc⟩ := h.cell k _ (List.getElem?_eq_getElem hl)
  exact ⟨a, _, e, hb, List.getElem?_eq_getElem hl, hc⟩
theorem Sees.byte {zs : List Int} {k : Nat} (h : Sees w B A n (bv zs)) (hk : k < n) : ∃ a, A = some a ∧ a.block < B ∧ w.cell? (a.add k) = some (.int .u8 (zs.getD k 0)) := by
  obtain ⟨a, u, e, hb, hx, hc⟩ := h.at_ hk
  have hl : k < zs.length := by have := h.len; rw [bv_length] at this; omega
  rw [bv_at hl] at hx
  cases hx
  exact ⟨a, e, hb, hc⟩
theorem Sees.of_own {base : Nat} {e : TypeId} {c : Nat} (h : w.ownsRow base e 1 (.slice A n c) n xs) : Sees w w.heap.size A n xs := by
  refine ⟨by have := h.1; omega, fun i u hu => ?_⟩
  have hl : i < xs.length := (List.getElem?_eq_some_iff.1 hu).1
  rcases h.2 with ⟨_, rfl⟩ | ⟨g, cap, cur, hv, hg, hh, hnc, _, hsz, htk⟩
  · have := h.1; omega
  · have hA : A = some ⟨g, 0, none⟩ := by injection hv
    subst hA
    exact ⟨_, rfl, (Array.getElem?_eq_some_iff.1 hh).1, h.cells (g := g) rfl i u hu⟩
end
end Go.Proofs.Ytdbcbjjomhbhpaa

/-
  Of part Row: what is needed here.
-/
namespace Go.Proofs.Ytdbcbjjomhbhpaa
open Go.RowKit
set_option linter.unusedVariables false
/-- block g is just the cells xs of element type t; none is frozen -/
structure Row (w : World) (g : Nat) (t : TypeId) (xs : List Value) : Prop where
  is : w.heap[g]? = some (.cells xs.toArray t (0, 0))
section
variable {w w' : World} {g : Nat} {t : TypeId} {xs : List Value}
theorem Row.lt (h : Row w g t xs) : g < w.heap.size := (Array.getElem?_eq_some_iff.1 h.is).1
theorem Row.cell (h : Row w g t xs) (i : Nat) : w.cell? ⟨g, i, none⟩ = xs[i]? := by rw [cell_of_row w g i xs.toArray t (0, 0) h.is]; simp
theorem Row.new (w : World) (t : TypeId) (xs : List Value) : Row (w.alloc (.cells xs.toArray t)) w.heap.size t xs := ⟨heap_alloc_new w _⟩
theorem Row.new' (w : World) (t : TypeId) (xs : List Value) {g : Nat} (hg : w.heap.size = g) : Row (w.alloc (.cells xs.toArray t)) g t xs := hg ▸ Row.new w t xs
theorem Row.drew (h : Row w g t xs) : Row w.drew g t xs := ⟨h.is⟩
theorem Row.drewN (h : Row w g t xs) (n : Nat) : Row (w.drewN n) g t xs := ⟨h.is⟩
theorem Row.alloc (h : Row w g t xs) (o : Obj) : Row (w.alloc o) g t xs := ⟨(Below.heap_alloc w o g h.lt).trans h.is⟩
theorem Row.below {B : Nat} (h : Row w g t xs) (hb : Below B w w') (hg : g < B) : Row w' g t xs := ⟨(hb.block g hg).trans h.is⟩
theorem Row.grown {row : Option Nat} (h : Row w g t xs) (hb : w.grownBy w' row) (hg : some g ≠ row) : Row w' g t xs := ⟨(hb.block g h.lt hg).trans h.is⟩
theorem Row.sees (h : Row w g t xs) (o : Nat) : Sees w w.heap.size (some ⟨g, o, none⟩) (xs.length - o) (xs.drop o) :=
  ⟨by simp, fun i u hu => ⟨_, rfl, h.lt, by rw [addr_row, h.cell]; simpa using hu⟩⟩
theorem Row.sees0 (h : Row w g t xs) : Sees w w.heap.size (some ⟨g, 0, none⟩) xs.length xs := by simpa using h.sees 0
theorem Row.of_own {base : Nat} {n : Nat} (h : w.ownsRow base t 1 (.slice (some ⟨g, 0, none⟩) n n) n xs) : Row w g t xs := by
  rcases h.2 with ⟨hv, _⟩ | ⟨g', cap, cur, hv, _, hh, _, _, hs, ht⟩
  · cases hv
  · cases hv
    have : cur = xs.toArray := by
      rw [← ht, List.take_of_length_le (by simp; omega)]
    exact ⟨by rw [hh, this]⟩
end
end Go.Proofs.Ytdbcbjjomhbhpaa

/-
  Of part Longer: what is needed here.
-/
namespace Go.Proofs.Ytdbcbjjomhbhpaa
open Go.RowKit
set_option linter.unusedVariables false
theorem info_u8 : (Try.prog.info? 5).map (fun i => (i.zero, i.size, i.bytes)) = some (some (.int .u8 0), 1, 1) := by kernel_rfl
end Go.Proofs.Ytdbcbjjomhbhpaa

/-
  Of part Put: what is needed here.
-/
namespace Go.Proofs.Ytdbcbjjomhbhpaa
open Go.RowKit
set_option linter.unusedVariables false
/-- the bytes of a short number -/
def short (n : Int) : List Int :=
  if n < 128 then [n] else if n < 16384 then [n % 128 + 128, n / 128] else [n % 128 + 128, n / 128 % 128 + 128, n / 16384]
end Go.Proofs.Ytdbcbjjomhbhpaa

/-
  Of part Msg: what is needed here.
-/
namespace Go.Proofs.Ytdbcbjjomhbhpaa
open Go.RowKit
set_option linter.unusedVariables false
/-- an instruction -/
structure LIn where
  p : Int
  acc : List Int
  dat : List Int
/-- a lookup -/
structure LLook where
  tab : List Int
  wr : List Int
  rd : List Int
/-- a message -/
structure LMsg where
  v0 : Bool
  s : Int
  r : Int
  o : Int
  keys : List (List Int)
  recent : List Int
  ins : List LIn
  looks : List LLook
/-- how many, and the bytes -/
def encL (l : List Int) : List Int := short l.length ++ l
def encIn (i : LIn) : List Int := i.p :: (encL i.acc ++ encL i.dat)
def encLook (l : LLook) : List Int := l.tab ++ (encL l.wr ++ encL l.rd)
def encHead (m : LMsg) : List Int := (if m.v0 then [128] else []) ++ [m.s, m.r, m.o]
def encTail (m : LMsg) : List Int := if m.v0 then short m.looks.length ++ m.looks.flatMap encLook else []
/-- a message's bytes -/
def enc (m : LMsg) : List Int := encHead m ++ (short m.keys.length ++ (m.keys.flatten ++ (m.recent ++ (short m.ins.length ++ (m.ins.flatMap encIn ++ encTail m)))))
/-- a byte -/
def IsByte (z : Int) : Prop := 0 ≤ z ∧ z < 256
def AllBytes (l : List Int) : Prop := ∀ z ∈ l, IsByte z
/-- a slice of bytes that lies below block B -/
structure BytesIn (w : World) (B : Nat) (v : Value) (l : List Int) : Prop where
  is : ∃ A c, v = .slice A l.length c ∧ Sees w B A l.length (bv l) ∧ l.length ≤ c ∧ c ≤ maxLen
/-- lookups that lie below block B -/
structure LooksIn (w : World) (B : Nat) (A : Option Addr) (n : Nat) (l : List LLook) : Prop where
  len : l.length = n
  at_ : ∀ i x, l[i]? = some x → ∃ a va vd, A = some a ∧ a.block < B ∧ (∀ j u, (bv x.tab ++ [va, vd])[j]? = some u → w.cell? (a.add (i * 34 + j)) = some u) ∧ x.tab.length = 32 ∧ BytesIn w B va x.wr ∧ BytesIn w B vd x.rd
/-- keys that lie below block B -/
structure KeysIn (w : World) (B : Nat) (A : Option Addr) (n : Nat) (l : List (List Int)) : Prop where
  len : l.length = n
  each : ∀ k ∈ l, k.length = 32
  sees : Sees w B A (n * 32) (bv l.flatten)
/-- where a message's lists lie -/
structure Raw where
  KA : Option Addr
  kn : Nat
  kc : Nat
  IA : Option Addr
  n : Nat
  ic : Nat
  LA : Option Addr
  ln : Nat
  lc : Nat
/-- a message's cells -/
def Raw.cells (q : Raw) (m : LMsg) : List Value :=
  [.bool m.v0, .int .u8 m.s, .int .u8 m.r, .int .u8 m.o, .slice q.KA q.kn q.kc] ++ (bv m.recent ++ [.slice q.IA q.n q.ic, .slice q.LA q.ln q.lc])
section
variable {w w' : World} {B B' : Nat}
theorem BytesIn.keep {v : Value} {l : List Int} (h : BytesIn w B v l) (hk : ∀ p : Addr, p.block < B → w'.cell? p = w.cell? p) : BytesIn w' B v l := by
  obtain ⟨A, c, e, hs, h1, h2⟩ := h.is
  exact ⟨A, c, e, hs.keep hk, h1, h2⟩
theorem BytesIn.more {v : Value} {l : List Int} (h : BytesIn w B v l) (hB : B ≤ B') : BytesIn w B' v l := by
  obtain ⟨A, c, e, hs, h1, h2⟩ := h.is
  exact ⟨A, c, e, hs.more hB, h1, h2⟩
theorem LooksIn.keep {A : Option Addr} {n : Nat} {l : List LLook} (h : LooksIn w B A n l) (hk : ∀ p : Addr, p.block < B → w'.cell? p = w.cell? p) : LooksIn w' B A n l :=
  ⟨h.len, fun i x hx => by
    obtain ⟨a, va, vd, e, hb, h1, h2, h4, h5⟩ := h.at_ i x hx
    exact ⟨a, va, vd, e, hb, fun j u hu => (hk _ (by rw [addr_block]; exact hb)).trans (h1 j u hu), h2, h4.keep hk, h5.keep hk⟩⟩
theorem LooksIn.more {A : Option Addr} {n : Nat} {l : List LLook} (h : LooksIn w B A n l) (hB : B ≤ B') : LooksIn w B' A n l :=
  ⟨h.len, fun i x hx => by
    obtain ⟨a, va, vd, e, hb, h1, h2, h4, h5⟩ := h.at_ i x hx
    exact ⟨a, va, vd, e, by omega, h1, h2, h4.more hB, h5.more hB⟩⟩
theorem KeysIn.keep {A : Option Addr} {n : Nat} {l : List (List Int)} (h : KeysIn w B A n l) (hk : ∀ p : Addr, p.block < B → w'.cell? p = w.cell? p) : KeysIn w' B A n l := ⟨h.len, h.each, h.sees.keep hk⟩
theorem KeysIn.more {A : Option Addr} {n : Nat} {l : List (List Int)} (h : KeysIn w B A n l) (hB : B ≤ B') : KeysIn w B' A n l := ⟨h.len, h.each, h.sees.more hB⟩
variable {q : Raw} {m : LMsg}
theorem LooksIn.below {A : Option Addr} {n : Nat} {l : List LLook} (h : LooksIn w B A n l) (hb : Below B w w') : LooksIn w' B A n l := h.keep fun _ hp => hb.cell hp
theorem KeysIn.below {A : Option Addr} {n : Nat} {l : List (List Int)} (h : KeysIn w B A n l) (hb : Below B w w') : KeysIn w' B A n l := h.keep fun _ hp => hb.cell hp
theorem BytesIn.below {v : Value} {l : List Int} (h : BytesIn w B v l) (hb : Below B w w') : BytesIn w' B v l := h.keep fun _ hp => hb.cell hp
end
end Go.Proofs.Ytdbcbjjomhbhpaa

/-
  Of part Get: what is needed here.
-/
namespace Go.Proofs.Ytdbcbjjomhbhpaa
open Go.RowKit
set_option linter.unusedVariables false
/-- all are bytes -/
def Bytes (zs : List Int) : Prop := ∀ i, 0 ≤ zs.getD i 0 ∧ zs.getD i 0 < 256
end Go.Proofs.Ytdbcbjjomhbhpaa

/-
  Of part Parse: what is needed here.
-/
namespace Go.Proofs.Ytdbcbjjomhbhpaa
open Go.RowKit
set_option linter.unusedVariables false
theorem AllBytes.drop {zs : List Int} (h : AllBytes zs) (k : Nat) : AllBytes (zs.drop k) := fun z hz => h z (List.mem_of_mem_drop hz)
theorem AllBytes.take {zs : List Int} (h : AllBytes zs) (k : Nat) : AllBytes (zs.take k) := fun z hz => h z (List.mem_of_mem_take hz)
theorem AllBytes.bytes {zs : List Int} (h : AllBytes zs) : Bytes zs := by
  intro i
  rw [List.getD_eq_getElem?_getD]
  by_cases hi : i < zs.length
  · rw [List.getElem?_eq_getElem hi]
    exact h _ (List.getElem_mem hi)
  · rw [List.getElem?_eq_none (by omega)]; simp
end Go.Proofs.Ytdbcbjjomhbhpaa

/-
  Of part Append: what is needed here.
-/
namespace Go.Proofs.Ytdbcbjjomhbhpaa
open Go.RowKit
set_option linter.unusedVariables false
theorem own_form {w : World} {base : Nat} {e : TypeId} {v : Value} {n : Nat} {xs : List Value} (h : w.ownsRow base e 1 v n xs) : ∃ A c, v = .slice A n c := by
  rcases h.2 with ⟨rfl, rfl⟩ | ⟨g, cap, cur, rfl, _⟩
  · exact ⟨_, _, rfl⟩
  · exact ⟨_, _, rfl⟩
end Go.Proofs.Ytdbcbjjomhbhpaa

/-
  Of part Many: what is needed here.
-/
namespace Go.Proofs.Ytdbcbjjomhbhpaa
open Go.RowKit
set_option linter.unusedVariables false
/-- 'v' is a row of bytes of the call's own, from block 'base' on -/
def OwnB (w : World) (base : Nat) (v : Value) (xs : List Int) : Prop := w.ownsRow base 5 1 v xs.length (bv xs)
theorem own_below {w w' : World} {base n size : Nat} {e : TypeId} {v : Value} {xs : List Value} (h : w.ownsRow base e size v n xs) (hb : Below w.heap.size w w') : w'.ownsRow base e size v n xs := by
  refine ⟨h.1, ?_⟩
  rcases h.2 with h2 | ⟨g, cap, cur, hv, hg, hh, r⟩
  · exact .inl h2
  · exact .inr ⟨g, cap, cur, hv, hg, (hb.block g (Array.getElem?_eq_some_iff.1 hh).1).trans hh, r⟩
theorem OwnB.below {w w' : World} {base : Nat} {v : Value} {xs : List Int} (h : OwnB w base v xs) (hb : Below w.heap.size w w') : OwnB w' base v xs := own_below h hb
theorem OwnB.alloc {w : World} {base : Nat} {v : Value} {xs : List Int} (h : OwnB w base v xs) (o : Obj) : OwnB (w.alloc o) base v xs := World.ownsRow.alloc h o
theorem OwnB.nil (w : World) (base : Nat) : OwnB w base (.slice none 0 0) [] := World.ownsRow_nil w base _ _
theorem OwnB.drewN {w : World} {base : Nat} {v : Value} {xs : List Int} (h : OwnB w base v xs) (k : Nat) : OwnB (w.drewN k) base v xs := h
theorem OwnB.form {w : World} {base : Nat} {v : Value} {xs : List Int} (h : OwnB w base v xs) : ∃ A c, v = .slice A xs.length c := own_form h
theorem OwnB.sees {w : World} {base : Nat} {A : Option Addr} {n c : Nat} {xs : List Int} (h : OwnB w base (.slice A n c) xs) : Sees w w.heap.size A n (bv xs) := by
  obtain ⟨A', c', e⟩ := h.form
  cases e
  exact Sees.of_own h
/-- from w, with the row v, to w', with the row v': of what was there v's block alone may have been written -/
structure Grew (w w' : World) (v v' : Value) : Prop where
  grown : w.grownBy w' v.ownBlock
  fresh : ∀ k, v'.ownBlock = some k → v.ownBlock = some k ∨ w.heap.size ≤ k
section
variable {w w' w'' : World} {v v' v'' : Value}
theorem Grew.refl (w : World) (v : Value) : Grew w w v v := ⟨World.grownBy.refl w _, fun k h => .inl h⟩
theorem Grew.size (h : Grew w w' v v') : w.heap.size ≤ w'.heap.size := h.grown.size
theorem Grew.trans (h : Grew w w' v v') (k : Grew w' w'' v' v'') : Grew w w'' v v'' :=
  ⟨⟨k.grown.os.trans h.grown.os, k.grown.tape.trans h.grown.tape, k.grown.output.trans h.grown.output, Nat.le_trans h.size k.size, fun i hi hne =>
      (k.grown.block i (Nat.lt_of_lt_of_le hi h.size) fun e => by
        rcases h.fresh i e.symm with h1 | h1
        · exact hne h1.symm
        · omega).trans (h.grown.block i hi hne)⟩,
    fun i hi => by
      rcases k.fresh i hi with h1 | h1
      · exact h.fresh i h1
      · exact .inr (Nat.le_trans h.size h1)⟩
theorem Grew.of_below (hb : Below w.heap.size w w') (v : Value) : Grew w w' v v := ⟨⟨hb.os, hb.tape, hb.output, hb.size, fun k hk _ => hb.block k hk⟩, fun k h => .inl h⟩
theorem Grew.alloc (h : Grew w w' v v') (o : Obj) : Grew w (w'.alloc o) v v' := h.trans (.of_below ((Below.refl _ _).alloc (Nat.le_refl _) o) v')
theorem Grew.row {g t : Nat} {ys : List Value} (h : Grew w w' v v') (hr : Row w g t ys) (hg : some g ≠ v.ownBlock) : Row w' g t ys := hr.grown h.grown hg
theorem Grew.below {base n size : Nat} {e : TypeId} {xs : List Value} (h : Grew w w' v v') (hown : w.ownsRow base e size v n xs) (hbase : base ≤ w.heap.size) : Below base w w' :=
  (Below.refl base w).grown h.grown hbase fun k hk => (hown.lt k hk).1
end
end Go.Proofs.Ytdbcbjjomhbhpaa

/-
  Of part Whole: what is needed here.
-/
namespace Go.Proofs.Ytdbcbjjomhbhpaa
open Go.RowKit
set_option linter.unusedVariables false
section
variable {P : Program}
/-- a value of many cells, read from an address -/
theorem run_loadAt_at (w : World) (p : Addr) (ty : TypeId) (cs : List Value) (d : TypeDesc) (hc : ∀ j v, cs[j]? = some v → w.cell? (p.add j) = some v)
    (hu : P.underlying ty = some d) (hd : d.isRow = true) (hi : (P.info? ty).map (·.size) = some cs.length) :
    (Instr.loadAt ty (.pointer (some p))).run P w = .ok (.agg cs.toArray) w := by
  have hl : (loadCells p cs.length).run P w = .ok cs.toArray w := run_loadCells_list (P := P) w p cs hc
  cases hq : P.info? ty with
  | none => simp [hq] at hi
  | some i =>
    have hs : i.size = cs.length := by simpa [hq] using hi
    have hagg : (isAgg ty).run P w = .ok true w := by
      unfold isAgg
      rw [Sem.run_bind, run_underlying hu w]
      cases d <;> simp_all
    simp [Instr.loadAt, Instr.sureAddr, loadVar, Sem.run_bind, hagg, sizeOf, typeInfo, hq, hs, hl]
theorem wpList_load_at {ops : Array Oper} {rest : List Oper} {op : Oper} {a : Act} {w : World} {Q : Exit → Act → World → Prop} (hgd : op.guard = none) (ty : TypeId) (x : Operand) (ho : op.op = .load ty x)
    (p : Addr) (cs : List Value) (d : TypeDesc) (hu : P.underlying ty = some d) (hd : d.isRow = true) (hi : (P.info? ty).map (·.size) = some cs.length) (hc : ∀ j v, cs[j]? = some v → w.cell? (p.add j) = some v)
    (hx : a.eval x = .pointer (some p)) (h : wpList P ops Q rest (a.put op.dst (.agg cs.toArray)) w) : wpList P ops Q (op :: rest) a w :=
  wpList_plain hgd fun _ hK => by
    unfold Oper.wp execOp
    simp only [ho, hx, Sem.run_bind, Sem.run_pure, run_loadAt_at w p ty cs d hc hu hd hi, Result.andThen_ok]
    exact hK _ _ h
/-- the same, the pointer's block a whole row -/
theorem wpList_load_whole {ops : Array Oper} {rest : List Oper} {op : Oper} {a : Act} {w : World} {Q : Exit → Act → World → Prop} (hgd : op.guard = none) (ty : TypeId) (x : Operand) (ho : op.op = .load ty x)
    (g t : Nat) (cs : List Value) (d : TypeDesc) (hu : P.underlying ty = some d) (hd : d.isRow = true) (hi : (P.info? ty).map (·.size) = some cs.length) (hr : Row w g t cs)
    (hx : a.eval x = .pointer (some ⟨g, 0, none⟩)) (h : wpList P ops Q rest (a.put op.dst (.agg cs.toArray)) w) : wpList P ops Q (op :: rest) a w :=
  wpList_load_at hgd ty x ho ⟨g, 0, none⟩ cs d hu hd hi (fun j v hv => by rw [addr_row, hr.cell]; simpa using hv) hx h
/-- a value of many cells into a block that is known whole: the world behind it, of which this is told -/
theorem run_storeAt_whole (w : World) (g ty : Nat) (c cs : List Value) (hr : Row w g ty c) (hi : (P.info? ty).map (·.size) = some cs.length) (hl : c.length = cs.length) (h1 : ∀ u ∈ cs, u.oneCell' = true) :
    (Instr.storeAt ty (.pointer (some ⟨g, 0, none⟩)) (.agg cs.toArray)).run P w = .ok () (w.setRow g cs.toArray) := by
  have := run_storeVar_row (P := P) w g ty ty c.toArray cs.toArray hr.is (by simpa using hi) (by simpa using hl) (all_oneCell_toArray h1)
  simp only [Instr.storeAt, Instr.sureAddr, Sem.run_bind, Sem.run_pure, Result.andThen_ok, this]
/-- but for block g, w' is w -/
structure Turned (w w' : World) (g : Nat) : Prop where
  os : w'.os = w.os
  tape : w'.tape = w.tape
  output : w'.output = w.output
  size : w'.heap.size = w.heap.size
  block : ∀ k, k ≠ g → w'.heap[k]? = w.heap[k]?
theorem turned_setRow (w : World) (g : Nat) (cs : Array Value) : Turned w (w.setRow g cs) g :=
  ⟨rfl, rfl, rfl, by simp, fun k hk => setRow_other w g k cs hk⟩
theorem row_setRow {w : World} {g t : Nat} {c : List Value} (hr : Row w g t c) (cs : List Value) : Row (w.setRow g cs.toArray) g t cs :=
  ⟨setRow_heap w g c.toArray cs.toArray t _ hr.is⟩
theorem Turned.below {w w' : World} {g B : Nat} (h : Turned w w' g) (hB : B ≤ g) : Below B w w' :=
  ⟨h.os, h.tape, h.output, by rw [h.size]; exact Nat.le_refl _, fun k hk => h.block k (by omega)⟩
theorem Turned.row {w w' : World} {g k t : Nat} {xs : List Value} (h : Turned w w' g) (hr : Row w k t xs) (hk : k ≠ g) : Row w' k t xs := ⟨(h.block k hk).trans hr.is⟩
theorem wpList_store_whole {ops : Array Oper} {rest : List Oper} {op : Oper} {a : Act} {w : World} {Q : Exit → Act → World → Prop} (hgd : op.guard = none) (ty : TypeId) (x y : Operand) (ho : op.op = .store ty x y)
    (g : Nat) (c cs : List Value) (hr : Row w g ty c) (hi : (P.info? ty).map (·.size) = some cs.length) (hl : c.length = cs.length) (h1 : ∀ u ∈ cs, u.oneCell' = true)
    (hx : a.eval x = .pointer (some ⟨g, 0, none⟩)) (hy : a.eval y = .agg cs.toArray)
    (h : ∀ w', Row w' g ty cs → Turned w w' g → wpList P ops Q rest (a.put op.dst undef) w') : wpList P ops Q (op :: rest) a w :=
  wpList_plain hgd fun _ hK => by
    unfold Oper.wp execOp
    simp only [ho, hx, hy, Sem.run_bind, Sem.run_pure, run_storeAt_whole w g ty c cs hr hi hl h1, Result.andThen_ok]
    exact hK _ _ (h _ (row_setRow hr cs) (turned_setRow w g _))
/-- a variable that has just been made is given its value -/
theorem wpList_store_new {ops : Array Oper} {rest : List Oper} {op : Oper} {a : Act} {w0 : World} {c : Array Value} {Q : Exit → Act → World → Prop} (hgd : op.guard = none) (ty : TypeId) (x y : Operand) (ho : op.op = .store ty x y)
    (cs : List Value) (hi : (P.info? ty).map (·.size) = some cs.length) (h1 : ∀ u ∈ cs, u.oneCell' = true) (hl : c.size = cs.length)
    (hx : a.eval x = .pointer (some ⟨w0.heap.size, 0, none⟩)) (hy : a.eval y = .agg cs.toArray)
    (h : ∀ w', Row w' w0.heap.size ty cs → Below w0.heap.size w0 w' → w'.heap.size = w0.heap.size + 1 → wpList P ops Q rest (a.put op.dst undef) w') : wpList P ops Q (op :: rest) a (w0.alloc (.cells c ty)) := by
  have hr : Row (w0.alloc (.cells c ty)) w0.heap.size ty c.toList := by
    have := Row.new w0 ty c.toList
    simpa using this
  refine wpList_store_whole hgd ty x y ho w0.heap.size c.toList cs hr hi (by simpa using hl) h1 hx hy fun w' hr' ht => ?_
  exact h w' hr' (((Below.refl _ w0).alloc (Nat.le_refl _) _).trans (ht.below (Nat.le_refl _))) (by rw [ht.size]; simp)
end
end Go.Proofs.Ytdbcbjjomhbhpaa

/-
  Of part Looks: what is needed here.
-/
namespace Go.Proofs.Ytdbcbjjomhbhpaa
open Go.RowKit
set_option linter.unusedVariables false
theorem look_cells {w : World} {g t : Nat} {tab : List Int} {va vd : Value} (hr : Row w g t (bv tab ++ [va, vd])) (ht : tab.length = 32) : w.cell? ⟨g, 32, none⟩ = some va ∧ w.cell? ⟨g, 33, none⟩ = some vd :=
  ⟨by rw [hr.cell, List.getElem?_append_right (by rw [bv_length, ht]; exact Nat.le_refl _), bv_length, ht]; rfl, by rw [hr.cell, List.getElem?_append_right (by rw [bv_length, ht]; omega), bv_length, ht]; rfl⟩
theorem size_look : (Try.prog.info? 60).map (·.size) = some 34 := by kernel_rfl
theorem size_key : (Try.prog.info? 32).map (·.size) = some 32 := by kernel_rfl
theorem lookCells_one {tab : List Int} {va vd : Value} {w w' : World} {B B' : Nat} {l l' : List Int} (ha : BytesIn w B va l) (hd : BytesIn w' B' vd l') : ∀ u ∈ bv tab ++ [va, vd], u.oneCell' = true := by
  obtain ⟨_, _, rfl, _⟩ := ha.is
  obtain ⟨_, _, rfl, _⟩ := hd.is
  intro u hu
  simp only [List.mem_append, List.mem_cons, List.not_mem_nil, or_false] at hu
  rcases hu with hu | rfl | rfl
  · exact bv_one _ _ hu
  all_goals rfl
theorem size_lk {tab : List Int} (ht : tab.length = 32) (va vd : Value) : (Try.prog.info? 60).map (·.size) = some (bv tab ++ [va, vd]).length := by rw [size_look]; simp [bv_length, ht]
/-- the k-th lookup -/
structure LookAt (w : World) (B : Nat) (a : Addr) (k : Nat) (x : LLook) (va vd : Value) : Prop where
  cells : ∀ j u, (bv x.tab ++ [va, vd])[j]? = some u → w.cell? ((a.add (k * 34)).add j) = some u
  len : x.tab.length = 32
  wr : BytesIn w B va x.wr
  rd : BytesIn w B vd x.rd
theorem LooksIn.get {w : World} {B n : Nat} {A : Option Addr} {l : List LLook} (h : LooksIn w B A n l) {k : Nat} (hk : k < n) : ∃ a x va vd, A = some a ∧ a.block < B ∧ l[k]? = some x ∧ LookAt w B a k x va vd := by
  obtain ⟨x, hx⟩ : ∃ x, l[k]? = some x := ⟨_, List.getElem?_eq_getElem (by rw [h.len]; exact hk)⟩
  obtain ⟨a, va, vd, rfl, hb, h1, h2, h4, h5⟩ := h.at_ k x hx
  exact ⟨a, x, va, vd, rfl, hb, hx, fun j u hu => by rw [addr_add]; exact h1 j u hu, h2, h4, h5⟩
theorem LookAt.size {w : World} {B k : Nat} {a : Addr} {x : LLook} {va vd : Value} (h : LookAt w B a k x va vd) : (bv x.tab ++ [va, vd]).length = 34 := by simp [bv_length, h.len]
theorem forall_take_succ {α : Type} {p : α → Prop} {l : List α} {k : Nat} {x : α} (h : l[k]? = some x) : (∀ y ∈ l.take (k + 1), p y) ↔ (∀ y ∈ l.take k, p y) ∧ p x := by
  rw [List.take_add_one, h]
  simp only [Option.toList_some, List.mem_append, List.mem_singleton]
  exact ⟨fun h' => ⟨fun y hy => h' y (.inl hy), h' x (.inr rfl)⟩, fun h' y hy => hy.elim (h'.1 y) fun e => e ▸ h'.2⟩
/-- the greatest of three; the walk need not look into it -/
def most (x y z : Int) : Int := if z > (if y > x then y else x) then z else (if y > x then y else x)
end Go.Proofs.Ytdbcbjjomhbhpaa

/-
  Of part PutMsg: what is needed here.
-/
namespace Go.Proofs.Ytdbcbjjomhbhpaa
open Go.RowKit
set_option linter.unusedVariables false
theorem flatten_get : ∀ (l : List (List Int)) (k : Nat) (x : List Int), (∀ y ∈ l, y.length = 32) → l[k]? = some x → ∀ j, j < 32 → l.flatten[k * 32 + j]? = x[j]?
  | [], k, x, _, h, _, _ => by simp at h
  | y :: r, 0, x, hl, h, j, hj => by
    have : y = x := by simpa using h
    subst this
    have hy := hl y (by simp)
    rw [List.flatten_cons, List.getElem?_append_left (by omega)]
    simp
  | y :: r, k + 1, x, hl, h, j, hj => by
    have hy := hl y (by simp)
    rw [List.flatten_cons, List.getElem?_append_right (by omega)]
    have := flatten_get r k x (fun z hz => hl z (by simp [hz])) (by simpa using h) j hj
    rw [← this]
    congr 1
    omega
theorem flatten_len : ∀ (l : List (List Int)), (∀ y ∈ l, y.length = 32) → l.flatten.length = l.length * 32
  | [], _ => rfl
  | y :: r, h => by
    have := flatten_len r (fun z hz => h z (by simp [hz]))
    have hy := h y (by simp)
    simp only [List.flatten_cons, List.length_append, List.length_cons, this, hy]
    omega
/-- the k-th key -/
structure KeyAt (w : World) (a : Addr) (k : Nat) (x : List Int) : Prop where
  cells : ∀ j u, (bv x)[j]? = some u → w.cell? ((a.add (k * 32)).add j) = some u
  len : x.length = 32
theorem KeysIn.get {w : World} {B n : Nat} {A : Option Addr} {l : List (List Int)} (h : KeysIn w B A n l) {k : Nat} (hk : k < n) : ∃ a x, A = some a ∧ a.block < B ∧ l[k]? = some x ∧ KeyAt w a k x := by
  obtain ⟨x, hx⟩ : ∃ x, l[k]? = some x := ⟨_, List.getElem?_eq_getElem (by rw [h.len]; exact hk)⟩
  have hxl := h.each x (List.mem_of_getElem? hx)
  obtain ⟨a, u, e, hb, _, _⟩ := h.sees.at_ (k := k * 32) (by omega)
  refine ⟨a, x, e, hb, hx, fun j u hu => ?_, hxl⟩
  have hj : j < 32 := by have := (List.getElem?_eq_some_iff.1 hu).1; rw [bv_length] at this; omega
  rw [bv_getElem?, ← flatten_get l k x h.each hx j hj, ← bv_getElem?] at hu
  obtain ⟨a', e', _, hc⟩ := h.sees.cell _ u hu
  rw [e] at e'
  cases e'
  rw [addr_add]
  exact hc
theorem KeyAt.keep {w w' : World} {B k : Nat} {a : Addr} {x : List Int} (h : KeyAt w a k x) (ha : a.block < B) (hk : ∀ p : Addr, p.block < B → w'.cell? p = w.cell? p) : KeyAt w' a k x :=
  ⟨fun j u hu => (hk _ (by rw [addr_block, addr_block]; exact ha)).trans (h.cells j u hu), h.len⟩
theorem OwnB.row {w : World} {base : Nat} {v : Value} {ys : List Int} (h : OwnB w base v ys) (h0 : 0 < ys.length) : ∃ g rest c, v = .slice (some ⟨g, 0, none⟩) ys.length c ∧ base ≤ g ∧ Row w g 5 (bv ys ++ rest) ∧ ys.length ≤ c ∧ c ≤ maxLen := by
  rcases h.2 with ⟨_, h1⟩ | ⟨g, cap, cur, rfl, hg, hh, h2, h3, h4, h5⟩
  · omega
  · refine ⟨g, cur.toList.drop ys.length, cap, rfl, hg, ⟨?_⟩, h2, h3⟩
    rw [hh]
    have : bv ys ++ cur.toList.drop ys.length = cur.toList := by
      rw [← h5]; simp
    rw [this]
end Go.Proofs.Ytdbcbjjomhbhpaa

/-
  Of part Read: what is needed here.
-/
namespace Go.Proofs.Ytdbcbjjomhbhpaa
open Go.RowKit
set_option linter.unusedVariables false
def zeros (n : Nat) : List Value := List.replicate n (.int .u8 0)
end Go.Proofs.Ytdbcbjjomhbhpaa

/-
  Of part ReadIn: what is needed here.
-/
namespace Go.Proofs.Ytdbcbjjomhbhpaa
open Go.RowKit
set_option linter.unusedVariables false
section
variable {w w' : World} {p B g lo : Nat} {zs : List Int} {v : Value} {xs : List Int}
theorem OwnB.lt (h : OwnB w lo v xs) : ∀ k, v.ownBlock = some k → lo ≤ k ∧ k < w.heap.size := World.ownsRow.lt h
theorem OwnB.more {lo' : Nat} (h : OwnB w lo v xs) (hl : lo' ≤ lo) : OwnB w lo' v xs := by
  refine ⟨h.1, ?_⟩
  rcases h.2 with h2 | ⟨k, cap, cur, hv, hk, hh, r⟩
  · exact .inl h2
  · exact .inr ⟨k, cap, cur, hv, by omega, hh, r⟩
theorem OwnB.one (h : OwnB w lo v xs) : v.oneCell' = true := by
  obtain ⟨A, c, rfl⟩ := h.form
  rfl
end
end Go.Proofs.Ytdbcbjjomhbhpaa

/-
  Of part ListV: what is needed here.
-/
namespace Go.Proofs.Ytdbcbjjomhbhpaa
open Go.RowKit
set_option linter.unusedVariables false
section
variable {P : Program}
/-- a slice literal of one element of many cells -/
theorem wpList_buildOne {ops : Array Oper} {rest : List Oper} {o : Oper} {a : Act} {w : World} {Q : Exit → Act → World → Prop} (hg : o.guard = none) (t e : TypeId) (y : Operand) (ho : o.op = .buildSlice t 1 #[(0, y)])
    (cs : List Value) (z : Value) (size bytes : Nat) (hu : P.underlying t = some (.slice e)) (hi : (P.info? e).map (fun i => (i.zero, i.size, i.bytes)) = some (some z, size, bytes)) (hzs : z.cells.size = size) (hs0 : 0 < size) (hs1 : size ≤ 1000)
    (hcs : cs.length = size) (hy : a.eval y = .agg cs.toArray)
    (h : wpList P ops Q rest (a.put o.dst (.slice (some ⟨w.heap.size, 0, none⟩) 1 1)) (w.alloc (.cells cs.toArray e))) : wpList P ops Q (o :: rest) a w := by
  obtain ⟨ie, hie, h1, h2, _⟩ := info_parts hi
  subst h2
  refine wpList_buildSlice hg t e 1 _ ho cs.toArray ie z hu hie h1 (by omega) (by omega) ?_ h
  have := Go.Great.fill_whole (s := ie.size) hs0 [Value.agg cs.toArray] ((Array.range (1 * ie.size)).map (z.cells[· % z.cells.size]!)) (by simp [Value.cells, hcs]) (by simp)
  simpa [hy, Value.cells] using this
/-- append of an element that has just been laid, onto a row of one's own -/
theorem wpList_addRow {w0 : World} {c : Array Value} {ops : Array Oper} {rest : List Oper} {o : Oper} {a : Act} {Q : Exit → Act → World → Prop} (hgd : o.guard = none) (s x : Operand) (t : TypeId)
    (ho : o.op = .call { callee := .builtin .append, args := #[s, x], argTypes := #[t, t] })
    (base : Nat) (e : TypeId) (z : Value) (size bytes : Nat) (ht : P.underlying t = some (.slice e)) (hi : (P.info? e).map (fun i => (i.zero, i.size, i.bytes)) = some (some z, size, bytes)) (hzs : z.cells.size = size) (hs0 : 0 < size)
    (v : Value) (n : Nat) (xs cs : List Value) (cc : Nat) (hcs : cs.length = size) (h1 : ∀ u ∈ cs, u.oneCell' = true) (hc : c = cs.toArray) (hs : a.eval s = v) (hown : w0.ownsRow base e size v n xs)
    (hx : a.eval x = .slice (some ⟨w0.heap.size, 0, none⟩) 1 cc) (hbase : base ≤ w0.heap.size) (hnm : n + 1 ≤ maxLen) (hbytes : (n + 1) * bytes ≤ 140737488355328)
    (h : ∀ v' w', w'.ownsRow base e size v' (n + 1) (xs ++ cs) → Grew w0 w' v v' → wpList P ops Q rest (a.put o.dst v') w') : wpList P ops Q (o :: rest) a (w0.alloc (.cells c e)) := by
  subst hc
  obtain ⟨i0, hi, hz0, hz1, hz2⟩ := info_parts hi
  have hr := Row.new w0 e cs
  refine wpList_plain hgd fun K hK => ?_
  obtain ⟨v', w', hrun, h2, h3, _, h5⟩ := run_append_own_at (P := P) (w0.alloc (.cells cs.toArray e)) base t o.type e i0 z size bytes ht hi hz0 hz1 hz2 hzs hs0 v n xs (hown.alloc _) ⟨w0.heap.size, 0, none⟩ 1 cc cs (by omega)
    (fun j u hu => by rw [addr_row, hr.cell]; simpa using hu) h1 hnm hbytes (by simp; omega)
  unfold Oper.wp execOp
  simp only [ho, resolve, invoke, builtin, Sem.run_bind, Sem.run_pure, Result.andThen_ok, List.map_toArray, List.map_cons, List.map_nil, hs, hx, hrun]
  refine hK _ _ (h v' w' h2 ((Grew.of_below ((Below.refl _ w0).alloc (Nat.le_refl _) _) v).trans ⟨h3, fun k hk => ?_⟩))
  rcases h5 with h5 | h5
  · exact .inl (h5 ▸ hk)
  · rw [h5] at hk
    cases hk
    exact .inr (Nat.le_refl _)
end
end Go.Proofs.Ytdbcbjjomhbhpaa

/-
  Of part ListK: what is needed here.
-/
namespace Go.Proofs.Ytdbcbjjomhbhpaa
open Go.RowKit
set_option linter.unusedVariables false
theorem info_key : (Try.prog.info? 32).map (fun i => (i.zero, i.size, i.bytes)) = some (some (.agg (zeros 32).toArray), 32, 32) := by kernel_rfl
end Go.Proofs.Ytdbcbjjomhbhpaa

/-
  Of part Enc: what is needed here.
-/
namespace Go.Proofs.Ytdbcbjjomhbhpaa
open Go.RowKit
set_option linter.unusedVariables false
theorem AllBytes.app {a b : List Int} (ha : AllBytes a) (hb : AllBytes b) : AllBytes (a ++ b) := fun z hz => by
  rcases List.mem_append.1 hz with h | h
  · exact ha z h
  · exact hb z h
theorem AllBytes.map {α : Type} {f : α → List Int} {l : List α} (h : ∀ x ∈ l, AllBytes (f x)) : AllBytes (l.flatMap f) := fun z hz => by
  obtain ⟨x, hx, hz⟩ := List.mem_flatMap.1 hz
  exact h x hx z hz
end Go.Proofs.Ytdbcbjjomhbhpaa

/-
  Of part GetMsg: what is needed here.
-/
namespace Go.Proofs.Ytdbcbjjomhbhpaa
open Go.RowKit
set_option linter.unusedVariables false
/-- 'wpAnyH_take', the operations a list: the operation comes out written out -/
theorem takeL {P : Program} {L : List Oper} {Q : Exit → Act → World → Prop} {md : Region.Mode} {S : World → Prop} {i : Nat} {oi : Oper} {v : Value} {fuel : Nat} {listed : Array Bool} {a : Act} {w : World} (hi : L[i]? = some oi)
    (hs : Region.noSelect L.toArray = true) (hf : Region.free md L.toArray listed i = true) (hr : (Region.ready md L.toArray listed).contains i = true)
    (hQ : ∀ c a w, Q (.panic c) (a.put oi.dst v) w → Q (.panic c) a w) (hy : YieldsIf P L.toArray S oi v a) (hS : S w)
    (h : wpAnyH P md L.toArray Q S fuel (listed.setIfInBounds i true) (a.put oi.dst v) w) : wpAnyH P md L.toArray Q S (fuel + 1) listed a w :=
  wpAnyH_take (by simpa using hi) hs hf hr hQ hy hS h
/-- 'AllReadyH.cons', likewise, for one operation -/
theorem readyL {P : Program} {L : List Oper} {Q : Exit → Act → World → Prop} {md : Region.Mode} {S : World → Prop} {i : Nat} {o : Oper} {fuel : Nat} {listed : Array Bool} {a : Act} {w : World} (ho : L[i]? = some o) (hr : Region.ready md L.toArray listed = [i])
    (hw : Region.wanted o (yielded L.toArray a.tmps) = true)
    (h : ∀ K' : Act → World → Prop, Shut (∀ a w, S w → wpAnyH P md L.toArray Q S fuel (listed.setIfInBounds i true) a w → K' a w) → Oper.wp P o a w K' Q) : wpAnyH P md L.toArray Q S (fuel + 1) listed a w :=
  wpAnyH_ready hr (by simp) (AllReadyH.cons (by simpa using ho) (fun K hK => by
    rw [if_pos hw]
    exact h K (fun a w hS hW => hK a w hS fun _ => hW)) AllReadyH.nil)
end Go.Proofs.Ytdbcbjjomhbhpaa

/-
  Of part Tx: what is needed here.
-/
namespace Go.Proofs.Ytdbcbjjomhbhpaa
open Go.RowKit
set_option linter.unusedVariables false
/-- a transaction -/
structure LTx where
  sigs : List (List Int)
  m : LMsg
end Go.Proofs.Ytdbcbjjomhbhpaa

/-
  Of part Great: what is needed here.
-/
namespace Go.Proofs.Ytdbcbjjomhbhpaa
open Go.RowKit
set_option linter.unusedVariables false
def lookSize (l : List LLook) : Nat := (l.map fun i => i.wr.length + i.rd.length).sum
theorem lookSize_succ {l : List LLook} {k : Nat} {x : LLook} (h : l[k]? = some x) : lookSize (l.take (k + 1)) = lookSize (l.take k) + (x.wr.length + x.rd.length) := by
  unfold lookSize
  rw [List.take_add_one, h]
  simp
theorem lsize_mem {l : List LLook} {x : LLook} (h : x ∈ l) : x.wr.length + x.rd.length ≤ lookSize l := by
  induction l with
  | nil => cases h
  | cons y r ih =>
    simp only [lookSize, List.map_cons, List.sum_cons] at ih ⊢
    rcases List.mem_cons.1 h with rfl | h
    · omega
    · have := ih h; omega
end Go.Proofs.Ytdbcbjjomhbhpaa

/-
  Of part IsIn: what is needed here.
-/
namespace Go.Proofs.Ytdbcbjjomhbhpaa
open Go.RowKit
set_option linter.unusedVariables false
theorem flatten_at {α : Type} (size : Nat) : ∀ (l : List (List α)) (k : Nat) (x : List α), (∀ (i : Nat) y, l[i]? = some y → y.length = size) → l[k]? = some x → ∀ j u, x[j]? = some u → l.flatten[k * size + j]? = some u
  | [], k, x, _, h, _, _, _ => by simp at h
  | y :: r, 0, x, hl, h, j, u, hu => by
    have : y = x := by simpa using h
    subst this
    have hj := (List.getElem?_eq_some_iff.1 hu).1
    rw [List.flatten_cons, List.getElem?_append_left (by simpa using hj)]
    simpa using hu
  | y :: r, k + 1, x, hl, h, j, u, hu => by
    have hy := hl 0 y (by simp)
    rw [List.flatten_cons, List.getElem?_append_right (by rw [hy, Nat.add_mul]; omega)]
    have := flatten_at size r k x (fun i z hz => hl (i + 1) z (by simpa using hz)) (by simpa using h) j u hu
    rw [← this]
    congr 1
    rw [hy, Nat.add_mul]
    omega
end Go.Proofs.Ytdbcbjjomhbhpaa

/-
  Of part OpenMsg: what is needed here.
-/
namespace Go.Proofs.Ytdbcbjjomhbhpaa
open Go.RowKit
set_option linter.unusedVariables false
open Go.ChangeShapes Go.WideShapes Go.RowKit
theorem list_of {α : Type} {p : Nat → α → Prop} : ∀ (n : Nat), (∀ i, i < n → ∃ x, p i x) → ∃ l : List α, l.length = n ∧ ∀ i x, l[i]? = some x → p i x
  | 0, _ => ⟨[], rfl, fun i x h => by simp at h⟩
  | n + 1, h => by
    obtain ⟨l, hl, hp⟩ := list_of n fun i hi => h i (by omega)
    obtain ⟨x, hx⟩ := h n (Nat.lt_succ_self _)
    refine ⟨l ++ [x], by simp [hl], fun i y hy => ?_⟩
    by_cases hi : i < n
    · rw [List.getElem?_append_left (by omega)] at hy
      exact hp i y hy
    · rw [List.getElem?_append_right (by omega)] at hy
      have h1 := (List.getElem?_eq_some_iff.1 hy).1
      simp at h1
      have : i = n := by omega
      subst this
      rw [show i - l.length = 0 by omega] at hy
      simp at hy
      exact hy ▸ hx
theorem KeysIn.of_at {w : World} {B : Nat} {A : Option Addr} {n : Nat} {l : List (List Int)} (hn : l.length = n) (h : ∀ (i : Nat) x, l[i]? = some x → x.length = 32 ∧ ∃ a, A = some a ∧ a.block < B ∧ ∀ j u, (bv x)[j]? = some u → w.cell? (a.add (i * 32 + j)) = some u) : KeysIn w B A n l := by
  have he : ∀ k ∈ l, k.length = 32 := fun k hk => by
    obtain ⟨i, hi, rfl⟩ := List.getElem_of_mem hk
    exact (h i _ (List.getElem?_eq_getElem hi)).1
  have hf : l.flatten.length = n * 32 := by
    rw [← hn]
    clear hn h
    induction l with
    | nil => rfl
    | cons y r ih =>
      have h1 := ih (fun k hk => he k (by simp [hk]))
      have h2 := he y (by simp)
      simp only [List.flatten_cons, List.length_append, List.length_cons, h1, h2]
      omega
  refine ⟨hn, he, ⟨by rw [bv_length]; exact hf, fun i u hu => ?_⟩⟩
  have hi := (List.getElem?_eq_some_iff.1 hu).1
  rw [bv_length, hf] at hi
  have hk : i / 32 < l.length := by omega
  obtain ⟨h1, a, rfl, h2, h3⟩ := h (i / 32) _ (List.getElem?_eq_getElem hk)
  refine ⟨_, rfl, h2, ?_⟩
  have hlt : i % 32 < (bv l[i / 32]).length := by rw [bv_length, h1]; omega
  obtain ⟨u', hu'⟩ : ∃ u', (bv l[i / 32])[i % 32]? = some u' := ⟨_, List.getElem?_eq_getElem hlt⟩
  have h4 := h3 _ _ hu'
  rw [show i / 32 * 32 + i % 32 = i by omega] at h4
  rw [h4]
  rw [bv_getElem?] at hu hu'
  obtain ⟨z', hz', rfl⟩ : ∃ z, (l[i / 32])[i % 32]? = some z ∧ u' = .int .u8 z := by
    cases hq : (l[i / 32])[i % 32]? with
    | none => rw [hq] at hu'; simp at hu'
    | some z => rw [hq] at hu'; exact ⟨z, rfl, by simpa using hu'.symm⟩
  have h5 := flatten_at 32 l (i / 32) _ (fun i y hy => he y (List.mem_of_getElem? hy)) (List.getElem?_eq_getElem hk) (i % 32) z' hz'
  rw [show i / 32 * 32 + i % 32 = i by omega] at h5
  rw [h5] at hu
  exact hu
theorem byte_wf {z : Int} (h : (Lit.int .u8 z).wf = true) : IsByte z := by
  have := bounds_u8 h
  unfold IsByte
  omega
section
variable {H : Type} {enc : TypeId × Value → H}
/-- no list in it is longer than the form's reach -/
def Wt (t : TypeId) (d : DataW H) : Prop := ∀ n ∈ d.weights Try.prog t, n ≤ reachBytes
theorem wt_all {e : TypeId} : ∀ {l : List (DataW H)}, (∀ n ∈ DataW.weightsAll Try.prog e l, n ≤ reachBytes) → ∀ d ∈ l, Wt e d
  | [], _, d, hd => by simp at hd
  | y :: r, h, d, hd => by
    rcases List.mem_cons.1 hd with rfl | hd
    · exact fun n hn => h n (by simp [DataW.weightsAll, hn])
    · exact wt_all (l := r) (fun n hn => h n (by simp [DataW.weightsAll, hn])) d hd
variable {w : World} {base : Nat} {held : Bool}
theorem open_sl {t e : TypeId} {fuel : Nat} {cs : List Value} {x : DataW H × List MemPlace} (ht : Try.prog.underlying t = some (.slice e)) (hc : 0 < Try.prog.cellsOf e)
    (h : DataW.trod enc Try.prog w base (fun _ => true) held fuel t cs = some x) (hw : Wt t x.1) :
    ∃ A n c, cs = [.slice A n c] ∧ n ≤ c ∧ c ≤ maxLen ∧ n * Try.prog.bytesOf e ≤ reachBytes ∧ ∀ i, i < n → ∃ a cs' y m, A = some a ∧ a.block < w.heap.size ∧ cs'.length = Try.prog.cellsOf e ∧
      (∀ j u, cs'[j]? = some u → w.cell? (a.add (i * Try.prog.cellsOf e + j)) = some u) ∧ DataW.trod enc Try.prog w base (fun _ => true) held m e cs' = some y ∧ Wt e y.1 := by
  rcases Go.Deep.open_slice ht h with ⟨rfl, rfl⟩ | ⟨a, len, cap, m, n, D, Pl, rfl, hb, hl, hm, hmm, rfl, hx⟩
  · exact ⟨none, 0, 0, rfl, Nat.le_refl _, Nat.zero_le _, by simp, fun i hi => by omega⟩
  · have hm' : m = cap := by simpa using hmm
    have h1 : ((len + (m - len)) * Try.prog.bytesOf e) ≤ reachBytes := by
      refine hw _ ?_
      simp [DataW.weights, ht]
    have h2 : ∀ d ∈ (List.range len).map D, Wt e d := wt_all fun n hn => hw n (by simp only [DataW.weights, ht]; simp [hn])
    refine ⟨some a, len, cap, rfl, hl, hm, Nat.le_trans (Nat.mul_le_mul_right _ (by omega)) h1, fun i hi => ?_⟩
    obtain ⟨cs', hcs, htr⟩ := hx i (by omega)
    have hbl := World.cells?_block hcs hc
    obtain ⟨_, hlen, hat⟩ := World.cells?_some hcs
    refine ⟨a, cs', _, n, rfl, by rwa [addr_block] at hbl, hlen, fun j u hu => ?_, htr, h2 _ (by simp; exact ⟨i, hi, rfl⟩)⟩
    have := hat j (by have := (List.getElem?_eq_some_iff.1 hu).1; omega)
    rw [addr_add] at this
    rw [this, hu]
theorem cellsU8 : Try.prog.cellsOf 5 = 1 := by kernel_rfl
theorem bytesU8 : Try.prog.bytesOf 5 = 1 := by kernel_rfl
theorem cellsKey : Try.prog.cellsOf 32 = 32 := by kernel_rfl
theorem bytesKey : Try.prog.bytesOf 32 = 32 := by kernel_rfl
theorem cellsLook : Try.prog.cellsOf 60 = 34 := by kernel_rfl
theorem bytesLook : Try.prog.bytesOf 60 = 80 := by kernel_rfl
theorem cellsBs : Try.prog.cellsOf 58 = 1 := by kernel_rfl
theorem reach47 : reachBytes ≤ 140737488355328 := by decide
theorem open_bytes {fuel : Nat} {v : Value} {x : DataW H × List MemPlace} (h : DataW.trod enc Try.prog w base (fun _ => true) held fuel 58 [v] = some x) (hw : Wt 58 x.1) :
    ∃ l, BytesIn w w.heap.size v l ∧ AllBytes l ∧ l.length ≤ 140737488355328 := by
  obtain ⟨A, n, c, hcs, h1, h2, h3, h4⟩ := open_sl Try.underlying58 (by rw [cellsU8]; omega) h hw
  obtain rfl : v = .slice A n c := by simpa using hcs
  rw [bytesU8] at h3
  have := reach47
  obtain ⟨l, hl, hp⟩ := list_of (α := Int) (p := fun i z => IsByte z ∧ ∃ a, A = some a ∧ a.block < w.heap.size ∧ w.cell? (a.add i) = some (.int .u8 z)) n fun i hi => by
    obtain ⟨a, cs', y, m, e1, e2, e3, e4, e5, _⟩ := h4 i hi
    obtain ⟨z, rfl, _, hz⟩ := DataW.trod_int Try.underlying5 e5
    have := e4 0 _ rfl
    rw [cellsU8, Nat.mul_one, Nat.add_zero] at this
    exact ⟨z, byte_wf hz, a, e1, e2, this⟩
  subst hl
  refine ⟨l, ⟨A, c, rfl, ⟨bv_length _, fun i u hu => ?_⟩, h1, h2⟩, fun z hz => ?_, by omega⟩
  · rw [bv_getElem?] at hu
    cases hq : l[i]? with
    | none => rw [hq] at hu; simp at hu
    | some z =>
      rw [hq] at hu
      obtain ⟨_, a, e1, e2, e3⟩ := hp i z hq
      obtain rfl : Value.int .u8 z = u := by simpa using hu
      exact ⟨a, e1, e2, e3⟩
  · obtain ⟨i, hi, rfl⟩ := List.getElem_of_mem hz
    exact (hp i _ (List.getElem?_eq_getElem hi)).1
theorem open_32 {t : TypeId} {fuel : Nat} {cs : List Value} {x : DataW H × List MemPlace} (ht : Try.prog.underlying t = some (.array 32 5)) (hc : Try.prog.cellsOf t = 32) (h : DataW.trod enc Try.prog w base (fun _ => true) held fuel t cs = some x) :
    ∃ l : List Int, cs = bv l ∧ l.length = 32 ∧ AllBytes l := by
  obtain ⟨xs, m, _, _, hl, hxs, hat⟩ := DataW.trod_array ht h
  obtain ⟨l, hll, hp⟩ := list_of (α := Int) (p := fun i z => IsByte z ∧ cs[i]? = some (.int .u8 z)) 32 fun i hi => by
    have h1 := hat i hi
    have hx : xs[i]? = some xs[i] := List.getElem?_eq_getElem (by omega)
    rw [cellsU8, hx] at h1
    obtain ⟨z, hz, _, hwz⟩ := DataW.trod_int Try.underlying5 h1
    refine ⟨z, byte_wf hwz, ?_⟩
    have := congrArg List.head? hz
    simpa [List.head?_take] using this
  rw [hc] at hl
  refine ⟨l, List.ext_getElem? fun i => ?_, hll, fun z hz => ?_⟩
  · by_cases hi : i < 32
    · have e := List.getElem?_eq_getElem (l := l) (i := i) (by omega)
      rw [bv_getElem?, e, (hp i _ e).2]
      rfl
    · rw [List.getElem?_eq_none (by omega), List.getElem?_eq_none (by rw [bv_length]; omega)]
  · obtain ⟨i, hi, rfl⟩ := List.getElem_of_mem hz
    exact (hp i _ (List.getElem?_eq_getElem hi)).1
end
open Go.ChangeShapes Go.WideShapes Go.RowKit
theorem two_of {cs : List Value} (h : cs.length = 2) : ∃ a b, cs = [a, b] := by
  match cs, h with
  | [a, b], _ => exact ⟨a, b, rfl⟩
section
variable {H : Type} {enc : TypeId × Value → H} {w : World} {base : Nat} {held : Bool}
theorem wt_look {y0 y1 y2 : DataW H} (h : Wt 60 (.agg [y0, y1, y2])) : Wt 58 y1 ∧ Wt 58 y2 := by
  refine ⟨fun n hn => h n ?_, fun n hn => h n ?_⟩ <;> simp only [DataW.weights, Try.underlying60] <;> simp [DataW.weightsEach, hn]
theorem open_keys {fuel : Nat} {v : Value} {x : DataW H × List MemPlace} (h : DataW.trod enc Try.prog w base (fun _ => true) held fuel 33 [v] = some x) (hw : Wt 33 x.1) :
    ∃ A n c l, v = .slice A n c ∧ n ≤ c ∧ c ≤ maxLen ∧ KeysIn w w.heap.size A n l ∧ (∀ k ∈ l, k.length = 32 ∧ AllBytes k) ∧ l.length ≤ 140737488355328 := by
  obtain ⟨A, n, c, hcs, h1, h2, h3, h4⟩ := open_sl Try.underlying33 (by rw [cellsKey]; omega) h hw
  obtain rfl : v = .slice A n c := by simpa using hcs
  rw [bytesKey] at h3
  have := reach47
  obtain ⟨l, hl, hp⟩ := list_of (α := List Int) (p := fun i z => (z.length = 32 ∧ AllBytes z) ∧ ∃ a, A = some a ∧ a.block < w.heap.size ∧ ∀ j u, (bv z)[j]? = some u → w.cell? (a.add (i * 32 + j)) = some u) n fun i hi => by
    obtain ⟨a, cs', y, m, e1, e2, e3, e4, e5, _⟩ := h4 i hi
    obtain ⟨z, rfl, hz, hz'⟩ := open_32 Try.underlying32 cellsKey e5
    rw [cellsKey] at e4
    exact ⟨z, ⟨hz, hz'⟩, a, e1, e2, e4⟩
  subst hl
  refine ⟨A, l.length, c, l, rfl, h1, h2, KeysIn.of_at rfl fun i x hx => ⟨(hp i x hx).1.1, (hp i x hx).2⟩, fun k hk => ?_, by omega⟩
  obtain ⟨i, hi, rfl⟩ := List.getElem_of_mem hk
  exact (hp i _ (List.getElem?_eq_getElem hi)).1
theorem open_looks {fuel : Nat} {v : Value} {x : DataW H × List MemPlace} (h : DataW.trod enc Try.prog w base (fun _ => true) held fuel 34 [v] = some x) (hw : Wt 34 x.1) :
    ∃ A n c l, v = .slice A n c ∧ n ≤ c ∧ c ≤ maxLen ∧ LooksIn w w.heap.size A n l ∧ (∀ i ∈ l, ((i.tab.length = 32 ∧ AllBytes i.tab) ∧ AllBytes i.wr ∧ AllBytes i.rd) ∧ i.wr.length ≤ 140737488355328 ∧ i.rd.length ≤ 140737488355328) ∧ l.length ≤ 140737488355328 := by
  obtain ⟨A, n, c, hcs, h1, h2, h3, h4⟩ := open_sl Try.underlying34 (by rw [cellsLook]; omega) h hw
  obtain rfl : v = .slice A n c := by simpa using hcs
  rw [bytesLook] at h3
  have := reach47
  obtain ⟨l, hl, hp⟩ := list_of (α := LLook) (p := fun i z => (((z.tab.length = 32 ∧ AllBytes z.tab) ∧ AllBytes z.wr ∧ AllBytes z.rd) ∧ z.wr.length ≤ 140737488355328 ∧ z.rd.length ≤ 140737488355328) ∧
      ∃ a va vd, A = some a ∧ a.block < w.heap.size ∧ (∀ j u, (bv z.tab ++ [va, vd])[j]? = some u → w.cell? (a.add (i * 34 + j)) = some u) ∧ z.tab.length = 32 ∧ BytesIn w w.heap.size va z.wr ∧ BytesIn w w.heap.size vd z.rd) n fun i hi => by
    obtain ⟨a, cs', y, m, e1, e2, e3, e4, e5, e6⟩ := h4 i hi
    obtain ⟨y0, y1, y2, k, rfl, hl, t0, t1, t2⟩ := Go.Deep.trod_struct3 Try.underlying60 e5
    rw [cellsLook] at e3 e4
    obtain ⟨w1, w2⟩ := wt_look e6
    have t0' : DataW.trod enc Try.prog w base (fun _ => true) held k 32 (cs'.take 32) = some y0 := by simpa [cellsKey] using t0
    obtain ⟨z, hz, hz1, hz2⟩ := open_32 Try.underlying32 cellsKey t0'
    obtain ⟨c1, c2, hc12⟩ : ∃ c1 c2, cs'.drop 32 = [c1, c2] := two_of (by rw [List.length_drop, e3])
    obtain rfl : cs' = bv z ++ [c1, c2] := by rw [← hz, ← hc12, List.take_append_drop]
    have t1' : DataW.trod enc Try.prog w base (fun _ => true) held k 58 [c1] = some y1 := by
      have := t1
      simp only [cellsBs] at this
      rw [hc12] at this
      exact this
    have t2' : DataW.trod enc Try.prog w base (fun _ => true) held k 58 [c2] = some y2 := by
      have := t2
      simp only [cellsBs] at this
      rw [show (33 : Nat) = 32 + 1 from rfl, ← List.drop_drop, hc12] at this
      exact this
    obtain ⟨la, a1, a2, a3⟩ := open_bytes t1' w1
    obtain ⟨ld, d1, d2, d3⟩ := open_bytes t2' w2
    exact ⟨⟨z, la, ld⟩, ⟨⟨⟨hz1, hz2⟩, a2, d2⟩, a3, d3⟩, a, c1, c2, e1, e2, e4, hz1, a1, d1⟩
  subst hl
  refine ⟨A, l.length, c, l, rfl, h1, h2, ⟨rfl, fun i x hx => (hp i x hx).2⟩, fun k hk => ?_, by omega⟩
  obtain ⟨i, hi, rfl⟩ := List.getElem_of_mem hk
  exact (hp i _ (List.getElem?_eq_getElem hi)).1
end
open Go.ChangeShapes Go.WideShapes Go.RowKit
theorem one_of {cs : List Value} (h : cs.length = 1) : ∃ a, cs = [a] := by
  match cs, h with
  | [a], _ => exact ⟨a, rfl⟩
theorem cellsKeys : Try.prog.cellsOf 33 = 1 := by kernel_rfl
theorem cellsLooks : Try.prog.cellsOf 34 = 1 := by kernel_rfl
theorem cut {α : Type} (cs : List α) (a k b : Nat) (h : a + k = b) : cs.drop a = (cs.drop a).take k ++ cs.drop b := by
  subst h
  rw [← List.drop_drop, List.take_append_drop]
end Go.Proofs.Ytdbcbjjomhbhpaa

/-
  Of part Rules: what is needed here.
-/
namespace Go.Proofs.Ytdbcbjjomhbhpaa
open Go.RowKit
set_option linter.unusedVariables false
/-- a lookup's indices -/
def ixs (l : LLook) : Nat := l.wr.length + l.rd.length
/-- all keys -/
def tot (m : LMsg) : Nat := m.keys.length + lookSize m.looks
/-- an instruction that names a key that there is not -/
def astray (tt : Nat) (a : Int) : Bool := decide ((tt : Int) ≤ a)
def pstray (own : Nat) (p : Int) : Bool := decide (p = 0 ∨ (own : Int) ≤ p)
def stray (own tt : Nat) (i : LIn) : Bool := pstray own i.p || i.acc.any (astray tt)
def noix (l : LLook) : Bool := decide (ixs l = 0)
/-- the rules, broken -/
def b1 (x : LTx) : Bool := decide (x.m.s = 0 ∨ (x.sigs.length : Int) ≠ x.m.s)
def b2 (m : LMsg) : Bool := decide (m.s ≤ m.r ∨ (m.keys.length : Int) < m.s + m.o)
def b3 (m : LMsg) : Bool := m.looks.any noix
def b4 (m : LMsg) : Bool := decide (64 < tot m)
def b5 (m : LMsg) : Bool := m.ins.any (stray m.keys.length (tot m))
def b6 (m : LMsg) : Bool := decide (¬ m.keys.Nodup)
theorem lookSize_take {l : List LLook} (k : Nat) : lookSize (l.take k) ≤ lookSize l := by
  have e : lookSize l = lookSize (l.take k) + lookSize (l.drop k) := by
    unfold lookSize
    rw [← List.sum_append, ← List.map_append, List.take_append_drop]
  omega
end Go.Proofs.Ytdbcbjjomhbhpaa

/-
  Of part KeyMap: what is needed here.
-/
namespace Go.Proofs.Ytdbcbjjomhbhpaa
open Go.RowKit Go.Maps
set_option linter.unusedVariables false
theorem arr_key : WideMaps.ArrKey Try.prog 32 5 32 := ⟨Try.underlying32, by kernel_rfl, by kernel_rfl, by kernel_rfl⟩
theorem key_law : Keyed Try.prog 32 := Keyed.of_law arr_key.law
theorem mapM_some {α β : Type} {f : α → Option β} {g : α → β} : ∀ (l : List α), (∀ x ∈ l, f x = some (g x)) → l.mapM f = some (l.map g)
  | [], _ => rfl
  | x :: r, h => by
    rw [List.mapM_cons, h x (by simp), mapM_some r (fun y hy => h y (by simp [hy]))]
    rfl
/-- what a key reads as -/
def KL (x : List Int) : Lit := .string (keyBytes ((List.range 32).map fun i => [Lit.int .u8 (x.getD i 0)]).flatten)
theorem KL_is {x : List Int} (h : x.length = 32) (hb : AllBytes x) : Go.keyOf Try.prog 32 (.agg (bv x).toArray) = some (KL x) := by
  have hkt : Try.prog.keyType 32 = true := by kernel_rfl
  have e : (Try.prog.keyLits (Try.prog.types.size + 1) 32 (bv x)) = some ((List.range 32).map fun i => [Lit.int .u8 (x.getD i 0)]).flatten := by
    obtain ⟨m, hm⟩ : ∃ m, Try.prog.types.size = m + 1 := ⟨Try.prog.types.size - 1, by kernel_rfl⟩
    unfold Program.keyLits
    simp only [Try.underlying32]
    rw [if_pos (by rw [bv_length, h]; exact arr_key.size.symm), mapM_some (g := fun i => [Lit.int .u8 (x.getD i 0)])]
    · rfl
    intro i hi
    have hi : i < 32 := by simpa using hi
    rw [arr_key.one, Nat.mul_one, hm]
    have hx : x[i]? = some (x.getD i 0) := by rw [List.getD_eq_getElem?_getD, List.getElem?_eq_getElem (by omega)]; rfl
    have hc : ((bv x).drop i).take 1 = [.int .u8 (x.getD i 0)] := by
      rw [List.take_one, List.head?_drop, bv_getElem?, hx]
      rfl
    obtain ⟨z0, z1⟩ := hb _ (List.mem_of_getElem? hx)
    rw [hc]
    unfold Program.keyLits
    simp only [Try.underlying5]
    have hwf : (Lit.int .u8 (x.getD i 0)).wf = true := by
      show (decide ((0 : Int) ≤ x.getD i 0) && decide (x.getD i 0 ≤ 255)) = true
      rw [decide_eq_true z0, decide_eq_true (by omega)]
      rfl
    rw [if_pos ⟨trivial, hwf⟩]
  unfold KL Go.keyOf
  simp only [Try.underlying32]
  rw [if_pos (by simp [hkt, Value.formed, Try.underlying32, arr_key.size, bv_length, h]), show (Value.agg (bv x).toArray).cells.toList = bv x by simp [Value.cells], e]
  rfl
theorem KL_inj {x y : List Int} (hx : x.length = 32) (bx : AllBytes x) (hy : y.length = 32) (by_ : AllBytes y) (h : KL x = KL y) : x = y := by
  have := key_law.inj (KL_is hx bx) (h ▸ KL_is hy by_)
  have h2 : bv x = bv y := by simpa using this
  unfold bv cv at h2
  exact (List.map_inj_right (fun a b hab => by injection hab)).1 h2
theorem KL_key {x : List Int} (h : x.length = 32) (hb : AllBytes x) : WideAt.IsKeyLit (KL x) := key_law.key (KL_is h hb)
end Go.Proofs.Ytdbcbjjomhbhpaa

/-
  Of part Sheet: what is needed here.
-/
namespace Go.Proofs.Ytdbcbjjomhbhpaa
open Go.RowKit
set_option linter.unusedVariables false
theorem grown_trans {a b c : World} {r : Option Nat} (h : a.grownBy b r) (k : b.grownBy c r) : a.grownBy c r :=
  ⟨k.os.trans h.os, k.tape.trans h.tape, k.output.trans h.output, Nat.le_trans h.size k.size, fun i hi hne => (k.block i (Nat.lt_of_lt_of_le hi h.size) hne).trans (h.block i hi hne)⟩
end Go.Proofs.Ytdbcbjjomhbhpaa

/-
  Of part SameZero: what is needed here.
-/
namespace Go.Proofs.Ytdbcbjjomhbhpaa
open Go.RowKit
set_option linter.unusedVariables false
section
variable {P : Program}
theorem wpList_load_atg {ops : Array Oper} {rest : List Oper} {op : Oper} {a : Act} {w : World} {Q : Exit → Act → World → Prop} (hw : Region.wanted op (yielded ops a.tmps) = true) (ty : TypeId) (x : Operand) (ho : op.op = .load ty x)
    (p : Addr) (cs : List Value) (d : TypeDesc) (hu : P.underlying ty = some d) (hd : d.isRow = true) (hi : (P.info? ty).map (·.size) = some cs.length) (hc : ∀ j v, cs[j]? = some v → w.cell? (p.add j) = some v)
    (hx : a.eval x = .pointer (some p)) (h : wpList P ops Q rest (a.put op.dst (.agg cs.toArray)) w) : wpList P ops Q (op :: rest) a w :=
  BigFrame.wpList_want hw fun _ hK => by
    unfold Oper.wp execOp
    simp only [ho, hx, Sem.run_bind, Sem.run_pure, run_loadAt_at w p ty cs d hc hu hd hi, Result.andThen_ok]
    exact hK _ _ h
end
end Go.Proofs.Ytdbcbjjomhbhpaa

/-
  Of part SameMsg: what is needed here.
-/
namespace Go.Proofs.Ytdbcbjjomhbhpaa
open Go.RowKit
set_option linter.unusedVariables false
section
variable {P : Program} {ops : Array Oper} {C : World → Prop} {Q : Act → Prop} {a : Act} {o : Oper} {rest : List Oper}
/-- a value of many cells, read in a region that only reads -/
theorem quiet_load_at (hw : Region.wanted o (yielded ops a.tmps) = true) (ty : TypeId) (x : Operand) (ho : o.op = .load ty x)
    (p : Addr) (cs : List Value) (d : TypeDesc) (hu : P.underlying ty = some d) (hd : d.isRow = true) (hi : (P.info? ty).map (·.size) = some cs.length) (hc : ∀ w, C w → ∀ j v, cs[j]? = some v → w.cell? (p.add j) = some v)
    (hx : a.eval x = .pointer (some p)) (h : wpQuiet P ops C Q rest (a.put o.dst (.agg cs.toArray))) : wpQuiet P ops C Q (o :: rest) a :=
  BigFrame.wpQuiet_want hw fun K hK => ⟨_, fun w hC => by
    unfold Oper.quietAt execOp
    simp only [ho, hx, Sem.run_bind, Sem.run_pure, run_loadAt_at w p ty cs d (hc w hC) hu hd hi, Result.andThen_ok]
    exact ⟨rfl, rfl⟩, hK _ h⟩
end
theorem plainU8 : Try.prog.plainKey 5 = true := by kernel_rfl
theorem infoU8 : ∃ i, Try.prog.info? 5 = some i := by
  obtain ⟨i, h, _⟩ := info_parts info_u8
  exact ⟨i, h⟩
theorem cellsOfU8 : Try.prog.cellsOf 5 = 1 := by kernel_rfl
theorem eqItems_same (z : List Int) (w : World) : ∀ (is : List Nat), (∀ i ∈ is, i < z.length) → (Op.eqItems 9999 5 1 (bv z).toArray (bv z).toArray is).run Try.prog w = .ok true w
  | [], _ => by simp [Op.eqItems]
  | i :: is, h => by
    have hi := h i (by simp)
    have hc : (bv z).toArray[i]? = some (.int .u8 (z.getD i 0)) := by
      rw [List.getElem?_toArray]
      exact bv_at hi
    have p := run_part_plain (P := Try.prog) w plainU8 (xs := (bv z).toArray) (off := i) hc
    have ih := eqItems_same z w is fun k hk => h k (by simp [hk])
    simp only [Op.eqItems, Nat.mul_one, Sem.run_bind, p, Result.andThen_ok, run_equalIn_int w 9998 5 .u8 .u8 _ _ Try.underlying5, beq_self_eq_true, Bool.not_true, Bool.false_eq_true, if_false]
    exact ih
theorem same_neq {t : TypeId} (ht : Try.prog.underlying t = some (.array 32 5)) (z : List Int) (hz : z.length = 32) (w : World) :
    (binOp .neq t (.agg (bv z).toArray) (.agg (bv z).toArray)).run Try.prog w = .ok (.bool false) w := by
  obtain ⟨i, hi⟩ := infoU8
  rw [run_neq_struct, show (10000 : Nat) = 9999 + 1 from rfl, run_equalIn_array w 9999 _ _ ht hi, cellsOfU8, eqItems_same z w _ (fun i hi => by simp at hi; omega)]
  rfl
set_option maxRecDepth 100000 in
set_option maxHeartbeats 600000 in
theorem same_keys (A B : Option Addr) (n c d : Nat) (l : List (List Int)) (w : World) (S T : Nat) (hx : KeysIn w S A n l) (hy : KeysIn w T B n l) (hn : n ≤ maxLen) :
    Calls Try.prog 33 #[.slice A n c, .slice B n d] w fun e w' => e = .returned (.bool true) ∧ ∃ k, w' = w.drewN k := by
  unfold maxLen at hn
  have HX := Lib.hid hx
  have HY := Lib.hid hy
  clear hx hy
  go_enter Try.func33, Try.ntmps33
  go_wp2
  go_loopw [5] (fun i wr => ∃ k j : Nat, k ≤ n ∧ i = .int .i64 k ∧ wr = w.drewN j) (fun i _ => n - (intOf i).toNat)
  case atStart => exact ⟨0, 0, Nat.zero_le _, rfl, rfl⟩
  case round =>
    obtain ⟨k, j, hk, rfl, rfl⟩ := hrel
    by_cases hlt : k < n
    · obtain ⟨a, x, rfl, ha, hxl, hxa⟩ := HX.out.get hlt
      obtain ⟨b, y, rfl, hb, hyl, hyb⟩ := HY.out.get hlt
      obtain rfl : x = y := by rw [hxl] at hyl; exact Option.some.inj hyl
      have ca := hxa.cells
      have cb := hyb.cells
      have NQ := fun w => same_neq Try.underlying32 x hxa.len w
      have HSZ := Lib.hid (show (Try.prog.info? 32).map (·.size) = some (bv x).length by rw [size_key, bv_length, hxa.len])
      have CA := Lib.hid ca
      have CB := Lib.hid cb
      clear ca cb hxl hyl
      generalize bv x = X at *
      go_wp2
      refine wp_region_quiet_lit (by kernel_rfl) (by kernel_rfl) ?_
      repeat (first
        | ((with_reducible show wpQuiet _ _ _ _ ({ dst := some 20, op := Op.load _ _, type := _, pos := _, after := _, guard := _ } :: _) _); go_must (refine quiet_load_at (by kernel_rfl) 32 (.tmp 19) rfl (a.add (k * 32)) X _ Try.underlying32 rfl HSZ.out (by rintro _ ⟨nq, rfl⟩; exact CA.out) ?_ ?_; go_simp; go_simp))
        | ((with_reducible show wpQuiet _ _ _ _ ({ dst := some 24, op := Op.load _ _, type := _, pos := _, after := _, guard := _ } :: _) _); go_must (refine quiet_load_at (by kernel_rfl) 32 (.tmp 23) rfl (b.add (k * 32)) X _ Try.underlying32 rfl HSZ.out (by rintro _ ⟨nq, rfl⟩; exact CB.out) ?_ ?_; go_simp; go_simp))
        | go_big_quiet_step (fail))
      refine wpQuiet_nil ?_
      intro nq
      go_wp2
      go_roundw
      case rel => exact ⟨k + 1, j + nq, by omega, by go_num, by simp⟩
      case measure => simp [intOf]; omega
    · go_wp2
      go_ret
      exact ⟨rfl, j, rfl⟩
end Go.Proofs.Ytdbcbjjomhbhpaa

/-
  Of part BookK: what is needed here.
-/
namespace Go.Proofs.Ytdbcbjjomhbhpaa
open Go.RowKit
set_option linter.unusedVariables false
theorem wp_built {o : Oper} {a : Act} {w : World} {K : Act → World → Prop} {Q : Exit → Act → World → Prop} (t : TypeId) (parts : Array (Nat × Operand)) (cells : Array Value) (ho : o.op = .build t parts)
    (h : Try.prog.built t (parts.map fun (i, x) => (i, a.eval x)).toList = some cells) (hK : K (a.put o.dst (.agg cells)) w) : o.wp Try.prog a w K Q :=
  wp_build t parts ho (by rw [h]; rfl) (by rw [h]; exact hK)
end Go.Proofs.Ytdbcbjjomhbhpaa

/-
  Of part TwinK: what is needed here.
-/
namespace Go.Proofs.Ytdbcbjjomhbhpaa
open Go.RowKit
set_option linter.unusedVariables false
theorem made_len (z : Value) (n : Nat) : (madeCells z.cells n).toList.length = n := by simp [madeCells]
theorem Row.of_ownN {w : World} {base N size g : Nat} {e : TypeId} {xs : List Value} (h : w.ownsRow base e size (.slice (some ⟨g, 0, none⟩) N N) N xs) : Row w g e xs := by
  rcases h.2 with ⟨h1, _⟩ | ⟨g', cap, cur, h1, h2, h3, h4, h5, h6, h7⟩
  · cases h1
  · cases h1
    refine ⟨?_⟩
    rw [h3, ← h7, ← h6, ← Array.length_toList, List.take_length]
/-- keys that stand in a row -/
theorem keys_row {w : World} {g : Nat} {l : List (List Int)} {ys : List Value} {n : Nat} (hr : Row w g 32 (bv l.flatten ++ ys)) (hn : l.length = n) (h32 : ∀ k ∈ l, k.length = 32) {B : Nat} (hB : g < B) : KeysIn w B (some ⟨g, 0, none⟩) n l :=
  ⟨hn, h32, ⟨by rw [bv_length, flatten_len l h32, hn], fun i u hu => ⟨_, rfl, hB, by
    rw [addr_row, hr.cell, Nat.zero_add, List.getElem?_append_left (List.getElem?_eq_some_iff.1 hu).1]
    exact hu⟩⟩⟩
end Go.Proofs.Ytdbcbjjomhbhpaa

/-
  Of part Pages: what is needed here.
-/
namespace Go.Proofs.Ytdbcbjjomhbhpaa
open Go.RowKit
set_option linter.unusedVariables false
/-- a page's kind -/
inductive Kd where
  | k
end Go.Proofs.Ytdbcbjjomhbhpaa

/-
  Of part BookMsg: what is needed here.
-/
namespace Go.Proofs.Ytdbcbjjomhbhpaa
open Go.RowKit
set_option linter.unusedVariables false
/-- a list: where it lies, how long it is, its room -/
structure Sl where
  A : Option Nat
  n : Nat
  c : Nat
def Sl.val (x : Sl) : Value := .slice (x.A.map fun g => ⟨g, 0, none⟩) x.n x.c
def ety : Kd → TypeId
  | .k => 32
def esz : Kd → Nat
  | .k => 32
/-- a page's list lies in memory, whole -/
def SlFit (w : World) (y : Sl × Kd) : Prop :=
  match y.1.A with
  | none => y.1.n = 0 ∧ y.1.c = 0
  | some g => y.1.n ≤ y.1.c ∧ y.1.c ≤ 9223372036854775807 ∧ ∃ xs, Row w g (ety y.2) xs ∧ y.1.c * esz y.2 ≤ xs.length ∧ (esz y.2 = 64 → xs.length = y.1.c * esz y.2)
theorem SlFit.keep {w w' : World} {y : Sl × Kd} (h : SlFit w y) (hk : ∀ g, y.1.A = some g → w'.heap[g]? = w.heap[g]?) : SlFit w' y := by
  obtain ⟨⟨A, n, c⟩, kd⟩ := y
  cases A with
  | none => exact h
  | some g =>
    obtain ⟨h1, h2, xs, hr, hl⟩ := h
    exact ⟨h1, h2, xs, ⟨(hk g rfl).trans hr.is⟩, hl⟩
theorem own_sl {w : World} {base n size : Nat} {e : TypeId} {v : Value} {xs : List Value} (h : w.ownsRow base e size v n xs) :
    ∃ x : Sl, v = x.val ∧ x.n = n ∧ (x.A = none → x.n = 0 ∧ x.c = 0) ∧ ∀ g, x.A = some g → base ≤ g ∧ g < w.heap.size ∧ v.ownBlock = some g ∧ x.n ≤ x.c ∧ x.c ≤ 9223372036854775807 ∧ ∃ cur, Row w g e cur ∧ cur.length = x.c * size := by
  rcases h.2 with ⟨rfl, h2⟩ | ⟨g, cap, cur, rfl, hg, hh, r1, r2, r3, r4⟩
  · exact ⟨⟨none, 0, 0⟩, rfl, h2.symm, fun _ => ⟨rfl, rfl⟩, fun g e => by cases e⟩
  · refine ⟨⟨some g, n, cap⟩, rfl, rfl, ?_, ?_⟩
    · intro e'
      cases e'
    intro g' e'
    cases e'
    exact ⟨hg, (Array.getElem?_eq_some_iff.1 hh).1, rfl, r1, by unfold maxLen at r2; omega, cur.toList, ⟨by simpa using hh⟩, by simpa using r3⟩
end Go.Proofs.Ytdbcbjjomhbhpaa

/-
  Of part TwinMsg: what is needed here.
-/
namespace Go.Proofs.Ytdbcbjjomhbhpaa
open Go.RowKit
set_option linter.unusedVariables false
/-- a load of many cells yields them -/
theorem exec_load_at {P : Program} {a : Act} {o : Oper} (w : World) (ty : TypeId) (x : Operand) (ho : o.op = .load ty x) (p : Addr) (cs : List Value) (d : TypeDesc) (hu : P.underlying ty = some d) (hd : d.isRow = true) (hi : (P.info? ty).map (·.size) = some cs.length)
    (hc : ∀ j v, cs[j]? = some v → w.cell? (p.add j) = some v) (hx : a.eval x = .pointer (some p)) : (execOp a.eval o).run P w = .ok (.value (.agg cs.toArray)) w := by
  unfold execOp
  simp only [ho, hx, Sem.run_bind, Sem.run_pure, run_loadAt_at w p ty cs d hc hu hd hi, Result.andThen_ok]
theorem built_look3 (l : List Value) (hl : l.length = 32) (A1 A2 : Option Addr) (n1 c1 n2 c2 : Nat) : Try.prog.built 60 [(0, .agg l.toArray), (1, .slice A1 n1 c1), (2, .slice A2 n2 c2)] = some (l ++ [Value.slice A1 n1 c1, .slice A2 n2 c2]).toArray := by
  obtain ⟨f, rfl⟩ : ∃ f : Fin 32 → Value, l = List.ofFn f := ⟨fun i => l.getD i undef, by
    refine List.ext_getElem (by simpa using hl) fun i h1 h2 => ?_
    rw [List.getElem_ofFn, List.getD_eq_getElem?_getD, List.getElem?_eq_getElem h1]
    rfl⟩
  kernel_rfl
theorem LookAt.keep {w w' : World} {B k : Nat} {a : Addr} {x : LLook} {va vd : Value} (h : LookAt w B a k x va vd) (ha : a.block < B) (hk : ∀ p : Addr, p.block < B → w'.cell? p = w.cell? p) : LookAt w' B a k x va vd :=
  ⟨fun j u hu => (hk _ (by rw [addr_block, addr_block]; exact ha)).trans (h.cells j u hu), h.len, h.wr.keep hk, h.rd.keep hk⟩
end Go.Proofs.Ytdbcbjjomhbhpaa

/-
  Of part Strays: what is needed here.
-/
namespace Go.Proofs.Ytdbcbjjomhbhpaa
open Go.RowKit
set_option linter.unusedVariables false
/-- a place's number that tells whether there is one -/
def IdxDone (p : Bool) (e : Ending) : Prop := ∃ r : Int, e = .returned (.int .i64 r) ∧ (0 ≤ r ↔ p = true)
theorem idx_told {r : Int} {p : Bool} (h : 0 ≤ r ↔ p = true) : decide (0 ≤ r) = p := by
  rw [Bool.eq_iff_iff, decide_eq_true_iff]
  exact h
theorem told_bool {p q : Bool} (h : p = q) : Ending.returned (.bool p) = .returned (.bool q) := by rw [h]
theorem any_take_succ {α : Type} {p : α → Bool} {l : List α} {k : Nat} {x : α} (h : l[k]? = some x) : (l.take (k + 1)).any p = ((l.take k).any p || p x) := by
  rw [List.take_add_one, h]
  simp
theorem any_hit {α : Type} {p : α → Bool} {l : List α} {k : Nat} {x : α} (h : l[k]? = some x) (hp : p x = true) : l.any p = true :=
  List.any_eq_true.2 ⟨x, List.mem_of_getElem? h, hp⟩
theorem getD_at {l : List Int} {k : Nat} (h : k < l.length) : l[k]? = some (l.getD k 0) := by
  rw [List.getD_eq_getElem?_getD, List.getElem?_eq_getElem h]; rfl
end Go.Proofs.Ytdbcbjjomhbhpaa

/-
  Of part Example: what is needed here.
-/
namespace Go.Proofs.Ytdbcbjjomhbhpaa
open Go.RowKit
set_option linter.unusedVariables false
def xk (a : Int) : List Int := a :: List.replicate 31 0
theorem xk_ok (a : Int) (h : IsByte a) : (xk a).length = 32 ∧ AllBytes (xk a) := ⟨rfl, fun z hz => by
  rcases List.mem_cons.1 hz with rfl | hz
  · exact h
  · obtain rfl : z = 0 := List.eq_of_mem_replicate hz
    constructor <;> decide⟩
theorem built_xk (a : Int) : Try.prog.built 32 [(0, .int .u8 a)] = some (bv (xk a)).toArray := by kernel_rfl
section
variable {P : Program}
/-- a slice literal of two elements of many cells -/
theorem wpList_buildTwo {ops : Array Oper} {rest : List Oper} {o : Oper} {a : Act} {w : World} {Q : Exit → Act → World → Prop} (hg : o.guard = none) (t e : TypeId) (y y' : Operand) (ho : o.op = .buildSlice t 2 #[(0, y), (1, y')])
    (cs cs' : List Value) (z : Value) (size bytes : Nat) (hu : P.underlying t = some (.slice e)) (hi : (P.info? e).map (fun i => (i.zero, i.size, i.bytes)) = some (some z, size, bytes)) (hzs : z.cells.size = size) (hs0 : 0 < size) (hs1 : size ≤ 1000)
    (hcs : cs.length = size) (hcs' : cs'.length = size) (hy : a.eval y = .agg cs.toArray) (hy' : a.eval y' = .agg cs'.toArray)
    (h : wpList P ops Q rest (a.put o.dst (.slice (some ⟨w.heap.size, 0, none⟩) 2 2)) (w.alloc (.cells (cs ++ cs').toArray e))) : wpList P ops Q (o :: rest) a w := by
  obtain ⟨ie, hie, h1, h2, _⟩ := info_parts hi
  subst h2
  refine wpList_buildSlice hg t e 2 _ ho (cs ++ cs').toArray ie z hu hie h1 (by omega) (by omega) ?_ h
  have := Go.Great.fill_whole (s := ie.size) hs0 [Value.agg cs.toArray, Value.agg cs'.toArray] ((Array.range (2 * ie.size)).map (z.cells[· % z.cells.size]!)) (by simp [Value.cells, hcs, hcs']) (by simp)
  simpa [hy, hy', Value.cells] using this
end
end Go.Proofs.Ytdbcbjjomhbhpaa

/-
  Of part AppendN: what is needed here.
-/
namespace Go.Proofs.Ytdbcbjjomhbhpaa
open Go.RowKit
set_option linter.unusedVariables false
section
variable {P : Program} {w : World} {base : Nat} {t ty e : TypeId} {i : TypeInfo} {z : Value} {size bytes : Nat} {v : Value} {n m c B : Nat} {A : Option Addr} {xs news : List Value}
theorem run_append_nothingN (ht : P.underlying t = some (.slice e)) (hi : P.info? e = some i) (hown : w.ownsRow base e size v n xs) (c : Nat) :
    (Builtin.append_ #[t, t] ty #[v, .slice none 0 c]).run P w = .ok v w := by
  rcases hown.2 with ⟨rfl, rfl⟩ | ⟨g, cap, cur, rfl, _, _, hnc, _⟩ <;>
    simp [Builtin.append_, run_underlying ht, sizeOf, typeInfo, Builtin.lenOf, Builtin.firstCells, storeCells, *]
theorem wp_appendN {o : Oper} {a : Act} {K : Act → World → Prop} {Q : Exit → Act → World → Prop} (s x : Operand) (t e : TypeId) (z : Value) (size bytes : Nat)
    (ho : o.op = .call { callee := .builtin .append, args := #[s, x], argTypes := #[t, t] })
    (ht : P.underlying t = some (.slice e)) (hi : (P.info? e).map (fun i => (i.zero, i.size, i.bytes)) = some (some z, size, bytes)) (hzs : z.cells.size = size) (hs0 : 0 < size)
    (v : Value) (n : Nat) (xs : List Value) (base B : Nat) (A : Option Addr) (m c : Nat) (news : List Value)
    (hs : a.eval s = v) (hown : w.ownsRow base e size v n xs) (hx : a.eval x = .slice A m c) (hr : Sees w B A (m * size) news) (h1 : ∀ u ∈ news, u.oneCell' = true)
    (hnm : n + m ≤ maxLen) (hbytes : (n + m) * bytes ≤ 140737488355328) (hbase : base ≤ w.heap.size)
    (h : ∀ v' w', w'.ownsRow base e size v' (n + m) (xs ++ news) → Grew w w' v v' → K (a.put o.dst v') w') : o.wp P a w K Q := by
  obtain ⟨i0, hi, hz0, hz1, hz2⟩ := info_parts hi
  have hrun : ∃ v' w', (Builtin.append_ #[t, t] o.type #[v, .slice A m c]).run P w = .ok v' w' ∧ w'.ownsRow base e size v' (n + m) (xs ++ news) ∧ Grew w w' v v' := by
    cases A with
    | none =>
      have hn : news = [] := by
        cases news with
        | nil => rfl
        | cons u r =>
          obtain ⟨a, h, _⟩ := hr.cell 0 u rfl
          cases h
      subst hn
      have hl : m * size = 0 := by simpa using hr.len.symm
      obtain rfl : m = 0 := by
        rcases Nat.mul_eq_zero.1 hl with h | h
        · exact h
        · omega
      exact ⟨v, w, run_append_nothingN ht hi hown c, by simpa using hown, Grew.refl _ _⟩
    | some ad =>
      obtain ⟨v', w', hrun, h2, h3, _, h5⟩ := run_append_own_at (P := P) w base t o.type e i0 z size bytes ht hi hz0 hz1 hz2 hzs hs0 v n xs hown ad m c news hr.len
        (fun j u hu => by
          obtain ⟨a, h, _, hc⟩ := hr.cell j u hu
          cases h
          exact hc) h1 hnm hbytes hbase
      refine ⟨v', w', hrun, h2, ⟨h3, fun k hk => ?_⟩⟩
      rcases h5 with h5 | h5
      · exact .inl (h5 ▸ hk)
      · rw [h5] at hk
        cases hk
        exact .inr (Nat.le_refl _)
  obtain ⟨v', w', hr2, h2, h3⟩ := hrun
  unfold Oper.wp execOp
  simp only [ho, resolve, invoke, builtin, Sem.run_bind, Sem.run_pure, Result.andThen_ok, List.map_toArray, List.map_cons, List.map_nil, hs, hx, hr2]
  exact h v' w' h2 h3
theorem wpList_appendN {ops : Array Oper} {rest : List Oper} {o : Oper} {a : Act} {Q : Exit → Act → World → Prop} (hgd : o.guard = none) (s x : Operand) (t e : TypeId) (z : Value) (size bytes : Nat)
    (ho : o.op = .call { callee := .builtin .append, args := #[s, x], argTypes := #[t, t] })
    (ht : P.underlying t = some (.slice e)) (hi : (P.info? e).map (fun i => (i.zero, i.size, i.bytes)) = some (some z, size, bytes)) (hzs : z.cells.size = size) (hs0 : 0 < size)
    (v : Value) (n : Nat) (xs : List Value) (base B : Nat) (A : Option Addr) (m c : Nat) (news : List Value)
    (hs : a.eval s = v) (hown : w.ownsRow base e size v n xs) (hx : a.eval x = .slice A m c) (hr : Sees w B A (m * size) news) (h1 : ∀ u ∈ news, u.oneCell' = true)
    (hnm : n + m ≤ maxLen) (hbytes : (n + m) * bytes ≤ 140737488355328) (hbase : base ≤ w.heap.size)
    (h : ∀ v' w', w'.ownsRow base e size v' (n + m) (xs ++ news) → Grew w w' v v' → wpList P ops Q rest (a.put o.dst v') w') : wpList P ops Q (o :: rest) a w :=
  wpList_plain hgd fun _ hK => wp_appendN s x t e z size bytes ho ht hi hzs hs0 v n xs base B A m c news hs hown hx hr h1 hnm hbytes hbase fun v' w' h2 h3 => hK _ _ (h v' w' h2 h3)
end
theorem own_form2 {w : World} {base : Nat} {e : TypeId} {size n : Nat} {v : Value} {xs : List Value} (h : w.ownsRow base e size v n xs) : ∃ A c, v = .slice A n c ∧ Sees w w.heap.size A (n * size) xs ∧ n ≤ c ∧ c ≤ maxLen ∧ (∀ g, v.ownBlock = some g → base ≤ g ∧ g < w.heap.size) := by
  have hlt := h.lt
  rcases h.2 with ⟨rfl, rfl⟩ | ⟨g, cap, cur, rfl, hg, hh, h1, h2, h3, h4⟩
  · have hx : xs = [] := List.eq_nil_of_length_eq_zero (by simpa using h.1)
    subst hx
    exact ⟨none, 0, rfl, by rw [Nat.zero_mul]; exact Sees.nil _ _ _, Nat.le_refl _, by simp [maxLen], hlt⟩
  · refine ⟨_, cap, rfl, ⟨h.1, fun j u hu => ⟨_, rfl, (Array.getElem?_eq_some_iff.1 hh).1, h.cells (g := g) rfl j u hu⟩⟩, h1, h2, hlt⟩
theorem BytesIn.one {w : World} {B : Nat} {v : Value} {l : List Int} (h : BytesIn w B v l) : v.oneCell' = true := by
  obtain ⟨A, c, rfl, _⟩ := h.is
  rfl
end Go.Proofs.Ytdbcbjjomhbhpaa

/-
  Of part HoldWalk: what is needed here.
-/
namespace Go.Proofs.Ytdbcbjjomhbhpaa
open Go.RowKit Go.Maps
set_option linter.unusedVariables false
def i1 : DataW Unit := .lit (.int .i64 1)
end Go.Proofs.Ytdbcbjjomhbhpaa

/-
  Of part OtherMem: what is needed here.
-/
namespace Go.Proofs.Ytdbcbjjomhbhpaa
open Go.RowKit
set_option linter.unusedVariables false
theorem own_keep {w w' : World} {base : Nat} {e : TypeId} {size n : Nat} {v : Value} {xs : List Value} (h : w.ownsRow base e size v n xs) (hk : ∀ g, v.ownBlock = some g → w'.heap[g]? = w.heap[g]?) : w'.ownsRow base e size v n xs := by
  refine ⟨h.1, ?_⟩
  rcases h.2 with h2 | ⟨g, cap, cur, hv, hg, hh, r⟩
  · exact .inl h2
  · exact .inr ⟨g, cap, cur, hv, hg, (hk g (by rw [hv]; rfl)).trans hh, r⟩
theorem own_is {w : World} {base : Nat} {e : TypeId} {size n g : Nat} {v : Value} {xs : List Value} (h : w.ownsRow base e size v n xs) (hg : v.ownBlock = some g) : ∃ cur, w.heap[g]? = some (.cells cur e (0, 0)) := by
  rcases h.2 with ⟨rfl, _⟩ | ⟨g', cap, cur, rfl, _, hh, _⟩
  · cases hg
  · cases hg
    exact ⟨cur, hh⟩
end Go.Proofs.Ytdbcbjjomhbhpaa

/-
  Of part Tabs: what is needed here.
-/
namespace Go.Proofs.Ytdbcbjjomhbhpaa
open Go.RowKit Go.Maps
set_option linter.unusedVariables false
/-- a table -/
structure LTab where
  key : List Int
  keys : List (List Int)
def findT (ts : List LTab) (k : List Int) : Option (List (List Int)) := (ts.find? fun t => decide (t.key = k)).map LTab.keys
/-- a key of 32 bytes -/
def KeyOk (k : List Int) : Prop := k.length = 32 ∧ AllBytes k
structure TabOk (t : LTab) : Prop where
  key : KeyOk t.key
  keys : ∀ k ∈ t.keys, k.length = 32
  one : 1 ≤ t.keys.length
  most : t.keys.length ≤ 256
def TsOk (ts : List LTab) : Prop := ∀ t ∈ ts, TabOk t
/-- what Put answers -/
def mayPut (ts : List LTab) (k : List Int) (l : List (List Int)) : Int := if l.length = 0 ∨ 256 < l.length then 1 else if (findT ts k).isSome then 12 else 0
def putT (ts : List LTab) (k : List Int) (l : List (List Int)) : List LTab := if mayPut ts k l = 0 then ts ++ [⟨k, l⟩] else ts
theorem findT_snoc (ts : List LTab) (t : LTab) (k : List Int) : findT (ts ++ [t]) k = match findT ts k with
    | some l => some l
    | none => if t.key = k then some t.keys else none := by
  unfold findT
  rw [List.find?_append]
  cases h : ts.find? fun t => decide (t.key = k) with
  | some x => rfl
  | none =>
    simp only [Option.none_or, Option.map_none]
    by_cases e : t.key = k
    · simp [e]
    · simp [e]
theorem findT_mem {ts : List LTab} {k : List Int} {l : List (List Int)} (h : findT ts k = some l) : ∃ t ∈ ts, t.key = k ∧ t.keys = l := by
  unfold findT at h
  obtain ⟨t, ht, rfl⟩ := Option.map_eq_some_iff.1 h
  exact ⟨t, List.mem_of_find?_eq_some ht, by simpa using List.find?_some ht, rfl⟩
theorem TsOk.find {ts : List LTab} (h : TsOk ts) {k : List Int} {l : List (List Int)} (hf : findT ts k = some l) : (∀ y ∈ l, y.length = 32) ∧ 1 ≤ l.length ∧ l.length ≤ 256 := by
  obtain ⟨t, ht, rfl, rfl⟩ := findT_mem hf
  exact ⟨(h t ht).keys, (h t ht).one, (h t ht).most⟩
theorem mayPut_cases (ts : List LTab) (k : List Int) (l : List (List Int)) : (mayPut ts k l = 1 ∧ (l.length = 0 ∨ 256 < l.length)) ∨ (mayPut ts k l = 12 ∧ ¬ (l.length = 0 ∨ 256 < l.length) ∧ (findT ts k).isSome = true) ∨ (mayPut ts k l = 0 ∧ ¬ (l.length = 0 ∨ 256 < l.length) ∧ findT ts k = none) := by
  unfold mayPut
  split
  · exact .inl ⟨rfl, ‹_›⟩
  · split
    · exact .inr (.inl ⟨rfl, ‹_›, ‹_›⟩)
    · exact .inr (.inr ⟨rfl, ‹_›, by cases h : findT ts k <;> simp_all⟩)
theorem TsOk.put {ts : List LTab} (h : TsOk ts) {k : List Int} {l : List (List Int)} (hk : KeyOk k) (hl : ∀ y ∈ l, y.length = 32) : TsOk (putT ts k l) := by
  unfold putT
  rcases mayPut_cases ts k l with ⟨e, _⟩ | ⟨e, _⟩ | ⟨e, h1, _⟩ <;> rw [e]
  · exact h
  · exact h
  · intro t ht
    rcases List.mem_append.1 ht with ht | ht
    · exact h t ht
    · obtain rfl := List.mem_singleton.1 ht
      exact ⟨hk, hl, by show 1 ≤ l.length; omega, by show l.length ≤ 256; omega⟩
/-- how a slice reads in a map: as itself -/
def held1 (v : Value) : Option (DataW Value × List MemPlace) := some (.held v, [])
def nilK : Value := .slice none 0 0
/-- block mb is a map that holds f -/
def MapIs (w : World) (mb n : Nat) (f : List Int → Option Value) : Prop :=
  ∃ D, w.ownsMap Try.prog 32 held1 mb n D ∧ ∀ x, KeyOk x → Go.Maps.has D (KL x) = (f x).isSome ∧ D.atKey (KL x) (.held nilK) = .held ((f x).getD nilK)
section
variable {w w' : World} {mb n : Nat} {f : List Int → Option Value} {x : List Int}
theorem MapIs.made (w : World) : MapIs (w.alloc (.map #[] 0)) w.heap.size 0 (fun _ => none) :=
  ⟨.map [], World.ownsMap_made _ _ _ _, fun x _ => ⟨rfl, rfl⟩⟩
theorem MapIs.lt (h : MapIs w mb n f) : mb < w.heap.size := by
  obtain ⟨D, h1, _⟩ := h
  exact h1.lt
theorem MapIs.kept {row : Option Nat} (h : MapIs w mb n f) (hg : w.grownBy w' row) (hne : some mb ≠ row) : MapIs w' mb n f := by
  obtain ⟨D, h1, h2⟩ := h
  exact ⟨D, h1.kept hg hne, h2⟩
theorem MapIs.look (h : MapIs w mb n f) (hx : KeyOk x) : (Instr.lookup 49 (.map (some mb)) (.agg (bv x).toArray) true).run Try.prog w = .ok (.tuple #[(f x).getD nilK, .bool (f x).isSome]) w := by
  obtain ⟨D, h1, h2⟩ := h
  obtain ⟨e1, e2⟩ := h2 x hx
  have hz : (zeroValue 33).run Try.prog w = .ok nilK w := by kernel_rfl
  obtain ⟨v, ps, hrun, hv⟩ := h1.look_ok key_law Try.underlying49 hz (zd := .held nilK) (zp := []) rfl (KL_is hx.1 hx.2)
  rw [e2] at hv
  injection hv with hv
  injection hv with hv _
  injection hv with hv
  rw [hrun, e1, hv]
theorem MapIs.put (h : MapIs w mb n f) (hx : KeyOk x) (hn : n < maxLen) (v : Value) : ∃ w', (Instr.mapUpdate 49 (.map (some mb)) (.agg (bv x).toArray) v).run Try.prog w = .ok () w' ∧ MapIs w' mb (n + 1) (fun y => if y = x then some v else f y) ∧ w.grownBy w' (some mb) := by
  obtain ⟨D, h1, h2⟩ := h
  obtain ⟨w', hrun, h3, h4⟩ := h1.update key_law Try.underlying49 hn (val := v) (d := .held v) (ps := []) (KL_is hx.1 hx.2) rfl
  refine ⟨w', hrun, ⟨_, h3, fun y hy => ?_⟩, h4⟩
  dsimp only
  by_cases e : y = x
  · subst e
    rw [if_pos rfl]
    exact ⟨has_put_same h1.isMap (KL_key hx.1 hx.2) _, atKey_put_same h1.isMap (KL_key hx.1 hx.2) _ _⟩
  · rw [if_neg e]
    have hne : KL y ≠ KL x := fun e' => e (KL_inj hy.1 hy.2 hx.1 hx.2 e')
    rw [has_put_other hne, atKey_put_other hne]
    exact h2 y hy
end
/-- where a registry's lists lie -/
def FT (ts : List LTab) (blk : List Int → Nat) (x : List Int) : Option Value := (findT ts x).map fun l => .slice (some ⟨blk x, 0, none⟩) l.length l.length
/-- a registry in memory: its block, its map's, all its blocks below hi -/
structure Reg (w : World) (rb mb hi n : Nat) (ts : List LTab) : Prop where
  row : Row w rb 51 [.map (some mb)]
  map : ∃ blk, MapIs w mb n (FT ts blk) ∧ ∀ x l, findT ts x = some l → Row w (blk x) 32 (bv l.flatten) ∧ blk x < hi
  lt : rb < hi ∧ mb < hi ∧ hi ≤ w.heap.size
  good : TsOk ts
section
variable {w w' : World} {rb mb hi n : Nat} {ts : List LTab}
theorem Reg.map_ne (h : Reg w rb mb hi n ts) {g t : Nat} {xs : List Value} (hr : Row w g t xs) : g ≠ mb := by
  obtain ⟨blk, ⟨D, ⟨es, clock, hb, _⟩, _⟩, _⟩ := h.map
  rintro rfl
  rw [hr.is] at hb
  cases hb
/-- it stays, where another map (or nothing) is written -/
theorem Reg.kept {row : Option Nat} (h : Reg w rb mb hi n ts) (hg : w.grownBy w' row) (hne : ∀ k, row = some k → k ≠ mb ∧ ∃ es cl, w.heap[k]? = some (.map es cl)) : Reg w' rb mb hi n ts := by
  have hrow : ∀ {g t : Nat} {xs : List Value}, Row w g t xs → some g ≠ row := by
    intro g t xs hr e
    obtain ⟨_, es, cl, he⟩ := hne g e.symm
    rw [hr.is] at he
    cases he
  obtain ⟨blk, h1, h2⟩ := h.map
  refine ⟨h.row.grown hg (hrow h.row), ⟨blk, h1.kept hg (fun e => (hne mb e.symm).1 rfl), fun x l hx => ?_⟩, ⟨h.lt.1, h.lt.2.1, Nat.le_trans h.lt.2.2 hg.size⟩, h.good⟩
  obtain ⟨a, b⟩ := h2 x l hx
  exact ⟨a.grown hg (hrow a), b⟩
theorem Reg.below (h : Reg w rb mb hi n ts) (hb : Below hi w w') : Reg w' rb mb hi n ts := by
  obtain ⟨blk, ⟨D, ⟨es, clock, hm, hr⟩, hd⟩, h2⟩ := h.map
  refine ⟨h.row.below hb h.lt.1, ⟨blk, ⟨D, ⟨es, clock, (hb.block mb h.lt.2.1).trans hm, hr⟩, hd⟩, fun x l hx => ?_⟩, ⟨h.lt.1, h.lt.2.1, Nat.le_trans h.lt.2.2 hb.size⟩, h.good⟩
  obtain ⟨a, b⟩ := h2 x l hx
  exact ⟨a.below hb b, b⟩
theorem Reg.more {hi' : Nat} (h : Reg w rb mb hi n ts) (h1 : hi ≤ hi') (h2 : hi' ≤ w.heap.size) : Reg w rb mb hi' n ts := by
  obtain ⟨blk, h3, h4⟩ := h.map
  exact ⟨h.row, ⟨blk, h3, fun x l hx => ⟨(h4 x l hx).1, Nat.lt_of_lt_of_le (h4 x l hx).2 h1⟩⟩, ⟨Nat.lt_of_lt_of_le h.lt.1 h1, Nat.lt_of_lt_of_le h.lt.2.1 h1, h2⟩, h.good⟩
/-- what a look-up answers: the list's slice -/
def seen (ts : List LTab) (x : List Int) (g : Nat) : Value := match findT ts x with | none => nilK | some l => .slice (some ⟨g, 0, none⟩) l.length l.length
theorem Reg.look_any (h : Reg w rb mb hi n ts) {x : List Int} (hx : KeyOk x) : ∃ g, (∀ V : World, V.heap[mb]? = w.heap[mb]? → (Instr.lookup 49 (.map (some mb)) (.agg (bv x).toArray) true).run Try.prog V = .ok (.tuple #[seen ts x g, .bool (findT ts x).isSome]) V) ∧ ∀ l, findT ts x = some l → Row w g 32 (bv l.flatten) ∧ g < hi := by
  obtain ⟨blk, ⟨D, ⟨es, clock, hb, hf⟩, hD⟩, h2⟩ := h.map
  refine ⟨blk x, fun V hV => ?_, fun l hl => h2 x l hl⟩
  have h1 : MapIs V mb n (FT ts blk) := ⟨D, ⟨es, clock, hV.trans hb, hf⟩, hD⟩
  have := h1.look hx
  rw [this]
  unfold FT seen
  cases findT ts x <;> rfl
theorem Reg.look (h : Reg w rb mb hi n ts) {x : List Int} (hx : KeyOk x) : ∃ g, (∀ k, (Instr.lookup 49 (.map (some mb)) (.agg (bv x).toArray) true).run Try.prog (w.drewN k) = .ok (.tuple #[seen ts x g, .bool (findT ts x).isSome]) (w.drewN k)) ∧ ∀ l, findT ts x = some l → Row w g 32 (bv l.flatten) ∧ g < hi := by
  obtain ⟨g, h1, h2⟩ := h.look_any hx
  exact ⟨g, fun k => h1 _ rfl, h2⟩
theorem Reg.grow {n' : Nat} (h : Reg w rb mb hi n ts) (hn : n ≤ n') : Reg w rb mb hi n' ts := by
  obtain ⟨blk, ⟨D, h0, hD⟩, h2⟩ := h.map
  exact ⟨h.row, ⟨blk, ⟨D, h0.mono hn, hD⟩, h2⟩, h.lt, h.good⟩
/-- a table more -/
theorem Reg.put (h : Reg w rb mb hi n ts) {x : List Int} {l : List (List Int)} (hx : KeyOk x) (hl : ∀ y ∈ l, y.length = 32) (hn : n < maxLen) (hm : mayPut ts x l = 0) {g : Nat} (hr : Row w g 32 (bv l.flatten)) :
    ∃ w', (Instr.mapUpdate 49 (.map (some mb)) (.agg (bv x).toArray) (.slice (some ⟨g, 0, none⟩) l.length l.length)).run Try.prog w = .ok () w' ∧ Reg w' rb mb w.heap.size (n + 1) (putT ts x l) ∧ w.grownBy w' (some mb) := by
  obtain ⟨blk, h1, h2⟩ := h.map
  obtain ⟨w', hrun, h3, h4⟩ := h1.put hx hn (.slice (some ⟨g, 0, none⟩) l.length l.length)
  have hnone : findT ts x = none := by
    rcases mayPut_cases ts x l with ⟨e, _⟩ | ⟨e, _⟩ | ⟨_, _, e⟩
    · rw [hm] at e; cases e
    · rw [hm] at e; cases e
    · exact e
  have hts : putT ts x l = ts ++ [⟨x, l⟩] := by unfold putT; rw [if_pos hm]
  have hkeep : ∀ {g t : Nat} {xs : List Value}, Row w g t xs → Row w' g t xs := fun hr => hr.grown h4 (fun e => h.map_ne hr (Option.some.inj e))
  have hfind : ∀ y, findT (ts ++ [⟨x, l⟩]) y = if y = x then some l else findT ts y := by
    intro y
    rw [findT_snoc]
    by_cases e : y = x
    · subst e
      simp [hnone]
    · rw [if_neg e]
      cases findT ts y with
      | some z => rfl
      | none => simp [Ne.symm e]
  refine ⟨w', hrun, ⟨hkeep h.row, ⟨fun y => if y = x then g else blk y, ?_, ?_⟩, ⟨Nat.lt_of_lt_of_le h.lt.1 h.lt.2.2, Nat.lt_of_lt_of_le h.lt.2.1 h.lt.2.2, h4.size⟩, h.good.put hx hl⟩, h4⟩
  · obtain ⟨D, h5, h6⟩ := h3
    refine ⟨D, h5, fun y hy => ?_⟩
    obtain ⟨e1, e2⟩ := h6 y hy
    have e3 : FT (putT ts x l) (fun y => if y = x then g else blk y) y = if y = x then some (.slice (some ⟨g, 0, none⟩) l.length l.length) else FT ts blk y := by
      unfold FT
      rw [hts, hfind]
      by_cases e : y = x
      · simp [e]
      · simp [e]
    rw [e3]
    exact ⟨e1, e2⟩
  · intro y m hy
    rw [hts, hfind] at hy
    by_cases e : y = x
    · rw [if_pos e] at hy
      cases hy
      show Row w' (if y = x then g else blk y) _ _ ∧ (if y = x then g else blk y) < _
      rw [if_pos e]
      exact ⟨hkeep hr, hr.lt⟩
    · rw [if_neg e] at hy
      show Row w' (if y = x then g else blk y) _ _ ∧ (if y = x then g else blk y) < _
      rw [if_neg e]
      obtain ⟨a, b⟩ := h2 y m hy
      exact ⟨hkeep a, Nat.lt_of_lt_of_le b h.lt.2.2⟩
end
end Go.Proofs.Ytdbcbjjomhbhpaa

/-
  Of part Copied: what is needed here.
-/
namespace Go.Proofs.Ytdbcbjjomhbhpaa
open Go.RowKit Go.Maps
set_option linter.unusedVariables false
theorem run_copy_keys {P : Program} (w : World) (dT sT ty elem : TypeId) (g dLen dCap size : Nat) (a : Addr) (sLen sCap : Nat) (cur : List Value) (t : TypeId) (cs : List Value)
    (hu : P.underlying dT = some (.slice elem)) (hs : (P.info? elem).map (·.size) = some size) (hg : Row w g t cur) (hn : cs.length = Nat.min sLen dLen * size)
    (hsrc : ∀ j v, cs[j]? = some v → w.cell? (a.add j) = some v) (hfit : cs.length ≤ cur.length) (h1 : ∀ v ∈ cs, v.oneCell' = true) :
    (Builtin.copy_ #[dT, sT] ty #[.slice (some ⟨g, 0, none⟩) dLen dCap, .slice (some a) sLen sCap]).run P w = .ok (goInt (Nat.min sLen dLen)) (w.setRow g (cs ++ cur.drop cs.length).toArray) := by
  have hl := run_loadCells_list (P := P) w a cs hsrc
  have hst := run_storeCells_at P g 0 t cs 0 cur.toArray w hg.is (by simpa using hfit) h1
  cases hq : P.info? elem with
  | none => simp [hq] at hs
  | some i =>
    have hi : i.size = size := by simpa [hq] using hs
    simp [Builtin.copy_, run_underlying hu, Builtin.lenOf, Builtin.firstCells, sizeOf, typeInfo, hq, hi, ← hn, hl, hst]
theorem wpList_copy_keys {P : Program} {ops : Array Oper} {rest : List Oper} {o : Oper} {a : Act} {w : World} {Q : Exit → Act → World → Prop} (hgd : o.guard = none) (d s : Operand) (dT sT elem : TypeId)
    (ho : o.op = .call { callee := .builtin .copy, args := #[d, s], argTypes := #[dT, sT] }) (hu : P.underlying dT = some (.slice elem)) (size : Nat) (hsz : (P.info? elem).map (·.size) = some size)
    (g n c c' : Nat) (ad : Addr) (hd : a.eval d = .slice (some ⟨g, 0, none⟩) n c) (hs : a.eval s = .slice (some ad) n c')
    (cur : List Value) (t : TypeId) (hg : Row w g t cur) (cs : List Value) (hn : cs.length = n * size)
    (hsrc : ∀ j v, cs[j]? = some v → w.cell? (ad.add j) = some v) (hfit : cur.length = cs.length) (h1 : ∀ v ∈ cs, v.oneCell' = true)
    (h : ∀ w', Row w' g t cs → Turned w w' g → wpList P ops Q rest (a.put o.dst (goInt n)) w') : wpList P ops Q (o :: rest) a w := by
  have hm : Nat.min n n = n := Nat.min_self n
  have hrun := run_copy_keys (P := P) w dT sT o.type elem g n c size ad n c' cur t cs hu hsz hg (by rw [hm]; exact hn) hsrc (Nat.le_of_eq hfit.symm) h1
  rw [List.drop_of_length_le (by omega), List.append_nil, hm] at hrun
  refine wpList_plain hgd fun K hK => ?_
  unfold Oper.wp execOp
  simp only [ho, resolve, invoke, builtin, Sem.run_bind, Sem.run_pure, Result.andThen_ok, List.map_toArray, List.map_cons, List.map_nil, hd, hs, hrun]
  exact hK _ _ (h _ (row_setRow hg cs) (turned_setRow w g _))
/-- a list of one's own, of the same keys -/
def CopyDone (w : World) (n : Nat) (l : List (List Int)) (e : Ending) (w' : World) : Prop :=
  ∃ g, e = .returned (.slice (some ⟨g, 0, none⟩) n n) ∧ w.heap.size ≤ g ∧ Row w' g 32 (bv l.flatten) ∧ Below w.heap.size w w'
set_option maxHeartbeats 800000 in
theorem copied_ (A : Option Addr) (n c B : Nat) (l : List (List Int)) (w : World) (hx : KeysIn w B A n l) (hB : B ≤ w.heap.size) (h1 : 1 ≤ n) (hn : n ≤ 256) :
    Calls Try.prog 29 #[.slice A n c] w (CopyDone w n l) := by
  obtain ⟨a, u, rfl, hab, _, _⟩ := hx.sees.at_ (k := 0) (by omega)
  have hs := hx.sees
  have HL := Lib.hid (show (bv l.flatten).length = n * 32 by rw [bv_length, flatten_len l hx.each, hx.len])
  have H1 := Lib.hid (bv_one l.flatten)
  clear hx
  unfold CopyDone
  generalize bv l.flatten = cs at *
  have HS := Lib.hid hs
  clear hs
  have HC : Hid (∀ j v, cs[j]? = some v → w.cell? (a.add j) = some v) := Lib.hid fun j v hv => by
    obtain ⟨a', e, _, hc⟩ := HS.out.cell j v hv
    cases e
    exact hc
  go_enter Try.func29, Try.ntmps29
  go_wp2_with (first
    | (at_make; (obtain ⟨i0, hi, hz0, hz1, hz2⟩ := info_parts info_key); go_must (refine wpList_make_full _ rfl (.tmp 5) (.tmp 5) 33 rfl w.heap.size 32 i0 _ 32 Try.underlying33 hi hz0 hz1 .i64 .i64 _ _ n rfl rfl (by simp) (by simp) (by rw [hz2]; omega) (by unfold maxLen; omega) (Nat.le_refl _) ?_; intro w1 hown hgrow; have hrow := Row.of_ownN hown; have hlen := made_len (.agg (zeros 32).toArray) (n * 32); have hb1 := (Below.refl w.heap.size w).grown hgrow (Nat.le_refl _) (fun k hk => by cases hk); have R1 := Lib.hid hrow; have HL1 := Lib.hid hlen; have B1 := Lib.hid hb1; clear hrow hlen hb1 hown hgrow hi hz0 hz1 hz2))
    | ((with_reducible show wpList _ _ _ ({ dst := some 9, op := _, type := _, pos := _, after := _, guard := _ } :: _) _ _); go_must (refine wpList_copy_keys rfl (.tmp 7) (.tmp 8) 33 33 32 rfl Try.underlying33 32 size_key w.heap.size n n c a rfl rfl _ 32 R1.out cs HL.out (fun j v hv => (B1.out.cell (by rw [addr_block]; omega)).trans (HC.out j v hv)) (by rw [HL1.out, HL.out]) H1.out ?_; intro w2 hr2 ht2; have R2 := Lib.hid hr2; have T2 := Lib.hid ht2; clear hr2 ht2)))
  go_ret
  exact ⟨_, rfl, Nat.le_refl _, R2.out, B1.out.trans (T2.out.below (Nat.le_refl _))⟩
theorem neq_map (w : World) (r : Option Nat) : (binOp .neq 49 (.map r) (.map none)).run Try.prog w = .ok (.bool (!r.isNone)) w := run_neq_map_nil w _ _ _ r Try.underlying49
/-- a registry that is not there, or that no call made -/
def NoReg (w : World) (v : Value) : Prop := v = .pointer none ∨ ∃ b, v = .pointer (some ⟨b, 0, none⟩) ∧ Row w b 51 [.map none]
set_option maxHeartbeats 400000 in
theorem there_no (v : Value) (w : World) (h : NoReg w v) :
    Calls Try.prog 25 #[v] w fun e w' => e = .returned (.bool false) ∧ w = w' := by
  have hm := neq_map
  rcases h with rfl | ⟨b, rfl, hr⟩
  · go_enter Try.func25, Try.ntmps25
    go_wp2_with fail
    go_ret
    exact ⟨rfl, rfl⟩
  · have c0 : w.cell? ⟨b, 0, none⟩ = some (.map none) := hr.cell 0
    clear hr
    go_enter Try.func25, Try.ntmps25
    go_wp2_with fail
    go_ret
    exact ⟨rfl, rfl⟩
set_option maxHeartbeats 400000 in
theorem there_yes (rb mb : Nat) (w : World) (hr : Row w rb 51 [.map (some mb)]) :
    Calls Try.prog 25 #[.pointer (some ⟨rb, 0, none⟩)] w fun e w' => e = .returned (.bool true) ∧ w = w' := by
  have hm := neq_map
  have c0 : w.cell? ⟨rb, 0, none⟩ = some (.map (some mb)) := hr.cell 0
  clear hr
  go_enter Try.func25, Try.ntmps25
  go_wp2_with fail
  go_ret
  exact ⟨rfl, rfl⟩
set_option maxHeartbeats 400000 in
theorem clipK (A : Option Addr) (n c : Nat) (w : World) (hnc : n ≤ c) (hc : c ≤ maxLen) :
    Calls Try.prog 36 #[.slice A n c] w fun e w' => e = .returned (.slice A n n) ∧ w = w' := by
  unfold maxLen at hc
  go_enter Try.func36, Try.ntmps36
  go_wp2
  go_ret
  exact ⟨rfl, rfl⟩
set_option maxHeartbeats 400000 in
theorem newReg (w : World) : Calls Try.prog 10 #[] w fun e w' => e = .returned (.pointer (some ⟨w.heap.size + 1, 0, none⟩)) ∧ Reg w' (w.heap.size + 1) w.heap.size w'.heap.size 0 [] ∧ Below w.heap.size w w' := by
  have hmm := @run_makeMap Try.prog
  have HR : Hid (Reg ((w.alloc (.map #[] 0)).alloc (.cells #[.map (some w.heap.size)] 51)) (w.heap.size + 1) w.heap.size ((w.alloc (.map #[] 0)).alloc (.cells #[.map (some w.heap.size)] 51)).heap.size 0 []) := Lib.hid
    ⟨Row.new' _ 51 [.map (some w.heap.size)] (by simp), ⟨fun _ => 0, (MapIs.made w).kept (World.grownBy_alloc _ _ none) (by simp), fun x l hx => by cases hx⟩, ⟨by simp, by simp; omega, Nat.le_refl _⟩, fun t ht => by cases ht⟩
  have HB := Lib.hid (((Below.refl w.heap.size w).alloc (Nat.le_refl _) (.map #[] 0)).alloc (by simp) (.cells #[.map (some w.heap.size)] 51))
  go_enter Try.func10, Try.ntmps10
  go_wp2_with fail
  go_ret
  exact ⟨rfl, HR.out, HB.out⟩
set_option maxHeartbeats 400000 in
theorem copyNo (v : Value) (w : World) (h : NoReg w v) :
    Calls Try.prog 11 #[v] w fun e w' => e = .returned (.pointer none) ∧ w = w' := by
  have HT := Lib.hid (there_no v w h)
  clear h
  go_enter Try.func11, Try.ntmps11
  go_wp2_with (go_at_call 25; refine HT.out.mono ?_; rintro e w' ⟨rfl, rfl⟩)
  go_ret
  exact ⟨rfl, rfl⟩
end Go.Proofs.Ytdbcbjjomhbhpaa
