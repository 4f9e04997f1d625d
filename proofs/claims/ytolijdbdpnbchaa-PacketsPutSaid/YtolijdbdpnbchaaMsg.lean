/-
  Messages, plainly: what a message is ('LMsg'), its bytes ('enc'), and how a message lies in memory ('MsgIn').
-/
import Derived.Test.YtolijdbdpnbchaaRow
import Derived.Test.YtolijdbdpnbchaaPut
namespace Go.Proofs.Ytolijdbdpnbchaa
open Go.RowKit
set_option linter.unusedVariables false

/-- an instruction -/
structure LIn where
  p : Int
  acc : List Int
  dat : List Int

/-- a lookup -/
structure LLook where
  tab : List Int
  wr : List Int
  rd : List Int

/-- a message -/
structure LMsg where
  v0 : Bool
  s : Int
  r : Int
  o : Int
  keys : List (List Int)
  recent : List Int
  ins : List LIn
  looks : List LLook

/-- how many, and the bytes -/
def encL (l : List Int) : List Int := short l.length ++ l
def encIn (i : LIn) : List Int := i.p :: (encL i.acc ++ encL i.dat)
def encLook (l : LLook) : List Int := l.tab ++ (encL l.wr ++ encL l.rd)
def encHead (m : LMsg) : List Int := (if m.v0 then [128] else []) ++ [m.s, m.r, m.o]
def encTail (m : LMsg) : List Int := if m.v0 then short m.looks.length ++ m.looks.flatMap encLook else []
/-- a message's bytes -/
def enc (m : LMsg) : List Int := encHead m ++ (short m.keys.length ++ (m.keys.flatten ++ (m.recent ++ (short m.ins.length ++ (m.ins.flatMap encIn ++ encTail m)))))

/-- may it be put? -/
def Fits (m : LMsg) : Prop :=
  (m.v0 = true ∨ (m.looks = [] ∧ m.s < 128)) ∧ m.keys.length ≤ 65535 ∧ m.ins.length ≤ 65535 ∧ m.looks.length ≤ 65535 ∧
  (∀ i ∈ m.ins, i.acc.length ≤ 65535 ∧ i.dat.length ≤ 65535) ∧ (∀ l ∈ m.looks, l.wr.length ≤ 65535 ∧ l.rd.length ≤ 65535)

/-- a byte -/
def IsByte (z : Int) : Prop := 0 ≤ z ∧ z < 256
def AllBytes (l : List Int) : Prop := ∀ z ∈ l, IsByte z

/-- all numbers are bytes, keys have 32 of them -/
structure LMsg.Wf (m : LMsg) : Prop where
  s : IsByte m.s
  r : IsByte m.r
  o : IsByte m.o
  keys : ∀ k ∈ m.keys, k.length = 32 ∧ AllBytes k
  recent : m.recent.length = 32 ∧ AllBytes m.recent
  ins : ∀ i ∈ m.ins, IsByte i.p ∧ AllBytes i.acc ∧ AllBytes i.dat
  looks : ∀ l ∈ m.looks, (l.tab.length = 32 ∧ AllBytes l.tab) ∧ AllBytes l.wr ∧ AllBytes l.rd

/-- a slice of bytes that lies below block B -/
structure BytesIn (w : World) (B : Nat) (v : Value) (l : List Int) : Prop where
  is : ∃ A c, v = .slice A l.length c ∧ Sees w B A l.length (bv l) ∧ l.length ≤ c ∧ c ≤ maxLen

/-- instructions that lie below block B -/
structure InsIn (w : World) (B : Nat) (A : Option Addr) (n : Nat) (l : List LIn) : Prop where
  len : l.length = n
  at_ : ∀ i x, l[i]? = some x → ∃ a va vd, A = some a ∧ a.block < B ∧ w.cell? (a.add (i * 3)) = some (.int .u8 x.p) ∧ w.cell? (a.add (i * 3 + 1)) = some va ∧ w.cell? (a.add (i * 3 + 2)) = some vd ∧ BytesIn w B va x.acc ∧ BytesIn w B vd x.dat

/-- lookups that lie below block B -/
structure LooksIn (w : World) (B : Nat) (A : Option Addr) (n : Nat) (l : List LLook) : Prop where
  len : l.length = n
  at_ : ∀ i x, l[i]? = some x → ∃ a va vd, A = some a ∧ a.block < B ∧ (∀ j u, (bv x.tab ++ [va, vd])[j]? = some u → w.cell? (a.add (i * 34 + j)) = some u) ∧ x.tab.length = 32 ∧ BytesIn w B va x.wr ∧ BytesIn w B vd x.rd

/-- keys that lie below block B -/
structure KeysIn (w : World) (B : Nat) (A : Option Addr) (n : Nat) (l : List (List Int)) : Prop where
  len : l.length = n
  each : ∀ k ∈ l, k.length = 32
  sees : Sees w B A (n * 32) (bv l.flatten)

/-- where a message's lists lie -/
structure Raw where
  KA : Option Addr
  kn : Nat
  kc : Nat
  IA : Option Addr
  n : Nat
  ic : Nat
  LA : Option Addr
  ln : Nat
  lc : Nat

/-- a message's cells -/
def Raw.cells (q : Raw) (m : LMsg) : List Value :=
  [.bool m.v0, .int .u8 m.s, .int .u8 m.r, .int .u8 m.o, .slice q.KA q.kn q.kc] ++ (bv m.recent ++ [.slice q.IA q.n q.ic, .slice q.LA q.ln q.lc])

/-- a message's lists lie below block B -/
structure MsgIn (w : World) (B : Nat) (q : Raw) (m : LMsg) : Prop where
  recent : m.recent.length = 32
  keys : KeysIn w B q.KA q.kn m.keys
  ins : InsIn w B q.IA q.n m.ins
  looks : LooksIn w B q.LA q.ln m.looks
  kn : q.kn ≤ q.kc ∧ q.kc ≤ maxLen
  n : q.n ≤ q.ic ∧ q.ic ≤ maxLen
  ln : q.ln ≤ q.lc ∧ q.lc ≤ maxLen

section
variable {w w' : World} {B B' : Nat}
theorem BytesIn.keep {v : Value} {l : List Int} (h : BytesIn w B v l) (hk : ∀ p : Addr, p.block < B → w'.cell? p = w.cell? p) : BytesIn w' B v l := by
  obtain ⟨A, c, e, hs, h1, h2⟩ := h.is
  exact ⟨A, c, e, hs.keep hk, h1, h2⟩
theorem BytesIn.more {v : Value} {l : List Int} (h : BytesIn w B v l) (hB : B ≤ B') : BytesIn w B' v l := by
  obtain ⟨A, c, e, hs, h1, h2⟩ := h.is
  exact ⟨A, c, e, hs.more hB, h1, h2⟩
theorem InsIn.keep {A : Option Addr} {n : Nat} {l : List LIn} (h : InsIn w B A n l) (hk : ∀ p : Addr, p.block < B → w'.cell? p = w.cell? p) : InsIn w' B A n l :=
  ⟨h.len, fun i x hx => by
    obtain ⟨a, va, vd, e, hb, h1, h2, h3, h4, h5⟩ := h.at_ i x hx
    exact ⟨a, va, vd, e, hb, (hk _ (by rw [addr_block]; exact hb)).trans h1, (hk _ (by rw [addr_block]; exact hb)).trans h2, (hk _ (by rw [addr_block]; exact hb)).trans h3, h4.keep hk, h5.keep hk⟩⟩
theorem InsIn.more {A : Option Addr} {n : Nat} {l : List LIn} (h : InsIn w B A n l) (hB : B ≤ B') : InsIn w B' A n l :=
  ⟨h.len, fun i x hx => by
    obtain ⟨a, va, vd, e, hb, h1, h2, h3, h4, h5⟩ := h.at_ i x hx
    exact ⟨a, va, vd, e, by omega, h1, h2, h3, h4.more hB, h5.more hB⟩⟩
theorem LooksIn.keep {A : Option Addr} {n : Nat} {l : List LLook} (h : LooksIn w B A n l) (hk : ∀ p : Addr, p.block < B → w'.cell? p = w.cell? p) : LooksIn w' B A n l :=
  ⟨h.len, fun i x hx => by
    obtain ⟨a, va, vd, e, hb, h1, h2, h4, h5⟩ := h.at_ i x hx
    exact ⟨a, va, vd, e, hb, fun j u hu => (hk _ (by rw [addr_block]; exact hb)).trans (h1 j u hu), h2, h4.keep hk, h5.keep hk⟩⟩
theorem LooksIn.more {A : Option Addr} {n : Nat} {l : List LLook} (h : LooksIn w B A n l) (hB : B ≤ B') : LooksIn w B' A n l :=
  ⟨h.len, fun i x hx => by
    obtain ⟨a, va, vd, e, hb, h1, h2, h4, h5⟩ := h.at_ i x hx
    exact ⟨a, va, vd, e, by omega, h1, h2, h4.more hB, h5.more hB⟩⟩
theorem KeysIn.keep {A : Option Addr} {n : Nat} {l : List (List Int)} (h : KeysIn w B A n l) (hk : ∀ p : Addr, p.block < B → w'.cell? p = w.cell? p) : KeysIn w' B A n l := ⟨h.len, h.each, h.sees.keep hk⟩
theorem KeysIn.more {A : Option Addr} {n : Nat} {l : List (List Int)} (h : KeysIn w B A n l) (hB : B ≤ B') : KeysIn w B' A n l := ⟨h.len, h.each, h.sees.more hB⟩
variable {q : Raw} {m : LMsg}
theorem MsgIn.keep (h : MsgIn w B q m) (hk : ∀ p : Addr, p.block < B → w'.cell? p = w.cell? p) : MsgIn w' B q m := ⟨h.recent, h.keys.keep hk, h.ins.keep hk, h.looks.keep hk, h.kn, h.n, h.ln⟩
theorem MsgIn.more (h : MsgIn w B q m) (hB : B ≤ B') : MsgIn w B' q m := ⟨h.recent, h.keys.more hB, h.ins.more hB, h.looks.more hB, h.kn, h.n, h.ln⟩
theorem MsgIn.below (h : MsgIn w B q m) (hb : Below B w w') : MsgIn w' B q m := h.keep fun _ hp => hb.cell hp
theorem MsgIn.alloc (h : MsgIn w B q m) (hB : B ≤ w.heap.size) (o : Obj) : MsgIn (w.alloc o) B q m := h.keep fun p hp => World.cell?_alloc_lt w o p (by omega)
theorem MsgIn.drewN (h : MsgIn w B q m) (n : Nat) : MsgIn (w.drewN n) B q m := h.keep fun p hp => rfl
theorem InsIn.below {A : Option Addr} {n : Nat} {l : List LIn} (h : InsIn w B A n l) (hb : Below B w w') : InsIn w' B A n l := h.keep fun _ hp => hb.cell hp
theorem LooksIn.below {A : Option Addr} {n : Nat} {l : List LLook} (h : LooksIn w B A n l) (hb : Below B w w') : LooksIn w' B A n l := h.keep fun _ hp => hb.cell hp
theorem KeysIn.below {A : Option Addr} {n : Nat} {l : List (List Int)} (h : KeysIn w B A n l) (hb : Below B w w') : KeysIn w' B A n l := h.keep fun _ hp => hb.cell hp
theorem BytesIn.below {v : Value} {l : List Int} (h : BytesIn w B v l) (hb : Below B w w') : BytesIn w' B v l := h.keep fun _ hp => hb.cell hp
end

section
variable {q : Raw} {m : LMsg}
theorem cells_len (h : m.recent.length = 32) : (q.cells m).length = 39 := by simp [Raw.cells, bv_length, h]
theorem cells_0 : (q.cells m)[0]? = some (.bool m.v0) := rfl
theorem cells_1 : (q.cells m)[1]? = some (.int .u8 m.s) := rfl
theorem cells_2 : (q.cells m)[2]? = some (.int .u8 m.r) := rfl
theorem cells_3 : (q.cells m)[3]? = some (.int .u8 m.o) := rfl
theorem cells_4 : (q.cells m)[4]? = some (.slice q.KA q.kn q.kc) := rfl
theorem cells_37 (h : m.recent.length = 32) : (q.cells m)[37]? = some (.slice q.IA q.n q.ic) := by
  simp [Raw.cells, List.getElem?_append, bv_length, h]
theorem cells_38 (h : m.recent.length = 32) : (q.cells m)[38]? = some (.slice q.LA q.ln q.lc) := by
  simp [Raw.cells, List.getElem?_append, bv_length, h]
theorem cells_recent {j : Nat} {u : Value} (h : (bv m.recent)[j]? = some u) : (q.cells m)[5 + j]? = some u := by
  have hj := (List.getElem?_eq_some_iff.1 h).1
  simp only [Raw.cells]
  rw [List.getElem?_append_right (by simp), List.getElem?_append_left (by simpa using hj)]
  simpa using h
theorem cells_one : ∀ u ∈ q.cells m, u.oneCell' = true := by
  intro u hu
  simp only [Raw.cells, List.mem_append, List.mem_cons, List.not_mem_nil, or_false] at hu
  rcases hu with (rfl | rfl | rfl | rfl | rfl) | hu | rfl | rfl
  all_goals first | rfl | exact bv_one _ _ hu
end

theorem flatMap_take_len {α : Type} (f : α → List Int) : ∀ (l : List α) (k : Nat), ((l.take k).flatMap f).length ≤ (l.flatMap f).length
  | [], k => by simp
  | x :: r, 0 => by simp
  | x :: r, k + 1 => by
    have := flatMap_take_len f r k
    simp only [List.take_succ_cons, List.flatMap_cons, List.length_append]
    omega
theorem flatMap_take_succ {α : Type} (f : α → List Int) {l : List α} {k : Nat} {x : α} (h : l[k]? = some x) : (l.take (k + 1)).flatMap f = (l.take k).flatMap f ++ f x := by
  rw [List.take_add_one, List.flatMap_append, h]
  simp
end Go.Proofs.Ytolijdbdpnbchaa
