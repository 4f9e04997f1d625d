/-
  Parts joined: Mem Row Longer Put Msg Math13 Get Parse Whole Append Many Looks ListV GetMsg SameZero SameMsg CameIn Enc Tx IsIn OpenMsg Rules KeyEq Book Sheet RefAt BookK Role Hold13 KeyMap AccMap13 Math12 Tail Rec12 SheetR.
-/
import Derived.Below
import Derived.Laws.OwnMore
import Derived.Deep.AppendLies
import Derived.Deep.Draws
import Derived.Lib.Hide
import Derived.Laws.MakeOwn
import Derived.Laws.CopyOwn
import Derived.Laws.Rows
import Derived.Laws.BitsAllLaws
import Derived.WalkKit
import Derived.Test.YtpkkgmmcindfgaaRows
import Derived.WalkSpells
import Derived.WalkLawsBesides
import Derived.IntWalk
import Derived.Deep.MidRow
import Derived.Deep.WholeRow
import Derived.Maps.AppendAt
import Derived.OwnWalk
import Derived.Great.BuildSlice
import Derived.Recover
import Derived.Deep.RegionHeld
import Derived.Deep.QuietTactic
import Derived.BigQuiet
import Derived.ChangeKeysEq
import Derived.ProofKit
import Derived.OpenShut
import Derived.ShutString
import Derived.ChangeOld
import Derived.Lib.SmallJoins
import Derived.Deep.Slices
import Derived.Deep.Strs
import Derived.SizedLaws
import Derived.Deep.RegionHeld2
import Derived.Deep.CutBlock
import Derived.Laws.Tables
import Derived.Laws.StructEq
import Derived.Maps.OwnSet
import Derived.DeepKeys4
import Derived.WideKeyArr
import Derived.Maps.RangeWalk
import Derived.Laws.Slices
/-
  Of part Mem: what is needed here.
-/
namespace Go.Proofs.Ytpkkgmmcindfgaa
open Go.RowKit
/-- bytes (or numbers of another kind) as cells -/
def cv (k : IntKind) (zs : List Int) : List Value := zs.map (Value.int k)
def bv (zs : List Int) : List Value := cv .u8 zs
theorem cv_length (k : IntKind) (zs : List Int) : (cv k zs).length = zs.length := by simp [cv]
theorem bv_length (zs : List Int) : (bv zs).length = zs.length := cv_length _ zs
theorem bv_getElem? (zs : List Int) (i : Nat) : (bv zs)[i]? = zs[i]?.map (Value.int .u8) := by simp [bv, cv]
theorem bv_at {zs : List Int} {i : Nat} (h : i < zs.length) : (bv zs)[i]? = some (.int .u8 (zs.getD i 0)) := by
  rw [bv_getElem?, List.getD_eq_getElem?_getD, List.getElem?_eq_getElem h]; rfl
theorem bv_one (zs : List Int) : ∀ u ∈ bv zs, u.oneCell' = true := by
  intro u hu
  simp only [bv, cv, List.mem_map] at hu
  obtain ⟨z, _, rfl⟩ := hu
  rfl
theorem addr_block (a : Addr) (n : Nat) : (a.add n).block = a.block := by unfold Addr.add; split <;> rfl
theorem addr_add (a : Addr) (i j : Nat) : (a.add i).add j = a.add (i + j) := by
  unfold Addr.add
  rcases Nat.eq_zero_or_pos i with hi | hi <;> rcases Nat.eq_zero_or_pos j with hj | hj
  · simp [hi, hj]
  · simp [hi, show j ≠ 0 by omega]
  · simp [hj, show i ≠ 0 by omega]
  · simp [show i ≠ 0 by omega, show j ≠ 0 by omega, Nat.add_assoc]
theorem addr_row (g i j : Nat) : (⟨g, i, none⟩ : Addr).add j = ⟨g, i + j, none⟩ := by unfold Addr.add; split <;> simp_all
/-- The slice value '.slice A n c' reads as the cells xs; each cell lies below block B. -/
structure Sees (w : World) (B : Nat) (A : Option Addr) (n : Nat) (xs : List Value) : Prop where
  len : xs.length = n
  cell : ∀ i u, xs[i]? = some u → ∃ a, A = some a ∧ a.block < B ∧ w.cell? (a.add i) = some u
section
variable {w w' : World} {B B' n : Nat} {A : Option Addr} {xs : List Value}
theorem Sees.nil (w : World) (B : Nat) (A : Option Addr) : Sees w B A 0 [] := ⟨rfl, fun i u h => by simp at h⟩
theorem Sees.keep (h : Sees w B A n xs) (hk : ∀ p : Addr, p.block < B → w'.cell? p = w.cell? p) : Sees w' B A n xs :=
  ⟨h.len, fun i u hu => by
    obtain ⟨a, e, hb, hc⟩ := h.cell i u hu
    exact ⟨a, e, hb, (hk _ (by rw [addr_block]; exact hb)).trans hc⟩⟩
theorem Sees.more (h : Sees w B A n xs) (hB : B ≤ B') : Sees w B' A n xs :=
  ⟨h.len, fun i u hu => by
    obtain ⟨a, e, hb, hc⟩ := h.cell i u hu
    exact ⟨a, e, by omega, hc⟩⟩
theorem Sees.below (h : Sees w B A n xs) (hb : Below B w w') : Sees w' B A n xs := h.keep fun _ hp => hb.cell hp
theorem Sees.drew (h : Sees w B A n xs) : Sees w.drew B A n xs := ⟨h.len, h.cell⟩
theorem Sees.drewN (h : Sees w B A n xs) (k : Nat) : Sees (w.drewN k) B A n xs := ⟨h.len, h.cell⟩
theorem Sees.alloc (h : Sees w B A n xs) (hB : B ≤ w.heap.size) (o : Obj) : Sees (w.alloc o) B A n xs := h.keep fun p hp => World.cell?_alloc_lt w o p (by omega)
theorem Sees.setCell (h : Sees w B A n xs) {p : Addr} (hB : B ≤ p.block) (u : Value) : Sees (w.setCell p u) B A n xs :=
  h.keep fun q hq => World.cell?_setCell_other w p q u (fun e => by subst e; omega)
theorem Sees.at_ {k : Nat} (h : Sees w B A n xs) (hk : k < n) : ∃ a u, A = some a ∧ a.block < B ∧ xs[k]? = some u ∧ w.cell? (a.add k) = some u := by
  have hl : k < xs.length := by have := h.len; omega
  obtain ⟨a, e, hb, hc⟩ := h.cell k _ (List.getElem?_eq_getElem hl)
  exact ⟨a, _, e, hb, List.getElem?_eq_getElem hl, hc⟩
theorem Sees.of_own {base : Nat} {e : TypeId} {c : Nat} (h : w.ownsRow base e 1 (.slice A n c) n xs) : Sees w w.heap.size A n xs := by
  refine ⟨by have := h.1; omega, fun i u hu => ?_⟩
  have hl : i < xs.length := (List.getElem?_eq_some_iff.1 hu).1
  rcases h.2 with ⟨_, rfl⟩ | ⟨g, cap, cur, hv, hg, hh, hnc, _, hsz, htk⟩
  · have := h.1; omega
  · have hA : A = some ⟨g, 0, none⟩ := by injection hv
    subst hA
    exact ⟨_, rfl, (Array.getElem?_eq_some_iff.1 hh).1, h.cells (g := g) rfl i u hu⟩
end
end Go.Proofs.Ytpkkgmmcindfgaa

/-
  Of part Row: what is needed here.
-/
namespace Go.Proofs.Ytpkkgmmcindfgaa
open Go.RowKit
set_option linter.unusedVariables false
set_option maxRecDepth 100000
/-- block g is just the cells xs of element type t; none is frozen -/
structure Row (w : World) (g : Nat) (t : TypeId) (xs : List Value) : Prop where
  is : w.heap[g]? = some (.cells xs.toArray t (0, 0))
section
variable {w w' : World} {g : Nat} {t : TypeId} {xs : List Value}
theorem Row.lt (h : Row w g t xs) : g < w.heap.size := (Array.getElem?_eq_some_iff.1 h.is).1
theorem Row.cell (h : Row w g t xs) (i : Nat) : w.cell? ⟨g, i, none⟩ = xs[i]? := by rw [cell_of_row w g i xs.toArray t (0, 0) h.is]; simp
theorem Row.frozen (h : Row w g t xs) (i : Nat) : w.frozen? ⟨g, i, none⟩ = false := by
  have := h.is
  simp [World.frozen?, this]
theorem Row.new (w : World) (t : TypeId) (xs : List Value) : Row (w.alloc (.cells xs.toArray t)) w.heap.size t xs := ⟨heap_alloc_new w _⟩
theorem Row.new' (w : World) (t : TypeId) (xs : List Value) {g : Nat} (hg : w.heap.size = g) : Row (w.alloc (.cells xs.toArray t)) g t xs := hg ▸ Row.new w t xs
theorem Row.drew (h : Row w g t xs) : Row w.drew g t xs := ⟨h.is⟩
theorem Row.drewN (h : Row w g t xs) (n : Nat) : Row (w.drewN n) g t xs := ⟨h.is⟩
theorem Row.alloc (h : Row w g t xs) (o : Obj) : Row (w.alloc o) g t xs := ⟨(Below.heap_alloc w o g h.lt).trans h.is⟩
theorem Row.set_ (h : Row w g t xs) (i : Nat) (u : Value) : Row (w.setCell ⟨g, i, none⟩ u) g t (xs.set i u) := by
  have := h.is
  exact ⟨by simp [World.setCell, Array.getElem?_modify, this]⟩
theorem Row.far (h : Row w g t xs) {p : Addr} (hp : g ≠ p.block) (u : Value) : Row (w.setCell p u) g t xs := ⟨(Below.heap_setCell w p u g hp).trans h.is⟩
theorem Row.below {B : Nat} (h : Row w g t xs) (hb : Below B w w') (hg : g < B) : Row w' g t xs := ⟨(hb.block g hg).trans h.is⟩
theorem Row.grown {row : Option Nat} (h : Row w g t xs) (hb : w.grownBy w' row) (hg : some g ≠ row) : Row w' g t xs := ⟨(hb.block g h.lt hg).trans h.is⟩
theorem Row.sees (h : Row w g t xs) (o : Nat) : Sees w w.heap.size (some ⟨g, o, none⟩) (xs.length - o) (xs.drop o) :=
  ⟨by simp, fun i u hu => ⟨_, rfl, h.lt, by rw [addr_row, h.cell]; simpa using hu⟩⟩
theorem Row.sees0 (h : Row w g t xs) : Sees w w.heap.size (some ⟨g, 0, none⟩) xs.length xs := by simpa using h.sees 0
theorem Row.own (h : Row w g t xs) {base : Nat} (hb : base ≤ g) {n : Nat} (hn : n ≤ xs.length) (hm : xs.length ≤ maxLen) : w.ownsRow base t 1 (.slice (some ⟨g, 0, none⟩) n xs.length) n (xs.take n) :=
  ⟨by simp; omega, .inr ⟨g, xs.length, xs.toArray, rfl, hb, h.is, hn, hm, by simp, by simp⟩⟩
theorem Row.of_own {base : Nat} {n : Nat} (h : w.ownsRow base t 1 (.slice (some ⟨g, 0, none⟩) n n) n xs) : Row w g t xs := by
  rcases h.2 with ⟨hv, _⟩ | ⟨g', cap, cur, hv, _, hh, _, _, hs, ht⟩
  · cases hv
  · cases hv
    have : cur = xs.toArray := by
      rw [← ht, List.take_of_length_le (by simp; omega)]
    exact ⟨by rw [hh, this]⟩
end
end Go.Proofs.Ytpkkgmmcindfgaa

/-
  Of part Longer: what is needed here.
-/
namespace Go.Proofs.Ytpkkgmmcindfgaa
open Go.RowKit
set_option linter.unusedVariables false
set_option maxRecDepth 100000
theorem info_u8 : (Try.prog.info? 5).map (fun i => (i.zero, i.size, i.bytes)) = some (some (.int .u8 0), 1, 1) := by kernel_rfl
end Go.Proofs.Ytpkkgmmcindfgaa

/-
  Of part Put: what is needed here.
-/
namespace Go.Proofs.Ytpkkgmmcindfgaa
open Go.RowKit
set_option linter.unusedVariables false
set_option maxRecDepth 100000
/-- the bytes of a short number -/
def short (n : Int) : List Int :=
  if n < 128 then [n] else if n < 16384 then [n % 128 + 128, n / 128] else [n % 128 + 128, n / 128 % 128 + 128, n / 16384]
end Go.Proofs.Ytpkkgmmcindfgaa

/-
  Of part Msg: what is needed here.
-/
namespace Go.Proofs.Ytpkkgmmcindfgaa
open Go.RowKit
set_option linter.unusedVariables false
set_option maxRecDepth 100000
/-- an instruction -/
structure LIn where
  p : Int
  acc : List Int
  dat : List Int
/-- a lookup -/
structure LLook where
  tab : List Int
  wr : List Int
  rd : List Int
/-- a message -/
structure LMsg where
  v0 : Bool
  s : Int
  r : Int
  o : Int
  keys : List (List Int)
  recent : List Int
  ins : List LIn
  looks : List LLook
/-- how many, and the bytes -/
def encL (l : List Int) : List Int := short l.length ++ l
def encIn (i : LIn) : List Int := i.p :: (encL i.acc ++ encL i.dat)
def encLook (l : LLook) : List Int := l.tab ++ (encL l.wr ++ encL l.rd)
def encHead (m : LMsg) : List Int := (if m.v0 then [128] else []) ++ [m.s, m.r, m.o]
def encTail (m : LMsg) : List Int := if m.v0 then short m.looks.length ++ m.looks.flatMap encLook else []
/-- a message's bytes -/
def enc (m : LMsg) : List Int := encHead m ++ (short m.keys.length ++ (m.keys.flatten ++ (m.recent ++ (short m.ins.length ++ (m.ins.flatMap encIn ++ encTail m)))))
/-- a byte -/
def IsByte (z : Int) : Prop := 0 ≤ z ∧ z < 256
def AllBytes (l : List Int) : Prop := ∀ z ∈ l, IsByte z
/-- all numbers are bytes, keys have 32 of them -/
structure LMsg.Wf (m : LMsg) : Prop where
  s : IsByte m.s
  r : IsByte m.r
  o : IsByte m.o
  keys : ∀ k ∈ m.keys, k.length = 32 ∧ AllBytes k
  recent : m.recent.length = 32 ∧ AllBytes m.recent
  ins : ∀ i ∈ m.ins, IsByte i.p ∧ AllBytes i.acc ∧ AllBytes i.dat
  looks : ∀ l ∈ m.looks, (l.tab.length = 32 ∧ AllBytes l.tab) ∧ AllBytes l.wr ∧ AllBytes l.rd
/-- a slice of bytes that lies below block B -/
structure BytesIn (w : World) (B : Nat) (v : Value) (l : List Int) : Prop where
  is : ∃ A c, v = .slice A l.length c ∧ Sees w B A l.length (bv l) ∧ l.length ≤ c ∧ c ≤ maxLen
/-- where a message's lists lie -/
structure Raw where
  KA : Option Addr
  kn : Nat
  kc : Nat
  IA : Option Addr
  n : Nat
  ic : Nat
  LA : Option Addr
  ln : Nat
  lc : Nat
/-- a message's cells -/
def Raw.cells (q : Raw) (m : LMsg) : List Value :=
  [.bool m.v0, .int .u8 m.s, .int .u8 m.r, .int .u8 m.o, .slice q.KA q.kn q.kc] ++ (bv m.recent ++ [.slice q.IA q.n q.ic, .slice q.LA q.ln q.lc])
section
variable {w w' : World} {B B' : Nat}
theorem BytesIn.keep {v : Value} {l : List Int} (h : BytesIn w B v l) (hk : ∀ p : Addr, p.block < B → w'.cell? p = w.cell? p) : BytesIn w' B v l := by
  obtain ⟨A, c, e, hs, h1, h2⟩ := h.is
  exact ⟨A, c, e, hs.keep hk, h1, h2⟩
theorem BytesIn.more {v : Value} {l : List Int} (h : BytesIn w B v l) (hB : B ≤ B') : BytesIn w B' v l := by
  obtain ⟨A, c, e, hs, h1, h2⟩ := h.is
  exact ⟨A, c, e, hs.more hB, h1, h2⟩
variable {q : Raw} {m : LMsg}
theorem BytesIn.below {v : Value} {l : List Int} (h : BytesIn w B v l) (hb : Below B w w') : BytesIn w' B v l := h.keep fun _ hp => hb.cell hp
end
end Go.Proofs.Ytpkkgmmcindfgaa

/-
  Of part Math13: what is needed here.
-/
namespace Go.Proofs.Ytpkkgmmcindfgaa
set_option linter.unusedVariables false
/-- of two lists of bytes the one goes ahead of the other one -/
def kless : List Int → List Int → Bool
  | _, [] => false
  | [], _ :: _ => true
  | a :: x, b :: y => decide (a < b) || (decide (a = b) && kless x y)
theorem kless_irrefl : ∀ x : List Int, kless x x = false
  | [] => rfl
  | a :: x => by simp [kless, kless_irrefl x]
theorem kless_trans : ∀ x y z : List Int, kless x y = true → kless y z = true → kless x z = true
  | _, _, [], _, h => by simp [kless] at h
  | _, [], _ :: _, h, _ => by simp [kless] at h
  | [], _ :: _, _ :: _, _, _ => rfl
  | a :: x, b :: y, c :: z, h1, h2 => by
    simp only [kless, Bool.or_eq_true, Bool.and_eq_true, decide_eq_true_iff] at h1 h2 ⊢
    rcases h1 with h1 | ⟨h1, h1'⟩ <;> rcases h2 with h2 | ⟨h2, h2'⟩
    · left; omega
    · left; omega
    · left; omega
    · right; exact ⟨by omega, kless_trans x y z h1' h2'⟩
theorem kless_total : ∀ x y : List Int, kless x y = false → kless y x = false → x = y
  | [], [], _, _ => rfl
  | [], _ :: _, h, _ => by simp [kless] at h
  | _ :: _, [], _, h => by simp [kless] at h
  | a :: x, b :: y, h1, h2 => by
    simp only [kless, Bool.or_eq_false_iff, Bool.and_eq_false_iff, decide_eq_false_iff_not] at h1 h2
    have e : a = b := by omega
    subst e
    have h3 : kless x y = false := by rcases h1.2 with h | h <;> simp_all
    have h4 : kless y x = false := by rcases h2.2 with h | h <;> simp_all
    rw [kless_total x y h3 h4]
theorem kless_asymm {x y : List Int} (h : kless x y = true) : kless y x = false := by
  cases h2 : kless y x with
  | false => rfl
  | true =>
    have := kless_trans x y x h h2
    rw [kless_irrefl] at this
    cases this
theorem kless_ne {x y : List Int} (h : kless x y = true) : x ≠ y := fun e => by
  subst e
  rw [kless_irrefl] at h
  cases h
/-- an account; a key's -/
structure LAcc where
  c : Int
  o : List Int
  s : Int
  deriving DecidableEq
structure LHold where
  k : List Int
  a : LAcc
  deriving DecidableEq
def blank13 : LAcc := ⟨0, List.replicate 32 0, 0⟩
structure AccOk (a : LAcc) : Prop where
  c : 0 ≤ a.c ∧ a.c < 18446744073709551616
  o : a.o.length = 32 ∧ AllBytes a.o
  s : 0 ≤ a.s ∧ a.s < 18446744073709551616
theorem blank_ok : AccOk blank13 := ⟨by decide, ⟨rfl, fun z hz => by rw [List.eq_of_mem_replicate hz]; constructor <;> decide⟩, by decide⟩
structure HoldOk (x : LHold) : Prop where
  k : x.k.length = 32 ∧ AllBytes x.k
  a : AccOk x.a
/-- accounts that are not blank, by rising keys -/
structure Sto (L : List LHold) : Prop where
  rise : L.Pairwise fun x y => kless x.k y.k = true
  nb : ∀ x ∈ L, x.a ≠ blank13
  ok : ∀ x ∈ L, HoldOk x
theorem sto_nil : Sto [] := ⟨List.Pairwise.nil, by simp, by simp⟩
theorem Sto.tail {x : LHold} {r : List LHold} (h : Sto (x :: r)) : Sto r := ⟨(List.pairwise_cons.1 h.rise).2, fun y hy => h.nb y (List.mem_cons_of_mem _ hy), fun y hy => h.ok y (List.mem_cons_of_mem _ hy)⟩
/-- a key's account -/
def getH : List LHold → List Int → LAcc
  | [], _ => blank13
  | x :: r, k => if x.k = k then x.a else getH r k
theorem getH_none : ∀ {L : List LHold} {k : List Int}, (∀ x ∈ L, x.k ≠ k) → getH L k = blank13
  | [], _, _ => rfl
  | x :: r, k, h => by
    unfold getH
    rw [if_neg (h x (by simp)), getH_none fun y hy => h y (List.mem_cons_of_mem _ hy)]
theorem getH_cases : ∀ (L : List LHold) (k : List Int), ((∀ x ∈ L, x.k ≠ k) ∧ getH L k = blank13) ∨ ⟨k, getH L k⟩ ∈ L
  | [], _ => .inl ⟨by simp, rfl⟩
  | x :: r, k => by
    unfold getH
    by_cases e : x.k = k
    · rw [if_pos e]
      right
      subst e
      exact List.mem_cons_self
    · rw [if_neg e]
      rcases getH_cases r k with ⟨h1, h2⟩ | h
      · exact .inl ⟨fun y hy => by
          rcases List.mem_cons.1 hy with rfl | hy
          · exact e
          · exact h1 y hy, h2⟩
      · exact .inr (List.mem_cons_of_mem _ h)
theorem getH_at : ∀ {L : List LHold}, (L.Pairwise fun x y => kless x.k y.k = true) → ∀ {x : LHold}, x ∈ L → getH L x.k = x.a
  | y :: r, h, x, hx => by
    obtain ⟨h1, h2⟩ := List.pairwise_cons.1 h
    unfold getH
    rcases List.mem_cons.1 hx with rfl | hx
    · rw [if_pos rfl]
    · rw [if_neg (kless_ne (h1 x hx)), getH_at h2 hx]
theorem Sto.mem {L : List LHold} (h : Sto L) {x : LHold} : x ∈ L ↔ x.a ≠ blank13 ∧ getH L x.k = x.a := by
  constructor
  · intro hx
    exact ⟨h.nb x hx, getH_at h.rise hx⟩
  · rintro ⟨h1, h2⟩
    rcases getH_cases L x.k with ⟨_, h3⟩ | h3
    · exact absurd (h2.symm.trans h3) h1
    · rw [h2] at h3
      exact h3
theorem Sto.get_ok {L : List LHold} (h : Sto L) (k : List Int) : AccOk (getH L k) := by
  rcases getH_cases L k with ⟨_, h1⟩ | h1
  · rw [h1]; exact blank_ok
  · exact (h.ok _ h1).a
/-- who has the same members is the same -/
theorem rise_ext : ∀ {L M : List LHold}, (L.Pairwise fun x y => kless x.k y.k = true) → (M.Pairwise fun x y => kless x.k y.k = true) → (∀ x, x ∈ L ↔ x ∈ M) → L = M
  | [], [], _, _, _ => rfl
  | [], y :: r, _, _, h => absurd ((h y).2 List.mem_cons_self) (by simp)
  | x :: r, [], _, _, h => absurd ((h x).1 List.mem_cons_self) (by simp)
  | x :: r, y :: t, h1, h2, h => by
    obtain ⟨a1, a2⟩ := List.pairwise_cons.1 h1
    obtain ⟨b1, b2⟩ := List.pairwise_cons.1 h2
    have e : x = y := by
      rcases List.mem_cons.1 ((h x).1 List.mem_cons_self) with e | hx
      · exact e
      rcases List.mem_cons.1 ((h y).2 List.mem_cons_self) with e | hy
      · exact e.symm
      have h3 := kless_asymm (b1 x hx)
      rw [a1 y hy] at h3
      cases h3
    subst e
    congr 1
    refine rise_ext a2 b2 fun z => ?_
    constructor
    · intro hz
      rcases List.mem_cons.1 ((h z).1 (List.mem_cons_of_mem _ hz)) with rfl | hz'
      · exact absurd rfl (kless_ne (a1 z hz))
      · exact hz'
    · intro hz
      rcases List.mem_cons.1 ((h z).2 (List.mem_cons_of_mem _ hz)) with rfl | hz'
      · exact absurd rfl (kless_ne (b1 z hz))
      · exact hz'
theorem Sto.ext {L M : List LHold} (h : Sto L) (h' : Sto M) (he : ∀ k, getH L k = getH M k) : L = M :=
  rise_ext h.rise h'.rise fun x => by rw [h.mem, h'.mem, he]
/-- a put, gone through from the front: what is still to be put is put ahead of the first greater key -/
def putG (k : List Int) (a : LAcc) : Bool → List LHold → List LHold
  | put, [] => if put then [] else [⟨k, a⟩]
  | put, x :: r => (if !put && kless k x.k then [⟨k, a⟩] else []) ++ ((if x.k = k then [] else [x]) ++ putG k a (put || kless k x.k) r)
def putH (L : List LHold) (k : List Int) (a : LAcc) : List LHold := putG k a (decide (a = blank13)) L
theorem putG_mem (k : List Int) (a : LAcc) : ∀ (L : List LHold) (put : Bool) (x : LHold), x ∈ putG k a put L ↔ (x ∈ L ∧ x.k ≠ k) ∨ (put = false ∧ x = ⟨k, a⟩)
  | [], put, x => by cases put <;> simp [putG]
  | y :: r, put, x => by
    unfold putG
    rw [List.mem_append, List.mem_append, putG_mem k a r]
    have h1 : (x ∈ (if y.k = k then ([] : List LHold) else [y])) ↔ (x = y ∧ x.k ≠ k) := by
      split
      · rename_i e
        constructor
        · simp
        · rintro ⟨rfl, h⟩; exact absurd e h
      · rename_i e
        constructor
        · intro h
          obtain rfl := List.mem_singleton.1 h
          exact ⟨rfl, e⟩
        · rintro ⟨rfl, _⟩; simp
    rw [h1, List.mem_cons]
    cases put <;> cases hk : kless k y.k <;> simp <;> grind
theorem putG_true (k : List Int) (a : LAcc) : ∀ (L : List LHold), putG k a true L = L.filter fun x => x.k ≠ k
  | [] => rfl
  | x :: r => by
    unfold putG
    rw [Bool.true_or, putG_true k a r]
    by_cases e : x.k = k <;> simp [e]
theorem putG_rise (k : List Int) (a : LAcc) : ∀ (L : List LHold) (put : Bool), (L.Pairwise fun x y => kless x.k y.k = true) → (putG k a put L).Pairwise fun x y => kless x.k y.k = true
  | [], put, _ => by cases put <;> simp [putG]
  | x :: r, true, h => by
    rw [putG_true]
    exact h.sublist List.filter_sublist
  | x :: r, false, h => by
    obtain ⟨h1, h2⟩ := List.pairwise_cons.1 h
    unfold putG
    cases hk : kless k x.k with
    | true =>
      have hne : x.k ≠ k := fun e => kless_ne hk e.symm
      simp only [Bool.not_false, Bool.true_and, if_true, Bool.false_or, if_neg hne]
      rw [putG_true]
      refine List.pairwise_cons.2 ⟨fun y hy => ?_, List.pairwise_cons.2 ⟨fun y hy => h1 y (List.mem_filter.1 hy).1, h2.sublist List.filter_sublist⟩⟩
      rcases List.mem_cons.1 hy with rfl | hy
      · exact hk
      · exact kless_trans _ _ _ hk (h1 y (List.mem_filter.1 hy).1)
    | false =>
      simp only [Bool.not_false, Bool.true_and, Bool.false_eq_true, if_false, Bool.false_or, List.nil_append]
      by_cases e : x.k = k
      · rw [if_pos e, List.nil_append]
        exact putG_rise k a r false h2
      · rw [if_neg e]
        refine List.pairwise_cons.2 ⟨fun y hy => ?_, putG_rise k a r false h2⟩
        rcases (putG_mem k a r false y).1 hy with ⟨hy, _⟩ | ⟨_, rfl⟩
        · exact h1 y hy
        · cases h3 : kless x.k k with
          | true => rfl
          | false => exact absurd (kless_total _ _ h3 hk) e
theorem putH_mem {L : List LHold} {k : List Int} {a : LAcc} {x : LHold} : x ∈ putH L k a ↔ (x ∈ L ∧ x.k ≠ k) ∨ (a ≠ blank13 ∧ x = ⟨k, a⟩) := by
  unfold putH
  rw [putG_mem]
  simp
theorem Sto.put {L : List LHold} (h : Sto L) {k : List Int} {a : LAcc} (hk : k.length = 32 ∧ AllBytes k) (ha : AccOk a) : Sto (putH L k a) := by
  refine ⟨putG_rise k a L _ h.rise, fun x hx => ?_, fun x hx => ?_⟩
  · rcases putH_mem.1 hx with ⟨hx, _⟩ | ⟨h1, rfl⟩
    · exact h.nb x hx
    · exact h1
  · rcases putH_mem.1 hx with ⟨hx, _⟩ | ⟨h1, rfl⟩
    · exact h.ok x hx
    · exact ⟨hk, ha⟩
theorem getH_put {L : List LHold} (h : Sto L) {k : List Int} {a : LAcc} (hk : k.length = 32 ∧ AllBytes k) (ha : AccOk a) (k' : List Int) : getH (putH L k a) k' = if k' = k then a else getH L k' := by
  have hs := h.put hk ha
  by_cases e : k' = k
  · rw [if_pos e]
    subst e
    by_cases hb : a = blank13
    · rw [hb, getH_none]
      intro x hx
      rcases putH_mem.1 hx with ⟨_, h1⟩ | ⟨h1, _⟩
      · exact h1
      · exact absurd rfl h1
    · have : (⟨k', a⟩ : LHold) ∈ putH L k' a := putH_mem.2 (.inr ⟨hb, rfl⟩)
      exact getH_at hs.rise this
  · rw [if_neg e]
    rcases getH_cases L k' with ⟨h1, h2⟩ | h1
    · rw [h2, getH_none]
      intro x hx
      rcases putH_mem.1 hx with ⟨hx, _⟩ | ⟨_, rfl⟩
      · exact h1 x hx
      · exact fun e' => e e'.symm
    · have : (⟨k', getH L k'⟩ : LHold) ∈ putH L k a := putH_mem.2 (.inl ⟨h1, e⟩)
      exact getH_at hs.rise this
theorem putG_len (k : List Int) (a : LAcc) : ∀ (L : List LHold) (put : Bool), (putG k a put L).length ≤ L.length + 1
  | [], put => by cases put <;> simp [putG]
  | x :: r, put => by
    unfold putG
    rw [List.length_append, List.length_append]
    have hf : (putG k a true r).length ≤ r.length := by
      rw [putG_true]
      exact List.length_filter_le _ _
    have hx : (if x.k = k then ([] : List LHold) else [x]).length ≤ 1 := by split <;> simp
    rw [List.length_cons]
    cases put with
    | true =>
      rw [Bool.true_or]
      simp only [Bool.not_true, Bool.false_and, Bool.false_eq_true, if_false, List.length_nil]
      omega
    | false =>
      cases hk : kless k x.k with
      | true =>
        simp only [Bool.not_false, Bool.true_and, if_true, Bool.false_or, List.length_singleton]
        omega
      | false =>
        have := putG_len k a r false
        simp only [Bool.not_false, Bool.true_and, Bool.false_eq_true, if_false, Bool.false_or, List.length_nil]
        omega
theorem putH_len (L : List LHold) (k : List Int) (a : LAcc) : (putH L k a).length ≤ L.length + 1 := putG_len k a L _
/-- all coins -/
def sumH : List LHold → Int
  | [] => 0
  | x :: r => x.a.c + sumH r
theorem sumH_cons (x : LHold) (r : List LHold) : sumH (x :: r) = x.a.c + sumH r := rfl
theorem sumH_nil : sumH [] = 0 := rfl
theorem sumH_nonneg : ∀ {L : List LHold}, (∀ x ∈ L, HoldOk x) → 0 ≤ sumH L
  | [], _ => by simp [sumH]
  | x :: r, h => by
    have h1 := (h x (by simp)).a.c.1
    have h2 := sumH_nonneg (L := r) fun y hy => h y (List.mem_cons_of_mem _ hy)
    rw [sumH_cons]
    omega
theorem sumH_app : ∀ (L M : List LHold), sumH (L ++ M) = sumH L + sumH M
  | [], M => by simp [sumH]
  | x :: r, M => by
    rw [List.cons_append, sumH_cons, sumH_cons, sumH_app r M]
    omega
theorem sumH_bound : ∀ {L : List LHold}, (∀ x ∈ L, HoldOk x) → sumH L ≤ L.length * 18446744073709551615
  | [], _ => by simp [sumH]
  | x :: r, h => by
    have h1 := (h x (by simp)).a.c.2
    have h2 := sumH_bound (L := r) fun y hy => h y (List.mem_cons_of_mem _ hy)
    rw [sumH_cons]
    rw [List.length_cons]
    omega
theorem sum_filter (k : List Int) : ∀ {L : List LHold}, (L.Pairwise fun x y => kless x.k y.k = true) → sumH (L.filter fun x => x.k ≠ k) + (getH L k).c = sumH L
  | [], _ => by simp [sumH, getH, blank13]
  | x :: r, h => by
    obtain ⟨h1, h2⟩ := List.pairwise_cons.1 h
    have ih := sum_filter k h2
    by_cases e : x.k = k
    · subst e
      have hn : ∀ y ∈ r, y.k ≠ x.k := fun y hy e' => kless_ne (h1 y hy) e'.symm
      rw [List.filter_cons_of_neg (by simp), List.filter_eq_self.2 (fun y hy => by simpa using hn y hy)]
      unfold getH
      rw [if_pos rfl, sumH_cons]
      omega
    · rw [List.filter_cons_of_pos (by simpa using e)]
      unfold getH
      rw [if_neg e]
      simp only [sumH_cons]
      omega
theorem sum_putG (k : List Int) (a : LAcc) : ∀ {L : List LHold} (put : Bool), (L.Pairwise fun x y => kless x.k y.k = true) → sumH (putG k a put L) + (getH L k).c = sumH L + (if put then 0 else a.c)
  | [], put, _ => by cases put <;> simp [putG, sumH, getH, blank13]
  | x :: r, true, h => by
    rw [putG_true, sum_filter k h]
    simp
  | x :: r, false, h => by
    obtain ⟨h1, h2⟩ := List.pairwise_cons.1 h
    have ih := fun b => sum_putG k a b h2
    unfold putG
    rw [sumH_app, sumH_app]
    cases hk : kless k x.k with
    | true =>
      have hne : x.k ≠ k := fun e => kless_ne hk e.symm
      have h3 := ih true
      simp only [Bool.not_false, Bool.true_and, if_true, Bool.false_or, if_neg hne]
      unfold getH
      rw [if_neg hne]
      simp only [sumH_cons, sumH_nil, Bool.false_eq_true, if_false]
      simp only [if_true] at h3
      omega
    | false =>
      have h3 := ih false
      simp only [Bool.not_false, Bool.true_and, Bool.false_eq_true, if_false, Bool.false_or] at h3 ⊢
      by_cases e : x.k = k
      · subst e
        have hn : getH r x.k = blank13 := getH_none fun y hy e' => kless_ne (h1 y hy) e'.symm
        rw [hn] at h3
        unfold getH
        rw [if_pos rfl, if_pos rfl]
        simp only [sumH_cons, sumH_nil]
        simp only [blank13] at h3
        omega
      · unfold getH
        rw [if_neg e, if_neg e]
        simp only [sumH_cons, sumH_nil]
        omega
theorem sum_put {L : List LHold} (h : Sto L) (k : List Int) (a : LAcc) : sumH (putH L k a) = sumH L - (getH L k).c + a.c := by
  have h1 := sum_putG k a (decide (a = blank13)) h.rise
  unfold putH
  by_cases e : a = blank13
  · rw [decide_eq_true e] at h1 ⊢
    rw [e] at h1 ⊢
    simp only [if_true] at h1
    have : blank13.c = 0 := rfl
    omega
  · rw [decide_eq_false e] at h1 ⊢
    simp only [Bool.false_eq_true, if_false] at h1
    omega
end Go.Proofs.Ytpkkgmmcindfgaa

/-
  Of part Get: what is needed here.
-/
namespace Go.Proofs.Ytpkkgmmcindfgaa
open Go.RowKit
set_option linter.unusedVariables false
set_option maxRecDepth 100000
/-- all are bytes -/
def Bytes (zs : List Int) : Prop := ∀ i, 0 ≤ zs.getD i 0 ∧ zs.getD i 0 < 256
end Go.Proofs.Ytpkkgmmcindfgaa

/-
  Of part Parse: what is needed here.
-/
namespace Go.Proofs.Ytpkkgmmcindfgaa
open Go.RowKit
set_option linter.unusedVariables false
set_option maxRecDepth 100000
abbrev PR (α : Type) := Except Int (α × List Int)
theorem AllBytes.drop {zs : List Int} (h : AllBytes zs) (k : Nat) : AllBytes (zs.drop k) := fun z hz => h z (List.mem_of_mem_drop hz)
theorem AllBytes.take {zs : List Int} (h : AllBytes zs) (k : Nat) : AllBytes (zs.take k) := fun z hz => h z (List.mem_of_mem_take hz)
theorem AllBytes.bytes {zs : List Int} (h : AllBytes zs) : Bytes zs := by
  intro i
  rw [List.getD_eq_getElem?_getD]
  by_cases hi : i < zs.length
  · rw [List.getElem?_eq_getElem hi]
    exact h _ (List.getElem_mem hi)
  · rw [List.getElem?_eq_none (by omega)]; simp
end Go.Proofs.Ytpkkgmmcindfgaa

/-
  Of part Whole: what is needed here.
-/
namespace Go.Proofs.Ytpkkgmmcindfgaa
open Go.RowKit
set_option linter.unusedVariables false
set_option maxRecDepth 100000
section
variable {P : Program}
/-- a value of many cells, read from an address -/
theorem run_loadAt_at (w : World) (p : Addr) (ty : TypeId) (cs : List Value) (d : TypeDesc) (hc : ∀ j v, cs[j]? = some v → w.cell? (p.add j) = some v)
    (hu : P.underlying ty = some d) (hd : d.isRow = true) (hi : (P.info? ty).map (·.size) = some cs.length) :
    (Instr.loadAt ty (.pointer (some p))).run P w = .ok (.agg cs.toArray) w := by
  have hl : (loadCells p cs.length).run P w = .ok cs.toArray w := run_loadCells_list (P := P) w p cs hc
  cases hq : P.info? ty with
  | none => simp [hq] at hi
  | some i =>
    have hs : i.size = cs.length := by simpa [hq] using hi
    have hagg : (isAgg ty).run P w = .ok true w := by
      unfold isAgg
      rw [Sem.run_bind, run_underlying hu w]
      cases d <;> simp_all
    simp [Instr.loadAt, Instr.sureAddr, loadVar, Sem.run_bind, hagg, sizeOf, typeInfo, hq, hs, hl]
theorem wpList_load_at {ops : Array Oper} {rest : List Oper} {op : Oper} {a : Act} {w : World} {Q : Exit → Act → World → Prop} (hgd : op.guard = none) (ty : TypeId) (x : Operand) (ho : op.op = .load ty x)
    (p : Addr) (cs : List Value) (d : TypeDesc) (hu : P.underlying ty = some d) (hd : d.isRow = true) (hi : (P.info? ty).map (·.size) = some cs.length) (hc : ∀ j v, cs[j]? = some v → w.cell? (p.add j) = some v)
    (hx : a.eval x = .pointer (some p)) (h : wpList P ops Q rest (a.put op.dst (.agg cs.toArray)) w) : wpList P ops Q (op :: rest) a w :=
  wpList_plain hgd fun _ hK => by
    unfold Oper.wp execOp
    simp only [ho, hx, Sem.run_bind, Sem.run_pure, run_loadAt_at w p ty cs d hc hu hd hi, Result.andThen_ok]
    exact hK _ _ h
/-- the same, the pointer's block a whole row -/
theorem wpList_load_whole {ops : Array Oper} {rest : List Oper} {op : Oper} {a : Act} {w : World} {Q : Exit → Act → World → Prop} (hgd : op.guard = none) (ty : TypeId) (x : Operand) (ho : op.op = .load ty x)
    (g t : Nat) (cs : List Value) (d : TypeDesc) (hu : P.underlying ty = some d) (hd : d.isRow = true) (hi : (P.info? ty).map (·.size) = some cs.length) (hr : Row w g t cs)
    (hx : a.eval x = .pointer (some ⟨g, 0, none⟩)) (h : wpList P ops Q rest (a.put op.dst (.agg cs.toArray)) w) : wpList P ops Q (op :: rest) a w :=
  wpList_load_at hgd ty x ho ⟨g, 0, none⟩ cs d hu hd hi (fun j v hv => by rw [addr_row, hr.cell]; simpa using hv) hx h
/-- a value of many cells into a block that is known whole: the world behind it, of which this is told -/
theorem run_storeAt_whole (w : World) (g ty : Nat) (c cs : List Value) (hr : Row w g ty c) (hi : (P.info? ty).map (·.size) = some cs.length) (hl : c.length = cs.length) (h1 : ∀ u ∈ cs, u.oneCell' = true) :
    (Instr.storeAt ty (.pointer (some ⟨g, 0, none⟩)) (.agg cs.toArray)).run P w = .ok () (w.setRow g cs.toArray) := by
  have := run_storeVar_row (P := P) w g ty ty c.toArray cs.toArray hr.is (by simpa using hi) (by simpa using hl) (all_oneCell_toArray h1)
  simp only [Instr.storeAt, Instr.sureAddr, Sem.run_bind, Sem.run_pure, Result.andThen_ok, this]
/-- but for block g, w' is w -/
structure Turned (w w' : World) (g : Nat) : Prop where
  os : w'.os = w.os
  tape : w'.tape = w.tape
  output : w'.output = w.output
  size : w'.heap.size = w.heap.size
  block : ∀ k, k ≠ g → w'.heap[k]? = w.heap[k]?
theorem turned_setRow (w : World) (g : Nat) (cs : Array Value) : Turned w (w.setRow g cs) g :=
  ⟨rfl, rfl, rfl, by simp, fun k hk => setRow_other w g k cs hk⟩
theorem turned_setCell (w : World) (p : Addr) (u : Value) : Turned w (w.setCell p u) p.block :=
  ⟨rfl, rfl, rfl, by simp [World.setCell], fun k hk => Below.heap_setCell _ _ _ _ hk⟩
theorem row_setRow {w : World} {g t : Nat} {c : List Value} (hr : Row w g t c) (cs : List Value) : Row (w.setRow g cs.toArray) g t cs :=
  ⟨setRow_heap w g c.toArray cs.toArray t _ hr.is⟩
theorem Turned.below {w w' : World} {g B : Nat} (h : Turned w w' g) (hB : B ≤ g) : Below B w w' :=
  ⟨h.os, h.tape, h.output, by rw [h.size]; exact Nat.le_refl _, fun k hk => h.block k (by omega)⟩
theorem Turned.row {w w' : World} {g k t : Nat} {xs : List Value} (h : Turned w w' g) (hr : Row w k t xs) (hk : k ≠ g) : Row w' k t xs := ⟨(h.block k hk).trans hr.is⟩
theorem wpList_store_whole {ops : Array Oper} {rest : List Oper} {op : Oper} {a : Act} {w : World} {Q : Exit → Act → World → Prop} (hgd : op.guard = none) (ty : TypeId) (x y : Operand) (ho : op.op = .store ty x y)
    (g : Nat) (c cs : List Value) (hr : Row w g ty c) (hi : (P.info? ty).map (·.size) = some cs.length) (hl : c.length = cs.length) (h1 : ∀ u ∈ cs, u.oneCell' = true)
    (hx : a.eval x = .pointer (some ⟨g, 0, none⟩)) (hy : a.eval y = .agg cs.toArray)
    (h : ∀ w', Row w' g ty cs → Turned w w' g → wpList P ops Q rest (a.put op.dst undef) w') : wpList P ops Q (op :: rest) a w :=
  wpList_plain hgd fun _ hK => by
    unfold Oper.wp execOp
    simp only [ho, hx, hy, Sem.run_bind, Sem.run_pure, run_storeAt_whole w g ty c cs hr hi hl h1, Result.andThen_ok]
    exact hK _ _ (h _ (row_setRow hr cs) (turned_setRow w g _))
/-- a variable that has just been made is given its value -/
theorem wpList_store_new {ops : Array Oper} {rest : List Oper} {op : Oper} {a : Act} {w0 : World} {c : Array Value} {Q : Exit → Act → World → Prop} (hgd : op.guard = none) (ty : TypeId) (x y : Operand) (ho : op.op = .store ty x y)
    (cs : List Value) (hi : (P.info? ty).map (·.size) = some cs.length) (h1 : ∀ u ∈ cs, u.oneCell' = true) (hl : c.size = cs.length)
    (hx : a.eval x = .pointer (some ⟨w0.heap.size, 0, none⟩)) (hy : a.eval y = .agg cs.toArray)
    (h : ∀ w', Row w' w0.heap.size ty cs → Below w0.heap.size w0 w' → w'.heap.size = w0.heap.size + 1 → wpList P ops Q rest (a.put op.dst undef) w') : wpList P ops Q (op :: rest) a (w0.alloc (.cells c ty)) := by
  have hr : Row (w0.alloc (.cells c ty)) w0.heap.size ty c.toList := by
    have := Row.new w0 ty c.toList
    simpa using this
  refine wpList_store_whole hgd ty x y ho w0.heap.size c.toList cs hr hi (by simpa using hl) h1 hx hy fun w' hr' ht => ?_
  exact h w' hr' (((Below.refl _ w0).alloc (Nat.le_refl _) _).trans (ht.below (Nat.le_refl _))) (by rw [ht.size]; simp)
theorem row_setCells {g t : Nat} : ∀ (cs : List Value) (w : World) (o : Nat) (c : List Value), Row w g t c → o + cs.length ≤ c.length → Row (w.setCells g o cs) g t (c.take o ++ cs ++ c.drop (o + cs.length))
  | [], w, o, c, h, _ => by simpa [World.setCells] using h
  | v :: r, w, o, c, h, hl => by
    have h1 := row_setCells r (w.setCell ⟨g, o, none⟩ v) (o + 1) (c.set o v) (h.set_ o v) (by simp at hl ⊢; omega)
    have e : (c.set o v).take (o + 1) ++ r ++ (c.set o v).drop (o + 1 + r.length) = c.take o ++ (v :: r) ++ c.drop (o + (v :: r).length) := by
      have ho : o < c.length := by simp at hl; omega
      rw [List.take_succ_eq_append_getElem (by simpa using ho), List.drop_set_of_lt (by omega), List.take_set_of_le (Nat.le_refl o)]
      simp only [List.getElem_set_self, List.append_assoc, List.cons_append, List.nil_append, List.length_cons]
      rw [show o + 1 + r.length = o + (r.length + 1) by omega]
    rw [e] at h1
    exact h1
theorem turned_setCells {g : Nat} : ∀ (cs : List Value) (w : World) (o : Nat), Turned w (w.setCells g o cs) g
  | [], w, o => ⟨rfl, rfl, rfl, rfl, fun _ _ => rfl⟩
  | v :: r, w, o => by
    have h1 := turned_setCell w ⟨g, o, none⟩ v
    have h2 := turned_setCells (g := g) r (w.setCell ⟨g, o, none⟩ v) (o + 1)
    exact ⟨h2.os.trans h1.os, h2.tape.trans h1.tape, h2.output.trans h1.output, h2.size.trans h1.size, fun k hk => (h2.block k hk).trans (h1.block k hk)⟩
/-- a value of many cells into a part of a block -/
theorem wpList_store_part {ops : Array Oper} {rest : List Oper} {op : Oper} {a : Act} {w : World} {Q : Exit → Act → World → Prop} (hgd : op.guard = none) (ty : TypeId) (x y : Operand) (ho : op.op = .store ty x y)
    (g t o : Nat) (c cs : List Value) (hr : Row w g t c) (hi : (P.info? ty).map (·.size) = some cs.length) (hl : o + cs.length ≤ c.length) (h1 : ∀ u ∈ cs, u.oneCell' = true)
    (hx : a.eval x = .pointer (some ⟨g, o, none⟩)) (hy : a.eval y = .agg cs.toArray)
    (h : ∀ w', Row w' g t (c.take o ++ cs ++ c.drop (o + cs.length)) → Turned w w' g → wpList P ops Q rest (a.put op.dst undef) w') : wpList P ops Q (op :: rest) a w :=
  wpList_store_mid hgd ty x y ho g o cs.toArray hx hy (fun j hj => ⟨by
      have hj' : j < cs.length := by simpa using hj
      rw [hr.cell, List.getElem?_eq_getElem (by omega)]; rfl, hr.frozen _⟩) (by simpa using hi) (all_oneCell_toArray h1)
    (h _ (by simpa using row_setCells cs w o c hr hl) (turned_setCells cs w o))
end
end Go.Proofs.Ytpkkgmmcindfgaa

/-
  Of part Append: what is needed here.
-/
namespace Go.Proofs.Ytpkkgmmcindfgaa
open Go.RowKit
set_option linter.unusedVariables false
set_option maxRecDepth 100000
section
variable {P : Program} {w : World} {base : Nat} {t ty e : TypeId} {i : TypeInfo} {z : Value} {bytes : Nat} {v : Value} {n m c B : Nat} {A : Option Addr} {xs news : List Value}
theorem run_append_nothing (ht : P.underlying t = some (.slice e)) (hi : P.info? e = some i) (hown : w.ownsRow base e 1 v n xs) (c : Nat) :
    (Builtin.append_ #[t, t] ty #[v, .slice none 0 c]).run P w = .ok v w := by
  rcases hown.2 with ⟨rfl, rfl⟩ | ⟨g, cap, cur, rfl, _, _, hnc, _⟩ <;>
    simp [Builtin.append_, run_underlying ht, sizeOf, typeInfo, Builtin.lenOf, Builtin.firstCells, storeCells, *]
theorem run_append_sees (ht : P.underlying t = some (.slice e)) (hi : P.info? e = some i) (hz : i.zero = some z) (hsize : i.size = 1) (hby : i.bytes = bytes) (hzs : z.cells.size = 1)
    (hown : w.ownsRow base e 1 v n xs) (hr : Sees w B A m news) (h1 : ∀ u ∈ news, u.oneCell' = true) (hnm : n + m ≤ maxLen) (hbytes : (n + m) * bytes ≤ 140737488355328) (hbase : base ≤ w.heap.size) (c : Nat) :
    ∃ v' w', (Builtin.append_ #[t, t] ty #[v, .slice A m c]).run P w = .ok v' w' ∧ w'.ownsRow base e 1 v' (n + m) (xs ++ news) ∧ w.grownBy w' v.ownBlock ∧ (v'.ownBlock = v.ownBlock ∨ v'.ownBlock = some w.heap.size) := by
  cases A with
  | none =>
    have hn : news = [] := by
      cases news with
      | nil => rfl
      | cons u r =>
        obtain ⟨a, h, _⟩ := hr.cell 0 u rfl
        cases h
    subst hn
    obtain rfl : m = 0 := by simpa using hr.len.symm
    exact ⟨v, w, run_append_nothing ht hi hown c, by simpa using hown, World.grownBy.refl w _, .inl rfl⟩
  | some ad =>
    obtain ⟨v', w', hrun, h2, h3, _, h5⟩ := run_append_own_at (P := P) w base t ty e i z 1 bytes ht hi hz hsize hby hzs (by omega) v n xs hown ad m c news (by rw [hr.len]; omega)
      (fun j u hu => by
        obtain ⟨a, h, _, hc⟩ := hr.cell j u hu
        cases h
        exact hc) h1 hnm hbytes hbase
    exact ⟨v', w', hrun, h2, h3, h5⟩
theorem wp_append_sees {o : Oper} {a : Act} {K : Act → World → Prop} {Q : Exit → Act → World → Prop} (s x : Operand)
    (ho : o.op = .call { callee := .builtin .append, args := #[s, x], argTypes := #[t, t] })
    (ht : P.underlying t = some (.slice e)) (hi : P.info? e = some i) (hz : i.zero = some z) (hsize : i.size = 1) (hby : i.bytes = bytes) (hzs : z.cells.size = 1)
    (hs : a.eval s = v) (hown : w.ownsRow base e 1 v n xs) (hx : a.eval x = .slice A m c) (hr : Sees w B A m news) (h1 : ∀ u ∈ news, u.oneCell' = true)
    (hnm : n + m ≤ maxLen) (hbytes : (n + m) * bytes ≤ 140737488355328) (hbase : base ≤ w.heap.size)
    (h : ∀ v' w', w'.ownsRow base e 1 v' (n + m) (xs ++ news) → w.grownBy w' v.ownBlock → (v'.ownBlock = v.ownBlock ∨ v'.ownBlock = some w.heap.size) → K (a.put o.dst v') w') : o.wp P a w K Q := by
  obtain ⟨v', w', hrun, h2, h3, h4⟩ := run_append_sees (P := P) (ty := o.type) ht hi hz hsize hby hzs hown hr h1 hnm hbytes hbase c
  unfold Oper.wp execOp
  simp only [ho, resolve, invoke, builtin, Sem.run_bind, Sem.run_pure, Result.andThen_ok, List.map_toArray, List.map_cons, List.map_nil, hs, hx, hrun]
  exact h v' w' h2 h3 h4
end
theorem own_form {w : World} {base : Nat} {e : TypeId} {v : Value} {n : Nat} {xs : List Value} (h : w.ownsRow base e 1 v n xs) : ∃ A c, v = .slice A n c := by
  rcases h.2 with ⟨rfl, rfl⟩ | ⟨g, cap, cur, rfl, _⟩
  · exact ⟨_, _, rfl⟩
  · exact ⟨_, _, rfl⟩
theorem own_row_ne {w : World} {base : Nat} {e t : TypeId} {v : Value} {n g : Nat} {xs ys : List Value} (h : w.ownsRow base e 1 v n xs) (hr : Row w g t ys) (hne : e ≠ t) : some g ≠ v.ownBlock := by
  rcases h.2 with ⟨rfl, _⟩ | ⟨g', cap, cur, rfl, _, hh, _⟩
  · simp [Value.ownBlock]
  · intro he
    have hg : g = g' := by simpa [Value.ownBlock] using he
    subst hg
    have := hr.is
    rw [hh] at this
    injection this with this
    injection this with _ ht
    exact hne ht
theorem grownBy_setCell (w : World) (p : Addr) (u : Value) : w.grownBy (w.setCell p u) (some p.block) :=
  ⟨rfl, rfl, rfl, by simp [World.setCell], fun k _ hne => Below.heap_setCell w p u k (fun e => hne (by rw [e]))⟩
theorem own_far {w : World} {base : Nat} {e t : TypeId} {v : Value} {n g : Nat} {xs ys : List Value} (h : w.ownsRow base e 1 v n xs) (hr : Row w g t ys) (hne : e ≠ t) (i : Nat) (u : Value) : (w.setCell ⟨g, i, none⟩ u).ownsRow base e 1 v n xs :=
  h.kept (grownBy_setCell w _ u) (.inr (fun e' => own_row_ne h hr hne e'.symm))
end Go.Proofs.Ytpkkgmmcindfgaa

/-
  Of part Many: what is needed here.
-/
namespace Go.Proofs.Ytpkkgmmcindfgaa
open Go.RowKit
set_option linter.unusedVariables false
set_option maxRecDepth 100000
theorem own_below {w w' : World} {base n size : Nat} {e : TypeId} {v : Value} {xs : List Value} (h : w.ownsRow base e size v n xs) (hb : Below w.heap.size w w') : w'.ownsRow base e size v n xs := by
  refine ⟨h.1, ?_⟩
  rcases h.2 with h2 | ⟨g, cap, cur, hv, hg, hh, r⟩
  · exact .inl h2
  · exact .inr ⟨g, cap, cur, hv, hg, (hb.block g (Array.getElem?_eq_some_iff.1 hh).1).trans hh, r⟩
/-- from w, with the row v, to w', with the row v': of what was there v's block alone may have been written -/
structure Grew (w w' : World) (v v' : Value) : Prop where
  grown : w.grownBy w' v.ownBlock
  fresh : ∀ k, v'.ownBlock = some k → v.ownBlock = some k ∨ w.heap.size ≤ k
section
variable {w w' w'' : World} {v v' v'' : Value}
theorem Grew.refl (w : World) (v : Value) : Grew w w v v := ⟨World.grownBy.refl w _, fun k h => .inl h⟩
theorem Grew.size (h : Grew w w' v v') : w.heap.size ≤ w'.heap.size := h.grown.size
theorem Grew.trans (h : Grew w w' v v') (k : Grew w' w'' v' v'') : Grew w w'' v v'' :=
  ⟨⟨k.grown.os.trans h.grown.os, k.grown.tape.trans h.grown.tape, k.grown.output.trans h.grown.output, Nat.le_trans h.size k.size, fun i hi hne =>
      (k.grown.block i (Nat.lt_of_lt_of_le hi h.size) fun e => by
        rcases h.fresh i e.symm with h1 | h1
        · exact hne h1.symm
        · omega).trans (h.grown.block i hi hne)⟩,
    fun i hi => by
      rcases k.fresh i hi with h1 | h1
      · exact h.fresh i h1
      · exact .inr (Nat.le_trans h.size h1)⟩
theorem Grew.of_below (hb : Below w.heap.size w w') (v : Value) : Grew w w' v v := ⟨⟨hb.os, hb.tape, hb.output, hb.size, fun k hk _ => hb.block k hk⟩, fun k h => .inl h⟩
theorem Grew.alloc (h : Grew w w' v v') (o : Obj) : Grew w (w'.alloc o) v v' := h.trans (.of_below ((Below.refl _ _).alloc (Nat.le_refl _) o) v')
theorem Grew.row {g t : Nat} {ys : List Value} (h : Grew w w' v v') (hr : Row w g t ys) (hg : some g ≠ v.ownBlock) : Row w' g t ys := hr.grown h.grown hg
theorem Grew.ne {g : Nat} (h : Grew w w' v v') (hg : some g ≠ v.ownBlock) (hlt : g < w.heap.size) : some g ≠ v'.ownBlock := fun e => by
  rcases h.fresh g e.symm with h1 | h1
  · exact hg h1.symm
  · omega
theorem Grew.below {base n size : Nat} {e : TypeId} {xs : List Value} (h : Grew w w' v v') (hown : w.ownsRow base e size v n xs) (hbase : base ≤ w.heap.size) : Below base w w' :=
  (Below.refl base w).grown h.grown hbase fun k hk => (hown.lt k hk).1
end
end Go.Proofs.Ytpkkgmmcindfgaa

/-
  Of part Looks: what is needed here.
-/
namespace Go.Proofs.Ytpkkgmmcindfgaa
open Go.RowKit
set_option linter.unusedVariables false
set_option maxRecDepth 100000
theorem size_key : (Try.prog.info? 24).map (·.size) = some 32 := by kernel_rfl
end Go.Proofs.Ytpkkgmmcindfgaa

/-
  Of part ListV: what is needed here.
-/
namespace Go.Proofs.Ytpkkgmmcindfgaa
open Go.RowKit
set_option linter.unusedVariables false
set_option maxRecDepth 100000
section
variable {P : Program}
/-- a slice literal of one element of many cells -/
theorem wpList_buildOne {ops : Array Oper} {rest : List Oper} {o : Oper} {a : Act} {w : World} {Q : Exit → Act → World → Prop} (hg : o.guard = none) (t e : TypeId) (y : Operand) (ho : o.op = .buildSlice t 1 #[(0, y)])
    (cs : List Value) (z : Value) (size bytes : Nat) (hu : P.underlying t = some (.slice e)) (hi : (P.info? e).map (fun i => (i.zero, i.size, i.bytes)) = some (some z, size, bytes)) (hzs : z.cells.size = size) (hs0 : 0 < size) (hs1 : size ≤ 1000)
    (hcs : cs.length = size) (hy : a.eval y = .agg cs.toArray)
    (h : wpList P ops Q rest (a.put o.dst (.slice (some ⟨w.heap.size, 0, none⟩) 1 1)) (w.alloc (.cells cs.toArray e))) : wpList P ops Q (o :: rest) a w := by
  obtain ⟨ie, hie, h1, h2, _⟩ := info_parts hi
  subst h2
  refine wpList_buildSlice hg t e 1 _ ho cs.toArray ie z hu hie h1 (by omega) (by omega) ?_ h
  have := Go.Great.fill_whole (s := ie.size) hs0 [Value.agg cs.toArray] ((Array.range (1 * ie.size)).map (z.cells[· % z.cells.size]!)) (by simp [Value.cells, hcs]) (by simp)
  simpa [hy, Value.cells] using this
end
end Go.Proofs.Ytpkkgmmcindfgaa

/-
  Of part GetMsg: what is needed here.
-/
namespace Go.Proofs.Ytpkkgmmcindfgaa
open Go.RowKit
set_option linter.unusedVariables false
set_option maxRecDepth 100000
section
variable {P : Program}
theorem wp_store_whole {op : Oper} {a : Act} {w : World} {K : Act → World → Prop} {Q : Exit → Act → World → Prop} (ty : TypeId) (x y : Operand) (ho : op.op = .store ty x y)
    (g : Nat) (c cs : List Value) (hr : Row w g ty c) (hi : (P.info? ty).map (·.size) = some cs.length) (hl : c.length = cs.length) (h1 : ∀ u ∈ cs, u.oneCell' = true)
    (hx : a.eval x = .pointer (some ⟨g, 0, none⟩)) (hy : a.eval y = .agg cs.toArray)
    (h : ∀ w', Row w' g ty cs → Turned w w' g → K (a.put op.dst undef) w') : op.wp P a w K Q := by
  unfold Oper.wp execOp
  simp only [ho, hx, hy, Sem.run_bind, Sem.run_pure, run_storeAt_whole w g ty c cs hr hi hl h1, Result.andThen_ok]
  exact h _ (row_setRow hr cs) (turned_setRow w g _)
end
/-- 'wpAnyH_take', the operations a list: the operation comes out written out -/
theorem takeL {P : Program} {L : List Oper} {Q : Exit → Act → World → Prop} {md : Region.Mode} {S : World → Prop} {i : Nat} {oi : Oper} {v : Value} {fuel : Nat} {listed : Array Bool} {a : Act} {w : World} (hi : L[i]? = some oi)
    (hs : Region.noSelect L.toArray = true) (hf : Region.free md L.toArray listed i = true) (hr : (Region.ready md L.toArray listed).contains i = true)
    (hQ : ∀ c a w, Q (.panic c) (a.put oi.dst v) w → Q (.panic c) a w) (hy : YieldsIf P L.toArray S oi v a) (hS : S w)
    (h : wpAnyH P md L.toArray Q S fuel (listed.setIfInBounds i true) (a.put oi.dst v) w) : wpAnyH P md L.toArray Q S (fuel + 1) listed a w :=
  wpAnyH_take (by simpa using hi) hs hf hr hQ hy hS h
/-- 'AllReadyH.cons', likewise, for one operation -/
theorem readyL {P : Program} {L : List Oper} {Q : Exit → Act → World → Prop} {md : Region.Mode} {S : World → Prop} {i : Nat} {o : Oper} {fuel : Nat} {listed : Array Bool} {a : Act} {w : World} (ho : L[i]? = some o) (hr : Region.ready md L.toArray listed = [i])
    (hw : Region.wanted o (yielded L.toArray a.tmps) = true)
    (h : ∀ K' : Act → World → Prop, Shut (∀ a w, S w → wpAnyH P md L.toArray Q S fuel (listed.setIfInBounds i true) a w → K' a w) → Oper.wp P o a w K' Q) : wpAnyH P md L.toArray Q S (fuel + 1) listed a w :=
  wpAnyH_ready hr (by simp) (AllReadyH.cons (by simpa using ho) (fun K hK => by
    rw [if_pos hw]
    exact h K (fun a w hS hW => hK a w hS fun _ => hW)) AllReadyH.nil)
end Go.Proofs.Ytpkkgmmcindfgaa

/-
  Of part SameZero: what is needed here.
-/
namespace Go.Proofs.Ytpkkgmmcindfgaa
open Go.RowKit
set_option linter.unusedVariables false
set_option maxRecDepth 100000
section
variable {P : Program}
theorem wpList_load_atg {ops : Array Oper} {rest : List Oper} {op : Oper} {a : Act} {w : World} {Q : Exit → Act → World → Prop} (hw : Region.wanted op (yielded ops a.tmps) = true) (ty : TypeId) (x : Operand) (ho : op.op = .load ty x)
    (p : Addr) (cs : List Value) (d : TypeDesc) (hu : P.underlying ty = some d) (hd : d.isRow = true) (hi : (P.info? ty).map (·.size) = some cs.length) (hc : ∀ j v, cs[j]? = some v → w.cell? (p.add j) = some v)
    (hx : a.eval x = .pointer (some p)) (h : wpList P ops Q rest (a.put op.dst (.agg cs.toArray)) w) : wpList P ops Q (op :: rest) a w :=
  BigFrame.wpList_want hw fun _ hK => by
    unfold Oper.wp execOp
    simp only [ho, hx, Sem.run_bind, Sem.run_pure, run_loadAt_at w p ty cs d hc hu hd hi, Result.andThen_ok]
    exact hK _ _ h
end
end Go.Proofs.Ytpkkgmmcindfgaa

/-
  Of part SameMsg: what is needed here.
-/
namespace Go.Proofs.Ytpkkgmmcindfgaa
open Go.RowKit
set_option linter.unusedVariables false
set_option maxRecDepth 100000
section
variable {P : Program} {ops : Array Oper} {C : World → Prop} {Q : Act → Prop} {a : Act} {o : Oper} {rest : List Oper}
/-- a value of many cells, read in a region that only reads -/
theorem quiet_load_at (hw : Region.wanted o (yielded ops a.tmps) = true) (ty : TypeId) (x : Operand) (ho : o.op = .load ty x)
    (p : Addr) (cs : List Value) (d : TypeDesc) (hu : P.underlying ty = some d) (hd : d.isRow = true) (hi : (P.info? ty).map (·.size) = some cs.length) (hc : ∀ w, C w → ∀ j v, cs[j]? = some v → w.cell? (p.add j) = some v)
    (hx : a.eval x = .pointer (some p)) (h : wpQuiet P ops C Q rest (a.put o.dst (.agg cs.toArray))) : wpQuiet P ops C Q (o :: rest) a :=
  BigFrame.wpQuiet_want hw fun K hK => ⟨_, fun w hC => by
    unfold Oper.quietAt execOp
    simp only [ho, hx, Sem.run_bind, Sem.run_pure, run_loadAt_at w p ty cs d (hc w hC) hu hd hi, Result.andThen_ok]
    exact ⟨rfl, rfl⟩, hK _ h⟩
end
theorem plainU8 : Try.prog.plainKey 5 = true := by kernel_rfl
theorem infoU8 : ∃ i, Try.prog.info? 5 = some i := by
  obtain ⟨i, h, _⟩ := info_parts info_u8
  exact ⟨i, h⟩
theorem cellsOfU8 : Try.prog.cellsOf 5 = 1 := by kernel_rfl
end Go.Proofs.Ytpkkgmmcindfgaa

/-
  Of part CameIn: what is needed here.
-/
namespace Go.Proofs.Ytpkkgmmcindfgaa
open Go.RowKit
set_option linter.unusedVariables false
set_option maxRecDepth 100000
open Go.ChangeShapes Go.WideShapes in
/-- an array of integers that came in by value -/
theorem open_int_array {H : Type} {enc : TypeId × Value → H} {P : Program} {w : World} {base : Nat} {sp : Nat → Bool} {held : Bool} {r : Reach} {b0 t e n : Nat} {q : IntKind} {v : Value} {d : DataW H} {p : List MemPlace}
    (ht : P.underlying t = some (.array n e)) (he : P.underlying e = some (.int q)) (hce : P.cellsOf e = 1) (hct : P.cellsOf t = n)
    (hv : Value.okWide P w r b0 t v) (h : DataW.Trod enc P w base sp held t v d p) : ∃ zs : List Int, v = .agg (cv q zs).toArray ∧ zs.length = n ∧ ∀ z ∈ zs, (Lit.int q z).wf = true := by
  simp only [Value.okWide, ht] at hv
  obtain ⟨cs, rfl, h2, _⟩ := hv
  obtain ⟨fuel, hf⟩ := h
  obtain ⟨xs, m, _, _, hl, hxs, hat⟩ := DataW.trod_array ht hf
  have each : ∀ i (hi : i < n), ∃ z, cs.toList[i]? = some (.int q z) ∧ (Lit.int q z).wf = true := by
    intro i hi
    have h1 := hat i hi
    have hx : xs[i]? = some xs[i] := List.getElem?_eq_getElem (by omega)
    rw [hce, hx] at h1
    obtain ⟨z, hz, _, hw⟩ := DataW.trod_int he h1
    refine ⟨z, ?_, hw⟩
    have := congrArg List.head? hz
    simpa [Value.cells, List.head?_take] using this
  have hcs : cs.toList.length = n := by rw [hct] at h2; simpa using h2
  refine ⟨cs.toList.map fun v => match v with | .int _ z => z | _ => 0, ?_, by simpa using hcs, ?_⟩
  · congr 1
    apply Array.ext_getElem?
    intro i
    by_cases hi : i < n
    · obtain ⟨z, hz, _⟩ := each i hi
      have hz' : cs[i]? = some (.int q z) := by simpa using hz
      simp [cv, hz']
    · have e1 : cs[i]? = none := Array.getElem?_eq_none (by simp at hcs; omega)
      simp [cv, e1]
  · intro z hz
    simp only [List.mem_map] at hz
    obtain ⟨u, hu, rfl⟩ := hz
    obtain ⟨i, hi, he⟩ := List.getElem_of_mem hu
    obtain ⟨z, hz, hw⟩ := each i (by omega)
    rw [List.getElem?_eq_getElem hi, he] at hz
    cases hz
    exact hw
end Go.Proofs.Ytpkkgmmcindfgaa

/-
  Of part Enc: what is needed here.
-/
namespace Go.Proofs.Ytpkkgmmcindfgaa
open Go.RowKit
set_option linter.unusedVariables false
set_option maxRecDepth 100000
theorem AllBytes.map {α : Type} {f : α → List Int} {l : List α} (h : ∀ x ∈ l, AllBytes (f x)) : AllBytes (l.flatMap f) := fun z hz => by
  obtain ⟨x, hx, hz⟩ := List.mem_flatMap.1 hz
  exact h x hx z hz
end Go.Proofs.Ytpkkgmmcindfgaa

/-
  Of part Tx: what is needed here.
-/
namespace Go.Proofs.Ytpkkgmmcindfgaa
open Go.RowKit
set_option linter.unusedVariables false
set_option maxRecDepth 100000
/-- a transaction -/
structure LTx where
  sigs : List (List Int)
  m : LMsg
/-- all numbers are bytes, signatures have 64 of them -/
structure LTx.Wf (x : LTx) : Prop where
  sigs : ∀ s ∈ x.sigs, s.length = 64 ∧ AllBytes s
  m : x.m.Wf
end Go.Proofs.Ytpkkgmmcindfgaa

/-
  Of part IsIn: what is needed here.
-/
namespace Go.Proofs.Ytpkkgmmcindfgaa
open Go.RowKit
set_option linter.unusedVariables false
set_option maxRecDepth 100000
theorem flatten_at {α : Type} (size : Nat) : ∀ (l : List (List α)) (k : Nat) (x : List α), (∀ (i : Nat) y, l[i]? = some y → y.length = size) → l[k]? = some x → ∀ j u, x[j]? = some u → l.flatten[k * size + j]? = some u
  | [], k, x, _, h, _, _, _ => by simp at h
  | y :: r, 0, x, hl, h, j, u, hu => by
    have : y = x := by simpa using h
    subst this
    have hj := (List.getElem?_eq_some_iff.1 hu).1
    rw [List.flatten_cons, List.getElem?_append_left (by simpa using hj)]
    simpa using hu
  | y :: r, k + 1, x, hl, h, j, u, hu => by
    have hy := hl 0 y (by simp)
    rw [List.flatten_cons, List.getElem?_append_right (by rw [hy, Nat.add_mul]; omega)]
    have := flatten_at size r k x (fun i z hz => hl (i + 1) z (by simpa using hz)) (by simpa using h) j u hu
    rw [← this]
    congr 1
    rw [hy, Nat.add_mul]
    omega
end Go.Proofs.Ytpkkgmmcindfgaa

/-
  Of part OpenMsg: what is needed here.
-/
namespace Go.Proofs.Ytpkkgmmcindfgaa
open Go.RowKit
set_option linter.unusedVariables false
set_option maxRecDepth 100000
open Go.ChangeShapes Go.WideShapes Go.RowKit
theorem list_of {α : Type} {p : Nat → α → Prop} : ∀ (n : Nat), (∀ i, i < n → ∃ x, p i x) → ∃ l : List α, l.length = n ∧ ∀ i x, l[i]? = some x → p i x
  | 0, _ => ⟨[], rfl, fun i x h => by simp at h⟩
  | n + 1, h => by
    obtain ⟨l, hl, hp⟩ := list_of n fun i hi => h i (by omega)
    obtain ⟨x, hx⟩ := h n (Nat.lt_succ_self _)
    refine ⟨l ++ [x], by simp [hl], fun i y hy => ?_⟩
    by_cases hi : i < n
    · rw [List.getElem?_append_left (by omega)] at hy
      exact hp i y hy
    · rw [List.getElem?_append_right (by omega)] at hy
      have h1 := (List.getElem?_eq_some_iff.1 hy).1
      simp at h1
      have : i = n := by omega
      subst this
      rw [show i - l.length = 0 by omega] at hy
      simp at hy
      exact hy ▸ hx
theorem byte_wf {z : Int} (h : (Lit.int .u8 z).wf = true) : IsByte z := by
  have := bounds_u8 h
  unfold IsByte
  omega
section
variable {H : Type} {enc : TypeId × Value → H}
/-- no list in it is longer than the form's reach -/
def Wt (t : TypeId) (d : DataW H) : Prop := ∀ n ∈ d.weights Try.prog t, n ≤ reachBytes
theorem wt_all {e : TypeId} : ∀ {l : List (DataW H)}, (∀ n ∈ DataW.weightsAll Try.prog e l, n ≤ reachBytes) → ∀ d ∈ l, Wt e d
  | [], _, d, hd => by simp at hd
  | y :: r, h, d, hd => by
    rcases List.mem_cons.1 hd with rfl | hd
    · exact fun n hn => h n (by simp [DataW.weightsAll, hn])
    · exact wt_all (l := r) (fun n hn => h n (by simp [DataW.weightsAll, hn])) d hd
variable {w : World} {base : Nat} {held : Bool}
theorem open_sl {t e : TypeId} {fuel : Nat} {cs : List Value} {x : DataW H × List MemPlace} (ht : Try.prog.underlying t = some (.slice e)) (hc : 0 < Try.prog.cellsOf e)
    (h : DataW.trod enc Try.prog w base (fun _ => true) held fuel t cs = some x) (hw : Wt t x.1) :
    ∃ A n c, cs = [.slice A n c] ∧ n ≤ c ∧ c ≤ maxLen ∧ n * Try.prog.bytesOf e ≤ reachBytes ∧ ∀ i, i < n → ∃ a cs' y m, A = some a ∧ a.block < w.heap.size ∧ cs'.length = Try.prog.cellsOf e ∧
      (∀ j u, cs'[j]? = some u → w.cell? (a.add (i * Try.prog.cellsOf e + j)) = some u) ∧ DataW.trod enc Try.prog w base (fun _ => true) held m e cs' = some y ∧ Wt e y.1 := by
  rcases Go.Deep.open_slice ht h with ⟨rfl, rfl⟩ | ⟨a, len, cap, m, n, D, Pl, rfl, hb, hl, hm, hmm, rfl, hx⟩
  · exact ⟨none, 0, 0, rfl, Nat.le_refl _, Nat.zero_le _, by simp, fun i hi => by omega⟩
  · have hm' : m = cap := by simpa using hmm
    have h1 : ((len + (m - len)) * Try.prog.bytesOf e) ≤ reachBytes := by
      refine hw _ ?_
      simp [DataW.weights, ht]
    have h2 : ∀ d ∈ (List.range len).map D, Wt e d := wt_all fun n hn => hw n (by simp only [DataW.weights, ht]; simp [hn])
    refine ⟨some a, len, cap, rfl, hl, hm, Nat.le_trans (Nat.mul_le_mul_right _ (by omega)) h1, fun i hi => ?_⟩
    obtain ⟨cs', hcs, htr⟩ := hx i (by omega)
    have hbl := World.cells?_block hcs hc
    obtain ⟨_, hlen, hat⟩ := World.cells?_some hcs
    refine ⟨a, cs', _, n, rfl, by rwa [addr_block] at hbl, hlen, fun j u hu => ?_, htr, h2 _ (by simp; exact ⟨i, hi, rfl⟩)⟩
    have := hat j (by have := (List.getElem?_eq_some_iff.1 hu).1; omega)
    rw [addr_add] at this
    rw [this, hu]
theorem cellsU8 : Try.prog.cellsOf 5 = 1 := by kernel_rfl
theorem cellsKey : Try.prog.cellsOf 24 = 32 := by kernel_rfl
theorem reach47 : reachBytes ≤ 140737488355328 := by decide
theorem open_32 {t : TypeId} {fuel : Nat} {cs : List Value} {x : DataW H × List MemPlace} (ht : Try.prog.underlying t = some (.array 32 5)) (hc : Try.prog.cellsOf t = 32) (h : DataW.trod enc Try.prog w base (fun _ => true) held fuel t cs = some x) :
    ∃ l : List Int, cs = bv l ∧ l.length = 32 ∧ AllBytes l := by
  obtain ⟨xs, m, _, _, hl, hxs, hat⟩ := DataW.trod_array ht h
  obtain ⟨l, hll, hp⟩ := list_of (α := Int) (p := fun i z => IsByte z ∧ cs[i]? = some (.int .u8 z)) 32 fun i hi => by
    have h1 := hat i hi
    have hx : xs[i]? = some xs[i] := List.getElem?_eq_getElem (by omega)
    rw [cellsU8, hx] at h1
    obtain ⟨z, hz, _, hwz⟩ := DataW.trod_int Try.underlying5 h1
    refine ⟨z, byte_wf hwz, ?_⟩
    have := congrArg List.head? hz
    simpa [List.head?_take] using this
  rw [hc] at hl
  refine ⟨l, List.ext_getElem? fun i => ?_, hll, fun z hz => ?_⟩
  · by_cases hi : i < 32
    · have e := List.getElem?_eq_getElem (l := l) (i := i) (by omega)
      rw [bv_getElem?, e, (hp i _ e).2]
      rfl
    · rw [List.getElem?_eq_none (by omega), List.getElem?_eq_none (by rw [bv_length]; omega)]
  · obtain ⟨i, hi, rfl⟩ := List.getElem_of_mem hz
    exact (hp i _ (List.getElem?_eq_getElem hi)).1
end
open Go.ChangeShapes Go.WideShapes Go.RowKit
open Go.ChangeShapes Go.WideShapes Go.RowKit
theorem one_of {cs : List Value} (h : cs.length = 1) : ∃ a, cs = [a] := by
  match cs, h with
  | [a], _ => exact ⟨a, rfl⟩
theorem cut {α : Type} (cs : List α) (a k b : Nat) (h : a + k = b) : cs.drop a = (cs.drop a).take k ++ cs.drop b := by
  subst h
  rw [← List.drop_drop, List.take_append_drop]
end Go.Proofs.Ytpkkgmmcindfgaa

/-
  Of part Rules: what is needed here.
-/
namespace Go.Proofs.Ytpkkgmmcindfgaa
open Go.RowKit
set_option linter.unusedVariables false
set_option maxRecDepth 100000
/-- the rules, broken -/
def b1 (x : LTx) : Bool := decide (x.m.s = 0 ∨ (x.sigs.length : Int) ≠ x.m.s)
def b2 (m : LMsg) : Bool := decide (m.s ≤ m.r ∨ (m.keys.length : Int) < m.s + m.o)
end Go.Proofs.Ytpkkgmmcindfgaa

/-
  Of part KeyEq: what is needed here.
-/
namespace Go.Proofs.Ytpkkgmmcindfgaa
open Go.RowKit
set_option linter.unusedVariables false
set_option maxRecDepth 100000
def same32 (x y : List Int) (is : List Nat) : Bool := is.all fun i => x.getD i 0 == y.getD i 0
theorem eqItems_any (x y : List Int) (w : World) : ∀ (is : List Nat), (∀ i ∈ is, i < x.length ∧ i < y.length) → (Op.eqItems 9999 5 1 (bv x).toArray (bv y).toArray is).run Try.prog w = .ok (same32 x y is) w
  | [], _ => by simp [Op.eqItems, same32]
  | i :: is, h => by
    have hi := h i (by simp)
    have hc : (bv x).toArray[i]? = some (.int .u8 (x.getD i 0)) := by
      rw [List.getElem?_toArray]
      exact bv_at hi.1
    have hd : (bv y).toArray[i]? = some (.int .u8 (y.getD i 0)) := by
      rw [List.getElem?_toArray]
      exact bv_at hi.2
    have p := run_part_plain (P := Try.prog) w plainU8 (xs := (bv x).toArray) (off := i) hc
    have p2 := run_part_plain (P := Try.prog) w plainU8 (xs := (bv y).toArray) (off := i) hd
    have ih := eqItems_any x y w is fun k hk => h k (by simp [hk])
    simp only [Op.eqItems, Nat.mul_one, Sem.run_bind, p, p2, Result.andThen_ok, run_equalIn_int w 9998 5 .u8 .u8 _ _ Try.underlying5]
    cases hb : (x.getD i 0 == y.getD i 0)
    · have : same32 x y (i :: is) = false := by simp only [same32, List.all_cons, hb, Bool.false_and]
      rw [this]
      simp
    · have : same32 x y (i :: is) = same32 x y is := by simp only [same32, List.all_cons, hb, Bool.true_and]
      rw [this]
      simpa using ih
theorem same32_iff {x y : List Int} {n : Nat} (hx : x.length = n) (hy : y.length = n) : same32 x y (List.range n) = decide (x = y) := by
  rw [Bool.eq_iff_iff, decide_eq_true_iff]
  unfold same32
  rw [List.all_eq_true]
  constructor
  · intro h
    refine List.ext_getElem (by omega) fun i h1 h2 => ?_
    have := h i (by simp; omega)
    rw [beq_iff_eq, List.getD_eq_getElem?_getD, List.getD_eq_getElem?_getD, List.getElem?_eq_getElem h1, List.getElem?_eq_getElem h2] at this
    exact this
  · rintro rfl i _
    simp
theorem key_eql {x y : List Int} (hx : x.length = 32) (hy : y.length = 32) (w : World) :
    (binOp .eql 24 (.agg (bv x).toArray) (.agg (bv y).toArray)).run Try.prog w = .ok (.bool (decide (x = y))) w := by
  obtain ⟨i, hi⟩ := infoU8
  rw [run_eql_struct, show (10000 : Nat) = 9999 + 1 from rfl, run_equalIn_array w 9999 _ _ Try.underlying24 hi, cellsOfU8, eqItems_any x y w _ (fun i hi => by simp at hi; omega), same32_iff hx hy]
  rfl
end Go.Proofs.Ytpkkgmmcindfgaa

/-
  Of part Book: what is needed here.
-/
namespace Go.Proofs.Ytpkkgmmcindfgaa
open Go.RowKit
set_option linter.unusedVariables false
set_option maxRecDepth 100000
theorem info_page : (Try.prog.info? 79).map (fun i => (i.zero, i.size, i.bytes)) = some (some .nilIface, 1, 16) := by kernel_rfl
set_option maxHeartbeats 400000 in
theorem number_ (p : Nat) (A : Option Addr) (n c : Nat) (w : World) (hr : Row w p 50 [.slice A n c]) (hn : n ≤ 1000000) :
    Calls Try.prog 34 #[.pointer (some ⟨p, 0, none⟩)] w fun e w' => e = .returned (.int .i64 ((n : Int) + 1)) ∧ w = w' := by
  have c0 : w.cell? ⟨p, 0, none⟩ = some (.slice A n c) := hr.cell 0
  clear hr
  go_enter Try.func34, Try.ntmps34
  go_wp2
  go_ret
  exact ⟨rfl, rfl⟩
end Go.Proofs.Ytpkkgmmcindfgaa

/-
  Of part Sheet: what is needed here.
-/
namespace Go.Proofs.Ytpkkgmmcindfgaa
open Go.RowKit
set_option linter.unusedVariables false
set_option maxRecDepth 100000
theorem grown_trans {a b c : World} {r : Option Nat} (h : a.grownBy b r) (k : b.grownBy c r) : a.grownBy c r :=
  ⟨k.os.trans h.os, k.tape.trans h.tape, k.output.trans h.output, Nat.le_trans h.size k.size, fun i hi hne => (k.block i (Nat.lt_of_lt_of_le hi h.size) hne).trans (h.block i hi hne)⟩
end Go.Proofs.Ytpkkgmmcindfgaa

/-
  Of part RefAt: what is needed here.
-/
namespace Go.Proofs.Ytpkkgmmcindfgaa
open Go.RowKit
set_option linter.unusedVariables false
set_option maxRecDepth 100000
/-- two that may come up -/
theorem readyL2 {P : Program} {L : List Oper} {Q : Exit → Act → World → Prop} {md : Region.Mode} {S : World → Prop} {i j : Nat} {o o' : Oper} {fuel : Nat} {listed : Array Bool} {a : Act} {w : World} (ho : L[i]? = some o) (ho' : L[j]? = some o') (hr : Region.ready md L.toArray listed = [i, j])
    (hw : Region.wanted o (yielded L.toArray a.tmps) = true) (hw' : Region.wanted o' (yielded L.toArray a.tmps) = true)
    (h : ∀ K' : Act → World → Prop, Shut (∀ a w, S w → wpAnyH P md L.toArray Q S fuel (listed.setIfInBounds i true) a w → K' a w) → Oper.wp P o a w K' Q)
    (h' : ∀ K' : Act → World → Prop, Shut (∀ a w, S w → wpAnyH P md L.toArray Q S fuel (listed.setIfInBounds j true) a w → K' a w) → Oper.wp P o' a w K' Q) : wpAnyH P md L.toArray Q S (fuel + 1) listed a w :=
  wpAnyH_ready hr (by simp) (AllReadyH.cons (by simpa using ho) (fun K hK => by
    rw [if_pos hw]
    exact h K (fun a w hS hW => hK a w hS fun _ => hW)) (AllReadyH.cons (by simpa using ho') (fun K hK => by
    rw [if_pos hw']
    exact h' K (fun a w hS hW => hK a w hS fun _ => hW)) AllReadyH.nil))
section
variable {P : Program}
/-- 'wpList_buildOne' as one step -/
theorem wp_buildOne {o : Oper} {a : Act} {w : World} {K : Act → World → Prop} {Q : Exit → Act → World → Prop} (t e : TypeId) (y : Operand) (ho : o.op = .buildSlice t 1 #[(0, y)])
    (cs : List Value) (z : Value) (size bytes : Nat) (hu : P.underlying t = some (.slice e)) (hi : (P.info? e).map (fun i => (i.zero, i.size, i.bytes)) = some (some z, size, bytes)) (hzs : z.cells.size = size) (hs0 : 0 < size) (hs1 : size ≤ 1000)
    (hcs : cs.length = size) (hy : a.eval y = .agg cs.toArray)
    (h : K (a.put o.dst (.slice (some ⟨w.heap.size, 0, none⟩) 1 1)) (w.alloc (.cells cs.toArray e))) : o.wp P a w K Q := by
  obtain ⟨ie, hie, h1, h2, _⟩ := info_parts hi
  subst h2
  refine wp_buildSlice t e 1 _ ho cs.toArray ie z hu hie h1 (by omega) (by omega) ?_ h
  have := Go.Great.fill_whole (s := ie.size) hs0 [Value.agg cs.toArray] ((Array.range (1 * ie.size)).map (z.cells[· % z.cells.size]!)) (by simp [Value.cells, hcs]) (by simp)
  simpa [hy, Value.cells] using this
end
end Go.Proofs.Ytpkkgmmcindfgaa

/-
  Of part BookK: what is needed here.
-/
namespace Go.Proofs.Ytpkkgmmcindfgaa
open Go.RowKit
set_option linter.unusedVariables false
set_option maxRecDepth 100000
/-- a key's mark -/
def kz (a b l : Int) : List Int := [a, b, 77, 0, 0, 0, 0, 0, 0, 0, 0, 0, 0, 0, 0, 0, 0, 0, 0, 0, 0, 0, 0, 0, 0, 0, 0, 0, 0, 0, 0, l]
theorem built_key (a b l : Int) : Try.prog.built 24 [(0, .int .u8 a), (1, .int .u8 b), (2, .int .u8 77), (31, .int .u8 l)] = some (bv (kz a b l)).toArray := by kernel_rfl
theorem exec_built {a : Act} {o : Oper} (w : World) (t : TypeId) (parts : Array (Nat × Operand)) (cells : Array Value) (ho : o.op = .build t parts) (h : Try.prog.built t (parts.map fun (i, x) => (i, a.eval x)).toList = some cells) : (execOp a.eval o).run Try.prog w = .ok (.value (.agg cells)) w := by
  simp only [execOp, ho, Sem.run_bind, run_build w t _ cells h, Result.andThen_ok]
  rfl
theorem wp_built {o : Oper} {a : Act} {w : World} {K : Act → World → Prop} {Q : Exit → Act → World → Prop} (t : TypeId) (parts : Array (Nat × Operand)) (cells : Array Value) (ho : o.op = .build t parts)
    (h : Try.prog.built t (parts.map fun (i, x) => (i, a.eval x)).toList = some cells) (hK : K (a.put o.dst (.agg cells)) w) : o.wp Try.prog a w K Q :=
  wp_build t parts ho (by rw [h]; rfl) (by rw [h]; exact hK)
/-- of the blocks below 'base' only p has been written -/
structure ButOne (base p : Nat) (w w' : World) : Prop where
  os : w'.os = w.os
  tape : w'.tape = w.tape
  output : w'.output = w.output
  size : w.heap.size ≤ w'.heap.size
  block : ∀ k, k < base → k ≠ p → w'.heap[k]? = w.heap[k]?
theorem ButOne.refl (base p : Nat) (w : World) : ButOne base p w w := ⟨rfl, rfl, rfl, Nat.le_refl _, fun _ _ _ => rfl⟩
theorem ButOne.trans {base p : Nat} {a b c : World} (h : ButOne base p a b) (k : ButOne base p b c) : ButOne base p a c :=
  ⟨k.os.trans h.os, k.tape.trans h.tape, k.output.trans h.output, Nat.le_trans h.size k.size, fun i hi hp => (k.block i hi hp).trans (h.block i hi hp)⟩
theorem ButOne.below {base p B : Nat} {a b : World} (h : ButOne base p a b) (hB : B ≤ base) (hp : B ≤ p) : Below B a b :=
  ⟨h.os, h.tape, h.output, h.size, fun k hk => h.block k (by omega) (by omega)⟩
/-- 'AllReadyH.cons', the operations a list -/
theorem allL {P : Program} {L : List Oper} {Q : Exit → Act → World → Prop} {md : Region.Mode} {S : World → Prop} {i : Nat} {o : Oper} {fuel : Nat} {listed : Array Bool} {a : Act} {w : World} {rs : List Nat} (ho : L[i]? = some o)
    (hw : Region.wanted o (yielded L.toArray a.tmps) = true)
    (h : ∀ K' : Act → World → Prop, Shut (∀ a w, S w → wpAnyH P md L.toArray Q S fuel (listed.setIfInBounds i true) a w → K' a w) → Oper.wp P o a w K' Q)
    (hs : AllReadyH P md L.toArray Q S fuel listed a w rs) : AllReadyH P md L.toArray Q S fuel listed a w (i :: rs) :=
  AllReadyH.cons (by simpa using ho) (fun K hK => by
    rw [if_pos hw]
    exact h K (fun a w hS hW => hK a w hS fun _ => hW)) hs
set_option maxRecDepth 100000 in
set_option maxHeartbeats 800000 in
theorem keyMark (x y : Int) (w : World) : Calls Try.prog 35 #[.int .i64 x, .int .u8 y] w fun e w' => ∃ z, e = .returned (.agg (bv z).toArray) ∧ z.length = 32 ∧ Below w.heap.size w w' := by
  go_enter Try.func35, Try.ntmps35
  go_wp2_with (first
    | ((with_reducible show wpList _ _ _ ({ dst := some 11, op := Op.build _ _, type := _, pos := _, after := _, guard := _ } :: _) _ _); go_must (refine wpList_plain rfl fun K hK => wp_built _ _ _ rfl (by simp only [List.map_toArray, List.map_cons, List.map_nil]; exact built_key _ _ _) (hK _ _ ?_)))
    | ((with_reducible show wpList _ _ _ ({ dst := none, op := Op.store 24 _ _, type := _, pos := _, after := _, guard := _ } :: _) _ _); go_must (refine wpList_store_new rfl 24 (.tmp 4) (.tmp 11) rfl (bv (kz (x % 256) (wrap64 (x.tdiv 256) % 256) y)) size_key (bv_one _) rfl ?_ ?_ ?_; go_simp; go_simp; intro w1 hr1 hb1 hz1; have HR1 := Lib.hid hr1; have HB1 := Lib.hid hb1; clear hr1 hb1)))
  refine bodyPost_ret (results_cell_row (h := rfl) _ w1 w.heap.size 24 _ (0, 0) _ (by rfl) HR1.out.is Try.underlying24 rfl size_key) rfl ?_
  exact ⟨_, rfl, rfl, HB1.out⟩
/-- block k holds no pages -/
def NoPages (w : World) (k : Nat) : Prop := ∀ xs fr, w.heap[k]? ≠ some (.cells xs 79 fr)
/-- a book, its pages of the call's own, from world w0 on -/
structure BookW (w0 : World) (p base : Nat) (A : Option Addr) (n c : Nat) (ps : List Value) (w : World) : Prop where
  row : Row w p 50 [.slice A n c]
  own : w.ownsRow base 79 1 (.slice A n c) n ps
  one : ButOne base p w0 w
  lt : base ≤ w.heap.size
  keep : ∀ k, k < w0.heap.size → k ≠ p → NoPages w0 k → w.heap[k]? = w0.heap[k]?
section
variable {w0 w w' : World} {p base n c : Nat} {A : Option Addr} {ps : List Value}
theorem BookW.start (h : BookW w0 p base A n c ps w) : BookW w p base A n c ps w := ⟨h.row, h.own, ButOne.refl _ _ _, h.lt, fun _ _ _ _ => rfl⟩
theorem BookW.trans {A' : Option Addr} {n' c' : Nat} {ps' : List Value} (h : BookW w0 p base A n c ps w) (h' : BookW w p base A' n' c' ps' w') : BookW w0 p base A' n' c' ps' w' :=
  ⟨h'.row, h'.own, h.one.trans h'.one, h'.lt, fun k hk hp hn => by
    have e := h.keep k hk hp hn
    refine (h'.keep k (Nat.lt_of_lt_of_le hk h.one.size) hp ?_).trans e
    intro xs fr
    rw [e]
    exact hn xs fr⟩
theorem BookW.below (h : BookW w0 p base A n c ps w) (hb : Below w.heap.size w w') : BookW w0 p base A n c ps w' :=
  ⟨h.row.below hb h.row.lt, own_below h.own hb, h.one.trans ⟨hb.os, hb.tape, hb.output, hb.size, fun k hk _ => hb.block k (by have := h.lt; omega)⟩, by have := h.lt; have := hb.size; omega,
    fun k hk hp hn => (hb.block k (Nat.lt_of_lt_of_le hk h.one.size)).trans (h.keep k hk hp hn)⟩
theorem BookW.alloc (h : BookW w0 p base A n c ps w) (o : Obj) : BookW w0 p base A n c ps (w.alloc o) := h.below ((Below.refl _ _).alloc (Nat.le_refl _) o)
theorem BookW.drewN (h : BookW w0 p base A n c ps w) (k : Nat) : BookW w0 p base A n c ps (w.drewN k) := ⟨h.row.drewN k, h.own, ⟨h.one.os, h.one.tape, h.one.output, h.one.size, h.one.block⟩, h.lt, h.keep⟩
theorem own_pages {v : Value} {m : Nat} (h : w.ownsRow base 79 1 v m ps) {k : Nat} (hn : NoPages w k) : some k ≠ v.ownBlock := by
  rcases h.2 with ⟨rfl, _⟩ | ⟨g', cap, cur, rfl, _, hh, _⟩
  · simp [Value.ownBlock]
  · intro he
    have hg : k = g' := by simpa [Value.ownBlock] using he
    subst hg
    exact hn _ _ hh
theorem BookW.last {q : List Value} {m : Nat} {A' : Option Addr} {c' : Nat} (h : BookW w0 p base A n c ps w) (hr : Row w' p 50 [.slice A n c]) (ho : w'.ownsRow base 79 1 (.slice A' m c') m (ps ++ q)) (hg : w.grownBy w' (Value.slice A n c).ownBlock) :
    BookW w0 p base A' m c' (ps ++ q) (w'.setCell ⟨p, 0, none⟩ (.slice A' m c')) := by
  have hT := turned_setCell w' ⟨p, 0, none⟩ (.slice A' m c')
  have hz := hg.size
  have hl := h.lt
  refine ⟨hr.set_ 0 _, own_far ho hr (by decide) 0 _, h.one.trans ⟨hg.os, hg.tape, hg.output, ?_, fun k hk hp => ?_⟩, by rw [hT.size]; omega, fun k hk hp hn => ?_⟩
  · rw [hT.size]; exact hz
  · rw [hT.block k hp]
    exact hg.block k (by omega) fun e => by have := (h.own.lt k e.symm).1; omega
  · have e := h.keep k hk hp hn
    rw [hT.block k hp]
    refine (hg.block k (Nat.lt_of_lt_of_le hk h.one.size) (own_pages h.own ?_)).trans e
    intro xs fr
    rw [e]
    exact hn xs fr
/-- a row of other things stays -/
theorem BookW.rowK {g t : Nat} {xs : List Value} (h : BookW w0 p base A n c ps w) (hr : Row w0 g t xs) (hg : g ≠ p) (ht : t ≠ 79) : Row w g t xs :=
  ⟨(h.keep g hr.lt hg (fun ys fr e => by
    rw [hr.is] at e
    injection e with e
    injection e with _ e
    exact ht e)).trans hr.is⟩
end
end Go.Proofs.Ytpkkgmmcindfgaa

/-
  Of part Role: what is needed here.
-/
namespace Go.Proofs.Ytpkkgmmcindfgaa
open Go.RowKit
set_option linter.unusedVariables false
set_option maxRecDepth 100000
/-- elements of sz cells each that lie below block B -/
structure CsIn (sz : Nat) (w : World) (B : Nat) (A : Option Addr) (n : Nat) (l : List (List Value)) : Prop where
  len : l.length = n
  each : ∀ k ∈ l, k.length = sz
  sees : Sees w B A (n * sz) l.flatten
theorem cs_flat {sz : Nat} : ∀ {l : List (List Value)}, (∀ k ∈ l, k.length = sz) → l.flatten.length = l.length * sz
  | [], _ => by simp
  | y :: r, h => by
    rw [List.flatten_cons, List.length_append, cs_flat (l := r) (fun z hz => h z (List.mem_cons_of_mem _ hz)), h y (by simp), List.length_cons, Nat.add_mul]
    omega
section
variable {sz n B B' : Nat} {w w' : World} {A : Option Addr} {l : List (List Value)}
theorem CsIn.keep (h : CsIn sz w B A n l) (hk : ∀ p : Addr, p.block < B → w'.cell? p = w.cell? p) : CsIn sz w' B A n l := ⟨h.len, h.each, h.sees.keep hk⟩
theorem CsIn.below (h : CsIn sz w B A n l) (hb : Below B w w') : CsIn sz w' B A n l := ⟨h.len, h.each, h.sees.below hb⟩
theorem CsIn.more (h : CsIn sz w B A n l) (hB : B ≤ B') : CsIn sz w B' A n l := ⟨h.len, h.each, h.sees.more hB⟩
theorem CsIn.get (h : CsIn sz w B A n l) {k : Nat} (hk : k < n) (h0 : 0 < sz) : ∃ a x, A = some a ∧ a.block < B ∧ l[k]? = some x ∧ x.length = sz ∧ ∀ j u, x[j]? = some u → w.cell? ((a.add (k * sz)).add j) = some u := by
  obtain ⟨x, hx⟩ : ∃ x, l[k]? = some x := ⟨_, List.getElem?_eq_getElem (by rw [h.len]; exact hk)⟩
  have hxl := h.each x (List.mem_of_getElem? hx)
  have hat := flatten_at sz l k x (fun i y hy => h.each y (List.mem_of_getElem? hy)) hx
  obtain ⟨u0, hu0⟩ : ∃ u, x[0]? = some u := ⟨_, List.getElem?_eq_getElem (by rw [hxl]; exact h0)⟩
  obtain ⟨a, e, hb, _⟩ := h.sees.cell _ _ (hat 0 u0 hu0)
  refine ⟨a, x, e, hb, hx, hxl, fun j u hu => ?_⟩
  obtain ⟨a', e', _, hc⟩ := h.sees.cell _ _ (hat j u hu)
  rw [e] at e'
  cases e'
  rw [addr_add]
  exact hc
theorem CsIn.nil (w : World) (B : Nat) (A : Option Addr) : CsIn sz w B A 0 [] := ⟨rfl, by simp, by rw [Nat.zero_mul]; exact Sees.nil _ _ _⟩
end
theorem csIn_row {sz : Nat} {w : World} {g t : Nat} {l : List (List Value)} {ys : List Value} {n B : Nat} (hr : Row w g t (l.flatten ++ ys)) (hn : l.length = n) (h : ∀ k ∈ l, k.length = sz) (hB : g < B) : CsIn sz w B (some ⟨g, 0, none⟩) n l :=
  ⟨hn, h, ⟨by rw [cs_flat h, hn], fun i u hu => ⟨_, rfl, hB, by
    rw [addr_row, hr.cell, Nat.zero_add, List.getElem?_append_left (List.getElem?_eq_some_iff.1 hu).1]
    exact hu⟩⟩⟩
/-- so many of one -/
def rowOf (n : Nat) (z : List Value) : List Value := (List.replicate n z).flatten
theorem rowOf_len {sz : Nat} (n : Nat) {z : List Value} (hz : z.length = sz) : (rowOf n z).length = n * sz := by
  unfold rowOf
  rw [cs_flat (sz := sz) (fun k hk => by rw [List.eq_of_mem_replicate hk, hz]), List.length_replicate]
theorem rowOf_succ (k : Nat) (z : List Value) : rowOf (k + 1) z = rowOf k z ++ z := by
  unfold rowOf
  rw [List.replicate_succ', List.flatten_append]
  simp
theorem rowOf_cell {sz n k : Nat} {z : List Value} (hz : z.length = sz) (hk : k < n) {j : Nat} {v : Value} (hv : z[j]? = some v) : (rowOf n z)[k * sz + j]? = some v :=
  flatten_at sz (List.replicate n z) k z (fun i y hy => by
    have := List.mem_of_getElem? hy
    rw [List.eq_of_mem_replicate this, hz]) (by rw [List.getElem?_replicate_of_lt hk]) j v hv
/-- a role -/
structure LRole where
  key : List Int
  sg : Bool
  wr : Bool
theorem LRole.ext_iff' {a b : LRole} : a = b ↔ a.key = b.key ∧ a.sg = b.sg ∧ a.wr = b.wr := by
  obtain ⟨x, y, z⟩ := a
  obtain ⟨x', y', z'⟩ := b
  constructor
  · rintro h
    cases h
    exact ⟨rfl, rfl, rfl⟩
  · rintro ⟨h1, h2, h3⟩
    simp only at h1 h2 h3
    rw [h1, h2, h3]
instance : DecidableEq LRole := fun a b => decidable_of_iff (a.key = b.key ∧ a.sg = b.sg ∧ a.wr = b.wr) LRole.ext_iff'.symm
def LRole.cells (r : LRole) : List Value := bv r.key ++ [.bool r.sg, .bool r.wr]
theorem run_part_key (xs : Array Value) (off : Nat) (w : World) : (part 24 xs off).run Try.prog w = .ok (.agg (xs.extract off (off + 32))) w := by
  have h1 : (isAgg 24).run Try.prog w = .ok true w := by kernel_rfl
  simp [part, h1]
theorem eqItems_at (d : Nat) (x y : List Int) (w : World) : ∀ (is : List Nat), (∀ i ∈ is, i < x.length ∧ i < y.length) → (Op.eqItems (d + 1) 5 1 (bv x).toArray (bv y).toArray is).run Try.prog w = .ok (same32 x y is) w
  | [], _ => by simp [Op.eqItems, same32]
  | i :: is, h => by
    have hi := h i (by simp)
    have hc : (bv x).toArray[i]? = some (.int .u8 (x.getD i 0)) := by
      rw [List.getElem?_toArray]
      exact bv_at hi.1
    have hd : (bv y).toArray[i]? = some (.int .u8 (y.getD i 0)) := by
      rw [List.getElem?_toArray]
      exact bv_at hi.2
    have p := run_part_plain (P := Try.prog) w plainU8 (xs := (bv x).toArray) (off := i) hc
    have p2 := run_part_plain (P := Try.prog) w plainU8 (xs := (bv y).toArray) (off := i) hd
    have ih := eqItems_at d x y w is fun k hk => h k (by simp [hk])
    simp only [Op.eqItems, Nat.mul_one, Sem.run_bind, p, p2, Result.andThen_ok, run_equalIn_int w d 5 .u8 .u8 _ _ Try.underlying5]
    cases hb : (x.getD i 0 == y.getD i 0)
    · have : same32 x y (i :: is) = false := by simp only [same32, List.all_cons, hb, Bool.false_and]
      rw [this]
      simp
    · have : same32 x y (i :: is) = same32 x y is := by simp only [same32, List.all_cons, hb, Bool.true_and]
      rw [this]
      simpa using ih
theorem keys_eqIn (d : Nat) {x y : List Int} (hx : x.length = 32) (hy : y.length = 32) (w : World) :
    (Op.equalIn (d + 1 + 1) 24 (.agg (bv x).toArray) (.agg (bv y).toArray)).run Try.prog w = .ok (decide (x = y)) w := by
  obtain ⟨i, hi⟩ := infoU8
  rw [run_equalIn_array w (d + 1) _ _ Try.underlying24 hi, cellsOfU8, eqItems_at d x y w _ (fun i hi => by simp at hi; omega), same32_iff hx hy]
/-- the zero role -/
def r0 : LRole := ⟨List.replicate 32 0, false, false⟩
end Go.Proofs.Ytpkkgmmcindfgaa

/-
  Of part Hold13: what is needed here.
-/
namespace Go.Proofs.Ytpkkgmmcindfgaa
open Go.RowKit
set_option linter.unusedVariables false
set_option maxRecDepth 100000
def LAcc.cells (a : LAcc) : List Value := .int .u64 a.c :: (bv a.o ++ [.int .u64 a.s])
def LHold.cells (x : LHold) : List Value := bv x.k ++ x.a.cells
theorem acc_len {a : LAcc} (h : a.o.length = 32) : a.cells.length = 34 := by simp [LAcc.cells, bv_length, h]
theorem acc_one (a : LAcc) : ∀ u ∈ a.cells, u.oneCell' = true := by
  intro u hu
  rcases List.mem_cons.1 hu with rfl | hu
  · rfl
  rcases List.mem_append.1 hu with hu | hu
  · exact bv_one _ _ hu
  · obtain rfl := List.mem_singleton.1 hu; rfl
theorem hold_len {x : LHold} (hk : x.k.length = 32) (h : x.a.o.length = 32) : x.cells.length = 66 := by
  unfold LHold.cells
  rw [List.length_append, bv_length, hk, acc_len h]
theorem hold_one (x : LHold) : ∀ u ∈ x.cells, u.oneCell' = true := by
  intro u hu
  rcases List.mem_append.1 hu with hu | hu
  · exact bv_one _ _ hu
  · exact acc_one _ _ hu
theorem acc_c (a : LAcc) : a.cells[0]? = some (.int .u64 a.c) := rfl
theorem acc_s {a : LAcc} (h : a.o.length = 32) : a.cells[33]? = some (.int .u64 a.s) := by
  unfold LAcc.cells
  rw [show (33 : Nat) = 32 + 1 from rfl, List.getElem?_cons_succ, List.getElem?_append_right (by rw [bv_length, h]; omega), bv_length, h]
  rfl
theorem hold_k {x : LHold} {j : Nat} {u : Value} (h : (bv x.k)[j]? = some u) : x.cells[j]? = some u := by
  unfold LHold.cells
  rw [List.getElem?_append_left (List.getElem?_eq_some_iff.1 h).1]
  exact h
theorem hold_a {x : LHold} (hk : x.k.length = 32) {j : Nat} {u : Value} (h : x.a.cells[j]? = some u) : x.cells[32 + j]? = some u := by
  unfold LHold.cells
  rw [List.getElem?_append_right (by rw [bv_length, hk]; omega), bv_length, hk, Nat.add_sub_cancel_left]
  exact h
theorem acc_ext {a b : LAcc} : a = b ↔ a.c = b.c ∧ a.o = b.o ∧ a.s = b.s := by
  obtain ⟨x, y, z⟩ := a
  obtain ⟨x', y', z'⟩ := b
  simp
theorem hold_ext {a b : LHold} : a = b ↔ a.k = b.k ∧ a.a = b.a := by
  obtain ⟨x, y⟩ := a
  obtain ⟨x', y'⟩ := b
  simp
theorem size_acc {a : LAcc} (h : a.o.length = 32) : (Try.prog.info? 35).map (·.size) = some a.cells.length := by
  rw [acc_len h]
  kernel_rfl
theorem size_hold {x : LHold} (hk : x.k.length = 32) (h : x.a.o.length = 32) : (Try.prog.info? 60).map (·.size) = some x.cells.length := by
  rw [hold_len hk h]
  kernel_rfl
theorem infoHo : (Try.prog.info? 60).map (fun i => (i.zero, i.size, i.bytes)) = some (some (.agg (LHold.cells ⟨List.replicate 32 0, blank13⟩).toArray), 66, 80) := by kernel_rfl
theorem zszHo : (Value.agg (LHold.cells ⟨List.replicate 32 0, blank13⟩).toArray).cells.size = 66 := by kernel_rfl
theorem zero_acc : (Try.prog.info? 35).map (·.zero) = some (some (.agg blank13.cells.toArray)) := by kernel_rfl
theorem built_blank : Try.prog.built 35 [] = some blank13.cells.toArray := by kernel_rfl
theorem run_part_acc (xs : Array Value) (off : Nat) (w : World) : (part 35 xs off).run Try.prog w = .ok (.agg (xs.extract off (off + 34))) w := by
  have h1 : (isAgg 35).run Try.prog w = .ok true w := by kernel_rfl
  simp [part, h1]
theorem run_part_u64 (xs : Array Value) (off : Nat) (w : World) {v : Value} (h : xs[off]? = some v) : (part 33 xs off).run Try.prog w = .ok v w :=
  run_part_plain (P := Try.prog) w (by kernel_rfl) h
theorem acc_keyAt {a : LAcc} (h : a.o.length = 32) : a.cells.toArray.extract 1 (1 + 32) = (bv a.o).toArray := by
  apply Array.ext'
  unfold LAcc.cells
  rw [Array.toList_extract]
  simp [List.extract, bv_length, h]
theorem hold_keyAt {x : LHold} (h : x.k.length = 32) : x.cells.toArray.extract 0 (0 + 32) = (bv x.k).toArray := by
  apply Array.ext'
  unfold LHold.cells
  rw [Array.toList_extract]
  simp [List.extract, bv_length, h]
theorem hold_accAt {x : LHold} (h : x.k.length = 32) (ho : x.a.o.length = 32) : x.cells.toArray.extract 32 (32 + 34) = x.a.cells.toArray := by
  apply Array.ext'
  unfold LHold.cells
  rw [Array.toList_extract]
  simp [List.extract, bv_length, h]
  exact List.take_of_length_le (by rw [acc_len ho]; omega)
theorem acc_held : Try.prog.stoodInHeld 35 = false := by kernel_rfl
theorem acc_under : Try.prog.underlying 35 = some (.struct (Try.prog.fieldsOf 35)) := by kernel_rfl
theorem hold_held : Try.prog.stoodInHeld 60 = false := by kernel_rfl
theorem hold_under : Try.prog.underlying 60 = some (.struct (Try.prog.fieldsOf 60)) := by kernel_rfl
theorem u64_eq (e : Nat) (a b : Int) (w : World) : (Op.equalIn (e + 1) 33 (.int .u64 a) (.int .u64 b)).run Try.prog w = .ok (a == b) w :=
  run_equalIn_int w e 33 .u64 .u64 _ _ Try.underlying33
/-- the fields, one behind the other -/
theorem acc_fields (e : Nat) (X Y : Array Value) (w : World) {a b : Value} {s s' v v' : Int} {c : Bool} (pa : (part 24 X 1).run Try.prog w = .ok a w) (pb : (part 24 Y 1).run Try.prog w = .ok b w)
    (ps : (part 33 X 0).run Try.prog w = .ok (.int .u64 s) w) (ps' : (part 33 Y 0).run Try.prog w = .ok (.int .u64 s') w) (pv : (part 33 X 33).run Try.prog w = .ok (.int .u64 v) w) (pv' : (part 33 Y 33).run Try.prog w = .ok (.int .u64 v') w)
    (hk : (Op.equalIn (e + 1) 24 a b).run Try.prog w = .ok c w) : (Op.eqFields (e + 1) X Y (Try.prog.fieldsOf 35).toList).run Try.prog w = .ok ((s == s') && c && (v == v')) w := by
  simp only [Program.fieldsOf, Try.underlying35]
  have hb := u64_eq e
  simp only [Op.eqFields, ne_eq, String.reduceEq, not_false_eq_true, if_true, Sem.run_bind, ps, ps', Result.andThen_ok, hb]
  cases hs : (s == s')
  · simp
  · simp only [Bool.not_true, Bool.false_eq_true, if_false, pa, pb, Sem.run_bind, Result.andThen_ok, hk]
    cases c
    · simp
    · simp only [Bool.not_true, Bool.false_eq_true, if_false, pv, pv', Sem.run_bind, Result.andThen_ok, hb]
      cases hv : (v == v') <;> simp
theorem acc_eqIn (d : Nat) {x y : LAcc} (hx : x.o.length = 32) (hy : y.o.length = 32) (w : World) :
    (Op.equalIn (d + 1 + 1 + 1) 35 (.agg x.cells.toArray) (.agg y.cells.toArray)).run Try.prog w = .ok (decide (x = y)) w := by
  have px1 := run_part_key x.cells.toArray 1 w
  have py1 := run_part_key y.cells.toArray 1 w
  rw [acc_keyAt hx] at px1
  rw [acc_keyAt hy] at py1
  have px2 := run_part_u64 x.cells.toArray 0 w (v := .int .u64 x.c) (by rw [List.getElem?_toArray]; exact acc_c x)
  have py2 := run_part_u64 y.cells.toArray 0 w (v := .int .u64 y.c) (by rw [List.getElem?_toArray]; exact acc_c y)
  have px3 := run_part_u64 x.cells.toArray 33 w (v := .int .u64 x.s) (by rw [List.getElem?_toArray]; exact acc_s hx)
  have py3 := run_part_u64 y.cells.toArray 33 w (v := .int .u64 y.s) (by rw [List.getElem?_toArray]; exact acc_s hy)
  rw [run_equalIn_struct w (d + 1 + 1) 35 _ _ acc_under acc_held, acc_fields (d + 1) _ _ w px1 py1 px2 py2 px3 py3 (keys_eqIn d hx hy w)]
  congr 1
  rw [Bool.eq_iff_iff, Bool.and_eq_true, Bool.and_eq_true, decide_eq_true_iff, decide_eq_true_iff, beq_iff_eq, beq_iff_eq, acc_ext, and_assoc]
theorem acc_eq0 {x y : LAcc} (hx : x.o.length = 32) (hy : y.o.length = 32) (w : World) (d : Nat) (hd : d = 9997) :
    (Op.equalIn 10000 35 (.agg x.cells.toArray) (.agg y.cells.toArray)).run Try.prog w = .ok (decide (x = y)) w := by
  have h := acc_eqIn d hx hy w
  subst hd
  exact h
theorem acc_eql {x y : LAcc} (hx : x.o.length = 32) (hy : y.o.length = 32) (w : World) : (binOp .eql 35 (.agg x.cells.toArray) (.agg y.cells.toArray)).run Try.prog w = .ok (.bool (decide (x = y))) w := by
  rw [run_eql_struct, acc_eq0 hx hy w _ rfl]
  rfl
theorem acc_neq {x y : LAcc} (hx : x.o.length = 32) (hy : y.o.length = 32) (w : World) : (binOp .neq 35 (.agg x.cells.toArray) (.agg y.cells.toArray)).run Try.prog w = .ok (.bool (!decide (x = y))) w := by
  rw [run_neq_struct, acc_eq0 hx hy w _ rfl]
  rfl
theorem hold_fields (e : Nat) (X Y : Array Value) (w : World) {a b a' b' : Value} {c c' : Bool} (pa : (part 24 X 0).run Try.prog w = .ok a w) (pb : (part 24 Y 0).run Try.prog w = .ok b w)
    (ps : (part 35 X 32).run Try.prog w = .ok a' w) (ps' : (part 35 Y 32).run Try.prog w = .ok b' w)
    (hk : (Op.equalIn e 24 a b).run Try.prog w = .ok c w) (ha : (Op.equalIn e 35 a' b').run Try.prog w = .ok c' w) : (Op.eqFields e X Y (Try.prog.fieldsOf 60).toList).run Try.prog w = .ok (c && c') w := by
  simp only [Program.fieldsOf, Try.underlying60]
  simp only [Op.eqFields, ne_eq, String.reduceEq, not_false_eq_true, if_true, Sem.run_bind, pa, pb, Result.andThen_ok, hk]
  cases c
  · simp
  · simp only [Bool.not_true, Bool.false_eq_true, if_false, ps, ps', Sem.run_bind, Result.andThen_ok, ha]
    cases c' <;> simp
theorem hold_eqIn (d : Nat) {x y : LHold} (hkx : x.k.length = 32) (hky : y.k.length = 32) (hx : x.a.o.length = 32) (hy : y.a.o.length = 32) (w : World) :
    (Op.equalIn (d + 1 + 1 + 1 + 1) 60 (.agg x.cells.toArray) (.agg y.cells.toArray)).run Try.prog w = .ok (decide (x = y)) w := by
  have px1 := run_part_key x.cells.toArray 0 w
  have py1 := run_part_key y.cells.toArray 0 w
  rw [hold_keyAt hkx] at px1
  rw [hold_keyAt hky] at py1
  have px2 := run_part_acc x.cells.toArray 32 w
  have py2 := run_part_acc y.cells.toArray 32 w
  rw [hold_accAt hkx hx] at px2
  rw [hold_accAt hky hy] at py2
  rw [run_equalIn_struct w (d + 1 + 1 + 1) 60 _ _ hold_under hold_held, hold_fields (d + 1 + 1 + 1) _ _ w px1 py1 px2 py2 (keys_eqIn (d + 1) hkx hky w) (acc_eqIn d hx hy w)]
  congr 1
  rw [Bool.eq_iff_iff, Bool.and_eq_true, decide_eq_true_iff, decide_eq_true_iff, decide_eq_true_iff, hold_ext]
theorem hold_eq0 {x y : LHold} (hkx : x.k.length = 32) (hky : y.k.length = 32) (hx : x.a.o.length = 32) (hy : y.a.o.length = 32) (w : World) (d : Nat) (hd : d = 9996) :
    (Op.equalIn 10000 60 (.agg x.cells.toArray) (.agg y.cells.toArray)).run Try.prog w = .ok (decide (x = y)) w := by
  have h := hold_eqIn d hkx hky hx hy w
  subst hd
  exact h
theorem hold_neq {x y : LHold} (hkx : x.k.length = 32) (hky : y.k.length = 32) (hx : x.a.o.length = 32) (hy : y.a.o.length = 32) (w : World) : (binOp .neq 60 (.agg x.cells.toArray) (.agg y.cells.toArray)).run Try.prog w = .ok (.bool (!decide (x = y))) w := by
  rw [run_neq_struct, hold_eq0 hkx hky hx hy w _ rfl]
  rfl
theorem key_neq {x y : List Int} (hx : x.length = 32) (hy : y.length = 32) (w : World) :
    (binOp .neq 24 (.agg (bv x).toArray) (.agg (bv y).toArray)).run Try.prog w = .ok (.bool (!decide (x = y))) w := by
  obtain ⟨i, hi⟩ := infoU8
  rw [run_neq_struct, show (10000 : Nat) = 9999 + 1 from rfl, run_equalIn_array w 9999 _ _ Try.underlying24 hi, cellsOfU8, eqItems_any x y w _ (fun i hi => by simp at hi; omega), same32_iff hx hy]
  rfl
end Go.Proofs.Ytpkkgmmcindfgaa

/-
  Of part KeyMap: what is needed here.
-/
namespace Go.Proofs.Ytpkkgmmcindfgaa
open Go.RowKit Go.Maps
set_option linter.unusedVariables false
set_option maxRecDepth 100000
theorem arr_key : WideMaps.ArrKey Try.prog 24 5 32 := ⟨Try.underlying24, by kernel_rfl, by kernel_rfl, by kernel_rfl⟩
theorem key_law : Keyed Try.prog 24 := Keyed.of_law arr_key.law
theorem mapM_some {α β : Type} {f : α → Option β} {g : α → β} : ∀ (l : List α), (∀ x ∈ l, f x = some (g x)) → l.mapM f = some (l.map g)
  | [], _ => rfl
  | x :: r, h => by
    rw [List.mapM_cons, h x (by simp), mapM_some r (fun y hy => h y (by simp [hy]))]
    rfl
/-- what a key reads as -/
def KL (x : List Int) : Lit := .string (keyBytes ((List.range 32).map fun i => [Lit.int .u8 (x.getD i 0)]).flatten)
theorem KL_is {x : List Int} (h : x.length = 32) (hb : AllBytes x) : Go.keyOf Try.prog 24 (.agg (bv x).toArray) = some (KL x) := by
  have hkt : Try.prog.keyType 24 = true := by kernel_rfl
  have e : (Try.prog.keyLits (Try.prog.types.size + 1) 24 (bv x)) = some ((List.range 32).map fun i => [Lit.int .u8 (x.getD i 0)]).flatten := by
    obtain ⟨m, hm⟩ : ∃ m, Try.prog.types.size = m + 1 := ⟨Try.prog.types.size - 1, by kernel_rfl⟩
    unfold Program.keyLits
    simp only [Try.underlying24]
    rw [if_pos (by rw [bv_length, h]; exact arr_key.size.symm), mapM_some (g := fun i => [Lit.int .u8 (x.getD i 0)])]
    · rfl
    intro i hi
    have hi : i < 32 := by simpa using hi
    rw [arr_key.one, Nat.mul_one, hm]
    have hx : x[i]? = some (x.getD i 0) := by rw [List.getD_eq_getElem?_getD, List.getElem?_eq_getElem (by omega)]; rfl
    have hc : ((bv x).drop i).take 1 = [.int .u8 (x.getD i 0)] := by
      rw [List.take_one, List.head?_drop, bv_getElem?, hx]
      rfl
    obtain ⟨z0, z1⟩ := hb _ (List.mem_of_getElem? hx)
    rw [hc]
    unfold Program.keyLits
    simp only [Try.underlying5]
    have hwf : (Lit.int .u8 (x.getD i 0)).wf = true := by
      show (decide ((0 : Int) ≤ x.getD i 0) && decide (x.getD i 0 ≤ 255)) = true
      rw [decide_eq_true z0, decide_eq_true (by omega)]
      rfl
    rw [if_pos ⟨trivial, hwf⟩]
  unfold KL Go.keyOf
  simp only [Try.underlying24]
  rw [if_pos (by simp [hkt, Value.formed, Try.underlying24, arr_key.size, bv_length, h]), show (Value.agg (bv x).toArray).cells.toList = bv x by simp [Value.cells], e]
  rfl
theorem KL_inj {x y : List Int} (hx : x.length = 32) (bx : AllBytes x) (hy : y.length = 32) (by_ : AllBytes y) (h : KL x = KL y) : x = y := by
  have := key_law.inj (KL_is hx bx) (h ▸ KL_is hy by_)
  have h2 : bv x = bv y := by simpa using this
  unfold bv cv at h2
  exact (List.map_inj_right (fun a b hab => by injection hab)).1 h2
theorem KL_key {x : List Int} (h : x.length = 32) (hb : AllBytes x) : WideAt.IsKeyLit (KL x) := key_law.key (KL_is h hb)
theorem grown_none {w w' : World} (hb : Below w.heap.size w w') : w.grownBy w' none := ⟨hb.os, hb.tape, hb.output, hb.size, fun k hk _ => hb.block k hk⟩
end Go.Proofs.Ytpkkgmmcindfgaa

/-
  Of part AccMap13: what is needed here.
-/
namespace Go.Proofs.Ytpkkgmmcindfgaa
open Go.RowKit Go.Maps
set_option linter.unusedVariables false
set_option maxRecDepth 100000
/-- an account as a datum -/
def accD (a : LAcc) : DataW Unit := .agg (.lit (.int .u64 a.c) :: .lit (.int .u64 a.s) :: a.o.map fun z => .lit (.int .u8 z))
theorem accD_inj {a b : LAcc} (h : accD a = accD b) : a = b := by
  unfold accD at h
  injection h with h
  injection h with h1 h
  injection h with h2 h3
  injection h1 with h1
  injection h1 with _ h1
  injection h2 with h2
  injection h2 with _ h2
  have h4 : a.o = b.o := (List.map_inj_right (fun x y hxy => by injection hxy with hxy; injection hxy)).1 h3
  exact acc_ext.2 ⟨h1, h4, h2⟩
theorem acc_cells_inj {a b : LAcc} (ha : AccOk a) (hb : AccOk b) (h : a.cells = b.cells) : a = b := by
  unfold LAcc.cells at h
  injection h with h1 h
  injection h1 with _ h1
  have h2 := List.append_inj h (by rw [bv_length, bv_length, ha.o.1, hb.o.1])
  have h3 : a.o = b.o := by
    have := h2.1
    unfold bv cv at this
    exact (List.map_inj_right (fun x y hxy => by injection hxy)).1 this
  have h4 := h2.2
  injection h4 with h4
  injection h4 with _ h4
  exact acc_ext.2 ⟨h1, h3, h4⟩
open Classical in
/-- how an account in a map reads -/
noncomputable def accE (v : Value) : Option (DataW Unit × List MemPlace) := if h : ∃ a : LAcc, v = .agg a.cells.toArray ∧ AccOk a then some (accD h.choose, []) else none
theorem accE_mk {a : LAcc} (ha : AccOk a) : accE (.agg a.cells.toArray) = some (accD a, []) := by
  have h : ∃ b : LAcc, Value.agg a.cells.toArray = .agg b.cells.toArray ∧ AccOk b := ⟨a, rfl, ha⟩
  unfold accE
  rw [dif_pos h]
  have h1 := h.choose_spec
  have h2 : a = h.choose := acc_cells_inj ha h1.2 (by simpa using h1.1)
  rw [← h2]
theorem accE_inv {v : Value} {z : DataW Unit × List MemPlace} (h : accE v = some z) : ∃ a : LAcc, v = .agg a.cells.toArray ∧ AccOk a ∧ z = (accD a, []) := by
  unfold accE at h
  split at h
  · rename_i hx
    exact ⟨hx.choose, hx.choose_spec.1, hx.choose_spec.2, (Option.some.inj h).symm⟩
  · cases h
theorem zero_acc_run (w : World) : (zeroValue 35).run Try.prog w = .ok (.agg blank13.cells.toArray) w := by kernel_rfl
/-- what a map of accounts reads as: its keys, and what each one has -/
structure AD (D : DataW Unit) (ks : List (List Int)) (f : List Int → LAcc) : Prop where
  tidy : Tidy D
  has : ∀ kl, Go.Maps.has D kl = true ↔ ∃ k ∈ ks, kl = KL k
  at_ : ∀ k ∈ ks, ∀ z, D.atKey (KL k) z = accD (f k)
  nodup : ks.Nodup
  ok : ∀ k ∈ ks, (k.length = 32 ∧ AllBytes k) ∧ AccOk (f k)
  size : Go.Maps.size D = ks.length
theorem ad_nil (f : List Int → LAcc) : AD (.map []) [] f := ⟨tidy_empty, fun kl => by simp [has_eq], by simp, List.nodup_nil, by simp, rfl⟩
theorem AD.has_key {D : DataW Unit} {ks : List (List Int)} {f : List Int → LAcc} (h : AD D ks f) {k : List Int} (hk : k.length = 32 ∧ AllBytes k) : Go.Maps.has D (KL k) = decide (k ∈ ks) := by
  rw [Bool.eq_iff_iff, decide_eq_true_iff, h.has]
  constructor
  · rintro ⟨x, hx, e⟩
    rwa [KL_inj hk.1 hk.2 (h.ok x hx).1.1 (h.ok x hx).1.2 e]
  · intro hk'
    exact ⟨k, hk', rfl⟩
/-- the account of a key, or blank -/
theorem AD.at_key {D : DataW Unit} {ks : List (List Int)} {f : List Int → LAcc} (h : AD D ks f) {k : List Int} (hk : k.length = 32 ∧ AllBytes k) (z : DataW Unit) : D.atKey (KL k) z = if k ∈ ks then accD (f k) else z := by
  by_cases e : k ∈ ks
  · rw [if_pos e, h.at_ k e]
  · rw [if_neg e]
    exact atKey_of_not_has (by rw [h.has_key hk, decide_eq_false e]) z
def addK (ks : List (List Int)) (k : List Int) : List (List Int) := if k ∈ ks then ks else ks ++ [k]
def updF (f : List Int → LAcc) (k : List Int) (a : LAcc) : List Int → LAcc := fun x => if x = k then a else f x
theorem mem_addK {ks : List (List Int)} {k x : List Int} : x ∈ addK ks k ↔ x ∈ ks ∨ x = k := by
  unfold addK
  split
  · rename_i h
    exact ⟨.inl, fun hx => hx.elim id (fun e => e ▸ h)⟩
  · simp
theorem AD.put {D : DataW Unit} {ks : List (List Int)} {f : List Int → LAcc} (h : AD D ks f) {k : List Int} (hk : k.length = 32 ∧ AllBytes k) {a : LAcc} (ha : AccOk a) : AD (D.put (KL k) (accD a)) (addK ks k) (updF f k a) := by
  have hkl := KL_key hk.1 hk.2
  refine ⟨h.tidy.put hkl _, fun kl => ?_, fun x hx z => ?_, ?_, fun x hx => ?_, ?_⟩
  · by_cases e : kl = KL k
    · subst e
      rw [has_put_same h.tidy.isMap hkl]
      exact ⟨fun _ => ⟨k, mem_addK.2 (.inr rfl), rfl⟩, fun _ => rfl⟩
    · rw [has_put_other e, h.has]
      constructor
      · rintro ⟨x, hx, rfl⟩
        exact ⟨x, mem_addK.2 (.inl hx), rfl⟩
      · rintro ⟨x, hx, rfl⟩
        rcases mem_addK.1 hx with hx | rfl
        · exact ⟨x, hx, rfl⟩
        · exact absurd rfl e
  · unfold updF
    by_cases e : x = k
    · subst e
      rw [if_pos rfl, atKey_put_same h.tidy.isMap hkl]
    · have hx' : x ∈ ks := (mem_addK.1 hx).resolve_right e
      rw [if_neg e, atKey_put_other (fun e' => e (KL_inj (h.ok x hx').1.1 (h.ok x hx').1.2 hk.1 hk.2 e')), h.at_ x hx']
  · unfold addK
    split
    · exact h.nodup
    · rename_i hn
      exact List.nodup_append.2 ⟨h.nodup, by simp, fun x hx y hy e => hn (by rw [List.mem_singleton] at hy; rw [← hy, ← e]; exact hx)⟩
  · unfold updF
    by_cases e : x = k
    · subst e
      rw [if_pos rfl]
      exact ⟨hk, ha⟩
    · rw [if_neg e]
      exact h.ok x ((mem_addK.1 hx).resolve_right e)
  · rw [size_put h.tidy, h.has_key hk, h.size]
    unfold addK
    by_cases e : k ∈ ks
    · rw [decide_eq_true e, if_pos rfl, if_pos e]
    · rw [decide_eq_false e, if_neg e]
      simp
theorem AD.del {D : DataW Unit} {ks : List (List Int)} {f : List Int → LAcc} (h : AD D ks f) {k : List Int} (hk : k.length = 32 ∧ AllBytes k) : AD (D.del (KL k)) (ks.filter fun x => x ≠ k) f := by
  have hm : ∀ x, x ∈ (ks.filter fun x => x ≠ k) ↔ x ∈ ks ∧ x ≠ k := fun x => by simp [List.mem_filter]
  refine ⟨h.tidy.del _, fun kl => ?_, fun x hx z => ?_, h.nodup.filter _, fun x hx => h.ok x ((hm x).1 hx).1, ?_⟩
  · by_cases e : kl = KL k
    · subst e
      rw [has_del_same]
      refine ⟨fun h => (by cases h), ?_⟩
      rintro ⟨x, hx, e⟩
      have hx' := (hm x).1 hx
      exact absurd (KL_inj hk.1 hk.2 (h.ok x hx'.1).1.1 (h.ok x hx'.1).1.2 e).symm hx'.2
    · rw [has_del_other e, h.has]
      constructor
      · rintro ⟨x, hx, rfl⟩
        exact ⟨x, (hm x).2 ⟨hx, fun e' => e (by rw [e'])⟩, rfl⟩
      · rintro ⟨x, hx, rfl⟩
        exact ⟨x, ((hm x).1 hx).1, rfl⟩
  · have hx' := (hm x).1 hx
    rw [atKey_del_other (fun e' => hx'.2 (KL_inj (h.ok x hx'.1).1.1 (h.ok x hx'.1).1.2 hk.1 hk.2 e')), h.at_ x hx'.1]
  · have h1 := size_del (k := KL k) h.tidy
    rw [h.has_key hk, h.size] at h1
    have h2 : ∀ (l : List (List Int)), l.Nodup → (l.filter fun x => x ≠ k).length + (if decide (k ∈ l) = true then 1 else 0) = l.length := fun l => by
      induction l with
      | nil => intro _; rfl
      | cons y r ih =>
        intro hd
        have hd' := List.nodup_cons.1 hd
        have := ih hd'.2
        by_cases e : y = k
        · subst e
          simp only [hd'.1, decide_false, if_neg Bool.false_ne_true] at this
          simp at this ⊢
          exact this
        · have e' : k ≠ y := fun h => e h.symm
          simp [e, e'] at this ⊢
          omega
    have := h2 ks h.nodup
    omega
section
variable {w : World} {ops : Array Oper} {rest : List Oper} {o : Oper} {a : Act} {Q : Exit → Act → World → Prop}
/-- 'm[k]' -/
theorem acc_lookup {b n : Nat} {D : DataW Unit} {ks : List (List Int)} {f : List Int → LAcc} (hown : w.ownsMap Try.prog 24 accE b n D) (h : AD D ks f) {k : List Int} (hk : k.length = 32 ∧ AllBytes k) :
    (Instr.lookup 53 (.map (some b)) (.agg (bv k).toArray) false).run Try.prog w = .ok (.agg (if k ∈ ks then f k else blank13).cells.toArray) w := by
  obtain ⟨v, ps, hrun, hv⟩ := hown.lookup key_law Try.underlying53 (zero_acc_run w) (accE_mk blank_ok) (KL_is hk.1 hk.2)
  rw [h.at_key hk] at hv
  obtain ⟨x, rfl, hx, e⟩ := accE_inv hv
  rw [hrun]
  have : x = if k ∈ ks then f k else blank13 := by
    injection e with e _
    by_cases hm : k ∈ ks
    · rw [if_pos hm] at e ⊢
      exact (accD_inj e).symm
    · rw [if_neg hm] at e ⊢
      exact (accD_inj e).symm
  rw [this]
/-- the range's step -/
theorem wpList_next_acc (hg : o.guard = none) (it : Operand) (hop : o.op = Op.next it false) (b r n : Nat) (D : DataW Unit) (ks : List (List Int)) (f : List Int → LAcc) (left : Lit → Bool) (cnt : Nat)
    (hit : a.eval it = .pointer (some ⟨r, 0, none⟩)) (h : w.ranges Try.prog 24 accE b r n D left cnt) (had : AD D ks f) (hleft : ∀ kl, left kl = true → Go.Maps.has D kl = true)
    (hDone : cnt = 0 → (∀ kl, left kl = false) → wpList Try.prog ops Q rest (a.put o.dst (.tuple #[.bool false])) w)
    (hMore : ∀ (k : List Int) (w' : World) (cnt' : Nat), k ∈ ks → left (KL k) = true → w'.ranges Try.prog 24 accE b r n D (fun z => left z && !z.sameKey (KL k)) cnt' → cnt' < cnt →
      w.grownBy w' (some r) → w'.heap.size = w.heap.size → (Instr.entry (.pointer (some ⟨r, 0, none⟩))).run Try.prog w' = .ok (.tuple #[.agg (bv k).toArray, .agg (f k).cells.toArray]) w' → wpList Try.prog ops Q rest (a.put o.dst (.tuple #[.bool true, .agg (bv k).toArray, .agg (f k).cells.toArray])) w') :
    wpList Try.prog ops Q (o :: rest) a w := by
  refine wpList_plain hg fun K' hK' => ?_
  unfold Oper.wp
  rcases h.next key_law o.type with ⟨h0, hl, hrun⟩ | ⟨key, v, kl, y, w', cnt', hkey, hlk, hv, hat, hrun, hrg, hlt, hgr, hsz, hen⟩
  · simp [execOp, hop, hit, hrun, Result.andThen]
    exact hK' _ _ (hDone h0 hl)
  · obtain ⟨k, hk, rfl⟩ := (had.has kl).1 (hleft kl hlk)
    have hok := (had.ok k hk).1
    obtain rfl := key_law.inj hkey (KL_is hok.1 hok.2)
    obtain ⟨c, rfl, hc, rfl⟩ := accE_inv hv
    have hcf : c = f k := accD_inj ((hat (accD c)).symm.trans (had.at_ k hk _))
    subst hcf
    simp [execOp, hop, hit, hrun, Result.andThen]
    exact hK' _ _ (hMore k w' cnt' hk hlk hrg hlt hgr hsz hen)
/-- a key struck -/
theorem left_strike {left : Lit → Bool} {vs : List (List Int)} {D : DataW Unit} {ks : List (List Int)} {f : List Int → LAcc} (had : AD D ks f) (h : ∀ k ∈ ks, left (KL k) = decide (k ∉ vs)) {k : List Int} (hk : k ∈ ks) :
    ∀ x ∈ ks, (left (KL x) && !(KL x).sameKey (KL k)) = decide (x ∉ k :: vs) := fun x hx => by
  have hok := (had.ok k hk).1
  have hox := (had.ok x hx).1
  rw [h x hx]
  by_cases e : x = k
  · subst e
    rw [WideAt.sameKey_self (KL_key hok.1 hok.2)]
    simp
  · rw [sameKey_ne fun e' => e (KL_inj hox.1 hox.2 hok.1 hok.2 e')]
    simp [e]
end
end Go.Proofs.Ytpkkgmmcindfgaa

/-
  Of part Math12: what is needed here.
-/
namespace Go.Proofs.Ytpkkgmmcindfgaa
set_option linter.unusedVariables false
section
variable {α : Type} [DecidableEq α]
/-- what pushes leave -/
structure Q12 (L : List α) : Prop where
  nd : L.Nodup
  few : L.length ≤ 150
end
end Go.Proofs.Ytpkkgmmcindfgaa

/-
  Of part Tail: what is needed here.
-/
namespace Go.Proofs.Ytpkkgmmcindfgaa
open Go.RowKit
set_option linter.unusedVariables false
set_option maxRecDepth 100000
section
variable {P : Program} {w : World} {o : Oper} {a : Act}
/-- where what is left of a list begins -/
def tailAt (A : Option Addr) (c k : Nat) : Option Addr := if c = k then A else A.map (·.add k)
theorem Sees.tail {B : Nat} {A : Option Addr} {n c k : Nat} {xs : List Value} (h : Sees w B A n xs) (hk : k ≤ n) (hn : n ≤ c) : Sees w B (tailAt A c k) (n - k) (xs.drop k) := by
  refine ⟨by rw [List.length_drop, h.len], fun j u hu => ?_⟩
  rw [List.getElem?_drop] at hu
  obtain ⟨ad, rfl, hb, hc⟩ := h.cell _ u hu
  have h1 := (List.getElem?_eq_some_iff.1 hu).1
  have h2 := h.len
  refine ⟨ad.add k, by unfold tailAt; rw [if_neg (by omega)]; rfl, by rw [addr_block]; exact hb, by rw [addr_add]; exact hc⟩
end
end Go.Proofs.Ytpkkgmmcindfgaa

/-
  Of part Rec12: what is needed here.
-/
namespace Go.Proofs.Ytpkkgmmcindfgaa
open Go.RowKit
set_option linter.unusedVariables false
set_option maxRecDepth 100000
/-- a variable of many cells is made -/
theorem wp_alloc_zero {P : Program} {o : Oper} {a : Act} {w : World} {K : Act → World → Prop} {Q : Exit → Act → World → Prop} (t : TypeId) (ho : o.op = .alloc t) (z : List Value)
    (hi : (P.info? t).map (·.zero) = some (some (.agg z.toArray))) (h : K (a.put o.dst (.pointer (some ⟨w.heap.size, 0, none⟩))) (w.alloc (.cells z.toArray t))) : o.wp P a w K Q := by
  cases hq : P.info? t with
  | none => simp [hq] at hi
  | some i =>
    have hz : i.zero = some (.agg z.toArray) := by simpa [hq] using hi
    unfold Oper.wp execOp
    simp [ho, Instr.alloc, zeroValue, typeInfo, hq, hz, newVar, newRow, Value.cells]
    exact h
theorem wpList_alloc_zero {P : Program} {ops : Array Oper} {rest : List Oper} {o : Oper} {a : Act} {w : World} {Q : Exit → Act → World → Prop} (hg : o.guard = none) (t : TypeId) (ho : o.op = .alloc t) (z : List Value)
    (hi : (P.info? t).map (·.zero) = some (some (.agg z.toArray))) (h : wpList P ops Q rest (a.put o.dst (.pointer (some ⟨w.heap.size, 0, none⟩))) (w.alloc (.cells z.toArray t))) : wpList P ops Q (o :: rest) a w :=
  wpList_plain hg fun K hK => wp_alloc_zero t ho z hi (hK _ _ h)
/-- a value of many cells is put into a block of its own -/
theorem wpList_box_new {P : Program} {ops : Array Oper} {rest : List Oper} {o : Oper} {a : Act} {w : World} {Q : Exit → Act → World → Prop} (hg : o.guard = none) (t : TypeId) (x : Operand) (ho : o.op = .box t x) (z : List Value)
    (hx : a.eval x = .agg z.toArray) (h : wpList P ops Q rest (a.put o.dst (.pointer (some ⟨w.heap.size, 0, none⟩))) (w.alloc (.cells z.toArray t))) : wpList P ops Q (o :: rest) a w := by
  refine wpList_plain hg fun K hK => ?_
  unfold Oper.wp execOp
  simp [ho, Instr.box, newVar, newRow, Value.cells, hx]
  exact hK _ _ h
end Go.Proofs.Ytpkkgmmcindfgaa

/-
  Of part SheetR: what is needed here.
-/
namespace Go.Proofs.Ytpkkgmmcindfgaa
open Go.RowKit
set_option linter.unusedVariables false
set_option maxRecDepth 100000
/-- a page's cells: its list, its two signs -/
def sheetC (l : Value) (h f : List Value) : List Value := l :: (h ++ f)
end Go.Proofs.Ytpkkgmmcindfgaa
