/-
  Parts joined: Mem Bits WideMul DivMath Len Div Row Sum Times Append Longer Put Msg Get Parse Whole Many Looks PutMsg Read ListV Message GetMsg SameZero IsIn RefAt BookK TwinK Enc Tx Sigs Great.
-/
import Derived.Below
import Derived.Laws.OwnMore
import Derived.Deep.AppendLies
import Derived.Deep.Draws
import Derived.Lib.Hide
import Derived.Laws.BitsAllLaws
import Derived.WalkKit
import Derived.Test.YtmpgibemmhcncaaRows
import Derived.WalkSpells
import Derived.WalkLawsBesides
import Derived.IntWalk
import Derived.Lib.Mul64
import Derived.Laws.Bits64b
import Derived.Laws.Externs
import Derived.Lib.BitFns
import Derived.Shelf.Small.Bits
import Derived.Deep.QuietTactic
import Derived.Laws.MakeOwn
import Derived.Laws.CopyOwn
import Derived.Laws.Rows
import Derived.Laws.NewBlocks
import Derived.Maps.AppendAt
import Derived.OwnWalk
import Derived.Deep.MidRow
import Derived.Deep.WholeRow
import Derived.Great.BuildSlice
import Derived.Recover
import Derived.Deep.RegionHeld
import Derived.BigQuiet
import Derived.Deep.RegionHeld2
import Derived.Deep.CutBlock
import Derived.Laws.Tables
import Derived.ChangeKeysEq
import Derived.ProofKit
import Derived.OpenShut
import Derived.ShutString
import Derived.ChangeOld
import Derived.Lib.SmallJoins
import Derived.Laws.Slices
/-
  Of part Mem: what is needed here.
-/
namespace Go.Proofs.Ytmpgibemmhcncaa
open Go.RowKit
/-- bytes (or numbers of another kind) as cells -/
def cv (k : IntKind) (zs : List Int) : List Value := zs.map (Value.int k)
def bv (zs : List Int) : List Value := cv .u8 zs
theorem cv_length (k : IntKind) (zs : List Int) : (cv k zs).length = zs.length := by simp [cv]
theorem bv_length (zs : List Int) : (bv zs).length = zs.length := cv_length _ zs
theorem bv_getElem? (zs : List Int) (i : Nat) : (bv zs)[i]? = zs[i]?.map (Value.int .u8) := by simp [bv, cv]
theorem bv_one (zs : List Int) : ∀ u ∈ bv zs, u.oneCell' = true := by
  intro u hu
  simp only [bv, cv, List.mem_map] at hu
  obtain ⟨z, _, rfl⟩ := hu
  rfl
theorem addr_block (a : Addr) (n : Nat) : (a.add n).block = a.block := by unfold Addr.add; split <;> rfl
theorem addr_add (a : Addr) (i j : Nat) : (a.add i).add j = a.add (i + j) := by
  unfold Addr.add
  rcases Nat.eq_zero_or_pos i with hi | hi <;> rcases Nat.eq_zero_or_pos j with hj | hj
  · simp [hi, hj]
  · simp [hi, show j ≠ 0 by omega]
  · simp [hj, show i ≠ 0 by omega]
  · simp [show i ≠ 0 by omega, show j ≠ 0 by omega, Nat.add_assoc]
theorem addr_row (g i j : Nat) : (⟨g, i, none⟩ : Addr).add j = ⟨g, i + j, none⟩ := by unfold Addr.add; split <;> simp_all
/-- The slice value '.slice A n c' reads as the cells xs; each cell lies below block B. -/
structure Sees (w : World) (B : Nat) (A : Option Addr) (n : Nat) (xs : List Value) : Prop where
  len : xs.length = n
  cell : ∀ i u, xs[i]? = some u → ∃ a, A = some a ∧ a.block < B ∧ w.cell? (a.add i) = some u
section
variable {w w' : World} {B B' n : Nat} {A : Option Addr} {xs : List Value}
theorem Sees.nil (w : World) (B : Nat) (A : Option Addr) : Sees w B A 0 [] := ⟨rfl, fun i u h => by simp at h⟩
theorem Sees.keep (h : Sees w B A n xs) (hk : ∀ p : Addr, p.block < B → w'.cell? p = w.cell? p) : Sees w' B A n xs :=
  ⟨h.len, fun i u hu => by
    obtain ⟨a, e, hb, hc⟩ := h.cell i u hu
    exact ⟨a, e, hb, (hk _ (by rw [addr_block]; exact hb)).trans hc⟩⟩
theorem Sees.more (h : Sees w B A n xs) (hB : B ≤ B') : Sees w B' A n xs :=
  ⟨h.len, fun i u hu => by
    obtain ⟨a, e, hb, hc⟩ := h.cell i u hu
    exact ⟨a, e, by omega, hc⟩⟩
theorem Sees.below (h : Sees w B A n xs) (hb : Below B w w') : Sees w' B A n xs := h.keep fun _ hp => hb.cell hp
theorem Sees.drew (h : Sees w B A n xs) : Sees w.drew B A n xs := ⟨h.len, h.cell⟩
theorem Sees.drewN (h : Sees w B A n xs) (k : Nat) : Sees (w.drewN k) B A n xs := ⟨h.len, h.cell⟩
theorem Sees.alloc (h : Sees w B A n xs) (hB : B ≤ w.heap.size) (o : Obj) : Sees (w.alloc o) B A n xs := h.keep fun p hp => World.cell?_alloc_lt w o p (by omega)
theorem Sees.setCell (h : Sees w B A n xs) {p : Addr} (hB : B ≤ p.block) (u : Value) : Sees (w.setCell p u) B A n xs :=
  h.keep fun q hq => World.cell?_setCell_other w p q u (fun e => by subst e; omega)
theorem Sees.at_ {k : Nat} (h : Sees w B A n xs) (hk : k < n) : ∃ a u, A = some a ∧ a.block < B ∧ xs[k]? = some u ∧ w.cell? (a.add k) = some u := by
  have hl : k < xs.length := by have := h.len; omega
  obtain ⟨a, e, hb, hc⟩ := h.cell k _ (List.getElem?_eq_getElem hl)
  exact ⟨a, _, e, hb, List.getElem?_eq_getElem hl, hc⟩
theorem Sees.of_own {base : Nat} {e : TypeId} {c : Nat} (h : w.ownsRow base e 1 (.slice A n c) n xs) : Sees w w.heap.size A n xs := by
  refine ⟨by have := h.1; omega, fun i u hu => ?_⟩
  have hl : i < xs.length := (List.getElem?_eq_some_iff.1 hu).1
  rcases h.2 with ⟨_, rfl⟩ | ⟨g, cap, cur, hv, hg, hh, hnc, _, hsz, htk⟩
  · have := h.1; omega
  · have hA : A = some ⟨g, 0, none⟩ := by injection hv
    subst hA
    exact ⟨_, rfl, (Array.getElem?_eq_some_iff.1 hh).1, h.cells (g := g) rfl i u hu⟩
end
end Go.Proofs.Ytmpgibemmhcncaa

/-
  Of part Bits: what is needed here.
-/
namespace Go.Proofs.Ytmpgibemmhcncaa
open Go.RowKit
set_option linter.unusedVariables false
theorem nat_or_add (k y x : Nat) (hy : y < 2 ^ k) (hx : x % 2 ^ k = 0) : y ||| x = y + x := by
  obtain ⟨q, rfl⟩ : 2 ^ k ∣ x := Nat.dvd_of_mod_eq_zero hx
  rw [Nat.or_comm, Nat.add_comm, Nat.two_pow_add_eq_or_of_lt hy]
section
variable (k : Nat) (y x : Int) (h0 : 0 ≤ y) (h1 : y < 2 ^ k) (h2 : 0 ≤ x) (h3 : x % 2 ^ k = 0)
include h0 h1 h2 h3
theorem pow_facts : ∃ a b : Nat, y = a ∧ x = b ∧ a ||| b = a + b := by
  obtain ⟨a, rfl⟩ := Int.eq_ofNat_of_zero_le h0
  obtain ⟨b, rfl⟩ := Int.eq_ofNat_of_zero_le h2
  exact ⟨a, b, rfl, rfl, nat_or_add k a b (by exact_mod_cast h1) (by exact_mod_cast h3)⟩
end
end Go.Proofs.Ytmpgibemmhcncaa

/-
  Of part WideMul: what is needed here.
-/
namespace Go.Proofs.Ytmpgibemmhcncaa
open Go.RowKit
set_option linter.unusedVariables false
/-- a number of 64 bits -/
def Word (x : Int) : Prop := 0 ≤ x ∧ x < 18446744073709551616
theorem Word.nat {x : Int} (h : Word x) : ∃ n : Nat, x = n ∧ n < 18446744073709551616 := ⟨x.toNat, by have := h.1; omega, by have := h.1; have := h.2; omega⟩
theorem word_mod (x : Int) : Word (x % 18446744073709551616) := ⟨by omega, by omega⟩
theorem word_lit {x : Int} (h : 0 ≤ x) (h' : x < 18446744073709551616) : Word x := ⟨h, h'⟩
/-- The product of two words, over two words -/
theorem word_prod {a b : Int} (ha : Word a) (hb : Word b) : 0 ≤ a * b ∧ a * b ≤ 18446744073709551615 * 18446744073709551615 := by
  obtain ⟨a0, a1⟩ := ha
  obtain ⟨b0, b1⟩ := hb
  exact ⟨Int.mul_nonneg a0 b0, Int.mul_le_mul (by omega) (by omega) b0 (by omega)⟩
theorem word_hi {a b : Int} (ha : Word a) (hb : Word b) : Word (a * b / 18446744073709551616) := by
  have := word_prod ha hb
  exact ⟨by omega, by omega⟩
theorem low32 (n : Nat) (h : n < 18446744073709551616) : bits .and .u64 (n : Int) 4294967295 = ((n % 4294967296 : Nat) : Int) := by
  have e := bits_and_u64_nat n 4294967295 h (by omega)
  rw [show n &&& 4294967295 = n % 4294967296 from Nat.and_two_pow_sub_one_eq_mod n 32] at e
  exact e
theorem up32 (n : Nat) : (n : Int) / 4294967296 = ((n / 4294967296 : Nat) : Int) := by omega
theorem in64 (n : Nat) (h : n < 18446744073709551616) : IntKind.u64.wrap (n : Int) = n := by rw [IntKind.wrap_u64]; omega
theorem lo64 (n : Nat) : IntKind.u64.wrap (n : Int) = ((n % 18446744073709551616 : Nat) : Int) := by rw [IntKind.wrap_u64]; omega
theorem pair64 {a b c d : Int} (h : a = c) (h' : b = d) : Ending.returned (.tuple #[.int .u64 a, .int .u64 b]) = .returned (.tuple #[.int .u64 c, .int .u64 d]) := by rw [h, h']
set_option maxHeartbeats 1000000 in
theorem bitsMul64 (a b : Int) (ha : Word a) (hb : Word b) (w : World) :
    Calls Try.prog 27 #[.int .u64 a, .int .u64 b] w fun e w' => e = .returned (.tuple #[.int .u64 (a * b / 18446744073709551616), .int .u64 (a * b % 18446744073709551616)]) ∧ w = w' := by
  obtain ⟨x, rfl, hx⟩ := ha.nat
  obtain ⟨y, rfl, hy⟩ := hb.nat
  obtain ⟨m1, m2, m3, m4⟩ := Lib.mul64_hi x y hx hy
  have l1 := Lib.half_mul_le (a := x / 4294967296) (b := y / 4294967296) (by omega) (by omega)
  have l2 := Lib.half_mul_le (a := x / 4294967296) (b := y % 4294967296) (by omega) (by omega)
  have l3 := Lib.half_mul_le (a := x % 4294967296) (b := y / 4294967296) (by omega) (by omega)
  have hq : x * y / 18446744073709551616 < 18446744073709551616 := by
    have : x * y ≤ 18446744073709551615 * 18446744073709551615 := Nat.mul_le_mul (by omega) (by omega)
    omega
  have n1 : x / 4294967296 * (y / 4294967296) < 18446744073709551616 := by omega
  have n2 : x / 4294967296 * (y % 4294967296) < 18446744073709551616 := by omega
  have n3 : x % 4294967296 * (y / 4294967296) < 18446744073709551616 := by omega
  have n4 : x / 4294967296 * (y / 4294967296) + (x / 4294967296 * (y % 4294967296) + x % 4294967296 * (y % 4294967296) / 4294967296) / 4294967296 < 18446744073709551616 := by omega
  have n5 := m4 ▸ hq
  have E := Lib.hid m4
  clear m4 ha hb
  go_enter Try.func27, Try.ntmps27
  go_wp2
  simp only [low32 x hx, low32 y hy, up32, ← Int.natCast_mul, ← Int.natCast_add, in64 _ m1, in64 _ m2, in64 _ n2, low32 _ m2, in64 _ n3, in64 _ m3, in64 _ n1, in64 _ n4, in64 _ n5, lo64 (x * y)]
  rw [E.out]
  go_ret2
  exact ⟨pair64 (a := ((x * y / 18446744073709551616 : Nat) : Int)) (b := ((x * y % 18446744073709551616 : Nat) : Int)) (by omega) (by omega), rfl⟩
theorem mul_ (a b : Int) (ha : Word a) (hb : Word b) (w : World) :
    Calls Try.prog 24 #[.int .u64 a, .int .u64 b] w fun e w' => e = .returned (.tuple #[.int .u64 (a * b / 18446744073709551616), .int .u64 (a * b % 18446744073709551616)]) ∧ w = w' := by
  have C := fun w => bitsMul64 a b ha hb w
  generalize a * b / 18446744073709551616 = h at *
  generalize a * b % 18446744073709551616 = l at *
  go_enter Try.func24, Try.ntmps24
  go_wp2_with fail
  refine (C _).mono ?_
  rintro e w1 ⟨rfl, rfl⟩
  go_wp2
  go_ret2
  exact ⟨rfl, rfl⟩
/-- math/bits.Add64 with no carry coming in -/
theorem add64 (x y : Int) (hx : Word x) (hy : Word y) (w : World) :
    (callFunc 19 #[.int .u64 x, .int .u64 y, .int .u64 0]).run Try.prog w =
      .ok (.value (.tuple #[.int .u64 ((x + y) % 18446744073709551616), .int .u64 ((x + y) / 18446744073709551616)])) w := by
  rw [run_callFunc_extern Try.func19 (by kernel_rfl) (by kernel_rfl) (by kernel_rfl) (e := add64Entry) (by kernel_rfl), run_add64 x y 0 hx.1 hy.1 (by omega) (by omega)]
  simp [Result.andThen]
end Go.Proofs.Ytmpgibemmhcncaa

/-
  Of part DivMath: what is needed here.
-/
namespace Go.Proofs.Ytmpgibemmhcncaa
open Go
set_option linter.unusedVariables false
theorem bitLen_hi : ∀ (k x : Nat), x < 2 ^ k → x < 2 ^ 64 → x < 2 ^ Lib.bitLen x
  | 0, x, h, _ => by
      have : x = 0 := by omega
      subst this; decide
  | k + 1, x, h, h' => by
      by_cases h0 : x = 0
      · subst h0; decide
      · rw [Lib.bitLen_half x h0 h']
        have := bitLen_hi k (x / 2) (by rw [Nat.pow_succ] at h; omega) (by omega)
        rw [Nat.add_comm, Nat.pow_succ]; omega
theorem bitLen_lo : ∀ (k x : Nat), x < 2 ^ k → x < 2 ^ 64 → 0 < x → 2 ^ Lib.bitLen x ≤ 2 * x
  | 0, x, h, _, h0 => by omega
  | k + 1, x, h, h', h0 => by
      rw [Lib.bitLen_half x (by omega) h']
      by_cases h1 : x = 1
      · subst h1; decide
      · have := bitLen_lo k (x / 2) (by rw [Nat.pow_succ] at h; omega) (by omega) (by omega)
        rw [Nat.add_comm, Nat.pow_succ]; omega
/-- the shift that brings a number's highest bit to the top -/
theorem shift_top (y : Nat) (h0 : 0 < y) (h1 : y < 2 ^ 64) : ∃ s : Nat, s ≤ 63 ∧ Lib.bitLen y = 64 - s ∧ 2 ^ 63 ≤ y * 2 ^ s ∧ y * 2 ^ s < 2 ^ 64 := by
  have a := bitLen_hi 64 y h1 h1
  have b := bitLen_lo 64 y h1 h1 h0
  have c := Lib.bitLen_le y 64 (by omega) h1
  have d : 1 ≤ Lib.bitLen y := by
    rcases Nat.eq_zero_or_pos (Lib.bitLen y) with h | h
    · rw [h] at a; omega
    · exact h
  generalize Lib.bitLen y = n at *
  have e : 2 ^ n * 2 ^ (64 - n) = 2 ^ 64 := by rw [← Nat.pow_add]; congr 1; omega
  refine ⟨64 - n, by omega, by omega, ?_, ?_⟩
  · have := Nat.mul_le_mul_right (2 ^ (64 - n)) b
    rw [e, Nat.mul_assoc] at this
    omega
  · have p : 0 < 2 ^ (64 - n) := Nat.pow_pos (by omega)
    have := Nat.mul_lt_mul_of_pos_right a p
    omega
section
variable {u v d v1 v0 : Int} (hu : 0 ≤ u) (huv : u < v) (hd : 0 ≤ d) (hd' : d < 4294967296) (hv : 9223372036854775808 ≤ v) (hv' : v < 18446744073709551616) (e1 : v1 = v / 4294967296) (e0 : v0 = v % 4294967296)
/-- the digit -/
def digit (u v d : Int) : Int := (u * 4294967296 + d) / v
include hu huv hd hd' hv in
theorem digit_in : 0 ≤ digit u v d ∧ digit u v d < 4294967296 := by
  unfold digit
  refine ⟨Int.ediv_nonneg (by omega) (by omega), ?_⟩
  exact Int.ediv_lt_of_lt_mul (by omega) (by omega)
include hv in
theorem digit_le {q : Int} (h : q * v ≤ u * 4294967296 + d) : q ≤ digit u v d := Int.le_ediv_of_mul_le (by omega) h
include hv in
theorem digit_ge : digit u v d * v ≤ u * 4294967296 + d := Int.ediv_mul_le _ (by omega)
include e1 e0 in
theorem halves (q : Int) : q * v = q * v1 * 4294967296 + q * v0 := by
  have : v = v1 * 4294967296 + v0 := by omega
  rw [this, Int.mul_add, ← Int.mul_assoc]
/-- what a guess q and its rest r keep -/
structure Guess (u v d v1 q r : Int) : Prop where
  eq : q * v1 + r = u
  up : digit u v d ≤ q
  r0 : 0 ≤ r
  r1 : r < 4294967296
  q0 : 0 ≤ q
  q1 : q ≤ 4294967297
include hu huv hd hd' hv hv' e1 e0 in
theorem Guess.first : Guess u v d v1 (u / v1) (u % v1) := by
  have p : 0 < v1 := by omega
  have e := Int.mul_ediv_add_emod u v1
  have a := Int.emod_nonneg u (show v1 ≠ 0 by omega)
  have b := Int.emod_lt_of_pos u p
  have q0 : 0 ≤ u / v1 := Int.ediv_nonneg hu (by omega)
  refine ⟨by rw [Int.mul_comm]; exact e, ?_, a, by omega, q0, ?_⟩
  · have h := digit_ge (u := u) (d := d) hv
    rw [halves e1 e0] at h
    have hq := (digit_in hu huv hd hd' hv).1
    generalize digit u v d = q at *
    refine Int.le_ediv_of_mul_le p ?_
    have z : 0 ≤ q * v0 := Int.mul_nonneg hq (by omega)
    omega
  · have : u / v1 < 4294967298 := Int.ediv_lt_of_lt_mul p (by omega)
    omega
include hv e1 e0 in
/-- the guess is good -/
theorem Guess.done {q r : Int} (g : Guess u v d v1 q r) (h : q * v0 ≤ 4294967296 * r + d) : q = digit u v d := by
  have hq := g.eq; have hup := g.up
  refine Int.le_antisymm (digit_le hv ?_) hup
  rw [halves e1 e0]
  generalize q * v1 = a at *
  omega
include hu huv hd hd' hv e1 e0 in
/-- the guess is too big -/
theorem Guess.big {q r : Int} (g : Guess u v d v1 q r) (h : 4294967296 ≤ q ∨ 4294967296 * r + d < q * v0) : digit u v d ≤ q - 1 := by
  have hq := g.eq; have hup := g.up
  rcases h with h | h
  · have := (digit_in hu huv hd hd' hv).2
    omega
  · have h2 := digit_ge (u := u) (d := d) hv
    by_cases c : digit u v d = q
    · rw [c, halves e1 e0] at h2
      generalize q * v1 = a at *
      omega
    · omega
include hu huv hd hd' hv hv' e1 e0 in
theorem Guess.next {q r : Int} (g : Guess u v d v1 q r) (h : 4294967296 ≤ q ∨ 4294967296 * r + d < q * v0) (hr : r + v1 < 4294967296) : Guess u v d v1 (q - 1) (r + v1) := by
  have hb := g.big hu huv hd hd' hv e1 e0 h
  have hi := (digit_in hu huv hd hd' hv).1
  have := g.eq; have := g.r0; have := g.q1
  refine ⟨?_, hb, by omega, hr, by omega, by omega⟩
  rw [Int.sub_mul, Int.one_mul]; omega
include hu huv hd hd' hv e1 e0 in
theorem Guess.out {q r : Int} (g : Guess u v d v1 q r) (h : 4294967296 ≤ q ∨ 4294967296 * r + d < q * v0) (hr : 4294967296 ≤ r + v1) : q - 1 = digit u v d := by
  have hb := g.big hu huv hd hd' hv e1 e0 h
  have hi := (digit_in hu huv hd hd' hv).1
  have hq := g.eq; have := g.r0; have := g.q1
  refine Int.le_antisymm (digit_le hv ?_) hb
  rw [halves e1 e0]
  have z : (q - 1) * v0 ≤ 4294967296 * 4294967295 := Int.mul_le_mul (by omega) (by omega) (by omega) (by omega)
  have w : (q - 1) * v1 = q * v1 - v1 := by rw [Int.sub_mul, Int.one_mul]
  rw [w]
  generalize q * v1 = a at *
  omega
include e0 in
/-- the products of the test don't wrap -/
theorem Guess.fit {q r : Int} (g : Guess u v d v1 q r) (h : q < 4294967296) : 0 ≤ q * v0 ∧ q * v0 < 18446744073709551616 := by
  have := g.q0
  refine ⟨Int.mul_nonneg (by omega) (by omega), ?_⟩
  have z : q * v0 ≤ 4294967295 * 4294967295 := Int.mul_le_mul (by omega) (by omega) (by omega) (by omega)
  omega
/-- what is left behind the digit -/
def left (u v d : Int) : Int := (u * 4294967296 + d) % v
include hv in
theorem left_in : 0 ≤ left u v d ∧ left u v d < v := ⟨Int.emod_nonneg _ (by omega), Int.emod_lt_of_pos _ (by omega)⟩
theorem left_eq : u * 4294967296 + d - digit u v d * v = left u v d := by
  have := Int.mul_ediv_add_emod (u * 4294967296 + d) v
  unfold digit left
  rw [Int.mul_comm v] at this
  omega
end
/-- the two digits together, and what is left, are the quotient and the rest -/
theorem two_digits {hi lo y : Int} {s : Nat} (h0 : 0 ≤ hi) (h1 : hi < y) (l0 : 0 ≤ lo) (l1 : lo < 18446744073709551616) {u v d e : Int} (hv : v = y * 2 ^ s) (hde : u * 18446744073709551616 + d * 4294967296 + e = (hi * 18446744073709551616 + lo) * 2 ^ s)
    (hu : 0 ≤ u) (huv : u < v) (hd : 0 ≤ d) (hd' : d < 4294967296) (he : 0 ≤ e) (he' : e < 4294967296) (hv9 : 9223372036854775808 ≤ v) :
    digit u v d * 4294967296 + digit (left u v d) v e = (hi * 18446744073709551616 + lo) / y ∧ left (left u v d) v e / 2 ^ s = (hi * 18446744073709551616 + lo) % y := by
  have a := left_eq (u := u) (v := v) (d := d)
  have b := left_eq (u := left u v d) (v := v) (d := e)
  have i1 := left_in (u := u) (d := d) hv9
  have i2 := left_in (u := left u v d) (d := e) hv9
  have dq := digit_in hu huv hd hd' hv9
  have dq' := digit_in i1.1 i1.2 he he' hv9
  generalize left (left u v d) v e = r2 at *
  generalize left u v d = r1 at *
  generalize digit u v d = q1 at *
  generalize digit r1 v e = q0 at *
  have p : (0 : Int) < 2 ^ s := Int.pow_pos (by omega)
  have t : (hi * 18446744073709551616 + lo) * 2 ^ s = (q1 * 4294967296 + q0) * v + r2 := by
    rw [← hde, Int.add_mul, Int.mul_right_comm]
    generalize q1 * v = g at *
    generalize q0 * v = g' at *
    omega
  generalize hi * 18446744073709551616 + lo = N at *
  generalize q1 * 4294967296 + q0 = Q at *
  subst hv
  have t2 : r2 = (N - Q * y) * 2 ^ s := by rw [Int.sub_mul, Int.mul_assoc]; omega
  have y0 : 0 < y := by omega
  have k0 : 0 ≤ N - Q * y := by
    apply Int.le_of_not_gt
    intro h
    have : (N - Q * y) * 2 ^ s < 0 := Int.mul_neg_of_neg_of_pos h p
    omega
  have k1 : N - Q * y < y := by
    apply Int.lt_of_mul_lt_mul_right _ (Int.le_of_lt p)
    omega
  have e1 : N = (N - Q * y) + y * Q := by rw [Int.mul_comm y]; omega
  constructor
  · rw [e1, Int.add_mul_ediv_left _ _ (by omega), Int.ediv_eq_zero_of_lt k0 k1]; omega
  · rw [t2, Int.mul_ediv_cancel _ (by omega)]
    rw [e1, Int.add_mul_emod_self_left]
    rw [← e1]
    exact (Int.emod_eq_of_lt k0 k1).symm
end Go.Proofs.Ytmpgibemmhcncaa

/-
  Of part Len: what is needed here.
-/
namespace Go.Proofs.Ytmpgibemmhcncaa
open Go.RowKit
set_option linter.unusedVariables false
def lzRen : Go.Shelf.Ren := ⟨fun | 134 => 28 | 129 => 29 | n => n, fun | 53 => 34 | 3 => 3 | 4 => 4 | 46 => 64 | 5 => 5 | 9 => 9 | n => n, fun | n => n⟩
theorem lzLays : Go.Proofs.Lays.n134 Try.prog lzRen := {
  mixed := by kernel_rfl
  f129 := Try.func29.trans (congrArg some (by kernel_rfl))
  f134 := Try.func28.trans (congrArg some (by kernel_rfl))
  t3 := Try.underlying3
  a3 := Try.isAgg3
  z3 := Try.sizeOf3
  v3 := Try.zeroValue3
  t4 := Try.underlying4
  a4 := Try.isAgg4
  z4 := Try.sizeOf4
  v4 := Try.zeroValue4
  t5 := Try.underlying5
  a5 := Try.isAgg5
  z5 := Try.sizeOf5
  v5 := Try.zeroValue5
  t9 := Try.underlying9
  a9 := Try.isAgg9
  z9 := Try.sizeOf9
  v9 := Try.zeroValue9
  t46 := Try.underlying64
  a46 := Try.isAgg64
  z46 := Try.sizeOf64
  v46 := Try.zeroValue64
  t53 := Try.underlying34
  a53 := Try.isAgg34
  z53 := Try.sizeOf34
  v53 := Try.zeroValue34 }
/-- how far y is to be moved up -/
theorem leading (y : Int) (h0 : 0 < y) (h1 : y < 18446744073709551616) : ∃ s : Nat, s ≤ 63 ∧ 9223372036854775808 ≤ y * 2 ^ s ∧ y * 2 ^ s < 18446744073709551616 ∧
    ∀ w, Calls Try.prog 28 #[.int .u64 y] w fun e w' => e = .returned (.int .i64 s) ∧ w = w' := by
  obtain ⟨x, rfl⟩ := Int.eq_ofNat_of_zero_le (Int.le_of_lt h0)
  obtain ⟨s, a, b, c, d⟩ := shift_top x (by omega) (by omega)
  have e : (x : Int) * 2 ^ s = ((x * 2 ^ s : Nat) : Int) := by simp
  refine ⟨s, a, by rw [e]; omega, by rw [e]; omega, fun w => ?_⟩
  refine (Any.bits_LeadingZeros64 lzLays x w (by omega) (by omega)).mono ?_
  rintro e' w' ⟨rfl, rfl⟩
  refine ⟨?_, rfl⟩
  have : 64 - ((Lib.bitLen ((x : Int).toNat) : Nat) : Int) = s := by
    rw [Int.toNat_natCast]; omega
  rw [this]
end Go.Proofs.Ytmpgibemmhcncaa

/-
  Of part Div: what is needed here.
-/
namespace Go.Proofs.Ytmpgibemmhcncaa
open Go.RowKit
set_option linter.unusedVariables false
theorem u64_or_hi (k : Nat) (y x : Int) (h0 : 0 ≤ y) (h1 : y < 2 ^ k) (h2 : 0 ≤ x) (h3 : x % 2 ^ k = 0) (hy : y < 18446744073709551616) (hx : x < 18446744073709551616) : bits .or .u64 x y = x + y := by
  obtain ⟨a, b, rfl, rfl, h⟩ := pow_facts k y x h0 h1 h2 h3
  rw [u64_or_nat b a (by omega) (by omega), Nat.or_comm, h]; simp; omega
theorem u64_low (x : Int) (h : Word x) : bits .and .u64 x 4294967295 = x % 4294967296 := by
  obtain ⟨n, rfl, hn⟩ := h.nat
  rw [low32 n hn]; omega
theorem w64 {x : Int} (h0 : 0 ≤ x) (h1 : x < 18446744073709551616) : IntKind.u64.wrap x = x := by rw [IntKind.wrap_u64]; omega
/-- the pieces that Div64 works on: u and l the moved number's words, v the moved divisor -/
structure Pieces (hi lo y : Int) (s : Nat) (u v v1 v0 l d e : Int) : Prop where
  iv : v = y * 2 ^ s
  v9 : 9223372036854775808 ≤ v
  vw : v < 18446744073709551616
  i1 : v1 = v / 4294967296
  i0 : v0 = v % 4294967296
  u0 : 0 ≤ u
  uv : u < v
  d0 : 0 ≤ d
  d1 : d < 4294967296
  e0 : 0 ≤ e
  e1 : e < 4294967296
  all : u * 18446744073709551616 + d * 4294967296 + e = (hi * 18446744073709551616 + lo) * 2 ^ s
theorem pieces {hi lo y : Int} {s : Nat} (hh : 0 ≤ hi) (hl : Word lo) (h : hi < y) (hs : s ≤ 63) (top : 9223372036854775808 ≤ y * 2 ^ s) (top' : y * 2 ^ s < 18446744073709551616) :
    ∃ u v v1 v0 l d e, IntKind.u64.wrap (y * 2 ^ s) = v ∧ v / 4294967296 = v1 ∧ bits .and .u64 v 4294967295 = v0 ∧ bits .or .u64 (IntKind.u64.wrap (hi * 2 ^ s)) (lo / 2 ^ (64 - s)) = u ∧
      IntKind.u64.wrap (lo * 2 ^ s) = l ∧ l / 4294967296 = d ∧ bits .and .u64 l 4294967295 = e ∧ Pieces hi lo y s u v v1 v0 l d e := by
  have p : (0 : Int) < 2 ^ s := Int.pow_pos (by omega)
  have p' : (0 : Int) < 2 ^ (64 - s) := Int.pow_pos (by omega)
  have pp : (2 : Int) ^ (64 - s) * 2 ^ s = 18446744073709551616 := by
    rw [← Int.pow_add, show 64 - s + s = 64 by omega]; rfl
  have a0 : 0 ≤ hi * 2 ^ s := Int.mul_nonneg hh (Int.le_of_lt p)
  have a1 : hi * 2 ^ s < y * 2 ^ s := Int.mul_lt_mul_of_pos_right h p
  have b0 : 0 ≤ lo / 2 ^ (64 - s) := Int.ediv_nonneg hl.1 (Int.le_of_lt p')
  have b1 : lo / 2 ^ (64 - s) < 2 ^ s := Int.ediv_lt_of_lt_mul p' (by rw [Int.mul_comm, pp]; exact hl.2)
  have b2 : (2 : Int) ^ s ≤ 9223372036854775808 := by
    have : (2 : Nat) ^ s ≤ 2 ^ 63 := Nat.pow_le_pow_right (by omega) hs
    have e : ((2 ^ s : Nat) : Int) = (2 : Int) ^ s := by simp
    omega
  have c0 : lo * 2 ^ s / 18446744073709551616 = lo / 2 ^ (64 - s) := by
    rw [← pp]; exact Int.mul_ediv_mul_of_pos_left _ _ p
  have c1 := Int.mul_ediv_add_emod (lo * 2 ^ s) 18446744073709551616
  rw [c0] at c1
  have o := u64_or_hi s (lo / 2 ^ (64 - s)) (hi * 2 ^ s) b0 b1 a0 (Int.mul_emod_left _ _) (by omega) (by omega)
  refine ⟨_, y * 2 ^ s, _, _, lo * 2 ^ s % 18446744073709551616, _, _, w64 (by omega) top', rfl, u64_low _ ⟨by omega, top'⟩, by rw [w64 a0 (by omega), o], by rw [IntKind.wrap_u64], rfl, u64_low _ (word_mod _), ?_⟩
  have k : hi * 2 ^ s + 2 ^ s ≤ y * 2 ^ s := by
    have := Int.mul_le_mul_of_nonneg_right (show hi + 1 ≤ y by omega) (Int.le_of_lt p)
    rw [Int.add_mul, Int.one_mul] at this
    exact this
  have all : (hi * 18446744073709551616 + lo) * 2 ^ s = hi * 2 ^ s * 18446744073709551616 + lo * 2 ^ s := by
    rw [Int.add_mul, Int.mul_right_comm]
  refine ⟨rfl, top, top', rfl, rfl, by omega, by omega, by omega, by omega, by omega, by omega, ?_⟩
  rw [all]
  generalize hi * 2 ^ s = A at *
  generalize lo * 2 ^ s = B at *
  omega
/-- the first guess, as the program makes it -/
theorem first_guess {u v v1 v0 d : Int} (hu : 0 ≤ u) (huv : u < v) (hd : 0 ≤ d) (hd' : d < 4294967296) (hv : 9223372036854775808 ≤ v) (hv' : v < 18446744073709551616) (e1 : v1 = v / 4294967296) (e0 : v0 = v % 4294967296) :
    ∃ q r, IntKind.u64.wrap (u.tdiv v1) = q ∧ IntKind.u64.wrap (u - IntKind.u64.wrap (q * v1)) = r ∧ Guess u v d v1 q r := by
  have g := Guess.first hu huv hd hd' hv hv' e1 e0
  refine ⟨_, _, rfl, rfl, ?_⟩
  have h := g.eq; have q0 := g.q0; have q1 := g.q1; have r0 := g.r0; have r1 := g.r1
  rw [Int.tdiv_eq_ediv_of_nonneg hu, w64 q0 (by omega), w64 (x := u / v1 * v1) (by have := Int.mul_nonneg q0 (show 0 ≤ v1 by omega); exact this) (by omega), show u - u / v1 * v1 = u % v1 by omega, w64 r0 (by omega)]
  exact g
/-- what the program makes out of the two digits -/
theorem endgame {hi lo y : Int} {s : Nat} {u v v1 v0 l d e : Int} (P : Pieces hi lo y s u v v1 v0 l d e) (hh : 0 ≤ hi) (hl : Word lo) (h : hi < y) :
    ∃ D U D' q' r', D = digit u v d ∧ D' = digit U v e ∧ IntKind.u64.wrap (IntKind.u64.wrap (IntKind.u64.wrap (u * 4294967296) + d) - IntKind.u64.wrap (D * v)) = U ∧ 0 ≤ U ∧ U < v ∧
      IntKind.u64.wrap (U.tdiv v1) = q' ∧ IntKind.u64.wrap (U - IntKind.u64.wrap (q' * v1)) = r' ∧ Guess U v e v1 q' r' ∧
      IntKind.u64.wrap (IntKind.u64.wrap (D * 4294967296) + D') = (hi * 18446744073709551616 + lo) / y ∧
      IntKind.u64.wrap (IntKind.u64.wrap (IntKind.u64.wrap (U * 4294967296) + e) - IntKind.u64.wrap (D' * v)) / 2 ^ s = (hi * 18446744073709551616 + lo) % y := by
  have a := left_eq (u := u) (v := v) (d := d)
  have i := left_in (u := u) (d := d) P.v9
  have dq := digit_in P.u0 P.uv P.d0 P.d1 P.v9
  obtain ⟨q', r', hq, hr, G⟩ := first_guess i.1 i.2 P.e0 P.e1 P.v9 P.vw P.i1 P.i0
  obtain ⟨f1, f2⟩ := two_digits hh h hl.1 hl.2 P.iv P.all P.u0 P.uv P.d0 P.d1 P.e0 P.e1 P.v9
  have b := left_eq (u := left u v d) (v := v) (d := e)
  have j := left_in (u := left u v d) (d := e) P.v9
  have dq' := digit_in i.1 i.2 P.e0 P.e1 P.v9
  have vw := P.vw
  refine ⟨_, left u v d, _, q', r', rfl, rfl, ?_, i.1, i.2, hq, hr, G, ?_, ?_⟩
  · simp only [IntKind.wrap_u64]
    generalize digit u v d * v = x at *
    omega
  · rw [← f1]
    simp only [IntKind.wrap_u64]
    omega
  · rw [← f2]
    congr 1
    simp only [IntKind.wrap_u64]
    generalize digit (left u v d) v e * v = x at *
    omega
set_option maxHeartbeats 4000000 in
set_option maxRecDepth 100000 in
theorem div64_low (lo y : Int) (hl : Word lo) (hy : Word y) (h : 0 < y) (w : World) :
    Calls Try.prog 25 #[.int .u64 0, .int .u64 lo, .int .u64 y] w fun e w' => e = .returned (.tuple #[.int .u64 (lo / y), .int .u64 (lo % y)]) ∧ ∃ k, w' = w.drewN k := by
  have n0 : (y == 0) = false := by simp; omega
  have n1 : ¬ y = 0 := by omega
  have n2 : ¬ y ≤ 0 := by omega
  have q0 := Int.ediv_nonneg hl.1 hy.1
  have q1 : lo / y ≤ lo := Int.ediv_le_self _ hl.1
  have E1 : IntKind.u64.wrap (lo.tdiv y) = lo / y := by rw [Int.tdiv_eq_ediv_of_nonneg hl.1, w64 q0 (by have := hl.2; omega)]
  generalize lo / y = q at *
  go_enter Try.func25, Try.ntmps25
  go_wp2
  go_region
  all_goals (go_wp2; go_ret2; exact ⟨rfl, 1, rfl⟩)
set_option maxHeartbeats 4000000 in
set_option maxRecDepth 100000 in
theorem div64_high (hi lo y : Int) (hh : Word hi) (hl : Word lo) (hy : Word y) (h : hi < y) (h0 : 0 < hi) (w : World) :
    Calls Try.prog 25 #[.int .u64 hi, .int .u64 lo, .int .u64 y] w fun e w' => e = .returned (.tuple #[.int .u64 ((hi * 18446744073709551616 + lo) / y), .int .u64 ((hi * 18446744073709551616 + lo) % y)]) ∧ ∃ k, w' = w.drewN k := by
  obtain ⟨s, hs, top, top', hlz⟩ := leading y (by omega) hy.2
  obtain ⟨u, v, v1, v0, l, d, e, hV, hV1, hV0, hU, hL, hDd, hE, P⟩ := pieces hh.1 hl h hs top top'
  have z1 : ¬ v1 = 0 := by have := P.i1; have := P.v9; omega
  obtain ⟨q, r, hq, hr, G⟩ := first_guess P.u0 P.uv P.d0 P.d1 P.v9 P.vw P.i1 P.i0
  obtain ⟨D, U, D', q', r', hDa, hDb, hU2, U0, U1, hq', hr', G', hF1, hF2⟩ := endgame P hh.1 hl h
  have hD' := Lib.hid hDa
  have hE' := Lib.hid hDb
  clear hDa hDb
  have n0 : (y == 0) = false := by simp; omega
  have n1 : (hi == 0) = false := by simp; omega
  have n2 : ¬ y ≤ hi := by omega
  generalize (hi * 18446744073709551616 + lo) / y = QQ at *
  generalize (hi * 18446744073709551616 + lo) % y = RR at *
  clear top top'
  go_enter Try.func25, Try.ntmps25
  go_wp2_with fail
  refine (hlz _).mono ?_
  rintro e w1 ⟨rfl, rfl⟩
  go_wp2_with fail
  go_loop [15, 16] (fun a b => ∃ m n : Int, a = .int .u64 m ∧ b = .int .u64 n ∧ Guess u v d v1 m n) (fun a _ => (intOf a).toNat)
  case atStart => exact ⟨_, _, rfl, rfl, G⟩
  case round =>
    obtain ⟨m, n, rfl, rfl, g⟩ := hrel
    have g0 := g.q0; have g1 := g.q1; have g2 := g.r0; have g3 := g.r1; have p0 := P.i1; have p1 := P.v9; have p2 := P.vw; have p3 := P.d0; have p4 := P.d1
    have T : (4294967296 ≤ m ∨ (m < 4294967296 ∧ 4294967296 * n + d < m * v0)) ∨ (m < 4294967296 ∧ m * v0 ≤ 4294967296 * n + d) := by omega
    have X2 : IntKind.u64.wrap (n + v1) = n + v1 := w64 (by omega) (by omega)
    have X3 : IntKind.u64.wrap (4294967296 * n) = 4294967296 * n := w64 (by omega) (by omega)
    have X4 : IntKind.u64.wrap (4294967296 * n + d) = 4294967296 * n + d := w64 (by omega) (by omega)
    rcases T with T | ⟨T1, T2⟩
    · have TT : 4294967296 ≤ m ∨ 4294967296 * n + d < m * v0 := by omega
      have gb := g.big P.u0 P.uv P.d0 P.d1 P.v9 P.i1 P.i0 TT
      have gd := digit_in P.u0 P.uv P.d0 P.d1 P.v9
      have X1 : IntKind.u64.wrap (m - 1) = m - 1 := w64 (by omega) (by omega)
      by_cases R : 4294967296 ≤ n + v1
      · have go := g.out P.u0 P.uv P.d0 P.d1 P.v9 P.i1 P.i0 TT R
        have X6 : m < 4294967296 → _ := g.fit P.i0
        rw [← hD'.out] at go gb gd
        replace X1 := X1.trans go
        clear go gb gd TT g p0 p1 p2 p3 p4 g0 g1 g2 g3
        rcases T with T | ⟨T1, T2⟩
        · clear X3 X4
          go_wp2_with fail
          go_loop [18, 16] (fun a b => ∃ m n : Int, a = .int .u64 m ∧ b = .int .u64 n ∧ Guess U v e v1 m n) (fun a _ => (intOf a).toNat)
          case atStart => exact ⟨_, _, rfl, rfl, G'⟩
          case round =>
            obtain ⟨m, n, rfl, rfl, g⟩ := hrel
            have g0 := g.q0; have g1 := g.q1; have g2 := g.r0; have g3 := g.r1; have p0 := P.i1; have p1 := P.v9; have p2 := P.vw; have p3 := P.e0; have p4 := P.e1
            have T : (4294967296 ≤ m ∨ (m < 4294967296 ∧ 4294967296 * n + e < m * v0)) ∨ (m < 4294967296 ∧ m * v0 ≤ 4294967296 * n + e) := by omega
            have X2 : IntKind.u64.wrap (n + v1) = n + v1 := w64 (by omega) (by omega)
            have X3 : IntKind.u64.wrap (4294967296 * n) = 4294967296 * n := w64 (by omega) (by omega)
            have X4 : IntKind.u64.wrap (4294967296 * n + e) = 4294967296 * n + e := w64 (by omega) (by omega)
            rcases T with T | ⟨T1, T2⟩
            · have TT : 4294967296 ≤ m ∨ 4294967296 * n + e < m * v0 := by omega
              have gb := g.big U0 U1 P.e0 P.e1 P.v9 P.i1 P.i0 TT
              have gd := digit_in U0 U1 P.e0 P.e1 P.v9
              have X1 : IntKind.u64.wrap (m - 1) = m - 1 := w64 (by omega) (by omega)
              by_cases R : 4294967296 ≤ n + v1
              · have go := g.out U0 U1 P.e0 P.e1 P.v9 P.i1 P.i0 TT R
                have X6 : m < 4294967296 → _ := g.fit P.i0
                rw [← hE'.out] at go gb gd
                replace X1 := X1.trans go
                clear go gb gd TT g p0 p1 p2 p3 p4 g0 g1 g2 g3
                rcases T with T | ⟨T1, T2⟩
                · clear X3 X4
                  go_wp2_with fail
                  go_ret2
                  exact ⟨rfl, 0, rfl⟩
                · replace X6 := X6 T1
                  have X5 : IntKind.u64.wrap (m * v0) = m * v0 := w64 X6.1 X6.2
                  clear X6
                  have T3 : ¬ 4294967296 ≤ m := by omega
                  clear T1
                  go_wp2_with fail
                  go_ret2
                  exact ⟨rfl, 0, rfl⟩
              · have g' := g.next U0 U1 P.e0 P.e1 P.v9 P.vw P.i1 P.i0 TT (by omega)
                have M : (m - 1).toNat < m.toNat := by omega
                have X6 : m < 4294967296 → _ := g.fit P.i0
                clear gb gd TT g p0 p1 p2 p3 p4 g0 g1 g2 g3
                rcases T with T | ⟨T1, T2⟩
                · clear X3 X4 X6
                  go_wp2
                  go_round
                  case rel => exact ⟨_, _, rfl, rfl, g'⟩
                  case measure => exact M
                · replace X6 := X6 T1
                  have X5 : IntKind.u64.wrap (m * v0) = m * v0 := w64 X6.1 X6.2
                  clear X6
                  have T3 : ¬ 4294967296 ≤ m := by omega
                  clear T1
                  go_wp2
                  go_round
                  case rel => exact ⟨_, _, rfl, rfl, g'⟩
                  case measure => exact M
            · have go := g.done P.v9 P.i1 P.i0 T2
              have X6 := g.fit P.i0 T1
              have X5 : IntKind.u64.wrap (m * v0) = m * v0 := w64 X6.1 X6.2
              have T3 : ¬ 4294967296 ≤ m := by omega
              have T4 : ¬ 4294967296 * n + e < m * v0 := by omega
              rw [← hE'.out] at go
              clear g p0 p1 p2 p3 p4 g0 g1 g2 g3 T1 T2 X6
              subst go
              go_wp2_with fail
              go_ret2
              exact ⟨rfl, 0, rfl⟩
        · replace X6 := X6 T1
          have X5 : IntKind.u64.wrap (m * v0) = m * v0 := w64 X6.1 X6.2
          clear X6
          have T3 : ¬ 4294967296 ≤ m := by omega
          clear T1
          go_wp2_with fail
          go_loop [18, 16] (fun a b => ∃ m n : Int, a = .int .u64 m ∧ b = .int .u64 n ∧ Guess U v e v1 m n) (fun a _ => (intOf a).toNat)
          case atStart => exact ⟨_, _, rfl, rfl, G'⟩
          case round =>
            obtain ⟨m, n, rfl, rfl, g⟩ := hrel
            have g0 := g.q0; have g1 := g.q1; have g2 := g.r0; have g3 := g.r1; have p0 := P.i1; have p1 := P.v9; have p2 := P.vw; have p3 := P.e0; have p4 := P.e1
            have T : (4294967296 ≤ m ∨ (m < 4294967296 ∧ 4294967296 * n + e < m * v0)) ∨ (m < 4294967296 ∧ m * v0 ≤ 4294967296 * n + e) := by omega
            have X2 : IntKind.u64.wrap (n + v1) = n + v1 := w64 (by omega) (by omega)
            have X3 : IntKind.u64.wrap (4294967296 * n) = 4294967296 * n := w64 (by omega) (by omega)
            have X4 : IntKind.u64.wrap (4294967296 * n + e) = 4294967296 * n + e := w64 (by omega) (by omega)
            rcases T with T | ⟨T1, T2⟩
            · have TT : 4294967296 ≤ m ∨ 4294967296 * n + e < m * v0 := by omega
              have gb := g.big U0 U1 P.e0 P.e1 P.v9 P.i1 P.i0 TT
              have gd := digit_in U0 U1 P.e0 P.e1 P.v9
              have X1 : IntKind.u64.wrap (m - 1) = m - 1 := w64 (by omega) (by omega)
              by_cases R : 4294967296 ≤ n + v1
              · have go := g.out U0 U1 P.e0 P.e1 P.v9 P.i1 P.i0 TT R
                have X6 : m < 4294967296 → _ := g.fit P.i0
                rw [← hE'.out] at go gb gd
                replace X1 := X1.trans go
                clear go gb gd TT g p0 p1 p2 p3 p4 g0 g1 g2 g3
                rcases T with T | ⟨T1, T2⟩
                · clear X3 X4
                  go_wp2_with fail
                  go_ret2
                  exact ⟨rfl, 0, rfl⟩
                · replace X6 := X6 T1
                  have X5 : IntKind.u64.wrap (m * v0) = m * v0 := w64 X6.1 X6.2
                  clear X6
                  have T3 : ¬ 4294967296 ≤ m := by omega
                  clear T1
                  go_wp2_with fail
                  go_ret2
                  exact ⟨rfl, 0, rfl⟩
              · have g' := g.next U0 U1 P.e0 P.e1 P.v9 P.vw P.i1 P.i0 TT (by omega)
                have M : (m - 1).toNat < m.toNat := by omega
                have X6 : m < 4294967296 → _ := g.fit P.i0
                clear gb gd TT g p0 p1 p2 p3 p4 g0 g1 g2 g3
                rcases T with T | ⟨T1, T2⟩
                · clear X3 X4 X6
                  go_wp2
                  go_round
                  case rel => exact ⟨_, _, rfl, rfl, g'⟩
                  case measure => exact M
                · replace X6 := X6 T1
                  have X5 : IntKind.u64.wrap (m * v0) = m * v0 := w64 X6.1 X6.2
                  clear X6
                  have T3 : ¬ 4294967296 ≤ m := by omega
                  clear T1
                  go_wp2
                  go_round
                  case rel => exact ⟨_, _, rfl, rfl, g'⟩
                  case measure => exact M
            · have go := g.done P.v9 P.i1 P.i0 T2
              have X6 := g.fit P.i0 T1
              have X5 : IntKind.u64.wrap (m * v0) = m * v0 := w64 X6.1 X6.2
              have T3 : ¬ 4294967296 ≤ m := by omega
              have T4 : ¬ 4294967296 * n + e < m * v0 := by omega
              rw [← hE'.out] at go
              clear g p0 p1 p2 p3 p4 g0 g1 g2 g3 T1 T2 X6
              subst go
              go_wp2_with fail
              go_ret2
              exact ⟨rfl, 0, rfl⟩
      · have g' := g.next P.u0 P.uv P.d0 P.d1 P.v9 P.vw P.i1 P.i0 TT (by omega)
        have M : (m - 1).toNat < m.toNat := by omega
        have X6 : m < 4294967296 → _ := g.fit P.i0
        clear gb gd TT g p0 p1 p2 p3 p4 g0 g1 g2 g3
        rcases T with T | ⟨T1, T2⟩
        · clear X3 X4 X6
          go_wp2
          go_round
          case rel => exact ⟨_, _, rfl, rfl, g'⟩
          case measure => exact M
        · replace X6 := X6 T1
          have X5 : IntKind.u64.wrap (m * v0) = m * v0 := w64 X6.1 X6.2
          clear X6
          have T3 : ¬ 4294967296 ≤ m := by omega
          clear T1
          go_wp2
          go_round
          case rel => exact ⟨_, _, rfl, rfl, g'⟩
          case measure => exact M
    · have go := g.done P.v9 P.i1 P.i0 T2
      have X6 := g.fit P.i0 T1
      have X5 : IntKind.u64.wrap (m * v0) = m * v0 := w64 X6.1 X6.2
      have T3 : ¬ 4294967296 ≤ m := by omega
      have T4 : ¬ 4294967296 * n + d < m * v0 := by omega
      rw [← hD'.out] at go
      clear g p0 p1 p2 p3 p4 g0 g1 g2 g3 T1 T2 X6
      subst go
      go_wp2_with fail
      go_loop [18, 16] (fun a b => ∃ m n : Int, a = .int .u64 m ∧ b = .int .u64 n ∧ Guess U v e v1 m n) (fun a _ => (intOf a).toNat)
      case atStart => exact ⟨_, _, rfl, rfl, G'⟩
      case round =>
        obtain ⟨m, n, rfl, rfl, g⟩ := hrel
        have g0 := g.q0; have g1 := g.q1; have g2 := g.r0; have g3 := g.r1; have p0 := P.i1; have p1 := P.v9; have p2 := P.vw; have p3 := P.e0; have p4 := P.e1
        have T : (4294967296 ≤ m ∨ (m < 4294967296 ∧ 4294967296 * n + e < m * v0)) ∨ (m < 4294967296 ∧ m * v0 ≤ 4294967296 * n + e) := by omega
        have X2 : IntKind.u64.wrap (n + v1) = n + v1 := w64 (by omega) (by omega)
        have X3 : IntKind.u64.wrap (4294967296 * n) = 4294967296 * n := w64 (by omega) (by omega)
        have X4 : IntKind.u64.wrap (4294967296 * n + e) = 4294967296 * n + e := w64 (by omega) (by omega)
        rcases T with T | ⟨T1, T2⟩
        · have TT : 4294967296 ≤ m ∨ 4294967296 * n + e < m * v0 := by omega
          have gb := g.big U0 U1 P.e0 P.e1 P.v9 P.i1 P.i0 TT
          have gd := digit_in U0 U1 P.e0 P.e1 P.v9
          have X1 : IntKind.u64.wrap (m - 1) = m - 1 := w64 (by omega) (by omega)
          by_cases R : 4294967296 ≤ n + v1
          · have go := g.out U0 U1 P.e0 P.e1 P.v9 P.i1 P.i0 TT R
            have X6 : m < 4294967296 → _ := g.fit P.i0
            rw [← hE'.out] at go gb gd
            replace X1 := X1.trans go
            clear go gb gd TT g p0 p1 p2 p3 p4 g0 g1 g2 g3
            rcases T with T | ⟨T1, T2⟩
            · clear X3 X4
              go_wp2_with fail
              go_ret2
              exact ⟨rfl, 0, rfl⟩
            · replace X6 := X6 T1
              have X5 : IntKind.u64.wrap (m * v0) = m * v0 := w64 X6.1 X6.2
              clear X6
              have T3 : ¬ 4294967296 ≤ m := by omega
              clear T1
              go_wp2_with fail
              go_ret2
              exact ⟨rfl, 0, rfl⟩
          · have g' := g.next U0 U1 P.e0 P.e1 P.v9 P.vw P.i1 P.i0 TT (by omega)
            have M : (m - 1).toNat < m.toNat := by omega
            have X6 : m < 4294967296 → _ := g.fit P.i0
            clear gb gd TT g p0 p1 p2 p3 p4 g0 g1 g2 g3
            rcases T with T | ⟨T1, T2⟩
            · clear X3 X4 X6
              go_wp2
              go_round
              case rel => exact ⟨_, _, rfl, rfl, g'⟩
              case measure => exact M
            · replace X6 := X6 T1
              have X5 : IntKind.u64.wrap (m * v0) = m * v0 := w64 X6.1 X6.2
              clear X6
              have T3 : ¬ 4294967296 ≤ m := by omega
              clear T1
              go_wp2
              go_round
              case rel => exact ⟨_, _, rfl, rfl, g'⟩
              case measure => exact M
        · have go := g.done P.v9 P.i1 P.i0 T2
          have X6 := g.fit P.i0 T1
          have X5 : IntKind.u64.wrap (m * v0) = m * v0 := w64 X6.1 X6.2
          have T3 : ¬ 4294967296 ≤ m := by omega
          have T4 : ¬ 4294967296 * n + e < m * v0 := by omega
          rw [← hE'.out] at go
          clear g p0 p1 p2 p3 p4 g0 g1 g2 g3 T1 T2 X6
          subst go
          go_wp2_with fail
          go_ret2
          exact ⟨rfl, 0, rfl⟩
/-- two words by one, wholly -/
theorem div64 (hi lo y : Int) (hh : Word hi) (hl : Word lo) (hy : Word y) (h : hi < y) (w : World) :
    Calls Try.prog 25 #[.int .u64 hi, .int .u64 lo, .int .u64 y] w fun e w' => e = .returned (.tuple #[.int .u64 ((hi * 18446744073709551616 + lo) / y), .int .u64 ((hi * 18446744073709551616 + lo) % y)]) ∧ ∃ k, w' = w.drewN k := by
  by_cases h0 : hi = 0
  · subst h0
    have := div64_low lo y hl hy h w
    simpa using this
  · exact div64_high hi lo y hh hl hy h (by have := hh.1; omega) w
end Go.Proofs.Ytmpgibemmhcncaa

/-
  Of part Row: what is needed here.
-/
namespace Go.Proofs.Ytmpgibemmhcncaa
open Go.RowKit
set_option linter.unusedVariables false
/-- block g is just the cells xs of element type t; none is frozen -/
structure Row (w : World) (g : Nat) (t : TypeId) (xs : List Value) : Prop where
  is : w.heap[g]? = some (.cells xs.toArray t (0, 0))
section
variable {w w' : World} {g : Nat} {t : TypeId} {xs : List Value}
theorem Row.lt (h : Row w g t xs) : g < w.heap.size := (Array.getElem?_eq_some_iff.1 h.is).1
theorem Row.cell (h : Row w g t xs) (i : Nat) : w.cell? ⟨g, i, none⟩ = xs[i]? := by rw [cell_of_row w g i xs.toArray t (0, 0) h.is]; simp
theorem Row.frozen (h : Row w g t xs) (i : Nat) : w.frozen? ⟨g, i, none⟩ = false := by
  have := h.is
  simp [World.frozen?, this]
theorem Row.new (w : World) (t : TypeId) (xs : List Value) : Row (w.alloc (.cells xs.toArray t)) w.heap.size t xs := ⟨heap_alloc_new w _⟩
theorem Row.new' (w : World) (t : TypeId) (xs : List Value) {g : Nat} (hg : w.heap.size = g) : Row (w.alloc (.cells xs.toArray t)) g t xs := hg ▸ Row.new w t xs
theorem Row.drew (h : Row w g t xs) : Row w.drew g t xs := ⟨h.is⟩
theorem Row.drewN (h : Row w g t xs) (n : Nat) : Row (w.drewN n) g t xs := ⟨h.is⟩
theorem Row.alloc (h : Row w g t xs) (o : Obj) : Row (w.alloc o) g t xs := ⟨(Below.heap_alloc w o g h.lt).trans h.is⟩
theorem Row.set_ (h : Row w g t xs) (i : Nat) (u : Value) : Row (w.setCell ⟨g, i, none⟩ u) g t (xs.set i u) := by
  have := h.is
  exact ⟨by simp [World.setCell, Array.getElem?_modify, this]⟩
theorem Row.below {B : Nat} (h : Row w g t xs) (hb : Below B w w') (hg : g < B) : Row w' g t xs := ⟨(hb.block g hg).trans h.is⟩
theorem Row.grown {row : Option Nat} (h : Row w g t xs) (hb : w.grownBy w' row) (hg : some g ≠ row) : Row w' g t xs := ⟨(hb.block g h.lt hg).trans h.is⟩
theorem Row.sees (h : Row w g t xs) (o : Nat) : Sees w w.heap.size (some ⟨g, o, none⟩) (xs.length - o) (xs.drop o) :=
  ⟨by simp, fun i u hu => ⟨_, rfl, h.lt, by rw [addr_row, h.cell]; simpa using hu⟩⟩
theorem Row.sees0 (h : Row w g t xs) : Sees w w.heap.size (some ⟨g, 0, none⟩) xs.length xs := by simpa using h.sees 0
theorem Row.own (h : Row w g t xs) {base : Nat} (hb : base ≤ g) {n : Nat} (hn : n ≤ xs.length) (hm : xs.length ≤ maxLen) : w.ownsRow base t 1 (.slice (some ⟨g, 0, none⟩) n xs.length) n (xs.take n) :=
  ⟨by simp; omega, .inr ⟨g, xs.length, xs.toArray, rfl, hb, h.is, hn, hm, by simp, by simp⟩⟩
theorem Row.of_own {base : Nat} {n : Nat} (h : w.ownsRow base t 1 (.slice (some ⟨g, 0, none⟩) n n) n xs) : Row w g t xs := by
  rcases h.2 with ⟨hv, _⟩ | ⟨g', cap, cur, hv, _, hh, _, _, hs, ht⟩
  · cases hv
  · cases hv
    have : cur = xs.toArray := by
      rw [← ht, List.take_of_length_le (by simp; omega)]
    exact ⟨by rw [hh, this]⟩
end
end Go.Proofs.Ytmpgibemmhcncaa

/-
  Of part Sum: what is needed here.
-/
namespace Go.Proofs.Ytmpgibemmhcncaa
open Go.RowKit
set_option linter.unusedVariables false
/-- held at the greatest -/
def cap (x : Int) : Int := if 18446744073709551615 < x then 18446744073709551615 else x
/-- what numbers come to, held -/
def held (zs : List Int) : Int := cap zs.sum
theorem cap_word {x : Int} (h : 0 ≤ x) : Word (cap x) := by unfold cap; split <;> exact ⟨by omega, by omega⟩
theorem cap_add {x y : Int} (h : 0 ≤ y) : cap (cap x + y) = cap (x + y) := by unfold cap; repeat' split <;> omega
theorem sum_nonneg {zs : List Int} (h : ∀ z ∈ zs, Word z) : 0 ≤ zs.sum := by
  induction zs with
  | nil => simp
  | cons a t ih =>
    have := (h a (by simp)).1
    have := ih (fun z hz => h z (by simp [hz]))
    simp; omega
theorem held_word {zs : List Int} (h : ∀ z ∈ zs, Word z) : Word (held zs) := cap_word (sum_nonneg h)
theorem sum_take (zs : List Int) (j : Nat) (h : j < zs.length) : (zs.take (j + 1)).sum = (zs.take j).sum + zs.getD j 0 := by
  rw [List.take_succ_eq_append_getElem h, List.sum_append, List.getD_eq_getElem?_getD, List.getElem?_eq_getElem h]
  simp
theorem word_getD {zs : List Int} (h : ∀ z ∈ zs, Word z) (j : Nat) : Word (zs.getD j 0) := by
  rw [List.getD_eq_getElem?_getD]
  by_cases hi : j < zs.length
  · rw [List.getElem?_eq_getElem hi]
    exact h _ (List.getElem_mem hi)
  · rw [List.getElem?_eq_none (by omega)]; exact ⟨by simp, by simp⟩
theorem word_take {zs : List Int} (h : ∀ z ∈ zs, Word z) (j : Nat) : ∀ z ∈ zs.take j, Word z := fun z hz => h z (List.mem_of_mem_take hz)
theorem held_take {zs : List Int} (h : ∀ z ∈ zs, Word z) (j : Nat) (hj : j < zs.length) : held (zs.take (j + 1)) = cap (held (zs.take j) + zs.getD j 0) := by
  unfold held
  rw [sum_take zs j hj, cap_add (word_getD h j).1]
theorem cv_at {k : IntKind} {zs : List Int} {i : Nat} (h : i < zs.length) : (cv k zs)[i]? = some (.int k (zs.getD i 0)) := by
  rw [show (cv k zs)[i]? = zs[i]?.map (Value.int k) by simp [cv], List.getD_eq_getElem?_getD, List.getElem?_eq_getElem h]; rfl
theorem Sees.num {w : World} {B n : Nat} {A : Option Addr} {k : IntKind} {zs : List Int} {i : Nat} (h : Sees w B A n (cv k zs)) (hi : i < n) : ∃ a, A = some a ∧ a.block < B ∧ w.cell? (a.add i) = some (.int k (zs.getD i 0)) := by
  obtain ⟨a, u, e, hb, hx, hc⟩ := h.at_ hi
  have hl : i < zs.length := by have := h.len; rw [cv_length] at this; omega
  rw [cv_at hl] at hx
  cases hx
  exact ⟨a, e, hb, hc⟩
/-- the closure -/
theorem add_ (x a : Int) (B : Nat) (w : World) (hx : Word x) (ha : Word a) (hr : Row w B 34 [.int .u64 a]) :
    Calls Try.prog 18 #[.int .u64 x, .pointer (some ⟨B, 0, none⟩)] w fun e w' => e = .returned (.tuple #[]) ∧ w' = w.setCell ⟨B, 0, none⟩ (.int .u64 (cap (a + x))) := by
  have c0 := hr.cell 0
  have f0 := hr.frozen 0
  simp at c0
  have s1 := add64 a x ha hx
  by_cases h : 18446744073709551615 < a + x
  · have e1 : (a + x) / 18446744073709551616 = 1 := by have := ha.2; have := hx.2; omega
    have e2 := Lib.hid (show cap (a + x) = 18446744073709551615 by unfold cap; rw [if_pos h])
    rw [e1] at s1
    clear e1 h
    go_enter Try.func18, Try.ntmps18
    go_wp2_with (simp only [s1])
    go_end0
    rw [e2.out]
    exact ⟨rfl, rfl⟩
  · have e1 : (a + x) / 18446744073709551616 = 0 := by have := ha.1; have := hx.1; omega
    have e3 : (a + x) % 18446744073709551616 = a + x := by have := ha.1; have := hx.1; omega
    have e2 := Lib.hid (show cap (a + x) = a + x by unfold cap; rw [if_neg h])
    rw [e1, e3] at s1
    clear e1 h e3
    go_enter Try.func18, Try.ntmps18
    go_wp2_with (simp only [s1])
    go_end0
    rw [e2.out]
    exact ⟨rfl, rfl⟩
set_option maxHeartbeats 1000000 in
theorem sum_ (A : Option Addr) (n c : Nat) (zs : List Int) (w : World) (S : Nat) (hx : Sees w S A n (cv .u64 zs)) (hS : S ≤ w.heap.size) (hn : n ≤ maxLen) (hz : ∀ z ∈ zs, Word z) :
    Calls Try.prog 12 #[.slice A n c] w fun e w' => e = .returned (.int .u64 (held zs)) ∧ Below w.heap.size w w' := by
  unfold maxLen at hn
  have lx := Lib.hid (show zs.length = n by have := hx.len; rwa [cv_length] at this)
  have hx := hx.more hS
  have b0 : Below w.heap.size w (w.alloc (.cells #[.int .u64 0] 34)) := (Below.refl _ _).alloc (Nat.le_refl _) _
  have R0 := Row.new w 34 [.int .u64 0]
  generalize hB : w.heap.size = B at *
  go_enter Try.func12, Try.ntmps12
  go_wp2
  go_loopw [6, 10] (fun _ i wr => ∃ j : Nat, j ≤ n ∧ i = .int .i64 j ∧ Row wr B 34 [.int .u64 (held (zs.take j))] ∧ Below B w wr) (fun _ i _ => n - (intOf i).toNat)
  case atStart => exact ⟨0, Nat.zero_le _, rfl, by simpa [held, cap] using R0, b0⟩
  case round =>
    obtain ⟨j, hj, rfl, hr, hbr⟩ := hrel
    by_cases hlt : j < n
    · obtain ⟨a, rfl, ha, hca⟩ := (hx.below hbr).num hlt
      have wz := word_getD hz j
      have E := Lib.hid (held_take hz j (by have := lx.out; omega))
      have C := add_ (zs.getD j 0) (held (zs.take j)) B wr wz (held_word (word_take hz j)) hr
      have M := Lib.hid hr
      clear hr wz
      generalize zs.getD j 0 = z at *
      generalize held (zs.take j) = hd at *
      go_wp2_with fail
      refine C.mono ?_
      rintro e w1 ⟨rfl, rfl⟩
      have R1 := M.out.set_ 0 (.int .u64 (cap (hd + z)))
      rw [← E.out] at R1
      go_wp2
      go_roundw
      case rel =>
        refine ⟨j + 1, by omega, by go_num, ?_, hbr.setCell (Nat.le_refl _) _⟩
        rw [E.out] at R1 ⊢
        exact R1
      case measure => simp [intOf]; omega
    · have hj : j = n := by omega
      have hn : ¬ n < n := by omega
      subst hj
      have E := Lib.hid (show held (zs.take j) = held zs by rw [List.take_of_length_le (by have := lx.out; omega)])
      have c0 := hr.cell 0
      simp at c0
      clear hr
      go_wp2
      go_ret
      rw [E.out]
      exact ⟨rfl, hbr⟩
end Go.Proofs.Ytmpgibemmhcncaa

/-
  Of part Times: what is needed here.
-/
namespace Go.Proofs.Ytmpgibemmhcncaa
open Go.RowKit
set_option linter.unusedVariables false
/-- a times b divided by d, floored or (up) rounded up, held -/
def times (a b d : Int) (up : Bool) : Int :=
  if d ≤ a * b / 18446744073709551616 then 18446744073709551615 else if up = true ∧ 0 < a * b % d then cap (a * b / d + 1) else a * b / d
theorem quot_word {N d : Int} (hN : 0 ≤ N) (h : ¬ d ≤ N / 18446744073709551616) : Word (N / d) ∧ 0 ≤ N % d ∧ N % d < d := by
  have h0 : 0 < d := by omega
  refine ⟨⟨Int.ediv_nonneg hN (by omega), Int.ediv_lt_of_lt_mul h0 (by omega)⟩, Int.emod_nonneg _ (by omega), Int.emod_lt_of_pos _ h0⟩
/-- two numbers, built in place, summed -/
theorem sum_two (x y : Int) (g : Nat) (w : World) (hx : Word x) (hy : Word y) (hr : Row w g 34 [.int .u64 x, .int .u64 y]) :
    Calls Try.prog 12 #[.slice (some ⟨g, 0, none⟩) 2 2] w fun e w' => e = .returned (.int .u64 (cap (x + y))) ∧ Below w.heap.size w w' := by
  have hs := hr.sees0
  refine (sum_ _ 2 2 [x, y] w _ hs (Nat.le_refl _) (by simp [maxLen]) ?_).mono ?_
  · intro z hz
    simp at hz
    rcases hz with rfl | rfl
    · exact hx
    · exact hy
  · rintro e w' ⟨rfl, hb⟩
    exact ⟨by simp [held], hb⟩
set_option maxHeartbeats 1000000 in
theorem times_ (a b d : Int) (up : Bool) (w : World) (ha : Word a) (hb : Word b) (hd : Word d) :
    Calls Try.prog 21 #[.int .u64 a, .int .u64 b, .int .u64 d, .bool up] w fun e w' => e = .returned (.int .u64 (times a b d up)) ∧ Below w.heap.size w w' := by
  have M := fun w => mul_ a b ha hb w
  have p := word_prod ha hb
  have hh := word_hi ha hb
  have hl := word_mod (a * b)
  by_cases h : d ≤ a * b / 18446744073709551616
  · have E := Lib.hid (show times a b d up = 18446744073709551615 by unfold times; rw [if_pos h])
    generalize a * b / 18446744073709551616 = hi at *
    generalize a * b % 18446744073709551616 = lo at *
    go_enter Try.func21, Try.ntmps21
    go_wp2_with fail
    refine (M _).mono ?_
    rintro e w1 ⟨rfl, rfl⟩
    go_wp2
    go_ret
    rw [E.out]
    exact ⟨rfl, Below.refl _ _⟩
  · obtain ⟨q0, r0, r1⟩ := quot_word p.1 h
    have D := fun w => div64 _ _ d hh hl hd (by omega) w
    have EN : a * b / 18446744073709551616 * 18446744073709551616 + a * b % 18446744073709551616 = a * b := by omega
    rw [EN] at D
    clear EN
    have E := Lib.hid (show times a b d up = if up = true ∧ 0 < a * b % d then cap (a * b / d + 1) else a * b / d by unfold times; rw [if_neg h])
    have h2 : ¬ d ≤ a * b / 18446744073709551616 := h
    clear h hh hl
    generalize a * b / 18446744073709551616 = hi at *
    generalize a * b % 18446744073709551616 = lo at *
    generalize a * b / d = q at *
    generalize a * b % d = r at *
    have hs : ∀ k, Below w.heap.size w (w.drewN k) := fun k => below_drewN (Below.refl _ _) k
    cases up
    · go_enter Try.func21, Try.ntmps21
      go_wp2_with fail
      refine (M _).mono ?_
      rintro e w1 ⟨rfl, rfl⟩
      go_wp2_with fail
      refine (D _).mono ?_
      rintro e w1 ⟨rfl, k, rfl⟩
      go_wp2
      go_ret
      rw [E.out]
      exact ⟨by simp, hs k⟩
    · by_cases h0 : 0 < r
      · go_enter Try.func21, Try.ntmps21
        go_wp2_with fail
        refine (M _).mono ?_
        rintro e w1 ⟨rfl, rfl⟩
        go_wp2_with fail
        refine (D _).mono ?_
        rintro e w1 ⟨rfl, k, rfl⟩
        go_wp2_with fail
        refine (sum_two q 1 _ _ q0 (word_lit (by omega) (by omega)) (Row.new' _ _ _ (by simp))).mono ?_
        rintro e w1 ⟨rfl, hb⟩
        have hbb := ((hs k).alloc (Nat.le_refl _) (.cells #[.int .u64 q, .int .u64 1] 34))
        have hb2 := hbb.trans (hb.mono hbb.size)
        clear hb hbb
        go_wp2
        go_ret
        rw [E.out, if_pos (by simp [h0])]
        exact ⟨rfl, hb2⟩
      · go_enter Try.func21, Try.ntmps21
        go_wp2_with fail
        refine (M _).mono ?_
        rintro e w1 ⟨rfl, rfl⟩
        go_wp2_with fail
        refine (D _).mono ?_
        rintro e w1 ⟨rfl, k, rfl⟩
        go_wp2
        go_ret
        rw [E.out, if_neg (by omega)]
        exact ⟨rfl, hs k⟩
end Go.Proofs.Ytmpgibemmhcncaa

/-
  Of part Append: what is needed here.
-/
namespace Go.Proofs.Ytmpgibemmhcncaa
open Go.RowKit
set_option linter.unusedVariables false
section
variable {P : Program} {w : World} {base : Nat} {t ty e : TypeId} {i : TypeInfo} {z : Value} {bytes : Nat} {v : Value} {n m c B : Nat} {A : Option Addr} {xs news : List Value}
theorem run_append_nothing (ht : P.underlying t = some (.slice e)) (hi : P.info? e = some i) (hown : w.ownsRow base e 1 v n xs) (c : Nat) :
    (Builtin.append_ #[t, t] ty #[v, .slice none 0 c]).run P w = .ok v w := by
  rcases hown.2 with ⟨rfl, rfl⟩ | ⟨g, cap, cur, rfl, _, _, hnc, _⟩ <;>
    simp [Builtin.append_, run_underlying ht, sizeOf, typeInfo, Builtin.lenOf, Builtin.firstCells, storeCells, *]
theorem run_append_sees (ht : P.underlying t = some (.slice e)) (hi : P.info? e = some i) (hz : i.zero = some z) (hsize : i.size = 1) (hby : i.bytes = bytes) (hzs : z.cells.size = 1)
    (hown : w.ownsRow base e 1 v n xs) (hr : Sees w B A m news) (h1 : ∀ u ∈ news, u.oneCell' = true) (hnm : n + m ≤ maxLen) (hbytes : (n + m) * bytes ≤ 140737488355328) (hbase : base ≤ w.heap.size) (c : Nat) :
    ∃ v' w', (Builtin.append_ #[t, t] ty #[v, .slice A m c]).run P w = .ok v' w' ∧ w'.ownsRow base e 1 v' (n + m) (xs ++ news) ∧ w.grownBy w' v.ownBlock ∧ (v'.ownBlock = v.ownBlock ∨ v'.ownBlock = some w.heap.size) := by
  cases A with
  | none =>
    have hn : news = [] := by
      cases news with
      | nil => rfl
      | cons u r =>
        obtain ⟨a, h, _⟩ := hr.cell 0 u rfl
        cases h
    subst hn
    obtain rfl : m = 0 := by simpa using hr.len.symm
    exact ⟨v, w, run_append_nothing ht hi hown c, by simpa using hown, World.grownBy.refl w _, .inl rfl⟩
  | some ad =>
    obtain ⟨v', w', hrun, h2, h3, _, h5⟩ := run_append_own_at (P := P) w base t ty e i z 1 bytes ht hi hz hsize hby hzs (by omega) v n xs hown ad m c news (by rw [hr.len]; omega)
      (fun j u hu => by
        obtain ⟨a, h, _, hc⟩ := hr.cell j u hu
        cases h
        exact hc) h1 hnm hbytes hbase
    exact ⟨v', w', hrun, h2, h3, h5⟩
theorem wp_append_sees {o : Oper} {a : Act} {K : Act → World → Prop} {Q : Exit → Act → World → Prop} (s x : Operand)
    (ho : o.op = .call { callee := .builtin .append, args := #[s, x], argTypes := #[t, t] })
    (ht : P.underlying t = some (.slice e)) (hi : P.info? e = some i) (hz : i.zero = some z) (hsize : i.size = 1) (hby : i.bytes = bytes) (hzs : z.cells.size = 1)
    (hs : a.eval s = v) (hown : w.ownsRow base e 1 v n xs) (hx : a.eval x = .slice A m c) (hr : Sees w B A m news) (h1 : ∀ u ∈ news, u.oneCell' = true)
    (hnm : n + m ≤ maxLen) (hbytes : (n + m) * bytes ≤ 140737488355328) (hbase : base ≤ w.heap.size)
    (h : ∀ v' w', w'.ownsRow base e 1 v' (n + m) (xs ++ news) → w.grownBy w' v.ownBlock → (v'.ownBlock = v.ownBlock ∨ v'.ownBlock = some w.heap.size) → K (a.put o.dst v') w') : o.wp P a w K Q := by
  obtain ⟨v', w', hrun, h2, h3, h4⟩ := run_append_sees (P := P) (ty := o.type) ht hi hz hsize hby hzs hown hr h1 hnm hbytes hbase c
  unfold Oper.wp execOp
  simp only [ho, resolve, invoke, builtin, Sem.run_bind, Sem.run_pure, Result.andThen_ok, List.map_toArray, List.map_cons, List.map_nil, hs, hx, hrun]
  exact h v' w' h2 h3 h4
theorem wpList_append_sees {ops : Array Oper} {rest : List Oper} {o : Oper} {a : Act} {Q : Exit → Act → World → Prop} (hgd : o.guard = none) (s x : Operand) (t : TypeId)
    (ho : o.op = .call { callee := .builtin .append, args := #[s, x], argTypes := #[t, t] })
    (base : Nat) (e : TypeId) (i : TypeInfo) (z : Value) (bytes : Nat)
    (ht : P.underlying t = some (.slice e)) (hi : P.info? e = some i) (hz : i.zero = some z) (hsize : i.size = 1) (hby : i.bytes = bytes) (hzs : z.cells.size = 1)
    (v : Value) (n : Nat) (xs : List Value) (hs : a.eval s = v) (hown : w.ownsRow base e 1 v n xs) (B : Nat) (A : Option Addr) (m c : Nat) (news : List Value) (hx : a.eval x = .slice A m c) (hr : Sees w B A m news) (h1 : ∀ u ∈ news, u.oneCell' = true)
    (hnm : n + m ≤ maxLen) (hbytes : (n + m) * bytes ≤ 140737488355328) (hbase : base ≤ w.heap.size)
    (h : ∀ v' w', w'.ownsRow base e 1 v' (n + m) (xs ++ news) → w.grownBy w' v.ownBlock → (v'.ownBlock = v.ownBlock ∨ v'.ownBlock = some w.heap.size) → wpList P ops Q rest (a.put o.dst v') w') : wpList P ops Q (o :: rest) a w :=
  wpList_plain hgd fun _ hK => wp_append_sees s x ho ht hi hz hsize hby hzs hs hown hx hr h1 hnm hbytes hbase fun v' w' h2 h3 h4 => hK _ _ (h v' w' h2 h3 h4)
end
theorem own_form {w : World} {base : Nat} {e : TypeId} {v : Value} {n : Nat} {xs : List Value} (h : w.ownsRow base e 1 v n xs) : ∃ A c, v = .slice A n c := by
  rcases h.2 with ⟨rfl, rfl⟩ | ⟨g, cap, cur, rfl, _⟩
  · exact ⟨_, _, rfl⟩
  · exact ⟨_, _, rfl⟩
/-- the blocks of the call's own stay above what was there -/
theorem below_append {B : Nat} {a w w' : World} {base : Nat} {e : TypeId} {v : Value} {n : Nat} {xs : List Value} (h : Below B a w) (hown : w.ownsRow base e 1 v n xs) (hB : B ≤ base) (hs : B ≤ w.heap.size) (hg : w.grownBy w' v.ownBlock) : Below B a w' :=
  h.grown hg hs fun k hk => by have := (hown.lt k hk).1; omega
end Go.Proofs.Ytmpgibemmhcncaa

/-
  Of part Longer: what is needed here.
-/
namespace Go.Proofs.Ytmpgibemmhcncaa
open Go.RowKit
set_option linter.unusedVariables false
theorem info_u8 : (Try.prog.info? 5).map (fun i => (i.zero, i.size, i.bytes)) = some (some (.int .u8 0), 1, 1) := by kernel_rfl
theorem made_bytes (n : Nat) : (madeCells (Value.int .u8 0).cells (n * 1)).toList = bv (List.replicate n 0) := by
  apply List.ext_getElem?
  intro i
  simp [madeCells, bv, cv, Value.cells]
  by_cases h : i < n <;> simp [h, Nat.mod_one]
end Go.Proofs.Ytmpgibemmhcncaa

/-
  Of part Put: what is needed here.
-/
namespace Go.Proofs.Ytmpgibemmhcncaa
open Go.RowKit
set_option linter.unusedVariables false
/-- the bytes of a short number -/
def short (n : Int) : List Int :=
  if n < 128 then [n] else if n < 16384 then [n % 128 + 128, n / 128] else [n % 128 + 128, n / 128 % 128 + 128, n / 16384]
end Go.Proofs.Ytmpgibemmhcncaa

/-
  Of part Msg: what is needed here.
-/
namespace Go.Proofs.Ytmpgibemmhcncaa
open Go.RowKit
set_option linter.unusedVariables false
/-- an instruction -/
structure LIn where
  p : Int
  acc : List Int
  dat : List Int
/-- a lookup -/
structure LLook where
  tab : List Int
  wr : List Int
  rd : List Int
/-- a message -/
structure LMsg where
  v0 : Bool
  s : Int
  r : Int
  o : Int
  keys : List (List Int)
  recent : List Int
  ins : List LIn
  looks : List LLook
/-- how many, and the bytes -/
def encL (l : List Int) : List Int := short l.length ++ l
def encIn (i : LIn) : List Int := i.p :: (encL i.acc ++ encL i.dat)
def encLook (l : LLook) : List Int := l.tab ++ (encL l.wr ++ encL l.rd)
def encHead (m : LMsg) : List Int := (if m.v0 then [128] else []) ++ [m.s, m.r, m.o]
def encTail (m : LMsg) : List Int := if m.v0 then short m.looks.length ++ m.looks.flatMap encLook else []
/-- a message's bytes -/
def enc (m : LMsg) : List Int := encHead m ++ (short m.keys.length ++ (m.keys.flatten ++ (m.recent ++ (short m.ins.length ++ (m.ins.flatMap encIn ++ encTail m)))))
/-- a byte -/
def IsByte (z : Int) : Prop := 0 ≤ z ∧ z < 256
def AllBytes (l : List Int) : Prop := ∀ z ∈ l, IsByte z
/-- all numbers are bytes, keys have 32 of them -/
structure LMsg.Wf (m : LMsg) : Prop where
  s : IsByte m.s
  r : IsByte m.r
  o : IsByte m.o
  keys : ∀ k ∈ m.keys, k.length = 32 ∧ AllBytes k
  recent : m.recent.length = 32 ∧ AllBytes m.recent
  ins : ∀ i ∈ m.ins, IsByte i.p ∧ AllBytes i.acc ∧ AllBytes i.dat
  looks : ∀ l ∈ m.looks, (l.tab.length = 32 ∧ AllBytes l.tab) ∧ AllBytes l.wr ∧ AllBytes l.rd
/-- a slice of bytes that lies below block B -/
structure BytesIn (w : World) (B : Nat) (v : Value) (l : List Int) : Prop where
  is : ∃ A c, v = .slice A l.length c ∧ Sees w B A l.length (bv l) ∧ l.length ≤ c ∧ c ≤ maxLen
/-- instructions that lie below block B -/
structure InsIn (w : World) (B : Nat) (A : Option Addr) (n : Nat) (l : List LIn) : Prop where
  len : l.length = n
  at_ : ∀ i x, l[i]? = some x → ∃ a va vd, A = some a ∧ a.block < B ∧ w.cell? (a.add (i * 3)) = some (.int .u8 x.p) ∧ w.cell? (a.add (i * 3 + 1)) = some va ∧ w.cell? (a.add (i * 3 + 2)) = some vd ∧ BytesIn w B va x.acc ∧ BytesIn w B vd x.dat
/-- lookups that lie below block B -/
structure LooksIn (w : World) (B : Nat) (A : Option Addr) (n : Nat) (l : List LLook) : Prop where
  len : l.length = n
  at_ : ∀ i x, l[i]? = some x → ∃ a va vd, A = some a ∧ a.block < B ∧ (∀ j u, (bv x.tab ++ [va, vd])[j]? = some u → w.cell? (a.add (i * 34 + j)) = some u) ∧ x.tab.length = 32 ∧ BytesIn w B va x.wr ∧ BytesIn w B vd x.rd
/-- keys that lie below block B -/
structure KeysIn (w : World) (B : Nat) (A : Option Addr) (n : Nat) (l : List (List Int)) : Prop where
  len : l.length = n
  each : ∀ k ∈ l, k.length = 32
  sees : Sees w B A (n * 32) (bv l.flatten)
/-- where a message's lists lie -/
structure Raw where
  KA : Option Addr
  kn : Nat
  kc : Nat
  IA : Option Addr
  n : Nat
  ic : Nat
  LA : Option Addr
  ln : Nat
  lc : Nat
/-- a message's cells -/
def Raw.cells (q : Raw) (m : LMsg) : List Value :=
  [.bool m.v0, .int .u8 m.s, .int .u8 m.r, .int .u8 m.o, .slice q.KA q.kn q.kc] ++ (bv m.recent ++ [.slice q.IA q.n q.ic, .slice q.LA q.ln q.lc])
/-- a message's lists lie below block B -/
structure MsgIn (w : World) (B : Nat) (q : Raw) (m : LMsg) : Prop where
  recent : m.recent.length = 32
  keys : KeysIn w B q.KA q.kn m.keys
  ins : InsIn w B q.IA q.n m.ins
  looks : LooksIn w B q.LA q.ln m.looks
  kn : q.kn ≤ q.kc ∧ q.kc ≤ maxLen
  n : q.n ≤ q.ic ∧ q.ic ≤ maxLen
  ln : q.ln ≤ q.lc ∧ q.lc ≤ maxLen
section
variable {w w' : World} {B B' : Nat}
theorem BytesIn.keep {v : Value} {l : List Int} (h : BytesIn w B v l) (hk : ∀ p : Addr, p.block < B → w'.cell? p = w.cell? p) : BytesIn w' B v l := by
  obtain ⟨A, c, e, hs, h1, h2⟩ := h.is
  exact ⟨A, c, e, hs.keep hk, h1, h2⟩
theorem BytesIn.more {v : Value} {l : List Int} (h : BytesIn w B v l) (hB : B ≤ B') : BytesIn w B' v l := by
  obtain ⟨A, c, e, hs, h1, h2⟩ := h.is
  exact ⟨A, c, e, hs.more hB, h1, h2⟩
theorem InsIn.keep {A : Option Addr} {n : Nat} {l : List LIn} (h : InsIn w B A n l) (hk : ∀ p : Addr, p.block < B → w'.cell? p = w.cell? p) : InsIn w' B A n l :=
  ⟨h.len, fun i x hx => by
    obtain ⟨a, va, vd, e, hb, h1, h2, h3, h4, h5⟩ := h.at_ i x hx
    exact ⟨a, va, vd, e, hb, (hk _ (by rw [addr_block]; exact hb)).trans h1, (hk _ (by rw [addr_block]; exact hb)).trans h2, (hk _ (by rw [addr_block]; exact hb)).trans h3, h4.keep hk, h5.keep hk⟩⟩
theorem InsIn.more {A : Option Addr} {n : Nat} {l : List LIn} (h : InsIn w B A n l) (hB : B ≤ B') : InsIn w B' A n l :=
  ⟨h.len, fun i x hx => by
    obtain ⟨a, va, vd, e, hb, h1, h2, h3, h4, h5⟩ := h.at_ i x hx
    exact ⟨a, va, vd, e, by omega, h1, h2, h3, h4.more hB, h5.more hB⟩⟩
theorem LooksIn.keep {A : Option Addr} {n : Nat} {l : List LLook} (h : LooksIn w B A n l) (hk : ∀ p : Addr, p.block < B → w'.cell? p = w.cell? p) : LooksIn w' B A n l :=
  ⟨h.len, fun i x hx => by
    obtain ⟨a, va, vd, e, hb, h1, h2, h4, h5⟩ := h.at_ i x hx
    exact ⟨a, va, vd, e, hb, fun j u hu => (hk _ (by rw [addr_block]; exact hb)).trans (h1 j u hu), h2, h4.keep hk, h5.keep hk⟩⟩
theorem LooksIn.more {A : Option Addr} {n : Nat} {l : List LLook} (h : LooksIn w B A n l) (hB : B ≤ B') : LooksIn w B' A n l :=
  ⟨h.len, fun i x hx => by
    obtain ⟨a, va, vd, e, hb, h1, h2, h4, h5⟩ := h.at_ i x hx
    exact ⟨a, va, vd, e, by omega, h1, h2, h4.more hB, h5.more hB⟩⟩
theorem KeysIn.keep {A : Option Addr} {n : Nat} {l : List (List Int)} (h : KeysIn w B A n l) (hk : ∀ p : Addr, p.block < B → w'.cell? p = w.cell? p) : KeysIn w' B A n l := ⟨h.len, h.each, h.sees.keep hk⟩
theorem KeysIn.more {A : Option Addr} {n : Nat} {l : List (List Int)} (h : KeysIn w B A n l) (hB : B ≤ B') : KeysIn w B' A n l := ⟨h.len, h.each, h.sees.more hB⟩
variable {q : Raw} {m : LMsg}
theorem MsgIn.keep (h : MsgIn w B q m) (hk : ∀ p : Addr, p.block < B → w'.cell? p = w.cell? p) : MsgIn w' B q m := ⟨h.recent, h.keys.keep hk, h.ins.keep hk, h.looks.keep hk, h.kn, h.n, h.ln⟩
theorem MsgIn.more (h : MsgIn w B q m) (hB : B ≤ B') : MsgIn w B' q m := ⟨h.recent, h.keys.more hB, h.ins.more hB, h.looks.more hB, h.kn, h.n, h.ln⟩
theorem MsgIn.below (h : MsgIn w B q m) (hb : Below B w w') : MsgIn w' B q m := h.keep fun _ hp => hb.cell hp
theorem MsgIn.alloc (h : MsgIn w B q m) (hB : B ≤ w.heap.size) (o : Obj) : MsgIn (w.alloc o) B q m := h.keep fun p hp => World.cell?_alloc_lt w o p (by omega)
theorem MsgIn.drewN (h : MsgIn w B q m) (n : Nat) : MsgIn (w.drewN n) B q m := h.keep fun p hp => rfl
theorem InsIn.below {A : Option Addr} {n : Nat} {l : List LIn} (h : InsIn w B A n l) (hb : Below B w w') : InsIn w' B A n l := h.keep fun _ hp => hb.cell hp
theorem LooksIn.below {A : Option Addr} {n : Nat} {l : List LLook} (h : LooksIn w B A n l) (hb : Below B w w') : LooksIn w' B A n l := h.keep fun _ hp => hb.cell hp
theorem KeysIn.below {A : Option Addr} {n : Nat} {l : List (List Int)} (h : KeysIn w B A n l) (hb : Below B w w') : KeysIn w' B A n l := h.keep fun _ hp => hb.cell hp
theorem BytesIn.below {v : Value} {l : List Int} (h : BytesIn w B v l) (hb : Below B w w') : BytesIn w' B v l := h.keep fun _ hp => hb.cell hp
end
section
variable {q : Raw} {m : LMsg}
theorem cells_len (h : m.recent.length = 32) : (q.cells m).length = 39 := by simp [Raw.cells, bv_length, h]
theorem cells_0 : (q.cells m)[0]? = some (.bool m.v0) := rfl
theorem cells_1 : (q.cells m)[1]? = some (.int .u8 m.s) := rfl
theorem cells_2 : (q.cells m)[2]? = some (.int .u8 m.r) := rfl
theorem cells_3 : (q.cells m)[3]? = some (.int .u8 m.o) := rfl
theorem cells_4 : (q.cells m)[4]? = some (.slice q.KA q.kn q.kc) := rfl
theorem cells_37 (h : m.recent.length = 32) : (q.cells m)[37]? = some (.slice q.IA q.n q.ic) := by
  simp [Raw.cells, bv_length, h]
theorem cells_38 (h : m.recent.length = 32) : (q.cells m)[38]? = some (.slice q.LA q.ln q.lc) := by
  simp [Raw.cells, bv_length, h]
theorem cells_one : ∀ u ∈ q.cells m, u.oneCell' = true := by
  intro u hu
  simp only [Raw.cells, List.mem_append, List.mem_cons, List.not_mem_nil, or_false] at hu
  rcases hu with (rfl | rfl | rfl | rfl | rfl) | hu | rfl | rfl
  all_goals first | rfl | exact bv_one _ _ hu
end
end Go.Proofs.Ytmpgibemmhcncaa

/-
  Of part Get: what is needed here.
-/
namespace Go.Proofs.Ytmpgibemmhcncaa
open Go.RowKit
set_option linter.unusedVariables false
/-- all are bytes -/
def Bytes (zs : List Int) : Prop := ∀ i, 0 ≤ zs.getD i 0 ∧ zs.getD i 0 < 256
end Go.Proofs.Ytmpgibemmhcncaa

/-
  Of part Parse: what is needed here.
-/
namespace Go.Proofs.Ytmpgibemmhcncaa
open Go.RowKit
set_option linter.unusedVariables false
theorem AllBytes.drop {zs : List Int} (h : AllBytes zs) (k : Nat) : AllBytes (zs.drop k) := fun z hz => h z (List.mem_of_mem_drop hz)
theorem AllBytes.take {zs : List Int} (h : AllBytes zs) (k : Nat) : AllBytes (zs.take k) := fun z hz => h z (List.mem_of_mem_take hz)
theorem AllBytes.bytes {zs : List Int} (h : AllBytes zs) : Bytes zs := by
  intro i
  rw [List.getD_eq_getElem?_getD]
  by_cases hi : i < zs.length
  · rw [List.getElem?_eq_getElem hi]
    exact h _ (List.getElem_mem hi)
  · rw [List.getElem?_eq_none (by omega)]; simp
end Go.Proofs.Ytmpgibemmhcncaa

/-
  Of part Whole: what is needed here.
-/
namespace Go.Proofs.Ytmpgibemmhcncaa
open Go.RowKit
set_option linter.unusedVariables false
section
variable {P : Program}
/-- a value of many cells, read from an address -/
theorem run_loadAt_at (w : World) (p : Addr) (ty : TypeId) (cs : List Value) (d : TypeDesc) (hc : ∀ j v, cs[j]? = some v → w.cell? (p.add j) = some v)
    (hu : P.underlying ty = some d) (hd : d.isRow = true) (hi : (P.info? ty).map (·.size) = some cs.length) :
    (Instr.loadAt ty (.pointer (some p))).run P w = .ok (.agg cs.toArray) w := by
  have hl : (loadCells p cs.length).run P w = .ok cs.toArray w := run_loadCells_list (P := P) w p cs hc
  cases hq : P.info? ty with
  | none => simp [hq] at hi
  | some i =>
    have hs : i.size = cs.length := by simpa [hq] using hi
    have hagg : (isAgg ty).run P w = .ok true w := by
      unfold isAgg
      rw [Sem.run_bind, run_underlying hu w]
      cases d <;> simp_all
    simp [Instr.loadAt, Instr.sureAddr, loadVar, Sem.run_bind, hagg, sizeOf, typeInfo, hq, hs, hl]
theorem wpList_load_at {ops : Array Oper} {rest : List Oper} {op : Oper} {a : Act} {w : World} {Q : Exit → Act → World → Prop} (hgd : op.guard = none) (ty : TypeId) (x : Operand) (ho : op.op = .load ty x)
    (p : Addr) (cs : List Value) (d : TypeDesc) (hu : P.underlying ty = some d) (hd : d.isRow = true) (hi : (P.info? ty).map (·.size) = some cs.length) (hc : ∀ j v, cs[j]? = some v → w.cell? (p.add j) = some v)
    (hx : a.eval x = .pointer (some p)) (h : wpList P ops Q rest (a.put op.dst (.agg cs.toArray)) w) : wpList P ops Q (op :: rest) a w :=
  wpList_plain hgd fun _ hK => by
    unfold Oper.wp execOp
    simp only [ho, hx, Sem.run_bind, Sem.run_pure, run_loadAt_at w p ty cs d hc hu hd hi, Result.andThen_ok]
    exact hK _ _ h
/-- the same, the pointer's block a whole row -/
theorem wpList_load_whole {ops : Array Oper} {rest : List Oper} {op : Oper} {a : Act} {w : World} {Q : Exit → Act → World → Prop} (hgd : op.guard = none) (ty : TypeId) (x : Operand) (ho : op.op = .load ty x)
    (g t : Nat) (cs : List Value) (d : TypeDesc) (hu : P.underlying ty = some d) (hd : d.isRow = true) (hi : (P.info? ty).map (·.size) = some cs.length) (hr : Row w g t cs)
    (hx : a.eval x = .pointer (some ⟨g, 0, none⟩)) (h : wpList P ops Q rest (a.put op.dst (.agg cs.toArray)) w) : wpList P ops Q (op :: rest) a w :=
  wpList_load_at hgd ty x ho ⟨g, 0, none⟩ cs d hu hd hi (fun j v hv => by rw [addr_row, hr.cell]; simpa using hv) hx h
/-- a value of many cells into a block that is known whole: the world behind it, of which this is told -/
theorem run_storeAt_whole (w : World) (g ty : Nat) (c cs : List Value) (hr : Row w g ty c) (hi : (P.info? ty).map (·.size) = some cs.length) (hl : c.length = cs.length) (h1 : ∀ u ∈ cs, u.oneCell' = true) :
    (Instr.storeAt ty (.pointer (some ⟨g, 0, none⟩)) (.agg cs.toArray)).run P w = .ok () (w.setRow g cs.toArray) := by
  have := run_storeVar_row (P := P) w g ty ty c.toArray cs.toArray hr.is (by simpa using hi) (by simpa using hl) (all_oneCell_toArray h1)
  simp only [Instr.storeAt, Instr.sureAddr, Sem.run_bind, Sem.run_pure, Result.andThen_ok, this]
/-- but for block g, w' is w -/
structure Turned (w w' : World) (g : Nat) : Prop where
  os : w'.os = w.os
  tape : w'.tape = w.tape
  output : w'.output = w.output
  size : w'.heap.size = w.heap.size
  block : ∀ k, k ≠ g → w'.heap[k]? = w.heap[k]?
theorem turned_setRow (w : World) (g : Nat) (cs : Array Value) : Turned w (w.setRow g cs) g :=
  ⟨rfl, rfl, rfl, by simp, fun k hk => setRow_other w g k cs hk⟩
theorem turned_setCell (w : World) (p : Addr) (u : Value) : Turned w (w.setCell p u) p.block :=
  ⟨rfl, rfl, rfl, by simp [World.setCell], fun k hk => Below.heap_setCell _ _ _ _ hk⟩
theorem row_setRow {w : World} {g t : Nat} {c : List Value} (hr : Row w g t c) (cs : List Value) : Row (w.setRow g cs.toArray) g t cs :=
  ⟨setRow_heap w g c.toArray cs.toArray t _ hr.is⟩
theorem Turned.below {w w' : World} {g B : Nat} (h : Turned w w' g) (hB : B ≤ g) : Below B w w' :=
  ⟨h.os, h.tape, h.output, by rw [h.size]; exact Nat.le_refl _, fun k hk => h.block k (by omega)⟩
theorem Turned.row {w w' : World} {g k t : Nat} {xs : List Value} (h : Turned w w' g) (hr : Row w k t xs) (hk : k ≠ g) : Row w' k t xs := ⟨(h.block k hk).trans hr.is⟩
theorem wpList_store_whole {ops : Array Oper} {rest : List Oper} {op : Oper} {a : Act} {w : World} {Q : Exit → Act → World → Prop} (hgd : op.guard = none) (ty : TypeId) (x y : Operand) (ho : op.op = .store ty x y)
    (g : Nat) (c cs : List Value) (hr : Row w g ty c) (hi : (P.info? ty).map (·.size) = some cs.length) (hl : c.length = cs.length) (h1 : ∀ u ∈ cs, u.oneCell' = true)
    (hx : a.eval x = .pointer (some ⟨g, 0, none⟩)) (hy : a.eval y = .agg cs.toArray)
    (h : ∀ w', Row w' g ty cs → Turned w w' g → wpList P ops Q rest (a.put op.dst undef) w') : wpList P ops Q (op :: rest) a w :=
  wpList_plain hgd fun _ hK => by
    unfold Oper.wp execOp
    simp only [ho, hx, hy, Sem.run_bind, Sem.run_pure, run_storeAt_whole w g ty c cs hr hi hl h1, Result.andThen_ok]
    exact hK _ _ (h _ (row_setRow hr cs) (turned_setRow w g _))
/-- a variable that has just been made is given its value -/
theorem wpList_store_new {ops : Array Oper} {rest : List Oper} {op : Oper} {a : Act} {w0 : World} {c : Array Value} {Q : Exit → Act → World → Prop} (hgd : op.guard = none) (ty : TypeId) (x y : Operand) (ho : op.op = .store ty x y)
    (cs : List Value) (hi : (P.info? ty).map (·.size) = some cs.length) (h1 : ∀ u ∈ cs, u.oneCell' = true) (hl : c.size = cs.length)
    (hx : a.eval x = .pointer (some ⟨w0.heap.size, 0, none⟩)) (hy : a.eval y = .agg cs.toArray)
    (h : ∀ w', Row w' w0.heap.size ty cs → Below w0.heap.size w0 w' → w'.heap.size = w0.heap.size + 1 → wpList P ops Q rest (a.put op.dst undef) w') : wpList P ops Q (op :: rest) a (w0.alloc (.cells c ty)) := by
  have hr : Row (w0.alloc (.cells c ty)) w0.heap.size ty c.toList := by
    have := Row.new w0 ty c.toList
    simpa using this
  refine wpList_store_whole hgd ty x y ho w0.heap.size c.toList cs hr hi (by simpa using hl) h1 hx hy fun w' hr' ht => ?_
  exact h w' hr' (((Below.refl _ w0).alloc (Nat.le_refl _) _).trans (ht.below (Nat.le_refl _))) (by rw [ht.size]; simp)
end
end Go.Proofs.Ytmpgibemmhcncaa

/-
  Of part Many: what is needed here.
-/
namespace Go.Proofs.Ytmpgibemmhcncaa
open Go.RowKit
set_option linter.unusedVariables false
theorem own_below {w w' : World} {base n size : Nat} {e : TypeId} {v : Value} {xs : List Value} (h : w.ownsRow base e size v n xs) (hb : Below w.heap.size w w') : w'.ownsRow base e size v n xs := by
  refine ⟨h.1, ?_⟩
  rcases h.2 with h2 | ⟨g, cap, cur, hv, hg, hh, r⟩
  · exact .inl h2
  · exact .inr ⟨g, cap, cur, hv, hg, (hb.block g (Array.getElem?_eq_some_iff.1 hh).1).trans hh, r⟩
/-- from w, with the row v, to w', with the row v': of what was there v's block alone may have been written -/
structure Grew (w w' : World) (v v' : Value) : Prop where
  grown : w.grownBy w' v.ownBlock
  fresh : ∀ k, v'.ownBlock = some k → v.ownBlock = some k ∨ w.heap.size ≤ k
section
variable {w w' w'' : World} {v v' v'' : Value}
theorem Grew.refl (w : World) (v : Value) : Grew w w v v := ⟨World.grownBy.refl w _, fun k h => .inl h⟩
theorem Grew.size (h : Grew w w' v v') : w.heap.size ≤ w'.heap.size := h.grown.size
theorem Grew.trans (h : Grew w w' v v') (k : Grew w' w'' v' v'') : Grew w w'' v v'' :=
  ⟨⟨k.grown.os.trans h.grown.os, k.grown.tape.trans h.grown.tape, k.grown.output.trans h.grown.output, Nat.le_trans h.size k.size, fun i hi hne =>
      (k.grown.block i (Nat.lt_of_lt_of_le hi h.size) fun e => by
        rcases h.fresh i e.symm with h1 | h1
        · exact hne h1.symm
        · omega).trans (h.grown.block i hi hne)⟩,
    fun i hi => by
      rcases k.fresh i hi with h1 | h1
      · exact h.fresh i h1
      · exact .inr (Nat.le_trans h.size h1)⟩
theorem Grew.of_below (hb : Below w.heap.size w w') (v : Value) : Grew w w' v v := ⟨⟨hb.os, hb.tape, hb.output, hb.size, fun k hk _ => hb.block k hk⟩, fun k h => .inl h⟩
theorem Grew.alloc (h : Grew w w' v v') (o : Obj) : Grew w (w'.alloc o) v v' := h.trans (.of_below ((Below.refl _ _).alloc (Nat.le_refl _) o) v')
theorem Grew.row {g t : Nat} {ys : List Value} (h : Grew w w' v v') (hr : Row w g t ys) (hg : some g ≠ v.ownBlock) : Row w' g t ys := hr.grown h.grown hg
theorem Grew.below {base n size : Nat} {e : TypeId} {xs : List Value} (h : Grew w w' v v') (hown : w.ownsRow base e size v n xs) (hbase : base ≤ w.heap.size) : Below base w w' :=
  (Below.refl base w).grown h.grown hbase fun k hk => (hown.lt k hk).1
end
end Go.Proofs.Ytmpgibemmhcncaa

/-
  Of part Looks: what is needed here.
-/
namespace Go.Proofs.Ytmpgibemmhcncaa
open Go.RowKit
set_option linter.unusedVariables false
/-- what the block of a message holds -/
structure MsgRow (w : World) (g : Nat) (q : Raw) (m : LMsg) : Prop where
  c0 : w.cell? ⟨g, 0, none⟩ = some (.bool m.v0)
  c1 : w.cell? ⟨g, 1, none⟩ = some (.int .u8 m.s)
  c2 : w.cell? ⟨g, 2, none⟩ = some (.int .u8 m.r)
  c3 : w.cell? ⟨g, 3, none⟩ = some (.int .u8 m.o)
  c4 : w.cell? ⟨g, 4, none⟩ = some (.slice q.KA q.kn q.kc)
  c37 : w.cell? ⟨g, 37, none⟩ = some (.slice q.IA q.n q.ic)
  c38 : w.cell? ⟨g, 38, none⟩ = some (.slice q.LA q.ln q.lc)
theorem MsgRow.of {w : World} {g t : Nat} {q : Raw} {m : LMsg} (hr : Row w g t (q.cells m)) (h : m.recent.length = 32) : MsgRow w g q m :=
  ⟨(hr.cell 0).trans cells_0, (hr.cell 1).trans cells_1, (hr.cell 2).trans cells_2, (hr.cell 3).trans cells_3, (hr.cell 4).trans cells_4, (hr.cell 37).trans (cells_37 h), (hr.cell 38).trans (cells_38 h)⟩
theorem size_msg : (Try.prog.info? 31).map (·.size) = some 39 := by kernel_rfl
theorem size_instr : (Try.prog.info? 44).map (·.size) = some 3 := by kernel_rfl
/-- an instruction's cells -/
def inCells (p : Int) (va vd : Value) : List Value := [.int .u8 p, va, vd]
theorem inCells_one {p : Int} {va vd : Value} {w w' : World} {B B' : Nat} {l l' : List Int} (ha : BytesIn w B va l) (hd : BytesIn w' B' vd l') : ∀ u ∈ inCells p va vd, u.oneCell' = true := by
  obtain ⟨_, _, rfl, _⟩ := ha.is
  obtain ⟨_, _, rfl, _⟩ := hd.is
  intro u hu
  simp only [inCells, List.mem_cons, List.not_mem_nil, or_false] at hu
  rcases hu with rfl | rfl | rfl <;> rfl
theorem size_in (p : Int) (va vd : Value) : (Try.prog.info? 44).map (·.size) = some (inCells p va vd).length := size_instr
/-- the k-th instruction, in a world that is as it was below B -/
structure InAt (w : World) (B : Nat) (a : Addr) (k : Nat) (x : LIn) (va vd : Value) : Prop where
  cells : ∀ j u, (inCells x.p va vd)[j]? = some u → w.cell? ((a.add (k * 3)).add j) = some u
  acc : BytesIn w B va x.acc
  dat : BytesIn w B vd x.dat
theorem InsIn.get {w : World} {B n : Nat} {A : Option Addr} {l : List LIn} (h : InsIn w B A n l) {k : Nat} (hk : k < n) : ∃ a x va vd, A = some a ∧ a.block < B ∧ l[k]? = some x ∧ InAt w B a k x va vd := by
  obtain ⟨x, hx⟩ : ∃ x, l[k]? = some x := ⟨_, List.getElem?_eq_getElem (by rw [h.len]; exact hk)⟩
  obtain ⟨a, va, vd, rfl, hb, h1, h2, h3, h4, h5⟩ := h.at_ k x hx
  refine ⟨a, x, va, vd, rfl, hb, hx, fun j u hu => ?_, h4, h5⟩
  rw [addr_add]
  match j, hu with
  | 0, hu => cases hu; exact h1
  | 1, hu => cases hu; exact h2
  | 2, hu => cases hu; exact h3
theorem InAt.keep {w w' : World} {B k : Nat} {a : Addr} {x : LIn} {va vd : Value} (h : InAt w B a k x va vd) (ha : a.block < B) (hk : ∀ p : Addr, p.block < B → w'.cell? p = w.cell? p) : InAt w' B a k x va vd :=
  ⟨fun j u hu => (hk _ (by rw [addr_block, addr_block]; exact ha)).trans (h.cells j u hu), h.acc.keep hk, h.dat.keep hk⟩
/-- the k-th lookup -/
structure LookAt (w : World) (B : Nat) (a : Addr) (k : Nat) (x : LLook) (va vd : Value) : Prop where
  cells : ∀ j u, (bv x.tab ++ [va, vd])[j]? = some u → w.cell? ((a.add (k * 34)).add j) = some u
  len : x.tab.length = 32
  wr : BytesIn w B va x.wr
  rd : BytesIn w B vd x.rd
theorem LooksIn.get {w : World} {B n : Nat} {A : Option Addr} {l : List LLook} (h : LooksIn w B A n l) {k : Nat} (hk : k < n) : ∃ a x va vd, A = some a ∧ a.block < B ∧ l[k]? = some x ∧ LookAt w B a k x va vd := by
  obtain ⟨x, hx⟩ : ∃ x, l[k]? = some x := ⟨_, List.getElem?_eq_getElem (by rw [h.len]; exact hk)⟩
  obtain ⟨a, va, vd, rfl, hb, h1, h2, h4, h5⟩ := h.at_ k x hx
  exact ⟨a, x, va, vd, rfl, hb, hx, fun j u hu => by rw [addr_add]; exact h1 j u hu, h2, h4, h5⟩
theorem LookAt.size {w : World} {B k : Nat} {a : Addr} {x : LLook} {va vd : Value} (h : LookAt w B a k x va vd) : (bv x.tab ++ [va, vd]).length = 34 := by simp [bv_length, h.len]
end Go.Proofs.Ytmpgibemmhcncaa

/-
  Of part PutMsg: what is needed here.
-/
namespace Go.Proofs.Ytmpgibemmhcncaa
open Go.RowKit
set_option linter.unusedVariables false
theorem flatten_get : ∀ (l : List (List Int)) (k : Nat) (x : List Int), (∀ y ∈ l, y.length = 32) → l[k]? = some x → ∀ j, j < 32 → l.flatten[k * 32 + j]? = x[j]?
  | [], k, x, _, h, _, _ => by simp at h
  | y :: r, 0, x, hl, h, j, hj => by
    have : y = x := by simpa using h
    subst this
    have hy := hl y (by simp)
    rw [List.flatten_cons, List.getElem?_append_left (by omega)]
    simp
  | y :: r, k + 1, x, hl, h, j, hj => by
    have hy := hl y (by simp)
    rw [List.flatten_cons, List.getElem?_append_right (by omega)]
    have := flatten_get r k x (fun z hz => hl z (by simp [hz])) (by simpa using h) j hj
    rw [← this]
    congr 1
    omega
theorem flatten_len : ∀ (l : List (List Int)), (∀ y ∈ l, y.length = 32) → l.flatten.length = l.length * 32
  | [], _ => rfl
  | y :: r, h => by
    have := flatten_len r (fun z hz => h z (by simp [hz]))
    have hy := h y (by simp)
    simp only [List.flatten_cons, List.length_append, List.length_cons, this, hy]
    omega
/-- the k-th key -/
structure KeyAt (w : World) (a : Addr) (k : Nat) (x : List Int) : Prop where
  cells : ∀ j u, (bv x)[j]? = some u → w.cell? ((a.add (k * 32)).add j) = some u
  len : x.length = 32
theorem KeysIn.get {w : World} {B n : Nat} {A : Option Addr} {l : List (List Int)} (h : KeysIn w B A n l) {k : Nat} (hk : k < n) : ∃ a x, A = some a ∧ a.block < B ∧ l[k]? = some x ∧ KeyAt w a k x := by
  obtain ⟨x, hx⟩ : ∃ x, l[k]? = some x := ⟨_, List.getElem?_eq_getElem (by rw [h.len]; exact hk)⟩
  have hxl := h.each x (List.mem_of_getElem? hx)
  obtain ⟨a, u, e, hb, _, _⟩ := h.sees.at_ (k := k * 32) (by omega)
  refine ⟨a, x, e, hb, hx, fun j u hu => ?_, hxl⟩
  have hj : j < 32 := by have := (List.getElem?_eq_some_iff.1 hu).1; rw [bv_length] at this; omega
  rw [bv_getElem?, ← flatten_get l k x h.each hx j hj, ← bv_getElem?] at hu
  obtain ⟨a', e', _, hc⟩ := h.sees.cell _ u hu
  rw [e] at e'
  cases e'
  rw [addr_add]
  exact hc
theorem KeyAt.keep {w w' : World} {B k : Nat} {a : Addr} {x : List Int} (h : KeyAt w a k x) (ha : a.block < B) (hk : ∀ p : Addr, p.block < B → w'.cell? p = w.cell? p) : KeyAt w' a k x :=
  ⟨fun j u hu => (hk _ (by rw [addr_block, addr_block]; exact ha)).trans (h.cells j u hu), h.len⟩
theorem MsgRow.keep {w w' : World} {g B : Nat} {q : Raw} {m : LMsg} (h : MsgRow w g q m) (hg : g < B) (hb : Below B w w') : MsgRow w' g q m :=
  have k : ∀ o, w'.cell? ⟨g, o, none⟩ = w.cell? ⟨g, o, none⟩ := fun o => hb.cell hg
  ⟨(k 0).trans h.c0, (k 1).trans h.c1, (k 2).trans h.c2, (k 3).trans h.c3, (k 4).trans h.c4, (k 37).trans h.c37, (k 38).trans h.c38⟩
end Go.Proofs.Ytmpgibemmhcncaa

/-
  Of part Read: what is needed here.
-/
namespace Go.Proofs.Ytmpgibemmhcncaa
open Go.RowKit
set_option linter.unusedVariables false
def zeros (n : Nat) : List Value := List.replicate n (.int .u8 0)
end Go.Proofs.Ytmpgibemmhcncaa

/-
  Of part ListV: what is needed here.
-/
namespace Go.Proofs.Ytmpgibemmhcncaa
open Go.RowKit
set_option linter.unusedVariables false
section
variable {P : Program}
/-- a slice literal of one element of many cells -/
theorem wpList_buildOne {ops : Array Oper} {rest : List Oper} {o : Oper} {a : Act} {w : World} {Q : Exit → Act → World → Prop} (hg : o.guard = none) (t e : TypeId) (y : Operand) (ho : o.op = .buildSlice t 1 #[(0, y)])
    (cs : List Value) (z : Value) (size bytes : Nat) (hu : P.underlying t = some (.slice e)) (hi : (P.info? e).map (fun i => (i.zero, i.size, i.bytes)) = some (some z, size, bytes)) (hzs : z.cells.size = size) (hs0 : 0 < size) (hs1 : size ≤ 1000)
    (hcs : cs.length = size) (hy : a.eval y = .agg cs.toArray)
    (h : wpList P ops Q rest (a.put o.dst (.slice (some ⟨w.heap.size, 0, none⟩) 1 1)) (w.alloc (.cells cs.toArray e))) : wpList P ops Q (o :: rest) a w := by
  obtain ⟨ie, hie, h1, h2, _⟩ := info_parts hi
  subst h2
  refine wpList_buildSlice hg t e 1 _ ho cs.toArray ie z hu hie h1 (by omega) (by omega) ?_ h
  have := Go.Great.fill_whole (s := ie.size) hs0 [Value.agg cs.toArray] ((Array.range (1 * ie.size)).map (z.cells[· % z.cells.size]!)) (by simp [Value.cells, hcs]) (by simp)
  simpa [hy, Value.cells] using this
end
end Go.Proofs.Ytmpgibemmhcncaa

/-
  Of part Message: what is needed here.
-/
namespace Go.Proofs.Ytmpgibemmhcncaa
open Go.RowKit
set_option linter.unusedVariables false
/-- a message's cells, by themselves -/
def mcells (v0 : Bool) (s r o : Int) (K : Value) (h : List Int) (I L : Value) : List Value := [.bool v0, .int .u8 s, .int .u8 r, .int .u8 o, K] ++ (bv h ++ [I, L])
def zero32 : List Int := List.replicate 32 0
def mzero : List Value := mcells false 0 0 0 (.slice none 0 0) zero32 (.slice none 0 0) (.slice none 0 0)
end Go.Proofs.Ytmpgibemmhcncaa

/-
  Of part GetMsg: what is needed here.
-/
namespace Go.Proofs.Ytmpgibemmhcncaa
open Go.RowKit
set_option linter.unusedVariables false
section
variable {P : Program}
theorem wp_store_whole {op : Oper} {a : Act} {w : World} {K : Act → World → Prop} {Q : Exit → Act → World → Prop} (ty : TypeId) (x y : Operand) (ho : op.op = .store ty x y)
    (g : Nat) (c cs : List Value) (hr : Row w g ty c) (hi : (P.info? ty).map (·.size) = some cs.length) (hl : c.length = cs.length) (h1 : ∀ u ∈ cs, u.oneCell' = true)
    (hx : a.eval x = .pointer (some ⟨g, 0, none⟩)) (hy : a.eval y = .agg cs.toArray)
    (h : ∀ w', Row w' g ty cs → Turned w w' g → K (a.put op.dst undef) w') : op.wp P a w K Q := by
  unfold Oper.wp execOp
  simp only [ho, hx, hy, Sem.run_bind, Sem.run_pure, run_storeAt_whole w g ty c cs hr hi hl h1, Result.andThen_ok]
  exact h _ (row_setRow hr cs) (turned_setRow w g _)
end
/-- 'wpAnyH_take', the operations a list: the operation comes out written out -/
theorem takeL {P : Program} {L : List Oper} {Q : Exit → Act → World → Prop} {md : Region.Mode} {S : World → Prop} {i : Nat} {oi : Oper} {v : Value} {fuel : Nat} {listed : Array Bool} {a : Act} {w : World} (hi : L[i]? = some oi)
    (hs : Region.noSelect L.toArray = true) (hf : Region.free md L.toArray listed i = true) (hr : (Region.ready md L.toArray listed).contains i = true)
    (hQ : ∀ c a w, Q (.panic c) (a.put oi.dst v) w → Q (.panic c) a w) (hy : YieldsIf P L.toArray S oi v a) (hS : S w)
    (h : wpAnyH P md L.toArray Q S fuel (listed.setIfInBounds i true) (a.put oi.dst v) w) : wpAnyH P md L.toArray Q S (fuel + 1) listed a w :=
  wpAnyH_take (by simpa using hi) hs hf hr hQ hy hS h
/-- 'AllReadyH.cons', likewise, for one operation -/
theorem readyL {P : Program} {L : List Oper} {Q : Exit → Act → World → Prop} {md : Region.Mode} {S : World → Prop} {i : Nat} {o : Oper} {fuel : Nat} {listed : Array Bool} {a : Act} {w : World} (ho : L[i]? = some o) (hr : Region.ready md L.toArray listed = [i])
    (hw : Region.wanted o (yielded L.toArray a.tmps) = true)
    (h : ∀ K' : Act → World → Prop, Shut (∀ a w, S w → wpAnyH P md L.toArray Q S fuel (listed.setIfInBounds i true) a w → K' a w) → Oper.wp P o a w K' Q) : wpAnyH P md L.toArray Q S (fuel + 1) listed a w :=
  wpAnyH_ready hr (by simp) (AllReadyH.cons (by simpa using ho) (fun K hK => by
    rw [if_pos hw]
    exact h K (fun a w hS hW => hK a w hS fun _ => hW)) AllReadyH.nil)
end Go.Proofs.Ytmpgibemmhcncaa

/-
  Of part SameZero: what is needed here.
-/
namespace Go.Proofs.Ytmpgibemmhcncaa
open Go.RowKit
set_option linter.unusedVariables false
section
variable {P : Program}
theorem wpList_load_atg {ops : Array Oper} {rest : List Oper} {op : Oper} {a : Act} {w : World} {Q : Exit → Act → World → Prop} (hw : Region.wanted op (yielded ops a.tmps) = true) (ty : TypeId) (x : Operand) (ho : op.op = .load ty x)
    (p : Addr) (cs : List Value) (d : TypeDesc) (hu : P.underlying ty = some d) (hd : d.isRow = true) (hi : (P.info? ty).map (·.size) = some cs.length) (hc : ∀ j v, cs[j]? = some v → w.cell? (p.add j) = some v)
    (hx : a.eval x = .pointer (some p)) (h : wpList P ops Q rest (a.put op.dst (.agg cs.toArray)) w) : wpList P ops Q (op :: rest) a w :=
  BigFrame.wpList_want hw fun _ hK => by
    unfold Oper.wp execOp
    simp only [ho, hx, Sem.run_bind, Sem.run_pure, run_loadAt_at w p ty cs d hc hu hd hi, Result.andThen_ok]
    exact hK _ _ h
end
end Go.Proofs.Ytmpgibemmhcncaa

/-
  Of part IsIn: what is needed here.
-/
namespace Go.Proofs.Ytmpgibemmhcncaa
open Go.RowKit
set_option linter.unusedVariables false
theorem flatten_at {α : Type} (size : Nat) : ∀ (l : List (List α)) (k : Nat) (x : List α), (∀ (i : Nat) y, l[i]? = some y → y.length = size) → l[k]? = some x → ∀ j u, x[j]? = some u → l.flatten[k * size + j]? = some u
  | [], k, x, _, h, _, _, _ => by simp at h
  | y :: r, 0, x, hl, h, j, u, hu => by
    have : y = x := by simpa using h
    subst this
    have hj := (List.getElem?_eq_some_iff.1 hu).1
    rw [List.flatten_cons, List.getElem?_append_left (by simpa using hj)]
    simpa using hu
  | y :: r, k + 1, x, hl, h, j, u, hu => by
    have hy := hl 0 y (by simp)
    rw [List.flatten_cons, List.getElem?_append_right (by rw [hy, Nat.add_mul]; omega)]
    have := flatten_at size r k x (fun i z hz => hl (i + 1) z (by simpa using hz)) (by simpa using h) j u hu
    rw [← this]
    congr 1
    rw [hy, Nat.add_mul]
    omega
end Go.Proofs.Ytmpgibemmhcncaa

/-
  Of part RefAt: what is needed here.
-/
namespace Go.Proofs.Ytmpgibemmhcncaa
open Go.RowKit
set_option linter.unusedVariables false
/-- two that may come up -/
theorem readyL2 {P : Program} {L : List Oper} {Q : Exit → Act → World → Prop} {md : Region.Mode} {S : World → Prop} {i j : Nat} {o o' : Oper} {fuel : Nat} {listed : Array Bool} {a : Act} {w : World} (ho : L[i]? = some o) (ho' : L[j]? = some o') (hr : Region.ready md L.toArray listed = [i, j])
    (hw : Region.wanted o (yielded L.toArray a.tmps) = true) (hw' : Region.wanted o' (yielded L.toArray a.tmps) = true)
    (h : ∀ K' : Act → World → Prop, Shut (∀ a w, S w → wpAnyH P md L.toArray Q S fuel (listed.setIfInBounds i true) a w → K' a w) → Oper.wp P o a w K' Q)
    (h' : ∀ K' : Act → World → Prop, Shut (∀ a w, S w → wpAnyH P md L.toArray Q S fuel (listed.setIfInBounds j true) a w → K' a w) → Oper.wp P o' a w K' Q) : wpAnyH P md L.toArray Q S (fuel + 1) listed a w :=
  wpAnyH_ready hr (by simp) (AllReadyH.cons (by simpa using ho) (fun K hK => by
    rw [if_pos hw]
    exact h K (fun a w hS hW => hK a w hS fun _ => hW)) (AllReadyH.cons (by simpa using ho') (fun K hK => by
    rw [if_pos hw']
    exact h' K (fun a w hS hW => hK a w hS fun _ => hW)) AllReadyH.nil))
end Go.Proofs.Ytmpgibemmhcncaa

/-
  Of part BookK: what is needed here.
-/
namespace Go.Proofs.Ytmpgibemmhcncaa
open Go.RowKit
set_option linter.unusedVariables false
theorem exec_built {a : Act} {o : Oper} (w : World) (t : TypeId) (parts : Array (Nat × Operand)) (cells : Array Value) (ho : o.op = .build t parts) (h : Try.prog.built t (parts.map fun (i, x) => (i, a.eval x)).toList = some cells) : (execOp a.eval o).run Try.prog w = .ok (.value (.agg cells)) w := by
  simp only [execOp, ho, Sem.run_bind, run_build w t _ cells h, Result.andThen_ok]
  rfl
theorem wp_built {o : Oper} {a : Act} {w : World} {K : Act → World → Prop} {Q : Exit → Act → World → Prop} (t : TypeId) (parts : Array (Nat × Operand)) (cells : Array Value) (ho : o.op = .build t parts)
    (h : Try.prog.built t (parts.map fun (i, x) => (i, a.eval x)).toList = some cells) (hK : K (a.put o.dst (.agg cells)) w) : o.wp Try.prog a w K Q :=
  wp_build t parts ho (by rw [h]; rfl) (by rw [h]; exact hK)
/-- 'AllReadyH.cons', the operations a list -/
theorem allL {P : Program} {L : List Oper} {Q : Exit → Act → World → Prop} {md : Region.Mode} {S : World → Prop} {i : Nat} {o : Oper} {fuel : Nat} {listed : Array Bool} {a : Act} {w : World} {rs : List Nat} (ho : L[i]? = some o)
    (hw : Region.wanted o (yielded L.toArray a.tmps) = true)
    (h : ∀ K' : Act → World → Prop, Shut (∀ a w, S w → wpAnyH P md L.toArray Q S fuel (listed.setIfInBounds i true) a w → K' a w) → Oper.wp P o a w K' Q)
    (hs : AllReadyH P md L.toArray Q S fuel listed a w rs) : AllReadyH P md L.toArray Q S fuel listed a w (i :: rs) :=
  AllReadyH.cons (by simpa using ho) (fun K hK => by
    rw [if_pos hw]
    exact h K (fun a w hS hW => hK a w hS fun _ => hW)) hs
end Go.Proofs.Ytmpgibemmhcncaa

/-
  Of part TwinK: what is needed here.
-/
namespace Go.Proofs.Ytmpgibemmhcncaa
open Go.RowKit
set_option linter.unusedVariables false
theorem Row.of_ownN {w : World} {base N size g : Nat} {e : TypeId} {xs : List Value} (h : w.ownsRow base e size (.slice (some ⟨g, 0, none⟩) N N) N xs) : Row w g e xs := by
  rcases h.2 with ⟨h1, _⟩ | ⟨g', cap, cur, h1, h2, h3, h4, h5, h6, h7⟩
  · cases h1
  · cases h1
    refine ⟨?_⟩
    rw [h3, ← h7, ← h6, ← Array.length_toList, List.take_length]
/-- keys that stand in a row -/
theorem keys_row {w : World} {g : Nat} {l : List (List Int)} {ys : List Value} {n : Nat} (hr : Row w g 47 (bv l.flatten ++ ys)) (hn : l.length = n) (h32 : ∀ k ∈ l, k.length = 32) {B : Nat} (hB : g < B) : KeysIn w B (some ⟨g, 0, none⟩) n l :=
  ⟨hn, h32, ⟨by rw [bv_length, flatten_len l h32, hn], fun i u hu => ⟨_, rfl, hB, by
    rw [addr_row, hr.cell, Nat.zero_add, List.getElem?_append_left (List.getElem?_eq_some_iff.1 hu).1]
    exact hu⟩⟩⟩
end Go.Proofs.Ytmpgibemmhcncaa

/-
  Of part Enc: what is needed here.
-/
namespace Go.Proofs.Ytmpgibemmhcncaa
open Go.RowKit
set_option linter.unusedVariables false
theorem AllBytes.map {α : Type} {f : α → List Int} {l : List α} (h : ∀ x ∈ l, AllBytes (f x)) : AllBytes (l.flatMap f) := fun z hz => by
  obtain ⟨x, hx, hz⟩ := List.mem_flatMap.1 hz
  exact h x hx z hz
end Go.Proofs.Ytmpgibemmhcncaa

/-
  Of part Tx: what is needed here.
-/
namespace Go.Proofs.Ytmpgibemmhcncaa
open Go.RowKit
set_option linter.unusedVariables false
/-- a transaction -/
structure LTx where
  sigs : List (List Int)
  m : LMsg
/-- all numbers are bytes, signatures have 64 of them -/
structure LTx.Wf (x : LTx) : Prop where
  sigs : ∀ s ∈ x.sigs, s.length = 64 ∧ AllBytes s
  m : x.m.Wf
/-- signatures that lie below block B -/
structure SigsIn (w : World) (B : Nat) (A : Option Addr) (n : Nat) (l : List (List Int)) : Prop where
  len : l.length = n
  each : ∀ k ∈ l, k.length = 64
  sees : Sees w B A (n * 64) (bv l.flatten)
/-- where a transaction's lists lie -/
structure TRaw where
  SA : Option Addr
  sn : Nat
  sc : Nat
  q : Raw
/-- a transaction's cells -/
def TRaw.cells (s : TRaw) (x : LTx) : List Value := .slice s.SA s.sn s.sc :: s.q.cells x.m
/-- a transaction's lists lie below block B -/
structure TxIn (w : World) (B : Nat) (s : TRaw) (x : LTx) : Prop where
  sigs : SigsIn w B s.SA s.sn x.sigs
  sn : s.sn ≤ s.sc ∧ s.sc ≤ maxLen
  m : MsgIn w B s.q x.m
section
variable {w w' : World} {B B' : Nat}
theorem SigsIn.keep {A : Option Addr} {n : Nat} {l : List (List Int)} (h : SigsIn w B A n l) (hk : ∀ p : Addr, p.block < B → w'.cell? p = w.cell? p) : SigsIn w' B A n l := ⟨h.len, h.each, h.sees.keep hk⟩
theorem SigsIn.more {A : Option Addr} {n : Nat} {l : List (List Int)} (h : SigsIn w B A n l) (hB : B ≤ B') : SigsIn w B' A n l := ⟨h.len, h.each, h.sees.more hB⟩
theorem SigsIn.below {A : Option Addr} {n : Nat} {l : List (List Int)} (h : SigsIn w B A n l) (hb : Below B w w') : SigsIn w' B A n l := h.keep fun _ hp => hb.cell hp
variable {s : TRaw} {x : LTx}
theorem TxIn.keep (h : TxIn w B s x) (hk : ∀ p : Addr, p.block < B → w'.cell? p = w.cell? p) : TxIn w' B s x := ⟨h.sigs.keep hk, h.sn, h.m.keep hk⟩
theorem TxIn.more (h : TxIn w B s x) (hB : B ≤ B') : TxIn w B' s x := ⟨h.sigs.more hB, h.sn, h.m.more hB⟩
theorem TxIn.below (h : TxIn w B s x) (hb : Below B w w') : TxIn w' B s x := h.keep fun _ hp => hb.cell hp
theorem TxIn.alloc (h : TxIn w B s x) (hB : B ≤ w.heap.size) (o : Obj) : TxIn (w.alloc o) B s x := h.keep fun p hp => World.cell?_alloc_lt w o p (by omega)
theorem TxIn.drewN (h : TxIn w B s x) (n : Nat) : TxIn (w.drewN n) B s x := h.keep fun p hp => rfl
theorem tcells_len (h : x.m.recent.length = 32) : (s.cells x).length = 40 := by simp [TRaw.cells, cells_len h]
theorem tcells_m (j : Nat) : (s.cells x)[1 + j]? = (s.q.cells x.m)[j]? := by unfold TRaw.cells; rw [show 1 + j = j + 1 by omega]; rfl
theorem tcells_one : ∀ u ∈ s.cells x, u.oneCell' = true := by
  intro u hu
  rcases List.mem_cons.1 hu with rfl | hu
  · rfl
  · exact cells_one u hu
end
theorem flatten_get64 : ∀ (l : List (List Int)) (k : Nat) (x : List Int), (∀ y ∈ l, y.length = 64) → l[k]? = some x → ∀ j, j < 64 → l.flatten[k * 64 + j]? = x[j]?
  | [], k, x, _, h, _, _ => by simp at h
  | y :: r, 0, x, hl, h, j, hj => by
    have : y = x := by simpa using h
    subst this
    have hy := hl y (by simp)
    rw [List.flatten_cons, List.getElem?_append_left (by omega)]
    simp
  | y :: r, k + 1, x, hl, h, j, hj => by
    have hy := hl y (by simp)
    rw [List.flatten_cons, List.getElem?_append_right (by omega)]
    have := flatten_get64 r k x (fun z hz => hl z (by simp [hz])) (by simpa using h) j hj
    rw [← this]
    congr 1
    omega
/-- the k-th signature -/
structure SigAt (w : World) (a : Addr) (k : Nat) (x : List Int) : Prop where
  cells : ∀ j u, (bv x)[j]? = some u → w.cell? ((a.add (k * 64)).add j) = some u
  len : x.length = 64
theorem SigsIn.get {w : World} {B n : Nat} {A : Option Addr} {l : List (List Int)} (h : SigsIn w B A n l) {k : Nat} (hk : k < n) : ∃ a x, A = some a ∧ a.block < B ∧ l[k]? = some x ∧ SigAt w a k x := by
  obtain ⟨x, hx⟩ : ∃ x, l[k]? = some x := ⟨_, List.getElem?_eq_getElem (by rw [h.len]; exact hk)⟩
  have hxl := h.each x (List.mem_of_getElem? hx)
  obtain ⟨a, u, e, hb, _, _⟩ := h.sees.at_ (k := k * 64) (by omega)
  refine ⟨a, x, e, hb, hx, fun j u hu => ?_, hxl⟩
  have hj : j < 64 := by have := (List.getElem?_eq_some_iff.1 hu).1; rw [bv_length] at this; omega
  rw [bv_getElem?, ← flatten_get64 l k x h.each hx j hj, ← bv_getElem?] at hu
  obtain ⟨a', e', _, hc⟩ := h.sees.cell _ u hu
  rw [e] at e'
  cases e'
  rw [addr_add]
  exact hc
theorem SigAt.keep {w w' : World} {B k : Nat} {a : Addr} {x : List Int} (h : SigAt w a k x) (ha : a.block < B) (hk : ∀ p : Addr, p.block < B → w'.cell? p = w.cell? p) : SigAt w' a k x :=
  ⟨fun j u hu => (hk _ (by rw [addr_block, addr_block]; exact ha)).trans (h.cells j u hu), h.len⟩
/-- the zero transaction -/
def zRaw : TRaw := ⟨none, 0, 0, ⟨none, 0, 0, none, 0, 0, none, 0, 0⟩⟩
def zTx : LTx := ⟨[], ⟨false, 0, 0, 0, [], zero32, [], []⟩⟩
def tzero : List Value := .slice none 0 0 :: mzero
theorem zTx_in (w : World) (B : Nat) : TxIn w B zRaw zTx :=
  ⟨⟨rfl, fun k hk => by simp [zTx] at hk, Sees.nil _ _ _⟩, by simp [zRaw, maxLen], ⟨rfl, ⟨rfl, fun k hk => by simp [zTx] at hk, Sees.nil _ _ _⟩, ⟨rfl, fun i y h => by simp [zTx] at h⟩, ⟨rfl, fun i y h => by simp [zTx] at h⟩, by simp [zRaw, maxLen], by simp [zRaw, maxLen], by simp [zRaw, maxLen]⟩⟩
end Go.Proofs.Ytmpgibemmhcncaa

/-
  Of part Sigs: what is needed here.
-/
namespace Go.Proofs.Ytmpgibemmhcncaa
open Go.RowKit
set_option linter.unusedVariables false
theorem info_sig : (Try.prog.info? 41).map (fun i => (i.zero, i.size, i.bytes)) = some (some (.agg (zeros 64).toArray), 64, 64) := by kernel_rfl
end Go.Proofs.Ytmpgibemmhcncaa

/-
  Of part Great: what is needed here.
-/
namespace Go.Proofs.Ytmpgibemmhcncaa
open Go.RowKit
set_option linter.unusedVariables false
/-- no list of it is longer than memory is wide -/
structure Sized (m : LMsg) : Prop where
  keys : m.keys.length ≤ 140737488355328
  ins : m.ins.length ≤ 140737488355328
  looks : m.looks.length ≤ 140737488355328
  inl : ∀ i ∈ m.ins, i.acc.length ≤ 140737488355328 ∧ i.dat.length ≤ 140737488355328
  lol : ∀ l ∈ m.looks, l.wr.length ≤ 140737488355328 ∧ l.rd.length ≤ 140737488355328
def inSize (l : List LIn) : Nat := (l.map fun i => i.acc.length + i.dat.length).sum
def lookSize (l : List LLook) : Nat := (l.map fun i => i.wr.length + i.rd.length).sum
/-- how much of it is gone through -/
def total (m : LMsg) : Nat := m.keys.length + m.ins.length + m.looks.length + inSize m.ins + lookSize m.looks
theorem inSize_succ {l : List LIn} {k : Nat} {x : LIn} (h : l[k]? = some x) : inSize (l.take (k + 1)) = inSize (l.take k) + (x.acc.length + x.dat.length) := by
  unfold inSize
  rw [List.take_add_one, h]
  simp
theorem lookSize_succ {l : List LLook} {k : Nat} {x : LLook} (h : l[k]? = some x) : lookSize (l.take (k + 1)) = lookSize (l.take k) + (x.wr.length + x.rd.length) := by
  unfold lookSize
  rw [List.take_add_one, h]
  simp
/-- what Great tells -/
def GreatDone (w : World) (m : LMsg) (e : Ending) (w' : World) : Prop := (∃ b, e = .returned (.bool b) ∧ (b = false → total m < 3000)) ∧ Below w.heap.size w w'
set_option maxRecDepth 100000 in
set_option maxHeartbeats 1000000 in
theorem great_ (q : Raw) (m : LMsg) (B : Nat) (w : World) (hm : MsgIn w B q m) (hB : B ≤ w.heap.size) (hs : Sized m) :
    Calls Try.prog 7 #[.agg (q.cells m).toArray] w (GreatDone w m) := by
  obtain ⟨KA, kn, kc, IA, n, ic, LA, ln, lc⟩ := q
  have rb := MsgRow.of (Row.new w 31 (Raw.cells ⟨KA, kn, kc, IA, n, ic, LA, ln, lc⟩ m)) hm.recent
  have hb0 := (Below.refl w.heap.size w).alloc (Nat.le_refl _) (.cells (Raw.cells ⟨KA, kn, kc, IA, n, ic, LA, ln, lc⟩ m).toArray 31)
  obtain ⟨cs, hcs⟩ : ∃ cs, cs = Raw.cells ⟨KA, kn, kc, IA, n, ic, LA, ln, lc⟩ m := ⟨_, rfl⟩
  rw [← hcs] at rb hb0 ⊢
  clear hcs
  obtain ⟨d0, d1, d2, d3, d4, d37, d38⟩ := rb
  dsimp only at d4 d37 d38
  have lk := hm.keys.len
  have li := hm.ins.len
  have ll := hm.looks.len
  dsimp only at lk li ll
  have k1 := hs.keys
  have k2 := hs.ins
  have k3 := hs.looks
  rw [lk] at k1
  rw [li] at k2
  rw [ll] at k3
  have HM := Lib.hid (hm.below (hb0.mono hB))
  have HSZ := Lib.hid hs
  have HB0 := Lib.hid hb0
  have HT : Hid (total m = kn + n + ln + inSize m.ins + lookSize m.looks) := Lib.hid (by unfold total; rw [lk, li, ll])
  clear d0 d1 d2 d3 hm hs hb0
  go_enter Try.func7, Try.ntmps7
  go_wp2
  generalize (w.alloc (Obj.cells cs.toArray 31)) = W0 at *
  go_loopw [3, 4] (fun nn i wr => ∃ (k j s : Nat), k ≤ n ∧ i = .int .i64 k ∧ nn = .int .i64 s ∧ wr = W0.drewN j ∧ s = kn + n + ln + inSize (m.ins.take k) ∧ s ≤ 900000000000000) (fun nn i _ => n - (intOf i).toNat)
  case atStart => exact ⟨0, 0, kn + n + ln, Nat.zero_le _, rfl, by simp, rfl, by simp [inSize], by omega⟩
  case round =>
    obtain ⟨k, j, s, hk, rfl, rfl, rfl, hsum, hs9⟩ := hrel
    have HS := Lib.hid hsum
    clear hsum
    by_cases hgo : k < n ∧ s < 3000
    · obtain ⟨hlt, hs3⟩ := hgo
      obtain ⟨a, x, va, vd, rfl, hab, hx, hat⟩ := HM.out.ins.get hlt
      obtain ⟨A1, c1, rfl, _, _, _⟩ := hat.acc.is
      obtain ⟨A2, c2, rfl, _, _, _⟩ := hat.dat.is
      have e1 : W0.cell? ⟨(a.add (k * 3)).block, (a.add (k * 3)).off + 1, none⟩ = some (.slice A1 x.acc.length c1) := hat.cells 1 _ rfl
      have e2 : W0.cell? ⟨(a.add (k * 3)).block, (a.add (k * 3)).off + 2, none⟩ = some (.slice A2 x.dat.length c2) := hat.cells 2 _ rfl
      have l1 := (HSZ.out.inl x (List.mem_of_getElem? hx)).1
      have l2 := (HSZ.out.inl x (List.mem_of_getElem? hx)).2
      have HX := Lib.hid (inSize_succ hx)
      clear hat hx
      go_wp2
      go_quiet (fail)
      go_wp2
      go_roundw
      case rel => exact ⟨k + 1, j + nq, s + x.acc.length + x.dat.length, by omega, by go_num, by go_num, by simp, by have := HS.out; have := HX.out; omega, by omega⟩
      case measure => simp [intOf]; omega
    · have HGO : Hid (3000 ≤ s ∨ s = kn + n + ln + inSize m.ins) := by
        refine Lib.hid ?_
        by_cases h3 : s < 3000
        · right
          have hkn : k = n := by
            have : ¬ k < n := fun h => hgo ⟨h, h3⟩
            omega
          have := HS.out
          rwa [hkn, List.take_of_length_le (by omega)] at this
        · left; omega
      have hdec : (k < n ∧ ¬ s < 3000) ∨ ¬ k < n := by
        by_cases h : k < n
        · exact .inl ⟨h, fun h3 => hgo ⟨h, h3⟩⟩
        · exact .inr h
      clear HS hgo
      rcases hdec with ⟨hd1, hd2⟩ | hd1
      all_goals
        (go_wp2
         go_loopw [3, 5] (fun nn i wr => ∃ (k j s : Nat), k ≤ ln ∧ i = .int .i64 k ∧ nn = .int .i64 s ∧ wr = W0.drewN j ∧ (3000 ≤ s ∨ s = kn + n + ln + inSize m.ins + lookSize (m.looks.take k)) ∧ s ≤ 900000000000000) (fun nn i _ => ln - (intOf i).toNat)
         case atStart => exact ⟨0, j, s, Nat.zero_le _, rfl, rfl, rfl, by simpa [lookSize] using HGO.out, hs9⟩
         case round =>
          clear HGO hd1
          try clear hd2
          clear hs9 hk
          obtain ⟨k, j, s, hk, rfl, rfl, rfl, hsum, hs9⟩ := hrel
          have HS := Lib.hid hsum
          clear hsum
          by_cases hgo : k < ln ∧ s < 3000
          · obtain ⟨hlt, hs3⟩ := hgo
            obtain ⟨a, x, va, vd, rfl, hab, hx, hat⟩ := HM.out.looks.get hlt
            have hc1 : W0.cell? ((a.add (k * 34)).add 32) = some va := hat.cells 32 va (by rw [List.getElem?_append_right (by rw [bv_length, hat.len]; exact Nat.le_refl _), bv_length, hat.len]; rfl)
            have hc2 : W0.cell? ((a.add (k * 34)).add 33) = some vd := hat.cells 33 vd (by rw [List.getElem?_append_right (by rw [bv_length, hat.len]; omega), bv_length, hat.len]; rfl)
            obtain ⟨A1, c1, rfl, _, _, _⟩ := hat.wr.is
            obtain ⟨A2, c2, rfl, _, _, _⟩ := hat.rd.is
            have e1 : W0.cell? ⟨(a.add (k * 34)).block, (a.add (k * 34)).off + 32, none⟩ = some (.slice A1 x.wr.length c1) := hc1
            have e2 : W0.cell? ⟨(a.add (k * 34)).block, (a.add (k * 34)).off + 33, none⟩ = some (.slice A2 x.rd.length c2) := hc2
            have l1 := (HSZ.out.lol x (List.mem_of_getElem? hx)).1
            have l2 := (HSZ.out.lol x (List.mem_of_getElem? hx)).2
            have HX := Lib.hid (lookSize_succ hx)
            clear hat hx hc1 hc2
            go_wp2
            go_quiet (fail)
            go_wp2
            go_roundw
            case rel =>
              refine ⟨k + 1, j + nq, s + x.wr.length + x.rd.length, by omega, by go_num, by go_num, by simp, ?_, by omega⟩
              have h1 := HS.out
              have h2 := HX.out
              omega
            case measure => simp [intOf]; omega
          · have HT2 : Hid (s < 3000 → total m < 3000) := by
              refine Lib.hid fun h3 => ?_
              have hkn : k = ln := by
                have : ¬ k < ln := fun h => hgo ⟨h, h3⟩
                omega
              have h1 := HS.out
              rw [hkn, List.take_of_length_le (by omega)] at h1
              have h2 := HT.out
              omega
            have hdec : (k < ln ∧ ¬ s < 3000) ∨ ¬ k < ln := by
              by_cases h : k < ln
              · exact .inl ⟨h, fun h3 => hgo ⟨h, h3⟩⟩
              · exact .inr h
            clear HS hgo
            rcases hdec with ⟨hd1, hd2⟩ | hd1
            all_goals
              (go_wp2
               go_ret
               exact ⟨⟨_, rfl, fun hb => HT2.out (by first | (simp at hb; done) | (simp at hb; omega))⟩, below_drewN HB0.out j⟩))
end Go.Proofs.Ytmpgibemmhcncaa
