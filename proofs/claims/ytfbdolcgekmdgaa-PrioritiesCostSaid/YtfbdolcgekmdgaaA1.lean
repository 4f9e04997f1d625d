/-
  Parts joined: Mem Bits WideMul DivMath Len Div Row Sum Times CameIn TimesLaw Math10 Put Msg Pay10 FeeWalk10 GetMsg.
-/
import Derived.Below
import Derived.Laws.OwnMore
import Derived.Deep.AppendLies
import Derived.Deep.Draws
import Derived.Lib.Hide
import Derived.Laws.BitsAllLaws
import Derived.WalkKit
import Derived.Test.YtfbdolcgekmdgaaRows
import Derived.WalkSpells
import Derived.WalkLawsBesides
import Derived.IntWalk
import Derived.Lib.Mul64
import Derived.Laws.Bits64b
import Derived.Laws.Externs
import Derived.Lib.BitFns
import Derived.Shelf.Small.Bits
import Derived.Deep.QuietTactic
import Derived.Laws.MakeOwn
import Derived.Laws.CopyOwn
import Derived.Laws.Rows
import Derived.Laws.NewBlocks
import Derived.ProofKit
import Derived.OpenShut
import Derived.ShutString
import Derived.ChangeOld
import Derived.Lib.SmallJoins
import Derived.Maps.AppendAt
import Derived.OwnWalk
import Derived.Deep.MidRow
import Derived.Deep.WholeRow
import Derived.Great.BuildSlice
import Derived.Recover
import Derived.Deep.RegionHeld
/-
  Of part Mem: what is needed here.
-/
namespace Go.Proofs.Ytfbdolcgekmdgaa
open Go.RowKit
/-- bytes (or numbers of another kind) as cells -/
def cv (k : IntKind) (zs : List Int) : List Value := zs.map (Value.int k)
theorem cv_length (k : IntKind) (zs : List Int) : (cv k zs).length = zs.length := by simp [cv]
theorem addr_block (a : Addr) (n : Nat) : (a.add n).block = a.block := by unfold Addr.add; split <;> rfl
theorem addr_row (g i j : Nat) : (⟨g, i, none⟩ : Addr).add j = ⟨g, i + j, none⟩ := by unfold Addr.add; split <;> simp_all
/-- The slice value '.slice A n c' reads as the cells xs; each cell lies below block B. -/
structure Sees (w : World) (B : Nat) (A : Option Addr) (n : Nat) (xs : List Value) : Prop where
  len : xs.length = n
  cell : ∀ i u, xs[i]? = some u → ∃ a, A = some a ∧ a.block < B ∧ w.cell? (a.add i) = some u
section
variable {w w' : World} {B B' n : Nat} {A : Option Addr} {xs : List Value}
theorem Sees.nil (w : World) (B : Nat) (A : Option Addr) : Sees w B A 0 [] := ⟨rfl, fun i u h => by simp at h⟩
theorem Sees.keep (h : Sees w B A n xs) (hk : ∀ p : Addr, p.block < B → w'.cell? p = w.cell? p) : Sees w' B A n xs :=
  ⟨h.len, fun i u hu => by
    obtain ⟨a, e, hb, hc⟩ := h.cell i u hu
    exact ⟨a, e, hb, (hk _ (by rw [addr_block]; exact hb)).trans hc⟩⟩
theorem Sees.more (h : Sees w B A n xs) (hB : B ≤ B') : Sees w B' A n xs :=
  ⟨h.len, fun i u hu => by
    obtain ⟨a, e, hb, hc⟩ := h.cell i u hu
    exact ⟨a, e, by omega, hc⟩⟩
theorem Sees.below (h : Sees w B A n xs) (hb : Below B w w') : Sees w' B A n xs := h.keep fun _ hp => hb.cell hp
theorem Sees.drew (h : Sees w B A n xs) : Sees w.drew B A n xs := ⟨h.len, h.cell⟩
theorem Sees.drewN (h : Sees w B A n xs) (k : Nat) : Sees (w.drewN k) B A n xs := ⟨h.len, h.cell⟩
theorem Sees.alloc (h : Sees w B A n xs) (hB : B ≤ w.heap.size) (o : Obj) : Sees (w.alloc o) B A n xs := h.keep fun p hp => World.cell?_alloc_lt w o p (by omega)
theorem Sees.setCell (h : Sees w B A n xs) {p : Addr} (hB : B ≤ p.block) (u : Value) : Sees (w.setCell p u) B A n xs :=
  h.keep fun q hq => World.cell?_setCell_other w p q u (fun e => by subst e; omega)
theorem Sees.at_ {k : Nat} (h : Sees w B A n xs) (hk : k < n) : ∃ a u, A = some a ∧ a.block < B ∧ xs[k]? = some u ∧ w.cell? (a.add k) = some u := by
  have hl : k < xs.length := by have := h.len; omega
  obtain ⟨a, e, hb, hc⟩ := h.cell k _ (List.getElem?_eq_getElem hl)
  exact ⟨a, _, e, hb, List.getElem?_eq_getElem hl, hc⟩
end
end Go.Proofs.Ytfbdolcgekmdgaa

/-
  Of part Bits: what is needed here.
-/
namespace Go.Proofs.Ytfbdolcgekmdgaa
open Go.RowKit
set_option linter.unusedVariables false
theorem nat_or_add (k y x : Nat) (hy : y < 2 ^ k) (hx : x % 2 ^ k = 0) : y ||| x = y + x := by
  obtain ⟨q, rfl⟩ : 2 ^ k ∣ x := Nat.dvd_of_mod_eq_zero hx
  rw [Nat.or_comm, Nat.add_comm, Nat.two_pow_add_eq_or_of_lt hy]
section
variable (k : Nat) (y x : Int) (h0 : 0 ≤ y) (h1 : y < 2 ^ k) (h2 : 0 ≤ x) (h3 : x % 2 ^ k = 0)
include h0 h1 h2 h3
theorem pow_facts : ∃ a b : Nat, y = a ∧ x = b ∧ a ||| b = a + b := by
  obtain ⟨a, rfl⟩ := Int.eq_ofNat_of_zero_le h0
  obtain ⟨b, rfl⟩ := Int.eq_ofNat_of_zero_le h2
  exact ⟨a, b, rfl, rfl, nat_or_add k a b (by exact_mod_cast h1) (by exact_mod_cast h3)⟩
end
end Go.Proofs.Ytfbdolcgekmdgaa

/-
  Of part WideMul: what is needed here.
-/
namespace Go.Proofs.Ytfbdolcgekmdgaa
open Go.RowKit
set_option linter.unusedVariables false
/-- a number of 64 bits -/
def Word (x : Int) : Prop := 0 ≤ x ∧ x < 18446744073709551616
theorem Word.nat {x : Int} (h : Word x) : ∃ n : Nat, x = n ∧ n < 18446744073709551616 := ⟨x.toNat, by have := h.1; omega, by have := h.1; have := h.2; omega⟩
theorem word_mod (x : Int) : Word (x % 18446744073709551616) := ⟨by omega, by omega⟩
theorem word_lit {x : Int} (h : 0 ≤ x) (h' : x < 18446744073709551616) : Word x := ⟨h, h'⟩
/-- The product of two words, over two words -/
theorem word_prod {a b : Int} (ha : Word a) (hb : Word b) : 0 ≤ a * b ∧ a * b ≤ 18446744073709551615 * 18446744073709551615 := by
  obtain ⟨a0, a1⟩ := ha
  obtain ⟨b0, b1⟩ := hb
  exact ⟨Int.mul_nonneg a0 b0, Int.mul_le_mul (by omega) (by omega) b0 (by omega)⟩
theorem word_hi {a b : Int} (ha : Word a) (hb : Word b) : Word (a * b / 18446744073709551616) := by
  have := word_prod ha hb
  exact ⟨by omega, by omega⟩
theorem low32 (n : Nat) (h : n < 18446744073709551616) : bits .and .u64 (n : Int) 4294967295 = ((n % 4294967296 : Nat) : Int) := by
  have e := bits_and_u64_nat n 4294967295 h (by omega)
  rw [show n &&& 4294967295 = n % 4294967296 from Nat.and_two_pow_sub_one_eq_mod n 32] at e
  exact e
theorem up32 (n : Nat) : (n : Int) / 4294967296 = ((n / 4294967296 : Nat) : Int) := by omega
theorem in64 (n : Nat) (h : n < 18446744073709551616) : IntKind.u64.wrap (n : Int) = n := by rw [IntKind.wrap_u64]; omega
theorem lo64 (n : Nat) : IntKind.u64.wrap (n : Int) = ((n % 18446744073709551616 : Nat) : Int) := by rw [IntKind.wrap_u64]; omega
theorem pair64 {a b c d : Int} (h : a = c) (h' : b = d) : Ending.returned (.tuple #[.int .u64 a, .int .u64 b]) = .returned (.tuple #[.int .u64 c, .int .u64 d]) := by rw [h, h']
set_option maxHeartbeats 1000000 in
theorem bitsMul64 (a b : Int) (ha : Word a) (hb : Word b) (w : World) :
    Calls Try.prog 19 #[.int .u64 a, .int .u64 b] w fun e w' => e = .returned (.tuple #[.int .u64 (a * b / 18446744073709551616), .int .u64 (a * b % 18446744073709551616)]) ∧ w = w' := by
  obtain ⟨x, rfl, hx⟩ := ha.nat
  obtain ⟨y, rfl, hy⟩ := hb.nat
  obtain ⟨m1, m2, m3, m4⟩ := Lib.mul64_hi x y hx hy
  have l1 := Lib.half_mul_le (a := x / 4294967296) (b := y / 4294967296) (by omega) (by omega)
  have l2 := Lib.half_mul_le (a := x / 4294967296) (b := y % 4294967296) (by omega) (by omega)
  have l3 := Lib.half_mul_le (a := x % 4294967296) (b := y / 4294967296) (by omega) (by omega)
  have hq : x * y / 18446744073709551616 < 18446744073709551616 := by
    have : x * y ≤ 18446744073709551615 * 18446744073709551615 := Nat.mul_le_mul (by omega) (by omega)
    omega
  have n1 : x / 4294967296 * (y / 4294967296) < 18446744073709551616 := by omega
  have n2 : x / 4294967296 * (y % 4294967296) < 18446744073709551616 := by omega
  have n3 : x % 4294967296 * (y / 4294967296) < 18446744073709551616 := by omega
  have n4 : x / 4294967296 * (y / 4294967296) + (x / 4294967296 * (y % 4294967296) + x % 4294967296 * (y % 4294967296) / 4294967296) / 4294967296 < 18446744073709551616 := by omega
  have n5 := m4 ▸ hq
  have E := Lib.hid m4
  clear m4 ha hb
  go_enter Try.func19, Try.ntmps19
  go_wp2
  simp only [low32 x hx, low32 y hy, up32, ← Int.natCast_mul, ← Int.natCast_add, in64 _ m1, in64 _ m2, in64 _ n2, low32 _ m2, in64 _ n3, in64 _ m3, in64 _ n1, in64 _ n4, in64 _ n5, lo64 (x * y)]
  rw [E.out]
  go_ret2
  exact ⟨pair64 (a := ((x * y / 18446744073709551616 : Nat) : Int)) (b := ((x * y % 18446744073709551616 : Nat) : Int)) (by omega) (by omega), rfl⟩
theorem mul_ (a b : Int) (ha : Word a) (hb : Word b) (w : World) :
    Calls Try.prog 15 #[.int .u64 a, .int .u64 b] w fun e w' => e = .returned (.tuple #[.int .u64 (a * b / 18446744073709551616), .int .u64 (a * b % 18446744073709551616)]) ∧ w = w' := by
  have C := fun w => bitsMul64 a b ha hb w
  generalize a * b / 18446744073709551616 = h at *
  generalize a * b % 18446744073709551616 = l at *
  go_enter Try.func15, Try.ntmps15
  go_wp2_with fail
  refine (C _).mono ?_
  rintro e w1 ⟨rfl, rfl⟩
  go_wp2
  go_ret2
  exact ⟨rfl, rfl⟩
/-- math/bits.Add64 with no carry coming in -/
theorem add64 (x y : Int) (hx : Word x) (hy : Word y) (w : World) :
    (callFunc 18 #[.int .u64 x, .int .u64 y, .int .u64 0]).run Try.prog w =
      .ok (.value (.tuple #[.int .u64 ((x + y) % 18446744073709551616), .int .u64 ((x + y) / 18446744073709551616)])) w := by
  rw [run_callFunc_extern Try.func18 (by kernel_rfl) (by kernel_rfl) (by kernel_rfl) (e := add64Entry) (by kernel_rfl), run_add64 x y 0 hx.1 hy.1 (by omega) (by omega)]
  simp [Result.andThen]
end Go.Proofs.Ytfbdolcgekmdgaa

/-
  Of part DivMath: what is needed here.
-/
namespace Go.Proofs.Ytfbdolcgekmdgaa
open Go
set_option linter.unusedVariables false
theorem bitLen_hi : ∀ (k x : Nat), x < 2 ^ k → x < 2 ^ 64 → x < 2 ^ Lib.bitLen x
  | 0, x, h, _ => by
      have : x = 0 := by omega
      subst this; decide
  | k + 1, x, h, h' => by
      by_cases h0 : x = 0
      · subst h0; decide
      · rw [Lib.bitLen_half x h0 h']
        have := bitLen_hi k (x / 2) (by rw [Nat.pow_succ] at h; omega) (by omega)
        rw [Nat.add_comm, Nat.pow_succ]; omega
theorem bitLen_lo : ∀ (k x : Nat), x < 2 ^ k → x < 2 ^ 64 → 0 < x → 2 ^ Lib.bitLen x ≤ 2 * x
  | 0, x, h, _, h0 => by omega
  | k + 1, x, h, h', h0 => by
      rw [Lib.bitLen_half x (by omega) h']
      by_cases h1 : x = 1
      · subst h1; decide
      · have := bitLen_lo k (x / 2) (by rw [Nat.pow_succ] at h; omega) (by omega) (by omega)
        rw [Nat.add_comm, Nat.pow_succ]; omega
/-- the shift that brings a number's highest bit to the top -/
theorem shift_top (y : Nat) (h0 : 0 < y) (h1 : y < 2 ^ 64) : ∃ s : Nat, s ≤ 63 ∧ Lib.bitLen y = 64 - s ∧ 2 ^ 63 ≤ y * 2 ^ s ∧ y * 2 ^ s < 2 ^ 64 := by
  have a := bitLen_hi 64 y h1 h1
  have b := bitLen_lo 64 y h1 h1 h0
  have c := Lib.bitLen_le y 64 (by omega) h1
  have d : 1 ≤ Lib.bitLen y := by
    rcases Nat.eq_zero_or_pos (Lib.bitLen y) with h | h
    · rw [h] at a; omega
    · exact h
  generalize Lib.bitLen y = n at *
  have e : 2 ^ n * 2 ^ (64 - n) = 2 ^ 64 := by rw [← Nat.pow_add]; congr 1; omega
  refine ⟨64 - n, by omega, by omega, ?_, ?_⟩
  · have := Nat.mul_le_mul_right (2 ^ (64 - n)) b
    rw [e, Nat.mul_assoc] at this
    omega
  · have p : 0 < 2 ^ (64 - n) := Nat.pow_pos (by omega)
    have := Nat.mul_lt_mul_of_pos_right a p
    omega
section
variable {u v d v1 v0 : Int} (hu : 0 ≤ u) (huv : u < v) (hd : 0 ≤ d) (hd' : d < 4294967296) (hv : 9223372036854775808 ≤ v) (hv' : v < 18446744073709551616) (e1 : v1 = v / 4294967296) (e0 : v0 = v % 4294967296)
/-- the digit -/
def digit (u v d : Int) : Int := (u * 4294967296 + d) / v
include hu huv hd hd' hv in
theorem digit_in : 0 ≤ digit u v d ∧ digit u v d < 4294967296 := by
  unfold digit
  refine ⟨Int.ediv_nonneg (by omega) (by omega), ?_⟩
  exact Int.ediv_lt_of_lt_mul (by omega) (by omega)
include hv in
theorem digit_le {q : Int} (h : q * v ≤ u * 4294967296 + d) : q ≤ digit u v d := Int.le_ediv_of_mul_le (by omega) h
include hv in
theorem digit_ge : digit u v d * v ≤ u * 4294967296 + d := Int.ediv_mul_le _ (by omega)
include e1 e0 in
theorem halves (q : Int) : q * v = q * v1 * 4294967296 + q * v0 := by
  have : v = v1 * 4294967296 + v0 := by omega
  rw [this, Int.mul_add, ← Int.mul_assoc]
/-- what a guess q and its rest r keep -/
structure Guess (u v d v1 q r : Int) : Prop where
  eq : q * v1 + r = u
  up : digit u v d ≤ q
  r0 : 0 ≤ r
  r1 : r < 4294967296
  q0 : 0 ≤ q
  q1 : q ≤ 4294967297
include hu huv hd hd' hv hv' e1 e0 in
theorem Guess.first : Guess u v d v1 (u / v1) (u % v1) := by
  have p : 0 < v1 := by omega
  have e := Int.mul_ediv_add_emod u v1
  have a := Int.emod_nonneg u (show v1 ≠ 0 by omega)
  have b := Int.emod_lt_of_pos u p
  have q0 : 0 ≤ u / v1 := Int.ediv_nonneg hu (by omega)
  refine ⟨by rw [Int.mul_comm]; exact e, ?_, a, by omega, q0, ?_⟩
  · have h := digit_ge (u := u) (d := d) hv
    rw [halves e1 e0] at h
    have hq := (digit_in hu huv hd hd' hv).1
    generalize digit u v d = q at *
    refine Int.le_ediv_of_mul_le p ?_
    have z : 0 ≤ q * v0 := Int.mul_nonneg hq (by omega)
    omega
  · have : u / v1 < 4294967298 := Int.ediv_lt_of_lt_mul p (by omega)
    omega
include hv e1 e0 in
/-- the guess is good -/
theorem Guess.done {q r : Int} (g : Guess u v d v1 q r) (h : q * v0 ≤ 4294967296 * r + d) : q = digit u v d := by
  have hq := g.eq; have hup := g.up
  refine Int.le_antisymm (digit_le hv ?_) hup
  rw [halves e1 e0]
  generalize q * v1 = a at *
  omega
include hu huv hd hd' hv e1 e0 in
/-- the guess is too big -/
theorem Guess.big {q r : Int} (g : Guess u v d v1 q r) (h : 4294967296 ≤ q ∨ 4294967296 * r + d < q * v0) : digit u v d ≤ q - 1 := by
  have hq := g.eq; have hup := g.up
  rcases h with h | h
  · have := (digit_in hu huv hd hd' hv).2
    omega
  · have h2 := digit_ge (u := u) (d := d) hv
    by_cases c : digit u v d = q
    · rw [c, halves e1 e0] at h2
      generalize q * v1 = a at *
      omega
    · omega
include hu huv hd hd' hv hv' e1 e0 in
theorem Guess.next {q r : Int} (g : Guess u v d v1 q r) (h : 4294967296 ≤ q ∨ 4294967296 * r + d < q * v0) (hr : r + v1 < 4294967296) : Guess u v d v1 (q - 1) (r + v1) := by
  have hb := g.big hu huv hd hd' hv e1 e0 h
  have hi := (digit_in hu huv hd hd' hv).1
  have := g.eq; have := g.r0; have := g.q1
  refine ⟨?_, hb, by omega, hr, by omega, by omega⟩
  rw [Int.sub_mul, Int.one_mul]; omega
include hu huv hd hd' hv e1 e0 in
theorem Guess.out {q r : Int} (g : Guess u v d v1 q r) (h : 4294967296 ≤ q ∨ 4294967296 * r + d < q * v0) (hr : 4294967296 ≤ r + v1) : q - 1 = digit u v d := by
  have hb := g.big hu huv hd hd' hv e1 e0 h
  have hi := (digit_in hu huv hd hd' hv).1
  have hq := g.eq; have := g.r0; have := g.q1
  refine Int.le_antisymm (digit_le hv ?_) hb
  rw [halves e1 e0]
  have z : (q - 1) * v0 ≤ 4294967296 * 4294967295 := Int.mul_le_mul (by omega) (by omega) (by omega) (by omega)
  have w : (q - 1) * v1 = q * v1 - v1 := by rw [Int.sub_mul, Int.one_mul]
  rw [w]
  generalize q * v1 = a at *
  omega
include e0 in
/-- the products of the test don't wrap -/
theorem Guess.fit {q r : Int} (g : Guess u v d v1 q r) (h : q < 4294967296) : 0 ≤ q * v0 ∧ q * v0 < 18446744073709551616 := by
  have := g.q0
  refine ⟨Int.mul_nonneg (by omega) (by omega), ?_⟩
  have z : q * v0 ≤ 4294967295 * 4294967295 := Int.mul_le_mul (by omega) (by omega) (by omega) (by omega)
  omega
/-- what is left behind the digit -/
def left (u v d : Int) : Int := (u * 4294967296 + d) % v
include hv in
theorem left_in : 0 ≤ left u v d ∧ left u v d < v := ⟨Int.emod_nonneg _ (by omega), Int.emod_lt_of_pos _ (by omega)⟩
theorem left_eq : u * 4294967296 + d - digit u v d * v = left u v d := by
  have := Int.mul_ediv_add_emod (u * 4294967296 + d) v
  unfold digit left
  rw [Int.mul_comm v] at this
  omega
end
/-- the two digits together, and what is left, are the quotient and the rest -/
theorem two_digits {hi lo y : Int} {s : Nat} (h0 : 0 ≤ hi) (h1 : hi < y) (l0 : 0 ≤ lo) (l1 : lo < 18446744073709551616) {u v d e : Int} (hv : v = y * 2 ^ s) (hde : u * 18446744073709551616 + d * 4294967296 + e = (hi * 18446744073709551616 + lo) * 2 ^ s)
    (hu : 0 ≤ u) (huv : u < v) (hd : 0 ≤ d) (hd' : d < 4294967296) (he : 0 ≤ e) (he' : e < 4294967296) (hv9 : 9223372036854775808 ≤ v) :
    digit u v d * 4294967296 + digit (left u v d) v e = (hi * 18446744073709551616 + lo) / y ∧ left (left u v d) v e / 2 ^ s = (hi * 18446744073709551616 + lo) % y := by
  have a := left_eq (u := u) (v := v) (d := d)
  have b := left_eq (u := left u v d) (v := v) (d := e)
  have i1 := left_in (u := u) (d := d) hv9
  have i2 := left_in (u := left u v d) (d := e) hv9
  have dq := digit_in hu huv hd hd' hv9
  have dq' := digit_in i1.1 i1.2 he he' hv9
  generalize left (left u v d) v e = r2 at *
  generalize left u v d = r1 at *
  generalize digit u v d = q1 at *
  generalize digit r1 v e = q0 at *
  have p : (0 : Int) < 2 ^ s := Int.pow_pos (by omega)
  have t : (hi * 18446744073709551616 + lo) * 2 ^ s = (q1 * 4294967296 + q0) * v + r2 := by
    rw [← hde, Int.add_mul, Int.mul_right_comm]
    generalize q1 * v = g at *
    generalize q0 * v = g' at *
    omega
  generalize hi * 18446744073709551616 + lo = N at *
  generalize q1 * 4294967296 + q0 = Q at *
  subst hv
  have t2 : r2 = (N - Q * y) * 2 ^ s := by rw [Int.sub_mul, Int.mul_assoc]; omega
  have y0 : 0 < y := by omega
  have k0 : 0 ≤ N - Q * y := by
    apply Int.le_of_not_gt
    intro h
    have : (N - Q * y) * 2 ^ s < 0 := Int.mul_neg_of_neg_of_pos h p
    omega
  have k1 : N - Q * y < y := by
    apply Int.lt_of_mul_lt_mul_right _ (Int.le_of_lt p)
    omega
  have e1 : N = (N - Q * y) + y * Q := by rw [Int.mul_comm y]; omega
  constructor
  · rw [e1, Int.add_mul_ediv_left _ _ (by omega), Int.ediv_eq_zero_of_lt k0 k1]; omega
  · rw [t2, Int.mul_ediv_cancel _ (by omega)]
    rw [e1, Int.add_mul_emod_self_left]
    rw [← e1]
    exact (Int.emod_eq_of_lt k0 k1).symm
end Go.Proofs.Ytfbdolcgekmdgaa

/-
  Of part Len: what is needed here.
-/
namespace Go.Proofs.Ytfbdolcgekmdgaa
open Go.RowKit
set_option linter.unusedVariables false
def lzRen : Go.Shelf.Ren := ⟨fun | 134 => 20 | 129 => 21 | n => n, fun | 53 => 22 | 3 => 3 | 4 => 4 | 46 => 47 | 5 => 5 | 9 => 9 | n => n, fun | n => n⟩
theorem lzLays : Go.Proofs.Lays.n134 Try.prog lzRen := {
  mixed := by kernel_rfl
  f129 := Try.func21.trans (congrArg some (by kernel_rfl))
  f134 := Try.func20.trans (congrArg some (by kernel_rfl))
  t3 := Try.underlying3
  a3 := Try.isAgg3
  z3 := Try.sizeOf3
  v3 := Try.zeroValue3
  t4 := Try.underlying4
  a4 := Try.isAgg4
  z4 := Try.sizeOf4
  v4 := Try.zeroValue4
  t5 := Try.underlying5
  a5 := Try.isAgg5
  z5 := Try.sizeOf5
  v5 := Try.zeroValue5
  t9 := Try.underlying9
  a9 := Try.isAgg9
  z9 := Try.sizeOf9
  v9 := Try.zeroValue9
  t46 := Try.underlying47
  a46 := Try.isAgg47
  z46 := Try.sizeOf47
  v46 := Try.zeroValue47
  t53 := Try.underlying22
  a53 := Try.isAgg22
  z53 := Try.sizeOf22
  v53 := Try.zeroValue22 }
/-- how far y is to be moved up -/
theorem leading (y : Int) (h0 : 0 < y) (h1 : y < 18446744073709551616) : ∃ s : Nat, s ≤ 63 ∧ 9223372036854775808 ≤ y * 2 ^ s ∧ y * 2 ^ s < 18446744073709551616 ∧
    ∀ w, Calls Try.prog 20 #[.int .u64 y] w fun e w' => e = .returned (.int .i64 s) ∧ w = w' := by
  obtain ⟨x, rfl⟩ := Int.eq_ofNat_of_zero_le (Int.le_of_lt h0)
  obtain ⟨s, a, b, c, d⟩ := shift_top x (by omega) (by omega)
  have e : (x : Int) * 2 ^ s = ((x * 2 ^ s : Nat) : Int) := by simp
  refine ⟨s, a, by rw [e]; omega, by rw [e]; omega, fun w => ?_⟩
  refine (Any.bits_LeadingZeros64 lzLays x w (by omega) (by omega)).mono ?_
  rintro e' w' ⟨rfl, rfl⟩
  refine ⟨?_, rfl⟩
  have : 64 - ((Lib.bitLen ((x : Int).toNat) : Nat) : Int) = s := by
    rw [Int.toNat_natCast]; omega
  rw [this]
end Go.Proofs.Ytfbdolcgekmdgaa

/-
  Of part Div: what is needed here.
-/
namespace Go.Proofs.Ytfbdolcgekmdgaa
open Go.RowKit
set_option linter.unusedVariables false
theorem u64_or_hi (k : Nat) (y x : Int) (h0 : 0 ≤ y) (h1 : y < 2 ^ k) (h2 : 0 ≤ x) (h3 : x % 2 ^ k = 0) (hy : y < 18446744073709551616) (hx : x < 18446744073709551616) : bits .or .u64 x y = x + y := by
  obtain ⟨a, b, rfl, rfl, h⟩ := pow_facts k y x h0 h1 h2 h3
  rw [u64_or_nat b a (by omega) (by omega), Nat.or_comm, h]; simp; omega
theorem u64_low (x : Int) (h : Word x) : bits .and .u64 x 4294967295 = x % 4294967296 := by
  obtain ⟨n, rfl, hn⟩ := h.nat
  rw [low32 n hn]; omega
theorem w64 {x : Int} (h0 : 0 ≤ x) (h1 : x < 18446744073709551616) : IntKind.u64.wrap x = x := by rw [IntKind.wrap_u64]; omega
/-- the pieces that Div64 works on: u and l the moved number's words, v the moved divisor -/
structure Pieces (hi lo y : Int) (s : Nat) (u v v1 v0 l d e : Int) : Prop where
  iv : v = y * 2 ^ s
  v9 : 9223372036854775808 ≤ v
  vw : v < 18446744073709551616
  i1 : v1 = v / 4294967296
  i0 : v0 = v % 4294967296
  u0 : 0 ≤ u
  uv : u < v
  d0 : 0 ≤ d
  d1 : d < 4294967296
  e0 : 0 ≤ e
  e1 : e < 4294967296
  all : u * 18446744073709551616 + d * 4294967296 + e = (hi * 18446744073709551616 + lo) * 2 ^ s
theorem pieces {hi lo y : Int} {s : Nat} (hh : 0 ≤ hi) (hl : Word lo) (h : hi < y) (hs : s ≤ 63) (top : 9223372036854775808 ≤ y * 2 ^ s) (top' : y * 2 ^ s < 18446744073709551616) :
    ∃ u v v1 v0 l d e, IntKind.u64.wrap (y * 2 ^ s) = v ∧ v / 4294967296 = v1 ∧ bits .and .u64 v 4294967295 = v0 ∧ bits .or .u64 (IntKind.u64.wrap (hi * 2 ^ s)) (lo / 2 ^ (64 - s)) = u ∧
      IntKind.u64.wrap (lo * 2 ^ s) = l ∧ l / 4294967296 = d ∧ bits .and .u64 l 4294967295 = e ∧ Pieces hi lo y s u v v1 v0 l d e := by
  have p : (0 : Int) < 2 ^ s := Int.pow_pos (by omega)
  have p' : (0 : Int) < 2 ^ (64 - s) := Int.pow_pos (by omega)
  have pp : (2 : Int) ^ (64 - s) * 2 ^ s = 18446744073709551616 := by
    rw [← Int.pow_add, show 64 - s + s = 64 by omega]; rfl
  have a0 : 0 ≤ hi * 2 ^ s := Int.mul_nonneg hh (Int.le_of_lt p)
  have a1 : hi * 2 ^ s < y * 2 ^ s := Int.mul_lt_mul_of_pos_right h p
  have b0 : 0 ≤ lo / 2 ^ (64 - s) := Int.ediv_nonneg hl.1 (Int.le_of_lt p')
  have b1 : lo / 2 ^ (64 - s) < 2 ^ s := Int.ediv_lt_of_lt_mul p' (by rw [Int.mul_comm, pp]; exact hl.2)
  have b2 : (2 : Int) ^ s ≤ 9223372036854775808 := by
    have : (2 : Nat) ^ s ≤ 2 ^ 63 := Nat.pow_le_pow_right (by omega) hs
    have e : ((2 ^ s : Nat) : Int) = (2 : Int) ^ s := by simp
    omega
  have c0 : lo * 2 ^ s / 18446744073709551616 = lo / 2 ^ (64 - s) := by
    rw [← pp]; exact Int.mul_ediv_mul_of_pos_left _ _ p
  have c1 := Int.mul_ediv_add_emod (lo * 2 ^ s) 18446744073709551616
  rw [c0] at c1
  have o := u64_or_hi s (lo / 2 ^ (64 - s)) (hi * 2 ^ s) b0 b1 a0 (Int.mul_emod_left _ _) (by omega) (by omega)
  refine ⟨_, y * 2 ^ s, _, _, lo * 2 ^ s % 18446744073709551616, _, _, w64 (by omega) top', rfl, u64_low _ ⟨by omega, top'⟩, by rw [w64 a0 (by omega), o], by rw [IntKind.wrap_u64], rfl, u64_low _ (word_mod _), ?_⟩
  have k : hi * 2 ^ s + 2 ^ s ≤ y * 2 ^ s := by
    have := Int.mul_le_mul_of_nonneg_right (show hi + 1 ≤ y by omega) (Int.le_of_lt p)
    rw [Int.add_mul, Int.one_mul] at this
    exact this
  have all : (hi * 18446744073709551616 + lo) * 2 ^ s = hi * 2 ^ s * 18446744073709551616 + lo * 2 ^ s := by
    rw [Int.add_mul, Int.mul_right_comm]
  refine ⟨rfl, top, top', rfl, rfl, by omega, by omega, by omega, by omega, by omega, by omega, ?_⟩
  rw [all]
  generalize hi * 2 ^ s = A at *
  generalize lo * 2 ^ s = B at *
  omega
/-- the first guess, as the program makes it -/
theorem first_guess {u v v1 v0 d : Int} (hu : 0 ≤ u) (huv : u < v) (hd : 0 ≤ d) (hd' : d < 4294967296) (hv : 9223372036854775808 ≤ v) (hv' : v < 18446744073709551616) (e1 : v1 = v / 4294967296) (e0 : v0 = v % 4294967296) :
    ∃ q r, IntKind.u64.wrap (u.tdiv v1) = q ∧ IntKind.u64.wrap (u - IntKind.u64.wrap (q * v1)) = r ∧ Guess u v d v1 q r := by
  have g := Guess.first hu huv hd hd' hv hv' e1 e0
  refine ⟨_, _, rfl, rfl, ?_⟩
  have h := g.eq; have q0 := g.q0; have q1 := g.q1; have r0 := g.r0; have r1 := g.r1
  rw [Int.tdiv_eq_ediv_of_nonneg hu, w64 q0 (by omega), w64 (x := u / v1 * v1) (by have := Int.mul_nonneg q0 (show 0 ≤ v1 by omega); exact this) (by omega), show u - u / v1 * v1 = u % v1 by omega, w64 r0 (by omega)]
  exact g
/-- what the program makes out of the two digits -/
theorem endgame {hi lo y : Int} {s : Nat} {u v v1 v0 l d e : Int} (P : Pieces hi lo y s u v v1 v0 l d e) (hh : 0 ≤ hi) (hl : Word lo) (h : hi < y) :
    ∃ D U D' q' r', D = digit u v d ∧ D' = digit U v e ∧ IntKind.u64.wrap (IntKind.u64.wrap (IntKind.u64.wrap (u * 4294967296) + d) - IntKind.u64.wrap (D * v)) = U ∧ 0 ≤ U ∧ U < v ∧
      IntKind.u64.wrap (U.tdiv v1) = q' ∧ IntKind.u64.wrap (U - IntKind.u64.wrap (q' * v1)) = r' ∧ Guess U v e v1 q' r' ∧
      IntKind.u64.wrap (IntKind.u64.wrap (D * 4294967296) + D') = (hi * 18446744073709551616 + lo) / y ∧
      IntKind.u64.wrap (IntKind.u64.wrap (IntKind.u64.wrap (U * 4294967296) + e) - IntKind.u64.wrap (D' * v)) / 2 ^ s = (hi * 18446744073709551616 + lo) % y := by
  have a := left_eq (u := u) (v := v) (d := d)
  have i := left_in (u := u) (d := d) P.v9
  have dq := digit_in P.u0 P.uv P.d0 P.d1 P.v9
  obtain ⟨q', r', hq, hr, G⟩ := first_guess i.1 i.2 P.e0 P.e1 P.v9 P.vw P.i1 P.i0
  obtain ⟨f1, f2⟩ := two_digits hh h hl.1 hl.2 P.iv P.all P.u0 P.uv P.d0 P.d1 P.e0 P.e1 P.v9
  have b := left_eq (u := left u v d) (v := v) (d := e)
  have j := left_in (u := left u v d) (d := e) P.v9
  have dq' := digit_in i.1 i.2 P.e0 P.e1 P.v9
  have vw := P.vw
  refine ⟨_, left u v d, _, q', r', rfl, rfl, ?_, i.1, i.2, hq, hr, G, ?_, ?_⟩
  · simp only [IntKind.wrap_u64]
    generalize digit u v d * v = x at *
    omega
  · rw [← f1]
    simp only [IntKind.wrap_u64]
    omega
  · rw [← f2]
    congr 1
    simp only [IntKind.wrap_u64]
    generalize digit (left u v d) v e * v = x at *
    omega
set_option maxHeartbeats 4000000 in
set_option maxRecDepth 100000 in
theorem div64_low (lo y : Int) (hl : Word lo) (hy : Word y) (h : 0 < y) (w : World) :
    Calls Try.prog 16 #[.int .u64 0, .int .u64 lo, .int .u64 y] w fun e w' => e = .returned (.tuple #[.int .u64 (lo / y), .int .u64 (lo % y)]) ∧ ∃ k, w' = w.drewN k := by
  have n0 : (y == 0) = false := by simp; omega
  have n1 : ¬ y = 0 := by omega
  have n2 : ¬ y ≤ 0 := by omega
  have q0 := Int.ediv_nonneg hl.1 hy.1
  have q1 : lo / y ≤ lo := Int.ediv_le_self _ hl.1
  have E1 : IntKind.u64.wrap (lo.tdiv y) = lo / y := by rw [Int.tdiv_eq_ediv_of_nonneg hl.1, w64 q0 (by have := hl.2; omega)]
  generalize lo / y = q at *
  go_enter Try.func16, Try.ntmps16
  go_wp2
  go_region
  all_goals (go_wp2; go_ret2; exact ⟨rfl, 1, rfl⟩)
set_option maxHeartbeats 4000000 in
set_option maxRecDepth 100000 in
theorem div64_high (hi lo y : Int) (hh : Word hi) (hl : Word lo) (hy : Word y) (h : hi < y) (h0 : 0 < hi) (w : World) :
    Calls Try.prog 16 #[.int .u64 hi, .int .u64 lo, .int .u64 y] w fun e w' => e = .returned (.tuple #[.int .u64 ((hi * 18446744073709551616 + lo) / y), .int .u64 ((hi * 18446744073709551616 + lo) % y)]) ∧ ∃ k, w' = w.drewN k := by
  obtain ⟨s, hs, top, top', hlz⟩ := leading y (by omega) hy.2
  obtain ⟨u, v, v1, v0, l, d, e, hV, hV1, hV0, hU, hL, hDd, hE, P⟩ := pieces hh.1 hl h hs top top'
  have z1 : ¬ v1 = 0 := by have := P.i1; have := P.v9; omega
  obtain ⟨q, r, hq, hr, G⟩ := first_guess P.u0 P.uv P.d0 P.d1 P.v9 P.vw P.i1 P.i0
  obtain ⟨D, U, D', q', r', hDa, hDb, hU2, U0, U1, hq', hr', G', hF1, hF2⟩ := endgame P hh.1 hl h
  have hD' := Lib.hid hDa
  have hE' := Lib.hid hDb
  clear hDa hDb
  have n0 : (y == 0) = false := by simp; omega
  have n1 : (hi == 0) = false := by simp; omega
  have n2 : ¬ y ≤ hi := by omega
  generalize (hi * 18446744073709551616 + lo) / y = QQ at *
  generalize (hi * 18446744073709551616 + lo) % y = RR at *
  clear top top'
  go_enter Try.func16, Try.ntmps16
  go_wp2_with fail
  refine (hlz _).mono ?_
  rintro e w1 ⟨rfl, rfl⟩
  go_wp2_with fail
  go_loop [15, 16] (fun a b => ∃ m n : Int, a = .int .u64 m ∧ b = .int .u64 n ∧ Guess u v d v1 m n) (fun a _ => (intOf a).toNat)
  case atStart => exact ⟨_, _, rfl, rfl, G⟩
  case round =>
    obtain ⟨m, n, rfl, rfl, g⟩ := hrel
    have g0 := g.q0; have g1 := g.q1; have g2 := g.r0; have g3 := g.r1; have p0 := P.i1; have p1 := P.v9; have p2 := P.vw; have p3 := P.d0; have p4 := P.d1
    have T : (4294967296 ≤ m ∨ (m < 4294967296 ∧ 4294967296 * n + d < m * v0)) ∨ (m < 4294967296 ∧ m * v0 ≤ 4294967296 * n + d) := by omega
    have X2 : IntKind.u64.wrap (n + v1) = n + v1 := w64 (by omega) (by omega)
    have X3 : IntKind.u64.wrap (4294967296 * n) = 4294967296 * n := w64 (by omega) (by omega)
    have X4 : IntKind.u64.wrap (4294967296 * n + d) = 4294967296 * n + d := w64 (by omega) (by omega)
    rcases T with T | ⟨T1, T2⟩
    · have TT : 4294967296 ≤ m ∨ 4294967296 * n + d < m * v0 := by omega
      have gb := g.big P.u0 P.uv P.d0 P.d1 P.v9 P.i1 P.i0 TT
      have gd := digit_in P.u0 P.uv P.d0 P.d1 P.v9
      have X1 : IntKind.u64.wrap (m - 1) = m - 1 := w64 (by omega) (by omega)
      by_cases R : 4294967296 ≤ n + v1
      · have go := g.out P.u0 P.uv P.d0 P.d1 P.v9 P.i1 P.i0 TT R
        have X6 : m < 4294967296 → _ := g.fit P.i0
        rw [← hD'.out] at go gb gd
        replace X1 := X1.trans go
        clear go gb gd TT g p0 p1 p2 p3 p4 g0 g1 g2 g3
        rcases T with T | ⟨T1, T2⟩
        · clear X3 X4
          go_wp2_with fail
          go_loop [18, 16] (fun a b => ∃ m n : Int, a = .int .u64 m ∧ b = .int .u64 n ∧ Guess U v e v1 m n) (fun a _ => (intOf a).toNat)
          case atStart => exact ⟨_, _, rfl, rfl, G'⟩
          case round =>
            obtain ⟨m, n, rfl, rfl, g⟩ := hrel
            have g0 := g.q0; have g1 := g.q1; have g2 := g.r0; have g3 := g.r1; have p0 := P.i1; have p1 := P.v9; have p2 := P.vw; have p3 := P.e0; have p4 := P.e1
            have T : (4294967296 ≤ m ∨ (m < 4294967296 ∧ 4294967296 * n + e < m * v0)) ∨ (m < 4294967296 ∧ m * v0 ≤ 4294967296 * n + e) := by omega
            have X2 : IntKind.u64.wrap (n + v1) = n + v1 := w64 (by omega) (by omega)
            have X3 : IntKind.u64.wrap (4294967296 * n) = 4294967296 * n := w64 (by omega) (by omega)
            have X4 : IntKind.u64.wrap (4294967296 * n + e) = 4294967296 * n + e := w64 (by omega) (by omega)
            rcases T with T | ⟨T1, T2⟩
            · have TT : 4294967296 ≤ m ∨ 4294967296 * n + e < m * v0 := by omega
              have gb := g.big U0 U1 P.e0 P.e1 P.v9 P.i1 P.i0 TT
              have gd := digit_in U0 U1 P.e0 P.e1 P.v9
              have X1 : IntKind.u64.wrap (m - 1) = m - 1 := w64 (by omega) (by omega)
              by_cases R : 4294967296 ≤ n + v1
              · have go := g.out U0 U1 P.e0 P.e1 P.v9 P.i1 P.i0 TT R
                have X6 : m < 4294967296 → _ := g.fit P.i0
                rw [← hE'.out] at go gb gd
                replace X1 := X1.trans go
                clear go gb gd TT g p0 p1 p2 p3 p4 g0 g1 g2 g3
                rcases T with T | ⟨T1, T2⟩
                · clear X3 X4
                  go_wp2_with fail
                  go_ret2
                  exact ⟨rfl, 0, rfl⟩
                · replace X6 := X6 T1
                  have X5 : IntKind.u64.wrap (m * v0) = m * v0 := w64 X6.1 X6.2
                  clear X6
                  have T3 : ¬ 4294967296 ≤ m := by omega
                  clear T1
                  go_wp2_with fail
                  go_ret2
                  exact ⟨rfl, 0, rfl⟩
              · have g' := g.next U0 U1 P.e0 P.e1 P.v9 P.vw P.i1 P.i0 TT (by omega)
                have M : (m - 1).toNat < m.toNat := by omega
                have X6 : m < 4294967296 → _ := g.fit P.i0
                clear gb gd TT g p0 p1 p2 p3 p4 g0 g1 g2 g3
                rcases T with T | ⟨T1, T2⟩
                · clear X3 X4 X6
                  go_wp2
                  go_round
                  case rel => exact ⟨_, _, rfl, rfl, g'⟩
                  case measure => exact M
                · replace X6 := X6 T1
                  have X5 : IntKind.u64.wrap (m * v0) = m * v0 := w64 X6.1 X6.2
                  clear X6
                  have T3 : ¬ 4294967296 ≤ m := by omega
                  clear T1
                  go_wp2
                  go_round
                  case rel => exact ⟨_, _, rfl, rfl, g'⟩
                  case measure => exact M
            · have go := g.done P.v9 P.i1 P.i0 T2
              have X6 := g.fit P.i0 T1
              have X5 : IntKind.u64.wrap (m * v0) = m * v0 := w64 X6.1 X6.2
              have T3 : ¬ 4294967296 ≤ m := by omega
              have T4 : ¬ 4294967296 * n + e < m * v0 := by omega
              rw [← hE'.out] at go
              clear g p0 p1 p2 p3 p4 g0 g1 g2 g3 T1 T2 X6
              subst go
              go_wp2_with fail
              go_ret2
              exact ⟨rfl, 0, rfl⟩
        · replace X6 := X6 T1
          have X5 : IntKind.u64.wrap (m * v0) = m * v0 := w64 X6.1 X6.2
          clear X6
          have T3 : ¬ 4294967296 ≤ m := by omega
          clear T1
          go_wp2_with fail
          go_loop [18, 16] (fun a b => ∃ m n : Int, a = .int .u64 m ∧ b = .int .u64 n ∧ Guess U v e v1 m n) (fun a _ => (intOf a).toNat)
          case atStart => exact ⟨_, _, rfl, rfl, G'⟩
          case round =>
            obtain ⟨m, n, rfl, rfl, g⟩ := hrel
            have g0 := g.q0; have g1 := g.q1; have g2 := g.r0; have g3 := g.r1; have p0 := P.i1; have p1 := P.v9; have p2 := P.vw; have p3 := P.e0; have p4 := P.e1
            have T : (4294967296 ≤ m ∨ (m < 4294967296 ∧ 4294967296 * n + e < m * v0)) ∨ (m < 4294967296 ∧ m * v0 ≤ 4294967296 * n + e) := by omega
            have X2 : IntKind.u64.wrap (n + v1) = n + v1 := w64 (by omega) (by omega)
            have X3 : IntKind.u64.wrap (4294967296 * n) = 4294967296 * n := w64 (by omega) (by omega)
            have X4 : IntKind.u64.wrap (4294967296 * n + e) = 4294967296 * n + e := w64 (by omega) (by omega)
            rcases T with T | ⟨T1, T2⟩
            · have TT : 4294967296 ≤ m ∨ 4294967296 * n + e < m * v0 := by omega
              have gb := g.big U0 U1 P.e0 P.e1 P.v9 P.i1 P.i0 TT
              have gd := digit_in U0 U1 P.e0 P.e1 P.v9
              have X1 : IntKind.u64.wrap (m - 1) = m - 1 := w64 (by omega) (by omega)
              by_cases R : 4294967296 ≤ n + v1
              · have go := g.out U0 U1 P.e0 P.e1 P.v9 P.i1 P.i0 TT R
                have X6 : m < 4294967296 → _ := g.fit P.i0
                rw [← hE'.out] at go gb gd
                replace X1 := X1.trans go
                clear go gb gd TT g p0 p1 p2 p3 p4 g0 g1 g2 g3
                rcases T with T | ⟨T1, T2⟩
                · clear X3 X4
                  go_wp2_with fail
                  go_ret2
                  exact ⟨rfl, 0, rfl⟩
                · replace X6 := X6 T1
                  have X5 : IntKind.u64.wrap (m * v0) = m * v0 := w64 X6.1 X6.2
                  clear X6
                  have T3 : ¬ 4294967296 ≤ m := by omega
                  clear T1
                  go_wp2_with fail
                  go_ret2
                  exact ⟨rfl, 0, rfl⟩
              · have g' := g.next U0 U1 P.e0 P.e1 P.v9 P.vw P.i1 P.i0 TT (by omega)
                have M : (m - 1).toNat < m.toNat := by omega
                have X6 : m < 4294967296 → _ := g.fit P.i0
                clear gb gd TT g p0 p1 p2 p3 p4 g0 g1 g2 g3
                rcases T with T | ⟨T1, T2⟩
                · clear X3 X4 X6
                  go_wp2
                  go_round
                  case rel => exact ⟨_, _, rfl, rfl, g'⟩
                  case measure => exact M
                · replace X6 := X6 T1
                  have X5 : IntKind.u64.wrap (m * v0) = m * v0 := w64 X6.1 X6.2
                  clear X6
                  have T3 : ¬ 4294967296 ≤ m := by omega
                  clear T1
                  go_wp2
                  go_round
                  case rel => exact ⟨_, _, rfl, rfl, g'⟩
                  case measure => exact M
            · have go := g.done P.v9 P.i1 P.i0 T2
              have X6 := g.fit P.i0 T1
              have X5 : IntKind.u64.wrap (m * v0) = m * v0 := w64 X6.1 X6.2
              have T3 : ¬ 4294967296 ≤ m := by omega
              have T4 : ¬ 4294967296 * n + e < m * v0 := by omega
              rw [← hE'.out] at go
              clear g p0 p1 p2 p3 p4 g0 g1 g2 g3 T1 T2 X6
              subst go
              go_wp2_with fail
              go_ret2
              exact ⟨rfl, 0, rfl⟩
      · have g' := g.next P.u0 P.uv P.d0 P.d1 P.v9 P.vw P.i1 P.i0 TT (by omega)
        have M : (m - 1).toNat < m.toNat := by omega
        have X6 : m < 4294967296 → _ := g.fit P.i0
        clear gb gd TT g p0 p1 p2 p3 p4 g0 g1 g2 g3
        rcases T with T | ⟨T1, T2⟩
        · clear X3 X4 X6
          go_wp2
          go_round
          case rel => exact ⟨_, _, rfl, rfl, g'⟩
          case measure => exact M
        · replace X6 := X6 T1
          have X5 : IntKind.u64.wrap (m * v0) = m * v0 := w64 X6.1 X6.2
          clear X6
          have T3 : ¬ 4294967296 ≤ m := by omega
          clear T1
          go_wp2
          go_round
          case rel => exact ⟨_, _, rfl, rfl, g'⟩
          case measure => exact M
    · have go := g.done P.v9 P.i1 P.i0 T2
      have X6 := g.fit P.i0 T1
      have X5 : IntKind.u64.wrap (m * v0) = m * v0 := w64 X6.1 X6.2
      have T3 : ¬ 4294967296 ≤ m := by omega
      have T4 : ¬ 4294967296 * n + d < m * v0 := by omega
      rw [← hD'.out] at go
      clear g p0 p1 p2 p3 p4 g0 g1 g2 g3 T1 T2 X6
      subst go
      go_wp2_with fail
      go_loop [18, 16] (fun a b => ∃ m n : Int, a = .int .u64 m ∧ b = .int .u64 n ∧ Guess U v e v1 m n) (fun a _ => (intOf a).toNat)
      case atStart => exact ⟨_, _, rfl, rfl, G'⟩
      case round =>
        obtain ⟨m, n, rfl, rfl, g⟩ := hrel
        have g0 := g.q0; have g1 := g.q1; have g2 := g.r0; have g3 := g.r1; have p0 := P.i1; have p1 := P.v9; have p2 := P.vw; have p3 := P.e0; have p4 := P.e1
        have T : (4294967296 ≤ m ∨ (m < 4294967296 ∧ 4294967296 * n + e < m * v0)) ∨ (m < 4294967296 ∧ m * v0 ≤ 4294967296 * n + e) := by omega
        have X2 : IntKind.u64.wrap (n + v1) = n + v1 := w64 (by omega) (by omega)
        have X3 : IntKind.u64.wrap (4294967296 * n) = 4294967296 * n := w64 (by omega) (by omega)
        have X4 : IntKind.u64.wrap (4294967296 * n + e) = 4294967296 * n + e := w64 (by omega) (by omega)
        rcases T with T | ⟨T1, T2⟩
        · have TT : 4294967296 ≤ m ∨ 4294967296 * n + e < m * v0 := by omega
          have gb := g.big U0 U1 P.e0 P.e1 P.v9 P.i1 P.i0 TT
          have gd := digit_in U0 U1 P.e0 P.e1 P.v9
          have X1 : IntKind.u64.wrap (m - 1) = m - 1 := w64 (by omega) (by omega)
          by_cases R : 4294967296 ≤ n + v1
          · have go := g.out U0 U1 P.e0 P.e1 P.v9 P.i1 P.i0 TT R
            have X6 : m < 4294967296 → _ := g.fit P.i0
            rw [← hE'.out] at go gb gd
            replace X1 := X1.trans go
            clear go gb gd TT g p0 p1 p2 p3 p4 g0 g1 g2 g3
            rcases T with T | ⟨T1, T2⟩
            · clear X3 X4
              go_wp2_with fail
              go_ret2
              exact ⟨rfl, 0, rfl⟩
            · replace X6 := X6 T1
              have X5 : IntKind.u64.wrap (m * v0) = m * v0 := w64 X6.1 X6.2
              clear X6
              have T3 : ¬ 4294967296 ≤ m := by omega
              clear T1
              go_wp2_with fail
              go_ret2
              exact ⟨rfl, 0, rfl⟩
          · have g' := g.next U0 U1 P.e0 P.e1 P.v9 P.vw P.i1 P.i0 TT (by omega)
            have M : (m - 1).toNat < m.toNat := by omega
            have X6 : m < 4294967296 → _ := g.fit P.i0
            clear gb gd TT g p0 p1 p2 p3 p4 g0 g1 g2 g3
            rcases T with T | ⟨T1, T2⟩
            · clear X3 X4 X6
              go_wp2
              go_round
              case rel => exact ⟨_, _, rfl, rfl, g'⟩
              case measure => exact M
            · replace X6 := X6 T1
              have X5 : IntKind.u64.wrap (m * v0) = m * v0 := w64 X6.1 X6.2
              clear X6
              have T3 : ¬ 4294967296 ≤ m := by omega
              clear T1
              go_wp2
              go_round
              case rel => exact ⟨_, _, rfl, rfl, g'⟩
              case measure => exact M
        · have go := g.done P.v9 P.i1 P.i0 T2
          have X6 := g.fit P.i0 T1
          have X5 : IntKind.u64.wrap (m * v0) = m * v0 := w64 X6.1 X6.2
          have T3 : ¬ 4294967296 ≤ m := by omega
          have T4 : ¬ 4294967296 * n + e < m * v0 := by omega
          rw [← hE'.out] at go
          clear g p0 p1 p2 p3 p4 g0 g1 g2 g3 T1 T2 X6
          subst go
          go_wp2_with fail
          go_ret2
          exact ⟨rfl, 0, rfl⟩
/-- two words by one, wholly -/
theorem div64 (hi lo y : Int) (hh : Word hi) (hl : Word lo) (hy : Word y) (h : hi < y) (w : World) :
    Calls Try.prog 16 #[.int .u64 hi, .int .u64 lo, .int .u64 y] w fun e w' => e = .returned (.tuple #[.int .u64 ((hi * 18446744073709551616 + lo) / y), .int .u64 ((hi * 18446744073709551616 + lo) % y)]) ∧ ∃ k, w' = w.drewN k := by
  by_cases h0 : hi = 0
  · subst h0
    have := div64_low lo y hl hy h w
    simpa using this
  · exact div64_high hi lo y hh hl hy h (by have := hh.1; omega) w
end Go.Proofs.Ytfbdolcgekmdgaa

/-
  Of part Row: what is needed here.
-/
namespace Go.Proofs.Ytfbdolcgekmdgaa
open Go.RowKit
set_option linter.unusedVariables false
/-- block g is just the cells xs of element type t; none is frozen -/
structure Row (w : World) (g : Nat) (t : TypeId) (xs : List Value) : Prop where
  is : w.heap[g]? = some (.cells xs.toArray t (0, 0))
section
variable {w w' : World} {g : Nat} {t : TypeId} {xs : List Value}
theorem Row.lt (h : Row w g t xs) : g < w.heap.size := (Array.getElem?_eq_some_iff.1 h.is).1
theorem Row.cell (h : Row w g t xs) (i : Nat) : w.cell? ⟨g, i, none⟩ = xs[i]? := by rw [cell_of_row w g i xs.toArray t (0, 0) h.is]; simp
theorem Row.frozen (h : Row w g t xs) (i : Nat) : w.frozen? ⟨g, i, none⟩ = false := by
  have := h.is
  simp [World.frozen?, this]
theorem Row.new (w : World) (t : TypeId) (xs : List Value) : Row (w.alloc (.cells xs.toArray t)) w.heap.size t xs := ⟨heap_alloc_new w _⟩
theorem Row.new' (w : World) (t : TypeId) (xs : List Value) {g : Nat} (hg : w.heap.size = g) : Row (w.alloc (.cells xs.toArray t)) g t xs := hg ▸ Row.new w t xs
theorem Row.drew (h : Row w g t xs) : Row w.drew g t xs := ⟨h.is⟩
theorem Row.drewN (h : Row w g t xs) (n : Nat) : Row (w.drewN n) g t xs := ⟨h.is⟩
theorem Row.alloc (h : Row w g t xs) (o : Obj) : Row (w.alloc o) g t xs := ⟨(Below.heap_alloc w o g h.lt).trans h.is⟩
theorem Row.set_ (h : Row w g t xs) (i : Nat) (u : Value) : Row (w.setCell ⟨g, i, none⟩ u) g t (xs.set i u) := by
  have := h.is
  exact ⟨by simp [World.setCell, Array.getElem?_modify, this]⟩
theorem Row.far (h : Row w g t xs) {p : Addr} (hp : g ≠ p.block) (u : Value) : Row (w.setCell p u) g t xs := ⟨(Below.heap_setCell w p u g hp).trans h.is⟩
theorem Row.below {B : Nat} (h : Row w g t xs) (hb : Below B w w') (hg : g < B) : Row w' g t xs := ⟨(hb.block g hg).trans h.is⟩
theorem Row.sees (h : Row w g t xs) (o : Nat) : Sees w w.heap.size (some ⟨g, o, none⟩) (xs.length - o) (xs.drop o) :=
  ⟨by simp, fun i u hu => ⟨_, rfl, h.lt, by rw [addr_row, h.cell]; simpa using hu⟩⟩
theorem Row.sees0 (h : Row w g t xs) : Sees w w.heap.size (some ⟨g, 0, none⟩) xs.length xs := by simpa using h.sees 0
end
end Go.Proofs.Ytfbdolcgekmdgaa

/-
  Of part Sum: what is needed here.
-/
namespace Go.Proofs.Ytfbdolcgekmdgaa
open Go.RowKit
set_option linter.unusedVariables false
/-- held at the greatest -/
def cap (x : Int) : Int := if 18446744073709551615 < x then 18446744073709551615 else x
/-- what numbers come to, held -/
def held (zs : List Int) : Int := cap zs.sum
theorem cap_word {x : Int} (h : 0 ≤ x) : Word (cap x) := by unfold cap; split <;> exact ⟨by omega, by omega⟩
theorem cap_add {x y : Int} (h : 0 ≤ y) : cap (cap x + y) = cap (x + y) := by unfold cap; repeat' split <;> omega
theorem sum_nonneg {zs : List Int} (h : ∀ z ∈ zs, Word z) : 0 ≤ zs.sum := by
  induction zs with
  | nil => simp
  | cons a t ih =>
    have := (h a (by simp)).1
    have := ih (fun z hz => h z (by simp [hz]))
    simp; omega
theorem held_word {zs : List Int} (h : ∀ z ∈ zs, Word z) : Word (held zs) := cap_word (sum_nonneg h)
theorem sum_take (zs : List Int) (j : Nat) (h : j < zs.length) : (zs.take (j + 1)).sum = (zs.take j).sum + zs.getD j 0 := by
  rw [List.take_succ_eq_append_getElem h, List.sum_append, List.getD_eq_getElem?_getD, List.getElem?_eq_getElem h]
  simp
theorem word_getD {zs : List Int} (h : ∀ z ∈ zs, Word z) (j : Nat) : Word (zs.getD j 0) := by
  rw [List.getD_eq_getElem?_getD]
  by_cases hi : j < zs.length
  · rw [List.getElem?_eq_getElem hi]
    exact h _ (List.getElem_mem hi)
  · rw [List.getElem?_eq_none (by omega)]; exact ⟨by simp, by simp⟩
theorem word_take {zs : List Int} (h : ∀ z ∈ zs, Word z) (j : Nat) : ∀ z ∈ zs.take j, Word z := fun z hz => h z (List.mem_of_mem_take hz)
theorem held_take {zs : List Int} (h : ∀ z ∈ zs, Word z) (j : Nat) (hj : j < zs.length) : held (zs.take (j + 1)) = cap (held (zs.take j) + zs.getD j 0) := by
  unfold held
  rw [sum_take zs j hj, cap_add (word_getD h j).1]
theorem cv_at {k : IntKind} {zs : List Int} {i : Nat} (h : i < zs.length) : (cv k zs)[i]? = some (.int k (zs.getD i 0)) := by
  rw [show (cv k zs)[i]? = zs[i]?.map (Value.int k) by simp [cv], List.getD_eq_getElem?_getD, List.getElem?_eq_getElem h]; rfl
theorem Sees.num {w : World} {B n : Nat} {A : Option Addr} {k : IntKind} {zs : List Int} {i : Nat} (h : Sees w B A n (cv k zs)) (hi : i < n) : ∃ a, A = some a ∧ a.block < B ∧ w.cell? (a.add i) = some (.int k (zs.getD i 0)) := by
  obtain ⟨a, u, e, hb, hx, hc⟩ := h.at_ hi
  have hl : i < zs.length := by have := h.len; rw [cv_length] at this; omega
  rw [cv_at hl] at hx
  cases hx
  exact ⟨a, e, hb, hc⟩
/-- the closure -/
theorem add_ (x a : Int) (B : Nat) (w : World) (hx : Word x) (ha : Word a) (hr : Row w B 22 [.int .u64 a]) :
    Calls Try.prog 17 #[.int .u64 x, .pointer (some ⟨B, 0, none⟩)] w fun e w' => e = .returned (.tuple #[]) ∧ w' = w.setCell ⟨B, 0, none⟩ (.int .u64 (cap (a + x))) := by
  have c0 := hr.cell 0
  have f0 := hr.frozen 0
  simp at c0
  have s1 := add64 a x ha hx
  by_cases h : 18446744073709551615 < a + x
  · have e1 : (a + x) / 18446744073709551616 = 1 := by have := ha.2; have := hx.2; omega
    have e2 := Lib.hid (show cap (a + x) = 18446744073709551615 by unfold cap; rw [if_pos h])
    rw [e1] at s1
    clear e1 h
    go_enter Try.func17, Try.ntmps17
    go_wp2_with (simp only [s1])
    go_end0
    rw [e2.out]
    exact ⟨rfl, rfl⟩
  · have e1 : (a + x) / 18446744073709551616 = 0 := by have := ha.1; have := hx.1; omega
    have e3 : (a + x) % 18446744073709551616 = a + x := by have := ha.1; have := hx.1; omega
    have e2 := Lib.hid (show cap (a + x) = a + x by unfold cap; rw [if_neg h])
    rw [e1, e3] at s1
    clear e1 h e3
    go_enter Try.func17, Try.ntmps17
    go_wp2_with (simp only [s1])
    go_end0
    rw [e2.out]
    exact ⟨rfl, rfl⟩
set_option maxHeartbeats 1000000 in
theorem sum_ (A : Option Addr) (n c : Nat) (zs : List Int) (w : World) (S : Nat) (hx : Sees w S A n (cv .u64 zs)) (hS : S ≤ w.heap.size) (hn : n ≤ maxLen) (hz : ∀ z ∈ zs, Word z) :
    Calls Try.prog 13 #[.slice A n c] w fun e w' => e = .returned (.int .u64 (held zs)) ∧ Below w.heap.size w w' := by
  unfold maxLen at hn
  have lx := Lib.hid (show zs.length = n by have := hx.len; rwa [cv_length] at this)
  have hx := hx.more hS
  have b0 : Below w.heap.size w (w.alloc (.cells #[.int .u64 0] 22)) := (Below.refl _ _).alloc (Nat.le_refl _) _
  have R0 := Row.new w 22 [.int .u64 0]
  generalize hB : w.heap.size = B at *
  go_enter Try.func13, Try.ntmps13
  go_wp2
  go_loopw [6, 10] (fun _ i wr => ∃ j : Nat, j ≤ n ∧ i = .int .i64 j ∧ Row wr B 22 [.int .u64 (held (zs.take j))] ∧ Below B w wr) (fun _ i _ => n - (intOf i).toNat)
  case atStart => exact ⟨0, Nat.zero_le _, rfl, by simpa [held, cap] using R0, b0⟩
  case round =>
    obtain ⟨j, hj, rfl, hr, hbr⟩ := hrel
    by_cases hlt : j < n
    · obtain ⟨a, rfl, ha, hca⟩ := (hx.below hbr).num hlt
      have wz := word_getD hz j
      have E := Lib.hid (held_take hz j (by have := lx.out; omega))
      have C := add_ (zs.getD j 0) (held (zs.take j)) B wr wz (held_word (word_take hz j)) hr
      have M := Lib.hid hr
      clear hr wz
      generalize zs.getD j 0 = z at *
      generalize held (zs.take j) = hd at *
      go_wp2_with fail
      refine C.mono ?_
      rintro e w1 ⟨rfl, rfl⟩
      have R1 := M.out.set_ 0 (.int .u64 (cap (hd + z)))
      rw [← E.out] at R1
      go_wp2
      go_roundw
      case rel =>
        refine ⟨j + 1, by omega, by go_num, ?_, hbr.setCell (Nat.le_refl _) _⟩
        rw [E.out] at R1 ⊢
        exact R1
      case measure => simp [intOf]; omega
    · have hj : j = n := by omega
      have hn : ¬ n < n := by omega
      subst hj
      have E := Lib.hid (show held (zs.take j) = held zs by rw [List.take_of_length_le (by have := lx.out; omega)])
      have c0 := hr.cell 0
      simp at c0
      clear hr
      go_wp2
      go_ret
      rw [E.out]
      exact ⟨rfl, hbr⟩
end Go.Proofs.Ytfbdolcgekmdgaa

/-
  Of part Times: what is needed here.
-/
namespace Go.Proofs.Ytfbdolcgekmdgaa
open Go.RowKit
set_option linter.unusedVariables false
/-- a times b divided by d, floored or (up) rounded up, held -/
def times (a b d : Int) (up : Bool) : Int :=
  if d ≤ a * b / 18446744073709551616 then 18446744073709551615 else if up = true ∧ 0 < a * b % d then cap (a * b / d + 1) else a * b / d
theorem quot_word {N d : Int} (hN : 0 ≤ N) (h : ¬ d ≤ N / 18446744073709551616) : Word (N / d) ∧ 0 ≤ N % d ∧ N % d < d := by
  have h0 : 0 < d := by omega
  refine ⟨⟨Int.ediv_nonneg hN (by omega), Int.ediv_lt_of_lt_mul h0 (by omega)⟩, Int.emod_nonneg _ (by omega), Int.emod_lt_of_pos _ h0⟩
/-- two numbers, built in place, summed -/
theorem sum_two (x y : Int) (g : Nat) (w : World) (hx : Word x) (hy : Word y) (hr : Row w g 22 [.int .u64 x, .int .u64 y]) :
    Calls Try.prog 13 #[.slice (some ⟨g, 0, none⟩) 2 2] w fun e w' => e = .returned (.int .u64 (cap (x + y))) ∧ Below w.heap.size w w' := by
  have hs := hr.sees0
  refine (sum_ _ 2 2 [x, y] w _ hs (Nat.le_refl _) (by simp [maxLen]) ?_).mono ?_
  · intro z hz
    simp at hz
    rcases hz with rfl | rfl
    · exact hx
    · exact hy
  · rintro e w' ⟨rfl, hb⟩
    exact ⟨by simp [held], hb⟩
set_option maxHeartbeats 1000000 in
theorem times_ (a b d : Int) (up : Bool) (w : World) (ha : Word a) (hb : Word b) (hd : Word d) :
    Calls Try.prog 9 #[.int .u64 a, .int .u64 b, .int .u64 d, .bool up] w fun e w' => e = .returned (.int .u64 (times a b d up)) ∧ Below w.heap.size w w' := by
  have M := fun w => mul_ a b ha hb w
  have p := word_prod ha hb
  have hh := word_hi ha hb
  have hl := word_mod (a * b)
  by_cases h : d ≤ a * b / 18446744073709551616
  · have E := Lib.hid (show times a b d up = 18446744073709551615 by unfold times; rw [if_pos h])
    generalize a * b / 18446744073709551616 = hi at *
    generalize a * b % 18446744073709551616 = lo at *
    go_enter Try.func9, Try.ntmps9
    go_wp2_with fail
    refine (M _).mono ?_
    rintro e w1 ⟨rfl, rfl⟩
    go_wp2
    go_ret
    rw [E.out]
    exact ⟨rfl, Below.refl _ _⟩
  · obtain ⟨q0, r0, r1⟩ := quot_word p.1 h
    have D := fun w => div64 _ _ d hh hl hd (by omega) w
    have EN : a * b / 18446744073709551616 * 18446744073709551616 + a * b % 18446744073709551616 = a * b := by omega
    rw [EN] at D
    clear EN
    have E := Lib.hid (show times a b d up = if up = true ∧ 0 < a * b % d then cap (a * b / d + 1) else a * b / d by unfold times; rw [if_neg h])
    have h2 : ¬ d ≤ a * b / 18446744073709551616 := h
    clear h hh hl
    generalize a * b / 18446744073709551616 = hi at *
    generalize a * b % 18446744073709551616 = lo at *
    generalize a * b / d = q at *
    generalize a * b % d = r at *
    have hs : ∀ k, Below w.heap.size w (w.drewN k) := fun k => below_drewN (Below.refl _ _) k
    cases up
    · go_enter Try.func9, Try.ntmps9
      go_wp2_with fail
      refine (M _).mono ?_
      rintro e w1 ⟨rfl, rfl⟩
      go_wp2_with fail
      refine (D _).mono ?_
      rintro e w1 ⟨rfl, k, rfl⟩
      go_wp2
      go_ret
      rw [E.out]
      exact ⟨by simp, hs k⟩
    · by_cases h0 : 0 < r
      · go_enter Try.func9, Try.ntmps9
        go_wp2_with fail
        refine (M _).mono ?_
        rintro e w1 ⟨rfl, rfl⟩
        go_wp2_with fail
        refine (D _).mono ?_
        rintro e w1 ⟨rfl, k, rfl⟩
        go_wp2_with fail
        refine (sum_two q 1 _ _ q0 (word_lit (by omega) (by omega)) (Row.new' _ _ _ (by simp))).mono ?_
        rintro e w1 ⟨rfl, hb⟩
        have hbb := ((hs k).alloc (Nat.le_refl _) (.cells #[.int .u64 q, .int .u64 1] 22))
        have hb2 := hbb.trans (hb.mono hbb.size)
        clear hb hbb
        go_wp2
        go_ret
        rw [E.out, if_pos (by simp [h0])]
        exact ⟨rfl, hb2⟩
      · go_enter Try.func9, Try.ntmps9
        go_wp2_with fail
        refine (M _).mono ?_
        rintro e w1 ⟨rfl, rfl⟩
        go_wp2_with fail
        refine (D _).mono ?_
        rintro e w1 ⟨rfl, k, rfl⟩
        go_wp2
        go_ret
        rw [E.out, if_neg (by omega)]
        exact ⟨rfl, hs k⟩
end Go.Proofs.Ytfbdolcgekmdgaa

/-
  Of part CameIn: what is needed here.
-/
namespace Go.Proofs.Ytfbdolcgekmdgaa
open Go.RowKit
set_option linter.unusedVariables false
open Go.ChangeShapes Go.WideShapes in
/-- an array of integers that came in by value -/
theorem open_int_array {H : Type} {enc : TypeId × Value → H} {P : Program} {w : World} {base : Nat} {sp : Nat → Bool} {held : Bool} {r : Reach} {b0 t e n : Nat} {q : IntKind} {v : Value} {d : DataW H} {p : List MemPlace}
    (ht : P.underlying t = some (.array n e)) (he : P.underlying e = some (.int q)) (hce : P.cellsOf e = 1) (hct : P.cellsOf t = n)
    (hv : Value.okWide P w r b0 t v) (h : DataW.Trod enc P w base sp held t v d p) : ∃ zs : List Int, v = .agg (cv q zs).toArray ∧ zs.length = n ∧ ∀ z ∈ zs, (Lit.int q z).wf = true := by
  simp only [Value.okWide, ht] at hv
  obtain ⟨cs, rfl, h2, _⟩ := hv
  obtain ⟨fuel, hf⟩ := h
  obtain ⟨xs, m, _, _, hl, hxs, hat⟩ := DataW.trod_array ht hf
  have each : ∀ i (hi : i < n), ∃ z, cs.toList[i]? = some (.int q z) ∧ (Lit.int q z).wf = true := by
    intro i hi
    have h1 := hat i hi
    have hx : xs[i]? = some xs[i] := List.getElem?_eq_getElem (by omega)
    rw [hce, hx] at h1
    obtain ⟨z, hz, _, hw⟩ := DataW.trod_int he h1
    refine ⟨z, ?_, hw⟩
    have := congrArg List.head? hz
    simpa [Value.cells, List.head?_take] using this
  have hcs : cs.toList.length = n := by rw [hct] at h2; simpa using h2
  refine ⟨cs.toList.map fun v => match v with | .int _ z => z | _ => 0, ?_, by simpa using hcs, ?_⟩
  · congr 1
    apply Array.ext_getElem?
    intro i
    by_cases hi : i < n
    · obtain ⟨z, hz, _⟩ := each i hi
      have hz' : cs[i]? = some (.int q z) := by simpa using hz
      simp [cv, hz']
    · have e1 : cs[i]? = none := Array.getElem?_eq_none (by simp at hcs; omega)
      simp [cv, e1]
  · intro z hz
    simp only [List.mem_map] at hz
    obtain ⟨u, hu, rfl⟩ := hz
    obtain ⟨i, hi, he⟩ := List.getElem_of_mem hu
    obtain ⟨z, hz, hw⟩ := each i (by omega)
    rw [List.getElem?_eq_getElem hi, he] at hz
    cases hz
    exact hw
end Go.Proofs.Ytfbdolcgekmdgaa

/-
  Of part TimesLaw: what is needed here.
-/
namespace Go.Proofs.Ytfbdolcgekmdgaa
open Go.RowKit
set_option linter.unusedVariables false
theorem times_word (a b d : Int) (up : Bool) (ha : Word a) (hb : Word b) (hd : Word d) : Word (times a b d up) := by
  unfold times
  have p := word_prod ha hb
  split
  · exact ⟨by omega, by omega⟩
  · next h =>
    obtain ⟨q, _, _⟩ := quot_word p.1 h
    split
    · exact cap_word (by have := q.1; omega)
    · exact q
end Go.Proofs.Ytfbdolcgekmdgaa

/-
  Of part Math10: what is needed here.
-/
namespace Go.Proofs.Ytfbdolcgekmdgaa
open Go.RowKit
set_option linter.unusedVariables false
/-- a fee for each signature, held -/
def base10 (n : Int) : Int := times (max n 0) 5000 1 false
/-- what a budget offers -/
def offer10 (p u : Int) : Int := times p u 1000000 true
/-- a fee -/
def fee10 (n p u : Int) : Int := cap (base10 n + offer10 p u)
/-- a priority -/
def pri10 (n p u c : Int) : Int := times (cap (base10 n / 2 + offer10 p u)) 1000000 (cap (c + 1)) false
theorem cap_mono {x y : Int} (h : x ≤ y) : cap x ≤ cap y := by unfold cap; repeat' split <;> omega
theorem cap_low {x : Int} (h : x ≤ 18446744073709551615) : cap x = x := by unfold cap; rw [if_neg (by omega)]
theorem cap_high {x : Int} (h : 18446744073709551615 ≤ x) : cap x = 18446744073709551615 := by unfold cap; split <;> omega
/-- divided, rounded up or not, held -/
theorem times_is (a b d : Int) (up : Bool) (ha : Word a) (hb : Word b) (hd : 0 < d) :
    times a b d up = cap (if up = true ∧ 0 < a * b % d then a * b / d + 1 else a * b / d) := by
  have hp := word_prod ha hb
  unfold times
  generalize a * b = N at *
  by_cases c : d ≤ N / 18446744073709551616
  · rw [if_pos c]
    have h1 : d * 18446744073709551616 ≤ N := by omega
    have h2 : 18446744073709551616 ≤ N / d := (Int.le_ediv_iff_mul_le hd).2 (by rw [Int.mul_comm]; exact h1)
    split
    · exact (cap_high (by omega)).symm
    · exact (cap_high (by omega)).symm
  · rw [if_neg c]
    obtain ⟨q, r0, r1⟩ := quot_word hp.1 c
    split
    · rfl
    · exact (cap_low (by have := q.2; omega)).symm
/-- up: the least number that, times d, is not below -/
def ceil10 (N d : Int) : Int := if 0 < N % d then N / d + 1 else N / d
theorem ceil10_spec {N d : Int} (hd : 0 < d) : N ≤ ceil10 N d * d ∧ (ceil10 N d - 1) * d < N := by
  have e := Int.mul_ediv_add_emod N d
  have r0 := Int.emod_nonneg N (show d ≠ 0 by omega)
  have r1 := Int.emod_lt_of_pos N hd
  rw [Int.mul_comm] at e
  unfold ceil10
  split
  · rw [Int.add_mul, Int.one_mul, show N / d + 1 - 1 = N / d by omega]; omega
  · rw [Int.sub_mul, Int.one_mul]; omega
theorem ceil10_mono {N M d : Int} (hd : 0 < d) (h : N ≤ M) : ceil10 N d ≤ ceil10 M d := by
  have s := ceil10_spec (N := N) hd
  have t := ceil10_spec (N := M) hd
  have : (ceil10 N d - 1) * d < ceil10 M d * d := by omega
  have := Int.lt_of_mul_lt_mul_right this (by omega)
  omega
theorem times_up (a b d : Int) (ha : Word a) (hb : Word b) (hd : 0 < d) : times a b d true = cap (ceil10 (a * b) d) := by
  rw [times_is a b d true ha hb hd]; simp [ceil10]
theorem times_down (a b d : Int) (ha : Word a) (hb : Word b) (hd : 0 < d) : times a b d false = cap (a * b / d) := by
  rw [times_is a b d false ha hb hd, if_neg (by simp)]
theorem prod_mono {a b a' b' : Int} (h0 : 0 ≤ a) (h1 : 0 ≤ b) (ha : a ≤ a') (hb : b ≤ b') : a * b ≤ a' * b' :=
  Int.le_trans (Int.mul_le_mul_of_nonneg_right ha h1) (Int.mul_le_mul_of_nonneg_left hb (by omega))
theorem times_up_mono {a b a' b' d : Int} (ha : Word a) (hb : Word b) (ha' : Word a') (hb' : Word b') (hd : 0 < d) (h : a ≤ a') (k : b ≤ b') : times a b d true ≤ times a' b' d true := by
  rw [times_up a b d ha hb hd, times_up a' b' d ha' hb' hd]
  exact cap_mono (ceil10_mono hd (prod_mono ha.1 hb.1 h k))
theorem times_down_mono {a b a' b' d : Int} (ha : Word a) (hb : Word b) (ha' : Word a') (hb' : Word b') (hd : 0 < d) (h : a ≤ a') (k : b ≤ b') : times a b d false ≤ times a' b' d false := by
  rw [times_down a b d ha hb hd, times_down a' b' d ha' hb' hd]
  exact cap_mono (Int.ediv_le_ediv hd (prod_mono ha.1 hb.1 h k))
theorem ediv_anti {N d d' : Int} (hN : 0 ≤ N) (hd : 0 < d) (h : d ≤ d') : N / d' ≤ N / d := by
  rw [Int.le_ediv_iff_mul_le hd]
  have e := Int.mul_ediv_add_emod N d'
  have r := Int.emod_nonneg N (show d' ≠ 0 by omega)
  have q : 0 ≤ N / d' := Int.ediv_nonneg hN (by omega)
  have m : N / d' * d ≤ N / d' * d' := Int.mul_le_mul_of_nonneg_left h q
  rw [Int.mul_comm] at e
  omega
theorem times_down_anti {a b d d' : Int} (ha : Word a) (hb : Word b) (hd : 0 < d) (h : d ≤ d') : times a b d' false ≤ times a b d false := by
  rw [times_down a b d ha hb hd, times_down a b d' ha hb (by omega)]
  exact cap_mono (ediv_anti (word_prod ha hb).1 hd h)
theorem base10_is {n : Int} (h : n < 18446744073709551616) : base10 n = cap (5000 * max n 0) := by
  unfold base10
  rw [times_down _ _ _ ⟨by omega, by omega⟩ ⟨by decide, by decide⟩ (by decide), Int.ediv_one, Int.mul_comm]
theorem base10_small {n : Int} (h0 : 0 ≤ n) (h : n ≤ 70000) : base10 n = 5000 * n := by
  rw [base10_is (by omega), Int.max_eq_left h0]; exact cap_low (by omega)
theorem base10_word {n : Int} (h : n < 18446744073709551616) : Word (base10 n) := times_word _ _ _ _ ⟨by omega, by omega⟩ ⟨by decide, by decide⟩ ⟨by decide, by decide⟩
theorem base10_mono {n m : Int} (h : n ≤ m) (k : m < 18446744073709551616) : base10 n ≤ base10 m := by
  rw [base10_is (by omega), base10_is k]; exact cap_mono (by omega)
theorem offer10_word {p u : Int} (hp : Word p) (hu : Word u) : Word (offer10 p u) := times_word _ _ _ _ hp hu ⟨by decide, by decide⟩
theorem offer10_mono {p u p' u' : Int} (hp : Word p) (hu : Word u) (hp' : Word p') (hu' : Word u') (h : p ≤ p') (k : u ≤ u') : offer10 p u ≤ offer10 p' u' :=
  times_up_mono hp hu hp' hu' (by decide) h k
theorem half_word {x : Int} (h : Word x) : Word (x / 2) := ⟨by have := h.1; omega, by have := h.2; have := h.1; omega⟩
theorem pays10_word {n p u : Int} (hn : n < 18446744073709551616) (hp : Word p) (hu : Word u) : Word (cap (base10 n / 2 + offer10 p u)) :=
  cap_word (by have := (half_word (base10_word hn)).1; have := (offer10_word hp hu).1; omega)
theorem next10_word {c : Int} (hc : Word c) : Word (cap (c + 1)) := cap_word (by have := hc.1; omega)
theorem next10_pos {c : Int} (hc : Word c) : 0 < cap (c + 1) := by have := hc.1; unfold cap; split <;> omega
/-- more of one gives no less -/
theorem fee10_mono {n m p u p' u' : Int} (hm : m < 18446744073709551616) (hp : Word p) (hu : Word u) (hp' : Word p') (hu' : Word u') (h0 : n ≤ m) (h : p ≤ p') (k : u ≤ u') : fee10 n p u ≤ fee10 m p' u' :=
  cap_mono (by have := base10_mono h0 hm; have := offer10_mono hp hu hp' hu' h k; omega)
theorem pri10_mono {n m p u p' u' c : Int} (hm : m < 18446744073709551616) (hp : Word p) (hu : Word u) (hp' : Word p') (hu' : Word u') (hc : Word c) (h0 : n ≤ m) (h : p ≤ p') (k : u ≤ u') : pri10 n p u c ≤ pri10 m p' u' c :=
  times_down_mono (pays10_word (by omega) hp hu) ⟨by decide, by decide⟩ (pays10_word hm hp' hu') ⟨by decide, by decide⟩ (next10_pos hc)
    (cap_mono (by have := base10_mono h0 hm; have := offer10_mono hp hu hp' hu' h k; omega)) (Int.le_refl _)
theorem pri10_anti {n p u c c' : Int} (hn : n < 18446744073709551616) (hp : Word p) (hu : Word u) (hc : Word c) (h : c ≤ c') : pri10 n p u c' ≤ pri10 n p u c :=
  times_down_anti (pays10_word hn hp hu) ⟨by decide, by decide⟩ (next10_pos hc) (cap_mono (by omega))
theorem pri10_most (n p u : Int) : pri10 n p u 18446744073709551615 = pri10 n p u 18446744073709551614 := by
  unfold pri10
  rw [show cap (18446744073709551615 + 1) = 18446744073709551615 from by decide, show cap (18446744073709551614 + 1) = 18446744073709551615 from by decide]
/-- the offer of small numbers: the least one that, times a million, is not below -/
theorem offer10_small {p u : Int} (h1 : 0 ≤ p) (h2 : p < 4294967296) (h3 : 0 ≤ u) (h4 : u < 4294967296) :
    0 ≤ p * u ∧ p * u < 18446744073709551616 ∧ 0 ≤ offer10 p u ∧ offer10 p u ≤ 18446744073710 ∧ p * u ≤ offer10 p u * 1000000 ∧ (offer10 p u - 1) * 1000000 < p * u := by
  have hp : 0 ≤ p * u := Int.mul_nonneg h1 h3
  have hq : p * u ≤ 4294967295 * 4294967295 := prod_mono h1 h3 (by omega) (by omega)
  have s := ceil10_spec (N := p * u) (d := 1000000) (by decide)
  unfold offer10
  rw [times_up _ _ _ ⟨h1, by omega⟩ ⟨h3, by omega⟩ (by decide)]
  rw [cap_low (by omega)]
  omega
/-- a priority of small numbers -/
theorem pri10_small {n p u c : Int} (h0 : 0 ≤ n) (h1 : n ≤ 255) (h2 : 0 ≤ p) (h3 : p < 1000000) (h4 : 0 ≤ u) (h5 : u < 1400001) (h6 : 0 ≤ c) (h7 : c < 4294967296) :
    ∃ pays : Int, pays = (5000 * n / 2 + offer10 p u) * 1000000 ∧ 0 ≤ pays ∧ pays < 18446744073709551616 - 4294967296 ∧ 0 ≤ offer10 p u ∧ offer10 p u ≤ 1400001 ∧
      0 ≤ pri10 n p u c * (c + 1) ∧ 0 ≤ pri10 n p u c ∧ pri10 n p u c * (c + 1) ≤ pays ∧ pays < (pri10 n p u c + 1) * (c + 1) ∧ pri10 n p u c ≤ pays ∧ (pri10 n p u c + 1) * (c + 1) < 18446744073709551616 := by
  have hp : 0 ≤ p * u := Int.mul_nonneg h2 h4
  have hq : p * u ≤ 999999 * 1400000 := prod_mono h2 h4 (by omega) (by omega)
  obtain ⟨_, _, o0, o1, o2, o3⟩ := offer10_small h2 (by omega) h4 (show u < 4294967296 by omega)
  have o4 : offer10 p u ≤ 1400001 := by omega
  refine ⟨_, rfl, by omega, by omega, o0, o4, ?_⟩
  have hw : 0 ≤ 5000 * n / 2 + offer10 p u := by omega
  unfold pri10
  rw [base10_small h0 (by omega), cap_low (show 5000 * n / 2 + offer10 p u ≤ 18446744073709551615 by omega), cap_low (show c + 1 ≤ 18446744073709551615 by omega)]
  rw [times_down _ _ _ ⟨hw, by omega⟩ ⟨by decide, by decide⟩ (by omega)]
  generalize hN : (5000 * n / 2 + offer10 p u) * 1000000 = N
  have n0 : 0 ≤ N := by omega
  have n1 : N ≤ 3000000000000 := by omega
  have e := Int.mul_ediv_add_emod N (c + 1)
  have r0 := Int.emod_nonneg N (show c + 1 ≠ 0 by omega)
  have r1 := Int.emod_lt_of_pos N (show 0 < c + 1 by omega)
  have q0 : 0 ≤ N / (c + 1) := Int.ediv_nonneg n0 (by omega)
  have q1 : N / (c + 1) ≤ N := Int.ediv_le_self _ n0
  rw [cap_low (by omega)]
  rw [Int.mul_comm] at e
  rw [Int.add_mul, Int.one_mul]
  have := Int.mul_nonneg q0 (show 0 ≤ c + 1 by omega)
  omega
end Go.Proofs.Ytfbdolcgekmdgaa

/-
  Of part Put: what is needed here.
-/
namespace Go.Proofs.Ytfbdolcgekmdgaa
open Go.RowKit
set_option linter.unusedVariables false
/-- the bytes of a short number -/
def short (n : Int) : List Int :=
  if n < 128 then [n] else if n < 16384 then [n % 128 + 128, n / 128] else [n % 128 + 128, n / 128 % 128 + 128, n / 16384]
end Go.Proofs.Ytfbdolcgekmdgaa

/-
  Of part Msg: what is needed here.
-/
namespace Go.Proofs.Ytfbdolcgekmdgaa
open Go.RowKit
set_option linter.unusedVariables false
/-- an instruction -/
structure LIn where
  p : Int
  acc : List Int
  dat : List Int
/-- a lookup -/
structure LLook where
  tab : List Int
  wr : List Int
  rd : List Int
/-- a message -/
structure LMsg where
  v0 : Bool
  s : Int
  r : Int
  o : Int
  keys : List (List Int)
  recent : List Int
  ins : List LIn
  looks : List LLook
/-- how many, and the bytes -/
def encL (l : List Int) : List Int := short l.length ++ l
def encIn (i : LIn) : List Int := i.p :: (encL i.acc ++ encL i.dat)
def encLook (l : LLook) : List Int := l.tab ++ (encL l.wr ++ encL l.rd)
def encHead (m : LMsg) : List Int := (if m.v0 then [128] else []) ++ [m.s, m.r, m.o]
def encTail (m : LMsg) : List Int := if m.v0 then short m.looks.length ++ m.looks.flatMap encLook else []
/-- a message's bytes -/
def enc (m : LMsg) : List Int := encHead m ++ (short m.keys.length ++ (m.keys.flatten ++ (m.recent ++ (short m.ins.length ++ (m.ins.flatMap encIn ++ encTail m)))))
end Go.Proofs.Ytfbdolcgekmdgaa

/-
  Of part Pay10: what is needed here.
-/
namespace Go.Proofs.Ytfbdolcgekmdgaa
open Go.RowKit
set_option linter.unusedVariables false
/-- a payment's cells -/
def pay10 (n u p b : Int) : Value := .agg #[.int .i64 n, .int .u64 u, .int .u64 p, .int .i64 b]
theorem base_times (n : Int) (w : World) (h1 : n < 9223372036854775808) :
    Calls Try.prog 9 #[.int .u64 (max n 0), .int .u64 5000, .int .u64 1, .bool false] w fun e w' => e = .returned (.int .u64 (base10 n)) ∧ Below w.heap.size w w' :=
  times_ (max n 0) 5000 1 false w ⟨by omega, by omega⟩ ⟨by decide, by decide⟩ ⟨by decide, by decide⟩
theorem offer_times (u p : Int) (w : World) (hu : Word u) (hp : Word p) :
    Calls Try.prog 9 #[.int .u64 p, .int .u64 u, .int .u64 1000000, .bool true] w fun e w' => e = .returned (.int .u64 (offer10 p u)) ∧ Below w.heap.size w w' :=
  times_ p u 1000000 true w hp hu ⟨by decide, by decide⟩
set_option maxHeartbeats 1000000 in
/-- what signatures pay -/
theorem base_ (n u p b : Int) (w : World) (h0 : -9223372036854775808 ≤ n) (h1 : n < 9223372036854775808) :
    Calls Try.prog 14 #[pay10 n u p b] w fun e w' => e = .returned (.int .u64 (base10 n)) ∧ Below w.heap.size w w' := by
  unfold pay10
  have hb0 := (Below.refl w.heap.size w).alloc (Nat.le_refl _) (.cells #[.int .i64 n, .int .u64 u, .int .u64 p, .int .i64 b] 34)
  have T := fun w => base_times n w h1
  have e64 : IntKind.u64.wrap (max n 0) = max n 0 := IntWalk.u64_in _ (by omega)
  go_enter Try.func14, Try.ntmps14
  go_wp2_with fail
  refine (T _).mono ?_
  rintro e w1 ⟨rfl, hb⟩
  have HB := Lib.hid (hb0.trans (hb.mono hb0.size))
  clear hb hb0
  go_wp2
  go_ret
  exact ⟨rfl, HB.out⟩
set_option maxHeartbeats 1000000 in
/-- what a budget offers -/
theorem offer_ (n u p b : Int) (w : World) (hu : Word u) (hp : Word p) :
    Calls Try.prog 12 #[pay10 n u p b] w fun e w' => e = .returned (.int .u64 (offer10 p u)) ∧ Below w.heap.size w w' := by
  unfold pay10
  have hb0 := (Below.refl w.heap.size w).alloc (Nat.le_refl _) (.cells #[.int .i64 n, .int .u64 u, .int .u64 p, .int .i64 b] 34)
  have T := fun w => offer_times u p w hu hp
  go_enter Try.func12, Try.ntmps12
  go_wp2_with fail
  refine (T _).mono ?_
  rintro e w1 ⟨rfl, hb⟩
  have HB := Lib.hid (hb0.trans (hb.mono hb0.size))
  clear hb hb0
  go_wp2
  go_ret
  exact ⟨rfl, HB.out⟩
set_option maxHeartbeats 1000000 in
/-- half of what signatures pay -/
theorem half_ (n u p b : Int) (w : World) (h0 : -9223372036854775808 ≤ n) (h1 : n < 9223372036854775808) :
    Calls Try.prog 11 #[pay10 n u p b] w fun e w' => e = .returned (.int .u64 (base10 n / 2)) ∧ Below w.heap.size w w' := by
  have T := fun w => base_ n u p b w h0 h1
  have wb := base10_word (n := n) (by omega)
  have wb0 := wb.1
  have wb1 := wb.2
  unfold pay10 at *
  have hb0 := (Below.refl w.heap.size w).alloc (Nat.le_refl _) (.cells #[.int .i64 n, .int .u64 u, .int .u64 p, .int .i64 b] 34)
  generalize base10 n = q at *
  go_enter Try.func11, Try.ntmps11
  go_wp2_with fail
  refine (T _).mono ?_
  rintro e w1 ⟨rfl, hb⟩
  have HB := Lib.hid (hb0.trans (hb.mono hb0.size))
  clear hb hb0
  go_wp2
  go_ret
  exact ⟨rfl, HB.out⟩
/-- a method of a payment, asked as a value -/
def meth10 (f : FuncId) (v : Value) : Value := .func (.func f) #[v] #[]
set_option maxHeartbeats 1000000 in
/-- two parts, summed up -/
theorem together_ (f f' : FuncId) (v : Value) (x y : Int) (A : Option Addr) (c B : Nat) (w : World) (hx : Sees w B A 2 [meth10 f v, meth10 f' v]) (hB : B ≤ w.heap.size) (wx : Word x) (wy : Word y)
    (en : ∀ w, (callFunc f #[v]).run Try.prog w = .ok (.enter f #[v]) w) (en' : ∀ w, (callFunc f' #[v]).run Try.prog w = .ok (.enter f' #[v]) w)
    (hf : ∀ w, Calls Try.prog f #[v] w fun e w' => e = .returned (.int .u64 x) ∧ Below w.heap.size w w')
    (hf' : ∀ w, Calls Try.prog f' #[v] w fun e w' => e = .returned (.int .u64 y) ∧ Below w.heap.size w w') :
    Calls Try.prog 10 #[.slice A 2 c] w fun e w' => e = .returned (.int .u64 (cap (x + y))) ∧ Below w.heap.size w w' := by
  obtain ⟨a, u0, rfl, hab, e0, c0⟩ := hx.at_ (k := 0) (by omega)
  cases e0
  obtain ⟨a', u1, ea, _, e1, c1⟩ := hx.at_ (k := 1) (by omega)
  cases ea
  cases e1
  have C0 := Lib.hid (fun w' (hb : Below w.heap.size w w') => (hb.cell (p := a.add 0) (by rw [addr_block]; omega)).trans c0)
  have C1 := Lib.hid (fun w' (hb : Below w.heap.size w w') => (hb.cell (p := a.add 1) (by rw [addr_block]; omega)).trans c1)
  clear c0 c1 hx hB hab
  have wc := cap_word (x := x) wx.1
  have e2 := Lib.hid (show cap (cap x + y) = cap (x + y) from cap_add wy.1)
  have e3 := Lib.hid (show cap (0 + x) = cap x by rw [Int.zero_add])
  unfold meth10 at *
  go_enter Try.func10, Try.ntmps10
  go_wp2_with fail
  go_loopw [3, 5, 8] (fun s _ i wr => ∃ j : Nat, j ≤ 2 ∧ i = .int .i64 j ∧ Below w.heap.size w wr ∧ (j = 0 → s = .int .u64 0) ∧ (j = 1 → s = .int .u64 (cap x)) ∧ (j = 2 → s = .int .u64 (cap (x + y)))) (fun _ _ i _ => 2 - (intOf i).toNat)
  case atStart => exact ⟨0, Nat.zero_le _, rfl, Below.refl _ _, fun _ => rfl, fun h => (by cases h), fun h => (by cases h)⟩
  case round =>
    obtain ⟨j, hj, rfl, hbr, s0, s1, s2⟩ := hrel
    obtain rfl | rfl | rfl : j = 0 ∨ j = 1 ∨ j = 2 := by omega
    · obtain rfl := s0 rfl
      clear s0 s1 s2
      have c0 : wr.cell? a = some (Value.func (Fn.func f) #[v] #[]) := C0.out _ hbr
      go_wp2_with fail
      refine (hf _).mono ?_
      rintro e w1 ⟨rfl, hb⟩
      have B1 := Lib.hid (hbr.trans (hb.mono hbr.size))
      clear hb c0
      go_wp2_with fail
      refine (sum_two 0 x _ _ ⟨by decide, by decide⟩ wx (Row.new' _ _ _ (by simp))).mono ?_
      rintro e w2 ⟨rfl, hb⟩
      have h4 := B1.out.alloc B1.out.size (.cells #[.int .u64 0, .int .u64 x] 22)
      have B2 := Lib.hid (h4.trans (hb.mono h4.size))
      clear hb h4 B1
      rw [e3.out]
      go_wp2
      go_roundw
      case rel => exact ⟨1, by omega, by go_num, B2.out, fun h => (by cases h), fun _ => rfl, fun h => (by cases h)⟩
      case measure => simp [intOf]
    · obtain rfl := s1 rfl
      clear s0 s1 s2
      have c0 : wr.cell? ⟨a.block, a.off + 1, none⟩ = some (Value.func (Fn.func f') #[v] #[]) := C1.out _ hbr
      go_wp2_with fail
      refine (hf' _).mono ?_
      rintro e w1 ⟨rfl, hb⟩
      have B1 := Lib.hid (hbr.trans (hb.mono hbr.size))
      clear hb c0
      go_wp2_with fail
      refine (sum_two (cap x) y _ _ wc wy (Row.new' _ _ _ (by simp))).mono ?_
      rintro e w2 ⟨rfl, hb⟩
      have h4 := B1.out.alloc B1.out.size (.cells #[.int .u64 (cap x), .int .u64 y] 22)
      have B2 := Lib.hid (h4.trans (hb.mono h4.size))
      clear hb h4 B1
      rw [e2.out]
      go_wp2
      go_roundw
      case rel => exact ⟨2, by omega, by go_num, B2.out, fun h => (by cases h), fun h => (by cases h), fun _ => rfl⟩
      case measure => simp [intOf]
    · obtain rfl := s2 rfl
      clear s0 s1 s2
      go_wp2
      go_ret
      exact ⟨rfl, hbr⟩
/-- a budget's cells -/
def bud10 (u p b : Int) : Value := .agg #[.int .u64 u, .int .u64 p, .int .i64 b]
set_option maxHeartbeats 1000000 in
/-- priorities.Fee -/
theorem fee_ (n u p b : Int) (w : World) (h0 : -9223372036854775808 ≤ n) (h1 : n < 9223372036854775808) (hu : Word u) (hp : Word p) :
    Calls Try.prog 7 #[.int .i64 n, bud10 u p b] w fun e w' => e = .returned (.int .u64 (fee10 n p u)) ∧ Below w.heap.size w w' := by
  have T := fun A c B w hx hB => together_ 14 12 (pay10 n u p b) (base10 n) (offer10 p u) A c B w hx hB (base10_word (by omega)) (offer10_word hp hu)
    (fun w => by kernel_rfl) (fun w => by kernel_rfl) (fun w => base_ n u p b w h0 h1) (fun w => offer_ n u p b w hu hp)
  have E := Lib.hid (show cap (base10 n + offer10 p u) = fee10 n p u from rfl)
  rw [E.out] at T
  unfold bud10
  unfold pay10 meth10 at T
  have hb0 := (Below.refl w.heap.size w).alloc (Nat.le_refl _) (.cells #[.int .u64 u, .int .u64 p, .int .i64 b] 24)
  clear h0 h1 hu hp
  go_enter Try.func7, Try.ntmps7
  go_wp2_with fail
  refine (T _ _ _ _ (Row.new' _ _ _ (by simp)).sees0 (Nat.le_refl _)).mono ?_
  rintro e w1 ⟨rfl, hb⟩
  have hb1 := (hb0.alloc hb0.size (.cells #[.int .i64 n, .int .u64 u, .int .u64 p, .int .i64 b] 34))
  have hb2 := (hb1.alloc hb1.size (.cells #[.func (.func 14) #[.agg #[.int .i64 n, .int .u64 u, .int .u64 p, .int .i64 b]] #[], .func (.func 12) #[.agg #[.int .i64 n, .int .u64 u, .int .u64 p, .int .i64 b]] #[]] 37))
  have HB := Lib.hid (hb2.trans (hb.mono hb2.size))
  clear hb hb0 hb1 hb2 T
  go_wp2
  go_ret
  exact ⟨rfl, HB.out⟩
set_option maxHeartbeats 1000000 in
/-- priorities.Of -/
theorem pri_ (n u p b k : Int) (w : World) (h0 : -9223372036854775808 ≤ n) (h1 : n < 9223372036854775808) (hu : Word u) (hp : Word p) (hk : Word k) :
    Calls Try.prog 6 #[.int .i64 n, bud10 u p b, .int .u64 k] w fun e w' => e = .returned (.int .u64 (pri10 n p u k)) ∧ Below w.heap.size w w' := by
  have T := fun A c B w hx hB => together_ 11 12 (pay10 n u p b) (base10 n / 2) (offer10 p u) A c B w hx hB (half_word (base10_word (by omega))) (offer10_word hp hu)
    (fun w => by kernel_rfl) (fun w => by kernel_rfl) (fun w => half_ n u p b w h0 h1) (fun w => offer_ n u p b w hu hp)
  have E := Lib.hid (show times (cap (base10 n / 2 + offer10 p u)) 1000000 (cap (k + 1)) false = pri10 n p u k from rfl)
  have X := fun w => times_ (cap (base10 n / 2 + offer10 p u)) 1000000 (cap (k + 1)) false w (pays10_word (n := n) (by omega) hp hu) ⟨by decide, by decide⟩ (next10_word hk)
  rw [E.out] at X
  have hk' := Lib.hid hk
  unfold bud10
  unfold pay10 meth10 at T
  have hb0 := (Below.refl w.heap.size w).alloc (Nat.le_refl _) (.cells #[.int .u64 u, .int .u64 p, .int .i64 b] 24)
  clear h0 h1 hu hp hk E
  generalize cap (base10 n / 2 + offer10 p u) = q at *
  generalize pri10 n p u k = r at *
  go_enter Try.func6, Try.ntmps6
  go_wp2_with fail
  refine (T _ _ _ _ (Row.new' _ _ _ (by simp)).sees0 (Nat.le_refl _)).mono ?_
  rintro e w1 ⟨rfl, hb⟩
  have hb1 := (hb0.alloc hb0.size (.cells #[.int .i64 n, .int .u64 u, .int .u64 p, .int .i64 b] 34))
  have hb2 := (hb1.alloc hb1.size (.cells #[.func (.func 11) #[.agg #[.int .i64 n, .int .u64 u, .int .u64 p, .int .i64 b]] #[], .func (.func 12) #[.agg #[.int .i64 n, .int .u64 u, .int .u64 p, .int .i64 b]] #[]] 37))
  have HB := Lib.hid (hb2.trans (hb.mono hb2.size))
  clear hb hb0 hb1 hb2 T
  go_wp2_with fail
  refine (sum_two k 1 _ _ hk'.out ⟨by decide, by decide⟩ (Row.new' _ _ _ (by simp))).mono ?_
  rintro e w2 ⟨rfl, hb⟩
  have hb1 := (HB.out.alloc HB.out.size (.cells #[.int .u64 k, .int .u64 1] 22))
  have HB2 := Lib.hid (hb1.trans (hb.mono hb1.size))
  clear hb hb1 HB
  generalize cap (k + 1) = d at *
  go_wp2_with fail
  refine (X _).mono ?_
  rintro e w3 ⟨rfl, hb⟩
  have HB3 := Lib.hid (HB2.out.trans (hb.mono HB2.out.size))
  clear hb HB2
  go_wp2
  go_ret
  exact ⟨rfl, HB3.out⟩
theorem fee_lit (n u p b x : Int) (w : World) (h : fee10 n p u = x) (h0 : -9223372036854775808 ≤ n) (h1 : n < 9223372036854775808) (hu : Word u) (hp : Word p) :
    Calls Try.prog 7 #[.int .i64 n, bud10 u p b] w fun e w' => e = .returned (.int .u64 x) ∧ Below w.heap.size w w' := by
  have := fee_ n u p b w h0 h1 hu hp
  rwa [h] at this
theorem pri_lit (n u p b k x : Int) (w : World) (h : pri10 n p u k = x) (h0 : -9223372036854775808 ≤ n) (h1 : n < 9223372036854775808) (hu : Word u) (hp : Word p) (hk : Word k) :
    Calls Try.prog 6 #[.int .i64 n, bud10 u p b, .int .u64 k] w fun e w' => e = .returned (.int .u64 x) ∧ Below w.heap.size w w' := by
  have := pri_ n u p b k w h0 h1 hu hp hk
  rwa [h] at this
set_option maxHeartbeats 1000000 in
/-- the chapter's example -/
theorem lives10 (w : World) : Calls Try.prog 8 #[] w fun e w' => e = .returned (.bool true) ∧ Below w.heap.size w w' := by
  have T1 := fun w => fee_lit 1 1000 1000000 0 6000 w (by decide) (by decide) (by decide) ⟨by decide, by decide⟩ ⟨by decide, by decide⟩
  have T2 := fun w => pri_lit 1 1000 1000000 0 999 3500000 w (by decide) (by decide) (by decide) ⟨by decide, by decide⟩ ⟨by decide, by decide⟩ ⟨by decide, by decide⟩
  have T3 := fun w => fee_lit (-3) 0 0 0 0 w (by decide) (by decide) (by decide) ⟨by decide, by decide⟩ ⟨by decide, by decide⟩
  have T4 := fun w => pri_lit 0 18446744073709551615 18446744073709551615 0 18446744073709551615 1000000 w (by decide) (by decide) (by decide) ⟨by decide, by decide⟩ ⟨by decide, by decide⟩ ⟨by decide, by decide⟩
  unfold bud10 at T1 T2 T3 T4
  have hb0 := Lib.hid ((Below.refl w.heap.size w).alloc (Nat.le_refl _) (.cells #[.int .u64 1000, .int .u64 1000000, .int .i64 0] 24))
  have R := Lib.hid (Row.new w 24 [.int .u64 1000, .int .u64 1000000, .int .i64 0])
  go_enter Try.func8, Try.ntmps8
  go_wp2_with fail
  refine (T1 _).mono ?_
  rintro e w1 ⟨rfl, hb⟩
  have HB := Lib.hid (hb0.out.trans (hb.mono hb0.out.size))
  have R1 := Lib.hid (R.out.below hb R.out.lt)
  have c0 := R1.out.cell 0
  have c1 := R1.out.cell 1
  have c2 := R1.out.cell 2
  simp at c0 c1 c2
  clear hb hb0 R
  go_wp2_with fail
  refine (T2 _).mono ?_
  rintro e w2 ⟨rfl, hb⟩
  have HB2 := Lib.hid (HB.out.trans (hb.mono HB.out.size))
  clear hb HB R1 c0 c1 c2
  go_wp2_with fail
  refine (T3 _).mono ?_
  rintro e w3 ⟨rfl, hb⟩
  have HB3 := Lib.hid (HB2.out.trans (hb.mono HB2.out.size))
  clear hb HB2
  go_wp2_with fail
  refine (T4 _).mono ?_
  rintro e w4 ⟨rfl, hb⟩
  have HB4 := Lib.hid (HB3.out.trans (hb.mono HB3.out.size))
  clear hb HB3
  go_wp2
  go_ret
  exact ⟨rfl, HB4.out⟩
end Go.Proofs.Ytfbdolcgekmdgaa

/-
  Of part FeeWalk10: what is needed here.
-/
namespace Go.Proofs.Ytfbdolcgekmdgaa
open Go.RowKit
set_option linter.unusedVariables false
theorem wf10_u64 {z : Int} (h : (Lit.int .u64 z).wf = true) : Word z := by
  have h' : (decide ((0 : Int) ≤ z) && decide (z ≤ 18446744073709551615)) = true := h
  rw [Bool.and_eq_true, decide_eq_true_iff, decide_eq_true_iff] at h'
  exact ⟨by omega, by omega⟩
theorem wf10_u32 {z : Int} (h : (Lit.int .u32 z).wf = true) : 0 ≤ z ∧ z < 4294967296 := by
  have h' : (decide ((0 : Int) ≤ z) && decide (z ≤ 4294967295)) = true := h
  rw [Bool.and_eq_true, decide_eq_true_iff, decide_eq_true_iff] at h'
  exact ⟨by omega, by omega⟩
theorem wf10_u8 {z : Int} (h : (Lit.int .u8 z).wf = true) : 0 ≤ z ∧ z < 256 := by
  have h' : (decide ((0 : Int) ≤ z) && decide (z ≤ 255)) = true := h
  rw [Bool.and_eq_true, decide_eq_true_iff, decide_eq_true_iff] at h'
  exact ⟨by omega, by omega⟩
theorem fee10_none {p u : Int} (h1 : 0 ≤ p) (h2 : p < 4294967296) (h3 : 0 ≤ u) (h4 : u < 4294967296) : fee10 0 p u = offer10 p u := by
  obtain ⟨_, _, o0, o1, _⟩ := offer10_small h1 h2 h3 h4
  unfold fee10
  rw [base10_small (Int.le_refl _) (by decide), cap_low (by omega)]
  omega
theorem fee10_small {n p u : Int} (h0 : 0 ≤ n) (h5 : n < 256) (h1 : 0 ≤ p) (h2 : p < 4294967296) (h3 : 0 ≤ u) (h4 : u < 4294967296) : fee10 n p u = offer10 p u + 5000 * n := by
  obtain ⟨_, _, o0, o1, _⟩ := offer10_small h1 h2 h3 h4
  unfold fee10
  rw [base10_small h0 (by omega), cap_low (by omega)]
  omega
set_option maxRecDepth 100000 in
set_option maxHeartbeats 4000000 in
theorem fee_walk10 (n p u : Int) (w : World) (h0 : 0 ≤ n) (h5 : n < 256) (h1 : 0 ≤ p) (h2 : p < 4294967296) (h3 : 0 ≤ u) (h4 : u < 4294967296) :
    Calls Try.prog 4 #[.int .u8 n, .int .u32 p, .int .u32 u] w fun e w' => e = .returned (.bool true) ∧ Below w.heap.size w w' := by
  have T1 := fun w => fee_lit 0 u p 0 _ w (fee10_none h1 h2 h3 h4) (by decide) (by decide) ⟨h3, by omega⟩ ⟨h1, by omega⟩
  have T2 := fun w => fee_lit n u p 0 _ w (fee10_small h0 h5 h1 h2 h3 h4) (by omega) (by omega) ⟨h3, by omega⟩ ⟨h1, by omega⟩
  obtain ⟨q0, q1, o0, o1, o2, o3⟩ := offer10_small h1 h2 h3 h4
  unfold bud10 at T1 T2
  have HB0 := Lib.hid ((Below.refl w.heap.size w).alloc (Nat.le_refl _) (.cells #[.int .u64 u, .int .u64 p, .int .i64 0] 24))
  have R0 := Lib.hid (Row.new w 24 [.int .u64 u, .int .u64 p, .int .i64 0])
  have wp64 : IntKind.u64.wrap p = p := IntWalk.u64_in _ (by omega)
  have wu64 : IntKind.u64.wrap u = u := IntWalk.u64_in _ (by omega)
  have wn64 : IntKind.u64.wrap n = n := IntWalk.u64_in _ (by omega)
  have wni : IntKind.i64.wrap n = n := IntWalk.i64_in _ (by omega)
  have q2 : p * u ≤ 4294967295 * 4294967295 := prod_mono h1 h3 (by omega) (by omega)
  obtain ⟨q, hq⟩ : ∃ q, p * u = q := ⟨_, rfl⟩
  have wq : IntKind.u64.wrap (p * u) = q := by rw [← hq]; exact IntWalk.u64_in _ (by omega)
  rw [hq] at q0 q1 q2 o2 o3
  clear hq
  generalize offer10 p u = o at *
  have wo : IntKind.u64.wrap (o * 1000000) = o * 1000000 := IntWalk.u64_in _ (by omega)
  have wn5 : IntKind.u64.wrap (5000 * n) = 5000 * n := IntWalk.u64_in _ (by omega)
  have wall : IntKind.u64.wrap (o + 5000 * n) = o + 5000 * n := IntWalk.u64_in _ (by omega)
  have L := lives10
  by_cases hz : 0 < o
  · have wo1 : IntKind.u64.wrap (o - 1) = o - 1 := IntWalk.u64_in _ (by omega)
    have wo2 : IntKind.u64.wrap ((o - 1) * 1000000) = (o - 1) * 1000000 := IntWalk.u64_in _ (by omega)
    go_enter Try.func4, Try.ntmps4
    go_wp2_with fail
    refine (T1 _).mono ?_
    rintro e w1 ⟨rfl, hb⟩
    have HB := Lib.hid (HB0.out.trans (hb.mono HB0.out.size))
    have R1 := Lib.hid (R0.out.below hb R0.out.lt)
    have c0 := R1.out.cell 0
    have c1 := R1.out.cell 1
    have c2 := R1.out.cell 2
    simp at c0 c1 c2
    clear hb HB0 R0
    go_wp2_with fail
    refine (T2 _).mono ?_
    rintro e w2 ⟨rfl, hb⟩
    have HB2 := Lib.hid (HB.out.trans (hb.mono HB.out.size))
    clear hb HB R1 c0 c1 c2
    go_wp2_with fail
    refine (L _).mono ?_
    rintro e w3 ⟨rfl, hb⟩
    have HB3 := Lib.hid (HB2.out.trans (hb.mono HB2.out.size))
    clear hb HB2
    go_wp2
    go_ret
    exact ⟨rfl, HB3.out⟩
  · go_enter Try.func4, Try.ntmps4
    go_wp2_with fail
    refine (T1 _).mono ?_
    rintro e w1 ⟨rfl, hb⟩
    have HB := Lib.hid (HB0.out.trans (hb.mono HB0.out.size))
    have R1 := Lib.hid (R0.out.below hb R0.out.lt)
    have c0 := R1.out.cell 0
    have c1 := R1.out.cell 1
    have c2 := R1.out.cell 2
    simp at c0 c1 c2
    clear hb HB0 R0
    go_wp2_with fail
    refine (T2 _).mono ?_
    rintro e w2 ⟨rfl, hb⟩
    have HB2 := Lib.hid (HB.out.trans (hb.mono HB.out.size))
    clear hb HB R1 c0 c1 c2
    go_wp2_with fail
    refine (L _).mono ?_
    rintro e w3 ⟨rfl, hb⟩
    have HB3 := Lib.hid (HB2.out.trans (hb.mono HB2.out.size))
    clear hb HB2
    go_wp2
    go_ret
    exact ⟨rfl, HB3.out⟩
end Go.Proofs.Ytfbdolcgekmdgaa

/-
  Of part GetMsg: what is needed here.
-/
namespace Go.Proofs.Ytfbdolcgekmdgaa
open Go.RowKit
set_option linter.unusedVariables false
/-- 'wpAnyH_take', the operations a list: the operation comes out written out -/
theorem takeL {P : Program} {L : List Oper} {Q : Exit → Act → World → Prop} {md : Region.Mode} {S : World → Prop} {i : Nat} {oi : Oper} {v : Value} {fuel : Nat} {listed : Array Bool} {a : Act} {w : World} (hi : L[i]? = some oi)
    (hs : Region.noSelect L.toArray = true) (hf : Region.free md L.toArray listed i = true) (hr : (Region.ready md L.toArray listed).contains i = true)
    (hQ : ∀ c a w, Q (.panic c) (a.put oi.dst v) w → Q (.panic c) a w) (hy : YieldsIf P L.toArray S oi v a) (hS : S w)
    (h : wpAnyH P md L.toArray Q S fuel (listed.setIfInBounds i true) (a.put oi.dst v) w) : wpAnyH P md L.toArray Q S (fuel + 1) listed a w :=
  wpAnyH_take (by simpa using hi) hs hf hr hQ hy hS h
/-- 'AllReadyH.cons', likewise, for one operation -/
theorem readyL {P : Program} {L : List Oper} {Q : Exit → Act → World → Prop} {md : Region.Mode} {S : World → Prop} {i : Nat} {o : Oper} {fuel : Nat} {listed : Array Bool} {a : Act} {w : World} (ho : L[i]? = some o) (hr : Region.ready md L.toArray listed = [i])
    (hw : Region.wanted o (yielded L.toArray a.tmps) = true)
    (h : ∀ K' : Act → World → Prop, Shut (∀ a w, S w → wpAnyH P md L.toArray Q S fuel (listed.setIfInBounds i true) a w → K' a w) → Oper.wp P o a w K' Q) : wpAnyH P md L.toArray Q S (fuel + 1) listed a w :=
  wpAnyH_ready hr (by simp) (AllReadyH.cons (by simpa using ho) (fun K hK => by
    rw [if_pos hw]
    exact h K (fun a w hS hW => hK a w hS fun _ => hW)) AllReadyH.nil)
end Go.Proofs.Ytfbdolcgekmdgaa
