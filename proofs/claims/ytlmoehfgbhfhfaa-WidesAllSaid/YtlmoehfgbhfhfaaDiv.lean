/-
  math/bits.Div64's own text: two words by one.
-/
import Derived.Test.YtlmoehfgbhfhfaaWideMul
import Derived.Test.YtlmoehfgbhfhfaaDivMath
import Derived.Test.YtlmoehfgbhfhfaaLen
import Derived.Deep.QuietTactic
namespace Go.Proofs.Ytlmoehfgbhfhfaa
open Go.RowKit
set_option linter.unusedVariables false

theorem u64_or_hi (k : Nat) (y x : Int) (h0 : 0 ≤ y) (h1 : y < 2 ^ k) (h2 : 0 ≤ x) (h3 : x % 2 ^ k = 0) (hy : y < 18446744073709551616) (hx : x < 18446744073709551616) : bits .or .u64 x y = x + y := by
  obtain ⟨a, b, rfl, rfl, h⟩ := pow_facts k y x h0 h1 h2 h3
  rw [u64_or_nat b a (by omega) (by omega), Nat.or_comm, h]; simp; omega
theorem u64_low (x : Int) (h : Word x) : bits .and .u64 x 4294967295 = x % 4294967296 := by
  obtain ⟨n, rfl, hn⟩ := h.nat
  rw [low32 n hn]; omega
theorem w64 {x : Int} (h0 : 0 ≤ x) (h1 : x < 18446744073709551616) : IntKind.u64.wrap x = x := by rw [IntKind.wrap_u64]; omega

/-- the pieces that Div64 works on: u and l the moved number's words, v the moved divisor -/
structure Pieces (hi lo y : Int) (s : Nat) (u v v1 v0 l d e : Int) : Prop where
  iv : v = y * 2 ^ s
  v9 : 9223372036854775808 ≤ v
  vw : v < 18446744073709551616
  i1 : v1 = v / 4294967296
  i0 : v0 = v % 4294967296
  u0 : 0 ≤ u
  uv : u < v
  d0 : 0 ≤ d
  d1 : d < 4294967296
  e0 : 0 ≤ e
  e1 : e < 4294967296
  all : u * 18446744073709551616 + d * 4294967296 + e = (hi * 18446744073709551616 + lo) * 2 ^ s

theorem pieces {hi lo y : Int} {s : Nat} (hh : 0 ≤ hi) (hl : Word lo) (h : hi < y) (hs : s ≤ 63) (top : 9223372036854775808 ≤ y * 2 ^ s) (top' : y * 2 ^ s < 18446744073709551616) :
    ∃ u v v1 v0 l d e, IntKind.u64.wrap (y * 2 ^ s) = v ∧ v / 4294967296 = v1 ∧ bits .and .u64 v 4294967295 = v0 ∧ bits .or .u64 (IntKind.u64.wrap (hi * 2 ^ s)) (lo / 2 ^ (64 - s)) = u ∧
      IntKind.u64.wrap (lo * 2 ^ s) = l ∧ l / 4294967296 = d ∧ bits .and .u64 l 4294967295 = e ∧ Pieces hi lo y s u v v1 v0 l d e := by
  have p : (0 : Int) < 2 ^ s := Int.pow_pos (by omega)
  have p' : (0 : Int) < 2 ^ (64 - s) := Int.pow_pos (by omega)
  have pp : (2 : Int) ^ (64 - s) * 2 ^ s = 18446744073709551616 := by
    rw [← Int.pow_add, show 64 - s + s = 64 by omega]; rfl
  have a0 : 0 ≤ hi * 2 ^ s := Int.mul_nonneg hh (Int.le_of_lt p)
  have a1 : hi * 2 ^ s < y * 2 ^ s := Int.mul_lt_mul_of_pos_right h p
  have b0 : 0 ≤ lo / 2 ^ (64 - s) := Int.ediv_nonneg hl.1 (Int.le_of_lt p')
  have b1 : lo / 2 ^ (64 - s) < 2 ^ s := Int.ediv_lt_of_lt_mul p' (by rw [Int.mul_comm, pp]; exact hl.2)
  have b2 : (2 : Int) ^ s ≤ 9223372036854775808 := by
    have : (2 : Nat) ^ s ≤ 2 ^ 63 := Nat.pow_le_pow_right (by omega) hs
    have e : ((2 ^ s : Nat) : Int) = (2 : Int) ^ s := by simp
    omega
  have c0 : lo * 2 ^ s / 18446744073709551616 = lo / 2 ^ (64 - s) := by
    rw [← pp]; exact Int.mul_ediv_mul_of_pos_left _ _ p
  have c1 := Int.mul_ediv_add_emod (lo * 2 ^ s) 18446744073709551616
  rw [c0] at c1
  have o := u64_or_hi s (lo / 2 ^ (64 - s)) (hi * 2 ^ s) b0 b1 a0 (Int.mul_emod_left _ _) (by omega) (by omega)
  refine ⟨_, y * 2 ^ s, _, _, lo * 2 ^ s % 18446744073709551616, _, _, w64 (by omega) top', rfl, u64_low _ ⟨by omega, top'⟩, by rw [w64 a0 (by omega), o], by rw [IntKind.wrap_u64], rfl, u64_low _ (word_mod _), ?_⟩
  have k : hi * 2 ^ s + 2 ^ s ≤ y * 2 ^ s := by
    have := Int.mul_le_mul_of_nonneg_right (show hi + 1 ≤ y by omega) (Int.le_of_lt p)
    rw [Int.add_mul, Int.one_mul] at this
    exact this
  have all : (hi * 18446744073709551616 + lo) * 2 ^ s = hi * 2 ^ s * 18446744073709551616 + lo * 2 ^ s := by
    rw [Int.add_mul, Int.mul_right_comm]
  refine ⟨rfl, top, top', rfl, rfl, by omega, by omega, by omega, by omega, by omega, by omega, ?_⟩
  rw [all]
  generalize hi * 2 ^ s = A at *
  generalize lo * 2 ^ s = B at *
  omega

/-- the first guess, as the program makes it -/
theorem first_guess {u v v1 v0 d : Int} (hu : 0 ≤ u) (huv : u < v) (hd : 0 ≤ d) (hd' : d < 4294967296) (hv : 9223372036854775808 ≤ v) (hv' : v < 18446744073709551616) (e1 : v1 = v / 4294967296) (e0 : v0 = v % 4294967296) :
    ∃ q r, IntKind.u64.wrap (u.tdiv v1) = q ∧ IntKind.u64.wrap (u - IntKind.u64.wrap (q * v1)) = r ∧ Guess u v d v1 q r := by
  have g := Guess.first hu huv hd hd' hv hv' e1 e0
  refine ⟨_, _, rfl, rfl, ?_⟩
  have h := g.eq; have q0 := g.q0; have q1 := g.q1; have r0 := g.r0; have r1 := g.r1
  rw [Int.tdiv_eq_ediv_of_nonneg hu, w64 q0 (by omega), w64 (x := u / v1 * v1) (by have := Int.mul_nonneg q0 (show 0 ≤ v1 by omega); exact this) (by omega), show u - u / v1 * v1 = u % v1 by omega, w64 r0 (by omega)]
  exact g

/-- what the program makes out of the two digits -/
theorem endgame {hi lo y : Int} {s : Nat} {u v v1 v0 l d e : Int} (P : Pieces hi lo y s u v v1 v0 l d e) (hh : 0 ≤ hi) (hl : Word lo) (h : hi < y) :
    ∃ D U D' q' r', D = digit u v d ∧ D' = digit U v e ∧ IntKind.u64.wrap (IntKind.u64.wrap (IntKind.u64.wrap (u * 4294967296) + d) - IntKind.u64.wrap (D * v)) = U ∧ 0 ≤ U ∧ U < v ∧
      IntKind.u64.wrap (U.tdiv v1) = q' ∧ IntKind.u64.wrap (U - IntKind.u64.wrap (q' * v1)) = r' ∧ Guess U v e v1 q' r' ∧
      IntKind.u64.wrap (IntKind.u64.wrap (D * 4294967296) + D') = (hi * 18446744073709551616 + lo) / y ∧
      IntKind.u64.wrap (IntKind.u64.wrap (IntKind.u64.wrap (U * 4294967296) + e) - IntKind.u64.wrap (D' * v)) / 2 ^ s = (hi * 18446744073709551616 + lo) % y := by
  have a := left_eq (u := u) (v := v) (d := d)
  have i := left_in (u := u) (d := d) P.v9
  have dq := digit_in P.u0 P.uv P.d0 P.d1 P.v9
  obtain ⟨q', r', hq, hr, G⟩ := first_guess i.1 i.2 P.e0 P.e1 P.v9 P.vw P.i1 P.i0
  obtain ⟨f1, f2⟩ := two_digits hh h hl.1 hl.2 P.iv P.all P.u0 P.uv P.d0 P.d1 P.e0 P.e1 P.v9
  have b := left_eq (u := left u v d) (v := v) (d := e)
  have j := left_in (u := left u v d) (d := e) P.v9
  have dq' := digit_in i.1 i.2 P.e0 P.e1 P.v9
  have vw := P.vw
  refine ⟨_, left u v d, _, q', r', rfl, rfl, ?_, i.1, i.2, hq, hr, G, ?_, ?_⟩
  · simp only [IntKind.wrap_u64]
    generalize digit u v d * v = x at *
    omega
  · rw [← f1]
    simp only [IntKind.wrap_u64]
    omega
  · rw [← f2]
    congr 1
    simp only [IntKind.wrap_u64]
    generalize digit (left u v d) v e * v = x at *
    omega

set_option maxHeartbeats 4000000 in
set_option maxRecDepth 100000 in
theorem div64_low (lo y : Int) (hl : Word lo) (hy : Word y) (h : 0 < y) (w : World) :
    Calls Try.prog 17 #[.int .u64 0, .int .u64 lo, .int .u64 y] w fun e w' => e = .returned (.tuple #[.int .u64 (lo / y), .int .u64 (lo % y)]) ∧ ∃ k, w' = w.drewN k := by
  have n0 : (y == 0) = false := by simp; omega
  have n1 : ¬ y = 0 := by omega
  have n2 : ¬ y ≤ 0 := by omega
  have q0 := Int.ediv_nonneg hl.1 hy.1
  have q1 : lo / y ≤ lo := Int.ediv_le_self _ hl.1
  have E1 : IntKind.u64.wrap (lo.tdiv y) = lo / y := by rw [Int.tdiv_eq_ediv_of_nonneg hl.1, w64 q0 (by have := hl.2; omega)]
  generalize lo / y = q at *
  go_enter Try.func17, Try.ntmps17
  go_wp2
  go_region
  all_goals (go_wp2; go_ret2; exact ⟨rfl, 1, rfl⟩)

set_option maxHeartbeats 4000000 in
set_option maxRecDepth 100000 in
theorem div64_high (hi lo y : Int) (hh : Word hi) (hl : Word lo) (hy : Word y) (h : hi < y) (h0 : 0 < hi) (w : World) :
    Calls Try.prog 17 #[.int .u64 hi, .int .u64 lo, .int .u64 y] w fun e w' => e = .returned (.tuple #[.int .u64 ((hi * 18446744073709551616 + lo) / y), .int .u64 ((hi * 18446744073709551616 + lo) % y)]) ∧ ∃ k, w' = w.drewN k := by
  obtain ⟨s, hs, top, top', hlz⟩ := leading y (by omega) hy.2
  obtain ⟨u, v, v1, v0, l, d, e, hV, hV1, hV0, hU, hL, hDd, hE, P⟩ := pieces hh.1 hl h hs top top'
  have z1 : ¬ v1 = 0 := by have := P.i1; have := P.v9; omega
  obtain ⟨q, r, hq, hr, G⟩ := first_guess P.u0 P.uv P.d0 P.d1 P.v9 P.vw P.i1 P.i0
  obtain ⟨D, U, D', q', r', hDa, hDb, hU2, U0, U1, hq', hr', G', hF1, hF2⟩ := endgame P hh.1 hl h
  have hD' := Lib.hid hDa
  have hE' := Lib.hid hDb
  clear hDa hDb
  have n0 : (y == 0) = false := by simp; omega
  have n1 : (hi == 0) = false := by simp; omega
  have n2 : ¬ y ≤ hi := by omega
  generalize (hi * 18446744073709551616 + lo) / y = QQ at *
  generalize (hi * 18446744073709551616 + lo) % y = RR at *
  clear top top'
  go_enter Try.func17, Try.ntmps17
  go_wp2_with fail
  refine (hlz _).mono ?_
  rintro e w1 ⟨rfl, rfl⟩
  go_wp2_with fail
  go_loop [15, 16] (fun a b => ∃ m n : Int, a = .int .u64 m ∧ b = .int .u64 n ∧ Guess u v d v1 m n) (fun a _ => (intOf a).toNat)
  case atStart => exact ⟨_, _, rfl, rfl, G⟩
  case round =>
    obtain ⟨m, n, rfl, rfl, g⟩ := hrel
    have g0 := g.q0; have g1 := g.q1; have g2 := g.r0; have g3 := g.r1; have p0 := P.i1; have p1 := P.v9; have p2 := P.vw; have p3 := P.d0; have p4 := P.d1
    have T : (4294967296 ≤ m ∨ (m < 4294967296 ∧ 4294967296 * n + d < m * v0)) ∨ (m < 4294967296 ∧ m * v0 ≤ 4294967296 * n + d) := by omega
    have X2 : IntKind.u64.wrap (n + v1) = n + v1 := w64 (by omega) (by omega)
    have X3 : IntKind.u64.wrap (4294967296 * n) = 4294967296 * n := w64 (by omega) (by omega)
    have X4 : IntKind.u64.wrap (4294967296 * n + d) = 4294967296 * n + d := w64 (by omega) (by omega)
    rcases T with T | ⟨T1, T2⟩
    · have TT : 4294967296 ≤ m ∨ 4294967296 * n + d < m * v0 := by omega
      have gb := g.big P.u0 P.uv P.d0 P.d1 P.v9 P.i1 P.i0 TT
      have gd := digit_in P.u0 P.uv P.d0 P.d1 P.v9
      have X1 : IntKind.u64.wrap (m - 1) = m - 1 := w64 (by omega) (by omega)
      by_cases R : 4294967296 ≤ n + v1
      · have go := g.out P.u0 P.uv P.d0 P.d1 P.v9 P.i1 P.i0 TT R
        have X6 : m < 4294967296 → _ := g.fit P.i0
        rw [← hD'.out] at go gb gd
        replace X1 := X1.trans go
        clear go gb gd TT g p0 p1 p2 p3 p4 g0 g1 g2 g3
        rcases T with T | ⟨T1, T2⟩
        · clear X3 X4
          go_wp2_with fail
          go_loop [18, 16] (fun a b => ∃ m n : Int, a = .int .u64 m ∧ b = .int .u64 n ∧ Guess U v e v1 m n) (fun a _ => (intOf a).toNat)
          case atStart => exact ⟨_, _, rfl, rfl, G'⟩
          case round =>
            obtain ⟨m, n, rfl, rfl, g⟩ := hrel
            have g0 := g.q0; have g1 := g.q1; have g2 := g.r0; have g3 := g.r1; have p0 := P.i1; have p1 := P.v9; have p2 := P.vw; have p3 := P.e0; have p4 := P.e1
            have T : (4294967296 ≤ m ∨ (m < 4294967296 ∧ 4294967296 * n + e < m * v0)) ∨ (m < 4294967296 ∧ m * v0 ≤ 4294967296 * n + e) := by omega
            have X2 : IntKind.u64.wrap (n + v1) = n + v1 := w64 (by omega) (by omega)
            have X3 : IntKind.u64.wrap (4294967296 * n) = 4294967296 * n := w64 (by omega) (by omega)
            have X4 : IntKind.u64.wrap (4294967296 * n + e) = 4294967296 * n + e := w64 (by omega) (by omega)
            rcases T with T | ⟨T1, T2⟩
            · have TT : 4294967296 ≤ m ∨ 4294967296 * n + e < m * v0 := by omega
              have gb := g.big U0 U1 P.e0 P.e1 P.v9 P.i1 P.i0 TT
              have gd := digit_in U0 U1 P.e0 P.e1 P.v9
              have X1 : IntKind.u64.wrap (m - 1) = m - 1 := w64 (by omega) (by omega)
              by_cases R : 4294967296 ≤ n + v1
              · have go := g.out U0 U1 P.e0 P.e1 P.v9 P.i1 P.i0 TT R
                have X6 : m < 4294967296 → _ := g.fit P.i0
                rw [← hE'.out] at go gb gd
                replace X1 := X1.trans go
                clear go gb gd TT g p0 p1 p2 p3 p4 g0 g1 g2 g3
                rcases T with T | ⟨T1, T2⟩
                · clear X3 X4
                  go_wp2_with fail
                  go_ret2
                  exact ⟨rfl, 0, rfl⟩
                · replace X6 := X6 T1
                  have X5 : IntKind.u64.wrap (m * v0) = m * v0 := w64 X6.1 X6.2
                  clear X6
                  have T3 : ¬ 4294967296 ≤ m := by omega
                  clear T1
                  go_wp2_with fail
                  go_ret2
                  exact ⟨rfl, 0, rfl⟩
              · have g' := g.next U0 U1 P.e0 P.e1 P.v9 P.vw P.i1 P.i0 TT (by omega)
                have M : (m - 1).toNat < m.toNat := by omega
                have X6 : m < 4294967296 → _ := g.fit P.i0
                clear gb gd TT g p0 p1 p2 p3 p4 g0 g1 g2 g3
                rcases T with T | ⟨T1, T2⟩
                · clear X3 X4 X6
                  go_wp2
                  go_round
                  case rel => exact ⟨_, _, rfl, rfl, g'⟩
                  case measure => exact M
                · replace X6 := X6 T1
                  have X5 : IntKind.u64.wrap (m * v0) = m * v0 := w64 X6.1 X6.2
                  clear X6
                  have T3 : ¬ 4294967296 ≤ m := by omega
                  clear T1
                  go_wp2
                  go_round
                  case rel => exact ⟨_, _, rfl, rfl, g'⟩
                  case measure => exact M
            · have go := g.done P.v9 P.i1 P.i0 T2
              have X6 := g.fit P.i0 T1
              have X5 : IntKind.u64.wrap (m * v0) = m * v0 := w64 X6.1 X6.2
              have T3 : ¬ 4294967296 ≤ m := by omega
              have T4 : ¬ 4294967296 * n + e < m * v0 := by omega
              rw [← hE'.out] at go
              clear g p0 p1 p2 p3 p4 g0 g1 g2 g3 T1 T2 X6
              subst go
              go_wp2_with fail
              go_ret2
              exact ⟨rfl, 0, rfl⟩
        · replace X6 := X6 T1
          have X5 : IntKind.u64.wrap (m * v0) = m * v0 := w64 X6.1 X6.2
          clear X6
          have T3 : ¬ 4294967296 ≤ m := by omega
          clear T1
          go_wp2_with fail
          go_loop [18, 16] (fun a b => ∃ m n : Int, a = .int .u64 m ∧ b = .int .u64 n ∧ Guess U v e v1 m n) (fun a _ => (intOf a).toNat)
          case atStart => exact ⟨_, _, rfl, rfl, G'⟩
          case round =>
            obtain ⟨m, n, rfl, rfl, g⟩ := hrel
            have g0 := g.q0; have g1 := g.q1; have g2 := g.r0; have g3 := g.r1; have p0 := P.i1; have p1 := P.v9; have p2 := P.vw; have p3 := P.e0; have p4 := P.e1
            have T : (4294967296 ≤ m ∨ (m < 4294967296 ∧ 4294967296 * n + e < m * v0)) ∨ (m < 4294967296 ∧ m * v0 ≤ 4294967296 * n + e) := by omega
            have X2 : IntKind.u64.wrap (n + v1) = n + v1 := w64 (by omega) (by omega)
            have X3 : IntKind.u64.wrap (4294967296 * n) = 4294967296 * n := w64 (by omega) (by omega)
            have X4 : IntKind.u64.wrap (4294967296 * n + e) = 4294967296 * n + e := w64 (by omega) (by omega)
            rcases T with T | ⟨T1, T2⟩
            · have TT : 4294967296 ≤ m ∨ 4294967296 * n + e < m * v0 := by omega
              have gb := g.big U0 U1 P.e0 P.e1 P.v9 P.i1 P.i0 TT
              have gd := digit_in U0 U1 P.e0 P.e1 P.v9
              have X1 : IntKind.u64.wrap (m - 1) = m - 1 := w64 (by omega) (by omega)
              by_cases R : 4294967296 ≤ n + v1
              · have go := g.out U0 U1 P.e0 P.e1 P.v9 P.i1 P.i0 TT R
                have X6 : m < 4294967296 → _ := g.fit P.i0
                rw [← hE'.out] at go gb gd
                replace X1 := X1.trans go
                clear go gb gd TT g p0 p1 p2 p3 p4 g0 g1 g2 g3
                rcases T with T | ⟨T1, T2⟩
                · clear X3 X4
                  go_wp2_with fail
                  go_ret2
                  exact ⟨rfl, 0, rfl⟩
                · replace X6 := X6 T1
                  have X5 : IntKind.u64.wrap (m * v0) = m * v0 := w64 X6.1 X6.2
                  clear X6
                  have T3 : ¬ 4294967296 ≤ m := by omega
                  clear T1
                  go_wp2_with fail
                  go_ret2
                  exact ⟨rfl, 0, rfl⟩
              · have g' := g.next U0 U1 P.e0 P.e1 P.v9 P.vw P.i1 P.i0 TT (by omega)
                have M : (m - 1).toNat < m.toNat := by omega
                have X6 : m < 4294967296 → _ := g.fit P.i0
                clear gb gd TT g p0 p1 p2 p3 p4 g0 g1 g2 g3
                rcases T with T | ⟨T1, T2⟩
                · clear X3 X4 X6
                  go_wp2
                  go_round
                  case rel => exact ⟨_, _, rfl, rfl, g'⟩
                  case measure => exact M
                · replace X6 := X6 T1
                  have X5 : IntKind.u64.wrap (m * v0) = m * v0 := w64 X6.1 X6.2
                  clear X6
                  have T3 : ¬ 4294967296 ≤ m := by omega
                  clear T1
                  go_wp2
                  go_round
                  case rel => exact ⟨_, _, rfl, rfl, g'⟩
                  case measure => exact M
            · have go := g.done P.v9 P.i1 P.i0 T2
              have X6 := g.fit P.i0 T1
              have X5 : IntKind.u64.wrap (m * v0) = m * v0 := w64 X6.1 X6.2
              have T3 : ¬ 4294967296 ≤ m := by omega
              have T4 : ¬ 4294967296 * n + e < m * v0 := by omega
              rw [← hE'.out] at go
              clear g p0 p1 p2 p3 p4 g0 g1 g2 g3 T1 T2 X6
              subst go
              go_wp2_with fail
              go_ret2
              exact ⟨rfl, 0, rfl⟩
      · have g' := g.next P.u0 P.uv P.d0 P.d1 P.v9 P.vw P.i1 P.i0 TT (by omega)
        have M : (m - 1).toNat < m.toNat := by omega
        have X6 : m < 4294967296 → _ := g.fit P.i0
        clear gb gd TT g p0 p1 p2 p3 p4 g0 g1 g2 g3
        rcases T with T | ⟨T1, T2⟩
        · clear X3 X4 X6
          go_wp2
          go_round
          case rel => exact ⟨_, _, rfl, rfl, g'⟩
          case measure => exact M
        · replace X6 := X6 T1
          have X5 : IntKind.u64.wrap (m * v0) = m * v0 := w64 X6.1 X6.2
          clear X6
          have T3 : ¬ 4294967296 ≤ m := by omega
          clear T1
          go_wp2
          go_round
          case rel => exact ⟨_, _, rfl, rfl, g'⟩
          case measure => exact M
    · have go := g.done P.v9 P.i1 P.i0 T2
      have X6 := g.fit P.i0 T1
      have X5 : IntKind.u64.wrap (m * v0) = m * v0 := w64 X6.1 X6.2
      have T3 : ¬ 4294967296 ≤ m := by omega
      have T4 : ¬ 4294967296 * n + d < m * v0 := by omega
      rw [← hD'.out] at go
      clear g p0 p1 p2 p3 p4 g0 g1 g2 g3 T1 T2 X6
      subst go
      go_wp2_with fail
      go_loop [18, 16] (fun a b => ∃ m n : Int, a = .int .u64 m ∧ b = .int .u64 n ∧ Guess U v e v1 m n) (fun a _ => (intOf a).toNat)
      case atStart => exact ⟨_, _, rfl, rfl, G'⟩
      case round =>
        obtain ⟨m, n, rfl, rfl, g⟩ := hrel
        have g0 := g.q0; have g1 := g.q1; have g2 := g.r0; have g3 := g.r1; have p0 := P.i1; have p1 := P.v9; have p2 := P.vw; have p3 := P.e0; have p4 := P.e1
        have T : (4294967296 ≤ m ∨ (m < 4294967296 ∧ 4294967296 * n + e < m * v0)) ∨ (m < 4294967296 ∧ m * v0 ≤ 4294967296 * n + e) := by omega
        have X2 : IntKind.u64.wrap (n + v1) = n + v1 := w64 (by omega) (by omega)
        have X3 : IntKind.u64.wrap (4294967296 * n) = 4294967296 * n := w64 (by omega) (by omega)
        have X4 : IntKind.u64.wrap (4294967296 * n + e) = 4294967296 * n + e := w64 (by omega) (by omega)
        rcases T with T | ⟨T1, T2⟩
        · have TT : 4294967296 ≤ m ∨ 4294967296 * n + e < m * v0 := by omega
          have gb := g.big U0 U1 P.e0 P.e1 P.v9 P.i1 P.i0 TT
          have gd := digit_in U0 U1 P.e0 P.e1 P.v9
          have X1 : IntKind.u64.wrap (m - 1) = m - 1 := w64 (by omega) (by omega)
          by_cases R : 4294967296 ≤ n + v1
          · have go := g.out U0 U1 P.e0 P.e1 P.v9 P.i1 P.i0 TT R
            have X6 : m < 4294967296 → _ := g.fit P.i0
            rw [← hE'.out] at go gb gd
            replace X1 := X1.trans go
            clear go gb gd TT g p0 p1 p2 p3 p4 g0 g1 g2 g3
            rcases T with T | ⟨T1, T2⟩
            · clear X3 X4
              go_wp2_with fail
              go_ret2
              exact ⟨rfl, 0, rfl⟩
            · replace X6 := X6 T1
              have X5 : IntKind.u64.wrap (m * v0) = m * v0 := w64 X6.1 X6.2
              clear X6
              have T3 : ¬ 4294967296 ≤ m := by omega
              clear T1
              go_wp2_with fail
              go_ret2
              exact ⟨rfl, 0, rfl⟩
          · have g' := g.next U0 U1 P.e0 P.e1 P.v9 P.vw P.i1 P.i0 TT (by omega)
            have M : (m - 1).toNat < m.toNat := by omega
            have X6 : m < 4294967296 → _ := g.fit P.i0
            clear gb gd TT g p0 p1 p2 p3 p4 g0 g1 g2 g3
            rcases T with T | ⟨T1, T2⟩
            · clear X3 X4 X6
              go_wp2
              go_round
              case rel => exact ⟨_, _, rfl, rfl, g'⟩
              case measure => exact M
            · replace X6 := X6 T1
              have X5 : IntKind.u64.wrap (m * v0) = m * v0 := w64 X6.1 X6.2
              clear X6
              have T3 : ¬ 4294967296 ≤ m := by omega
              clear T1
              go_wp2
              go_round
              case rel => exact ⟨_, _, rfl, rfl, g'⟩
              case measure => exact M
        · have go := g.done P.v9 P.i1 P.i0 T2
          have X6 := g.fit P.i0 T1
          have X5 : IntKind.u64.wrap (m * v0) = m * v0 := w64 X6.1 X6.2
          have T3 : ¬ 4294967296 ≤ m := by omega
          have T4 : ¬ 4294967296 * n + e < m * v0 := by omega
          rw [← hE'.out] at go
          clear g p0 p1 p2 p3 p4 g0 g1 g2 g3 T1 T2 X6
          subst go
          go_wp2_with fail
          go_ret2
          exact ⟨rfl, 0, rfl⟩
/-- two words by one, wholly -/
theorem div64 (hi lo y : Int) (hh : Word hi) (hl : Word lo) (hy : Word y) (h : hi < y) (w : World) :
    Calls Try.prog 17 #[.int .u64 hi, .int .u64 lo, .int .u64 y] w fun e w' => e = .returned (.tuple #[.int .u64 ((hi * 18446744073709551616 + lo) / y), .int .u64 ((hi * 18446744073709551616 + lo) % y)]) ∧ ∃ k, w' = w.drewN k := by
  by_cases h0 : hi = 0
  · subst h0
    have := div64_low lo y hl hy h w
    simpa using this
  · exact div64_high hi lo y hh hl hy h (by have := hh.1; omega) w
end Go.Proofs.Ytlmoehfgbhfhfaa
