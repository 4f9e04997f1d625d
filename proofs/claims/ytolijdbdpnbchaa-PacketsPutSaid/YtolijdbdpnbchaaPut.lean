import Derived.Test.YtolijdbdpnbchaaLonger
namespace Go.Proofs.Ytolijdbdpnbchaa
open Go.RowKit
set_option linter.unusedVariables false

/-- the bytes of a short number -/
def short (n : Int) : List Int :=
  if n < 128 then [n] else if n < 16384 then [n % 128 + 128, n / 128] else [n % 128 + 128, n / 128 % 128 + 128, n / 16384]

theorem short_len (x : Int) : (short x).length = if x < 128 then 1 else if x < 16384 then 2 else 3 := by
  unfold short; split <;> (try split) <;> simp

theorem tup1e {v v' : Value} {k : IntKind} {a b : Int} (h : v = v') (h' : a = b) : Ending.returned (.tuple #[v, .int k a]) = .returned (.tuple #[v', .int k b]) := by rw [h, h']

set_option maxHeartbeats 400000 in
theorem width1 (n : Int) (w : World) (h : n < 128) : Calls Try.prog 54 #[.int .i64 n] w fun e w' => e = .returned (.int .i64 1) ∧ w = w' := by
  go_enter Try.func54, Try.ntmps54
  go_wp2
  go_ret
  exact ⟨rfl, rfl⟩
set_option maxHeartbeats 400000 in
theorem width2 (n : Int) (w : World) (h : 128 ≤ n) (h' : n < 16384) : Calls Try.prog 54 #[.int .i64 n] w fun e w' => e = .returned (.int .i64 2) ∧ w = w' := by
  go_enter Try.func54, Try.ntmps54
  go_wp2
  go_ret
  exact ⟨rfl, rfl⟩
set_option maxHeartbeats 400000 in
theorem width3 (n : Int) (w : World) (h : 16384 ≤ n) : Calls Try.prog 54 #[.int .i64 n] w fun e w' => e = .returned (.int .i64 3) ∧ w = w' := by
  have h2 : ¬ n < 128 := by omega
  go_enter Try.func54, Try.ntmps54
  go_wp2
  go_ret
  exact ⟨rfl, rfl⟩

/-- what PutShort leaves -/
def PutDone (w : World) (n : Nat) (ys : List Int) (e : Ending) (w' : World) : Prop :=
  ∃ g, e = .returned (.tuple #[.slice (some ⟨g, 0, none⟩) n n, .int .i64 0]) ∧ w.heap.size ≤ g ∧ Row w' g 5 (bv ys) ∧ Below w.heap.size w w'

theorem or128 (y : Int) (h0 : 0 ≤ y) (h1 : y < 256) : bits .or .u8 128 (bits .and .u8 y 127) = y % 128 + 128 := by
  rw [u8_and127 y h0 h1, u8_or_hi 7 (y % 128) 128 (by omega) (by omega) (by omega) (by omega) (by omega) (by omega)]; omega
theorem or0 (y : Int) (h0 : 0 ≤ y) (h1 : y < 256) : bits .or .u8 0 (bits .and .u8 y 127) = y % 128 := by
  rw [u8_and127 y h0 h1, u8_or_zero _ (by omega) (by omega)]

theorem row3 {w1 : World} {g t : Nat} {zs : List Int} {a b b' c c' : Int} (R : Row w1 g t (bv (zs ++ List.replicate 3 0))) :
    Row (((((w1.setCell ⟨g, zs.length + 2, none⟩ (.int .u8 a)).setCell ⟨g, zs.length + 1, none⟩ (.int .u8 b')).setCell ⟨g, zs.length + 1, none⟩ (.int .u8 b)).setCell ⟨g, zs.length, none⟩ (.int .u8 c')).setCell ⟨g, zs.length, none⟩ (.int .u8 c)) g t (bv (zs ++ [c, b, a])) := by
  have h := ((((R.set_ (zs.length + 2) (.int .u8 a)).set_ (zs.length + 1) (.int .u8 b')).set_ (zs.length + 1) (.int .u8 b)).set_ zs.length (.int .u8 c')).set_ zs.length (.int .u8 c)
  simpa [bv, cv, List.set_append, List.replicate] using h
theorem row2 {w1 : World} {g t : Nat} {zs : List Int} {b c c' : Int} (R : Row w1 g t (bv (zs ++ List.replicate 2 0))) :
    Row (((w1.setCell ⟨g, zs.length + 1, none⟩ (.int .u8 b)).setCell ⟨g, zs.length, none⟩ (.int .u8 c')).setCell ⟨g, zs.length, none⟩ (.int .u8 c)) g t (bv (zs ++ [c, b])) := by
  have h := ((R.set_ (zs.length + 1) (.int .u8 b)).set_ zs.length (.int .u8 c')).set_ zs.length (.int .u8 c)
  simpa [bv, cv, List.set_append, List.replicate] using h
theorem row1 {w1 : World} {g t : Nat} {zs : List Int} {c : Int} (R : Row w1 g t (bv (zs ++ List.replicate 1 0))) :
    Row (w1.setCell ⟨g, zs.length, none⟩ (.int .u8 c)) g t (bv (zs ++ [c])) := by
  have h := R.set_ zs.length (.int .u8 c)
  simpa [bv, cv, List.set_append, List.replicate] using h

section
variable (A : Option Addr) (n c : Nat) (zs : List Int) (w : World) (S : Nat) (x : Int)
  (hx : Sees w S A n (bv zs)) (hS : S ≤ w.heap.size) (hn : n ≤ 1099511627776)
include hx hS hn
set_option maxHeartbeats 400000 in
theorem putShort_3 (h0 : 16384 ≤ x) (h1 : x ≤ 65535) :
    Calls Try.prog 31 #[.slice A n c, .int .i64 x] w (PutDone w (n + 3) (zs ++ [x % 128 + 128, x / 128 % 128 + 128, x / 16384])) := by
  have HW := Lib.hid (width3 x w h0)
  have HL := Lib.hid (longer_ A n c 3 zs w S hx hS hn (by omega))
  have lx := Lib.hid (show zs.length = n by have := hx.len; rwa [bv_length] at this)
  go_enter Try.func31, Try.ntmps31
  go_wp2_with fail
  refine HW.out.mono ?_
  rintro e w1 ⟨rfl, rfl⟩
  go_wp2_with fail
  refine HL.out.mono ?_
  rintro e w1 ⟨g, rfl, hg, hrow, hb⟩
  have c0 := hrow.cell n
  have c1 := hrow.cell (n + 1)
  have c2 := hrow.cell (n + 2)
  have f0 := hrow.frozen n
  have f1 := hrow.frozen (n + 1)
  have f2 := hrow.frozen (n + 2)
  have R := Lib.hid hrow
  rw [bv_getElem?] at c0 c1 c2
  have l0 : zs.length = n := lx.out
  subst l0
  simp at c0 c1 c2
  clear hrow
  go_wp2_with fail
  go_ret2
  refine ⟨g, rfl, hg, ?_, ?_⟩
  · rw [or128 _ (by omega) (by omega), or128 _ (by omega) (by omega), show x / 128 % 256 % 128 = x / 128 % 128 by omega, show x % 256 % 128 = x % 128 by omega]
    exact row3 R.out
  · exact ((((hb.setCell hg _).setCell hg _).setCell hg _).setCell hg _).setCell hg _

set_option maxHeartbeats 400000 in
theorem putShort_2 (h0 : 128 ≤ x) (h1 : x < 16384) :
    Calls Try.prog 31 #[.slice A n c, .int .i64 x] w (PutDone w (n + 2) (zs ++ [x % 128 + 128, x / 128])) := by
  have HW := Lib.hid (width2 x w h0 h1)
  have HL := Lib.hid (longer_ A n c 2 zs w S hx hS hn (by omega))
  have lx := Lib.hid (show zs.length = n by have := hx.len; rwa [bv_length] at this)
  go_enter Try.func31, Try.ntmps31
  go_wp2_with fail
  refine HW.out.mono ?_
  rintro e w1 ⟨rfl, rfl⟩
  go_wp2_with fail
  refine HL.out.mono ?_
  rintro e w1 ⟨g, rfl, hg, hrow, hb⟩
  have c0 := hrow.cell n
  have c1 := hrow.cell (n + 1)
  have f0 := hrow.frozen n
  have f1 := hrow.frozen (n + 1)
  have R := Lib.hid hrow
  rw [bv_getElem?] at c0 c1
  have l0 : zs.length = n := lx.out
  subst l0
  simp at c0 c1
  clear hrow
  go_wp2_with fail
  go_ret2
  refine ⟨g, rfl, hg, ?_, ?_⟩
  · rw [or0 _ (by omega) (by omega), or128 _ (by omega) (by omega), show x / 128 % 128 = x / 128 by omega, show x % 256 % 128 = x % 128 by omega]
    exact row2 R.out
  · exact ((hb.setCell hg _).setCell hg _).setCell hg _

set_option maxHeartbeats 400000 in
theorem putShort_1 (h0 : 0 ≤ x) (h1 : x < 128) :
    Calls Try.prog 31 #[.slice A n c, .int .i64 x] w (PutDone w (n + 1) (zs ++ [x])) := by
  have HW := Lib.hid (width1 x w h1)
  have HL := Lib.hid (longer_ A n c 1 zs w S hx hS hn (by omega))
  have lx := Lib.hid (show zs.length = n by have := hx.len; rwa [bv_length] at this)
  go_enter Try.func31, Try.ntmps31
  go_wp2_with fail
  refine HW.out.mono ?_
  rintro e w1 ⟨rfl, rfl⟩
  go_wp2_with fail
  refine HL.out.mono ?_
  rintro e w1 ⟨g, rfl, hg, hrow, hb⟩
  have c0 := hrow.cell n
  have f0 := hrow.frozen n
  have R := Lib.hid hrow
  rw [bv_getElem?] at c0
  have l0 : zs.length = n := lx.out
  subst l0
  simp at c0
  clear hrow
  go_wp2_with fail
  go_ret2
  refine ⟨g, rfl, hg, ?_, ?_⟩
  · have e : bits .or .u8 0 (bits .and .u8 x 127) = x := by rw [or0 x (by omega) (by omega)]; omega
    have h := row1 (c := x) R.out
    first | (rw [e]; exact h) | (rw [show x % 256 = x by omega, e]; exact h)
  · exact hb.setCell hg _

theorem putShort (h0 : 0 ≤ x) (h1 : x ≤ 65535) :
    Calls Try.prog 31 #[.slice A n c, .int .i64 x] w (PutDone w (n + (short x).length) (zs ++ short x)) := by
  by_cases h : x < 128
  · have e : short x = [x] := by simp [short, h]
    rw [e]
    exact putShort_1 A n c zs w S x hx hS hn h0 h
  · by_cases h' : x < 16384
    · have e : short x = [x % 128 + 128, x / 128] := by simp [short, h, h']
      rw [e]
      exact putShort_2 A n c zs w S x hx hS hn (by omega) h'
    · have e : short x = [x % 128 + 128, x / 128 % 128 + 128, x / 16384] := by simp [short, h, h']
      rw [e]
      exact putShort_3 A n c zs w S x hx hS hn (by omega) h1
end

set_option maxHeartbeats 400000 in
theorem putShort_bad (A : Option Addr) (n c : Nat) (w : World) (x : Int) (h : x < 0 ∨ 65535 < x) :
    Calls Try.prog 31 #[.slice A n c, .int .i64 x] w fun e w' => e = .returned (.tuple #[.slice none 0 0, .int .i64 1]) ∧ w = w' := by
  rcases h with h | h
  · go_enter Try.func31, Try.ntmps31
    go_wp2_with fail
    go_ret2
    exact ⟨rfl, rfl⟩
  · have h2 : ¬ x < 0 := by omega
    go_enter Try.func31, Try.ntmps31
    go_wp2_with fail
    go_ret2
    exact ⟨rfl, rfl⟩
end Go.Proofs.Ytolijdbdpnbchaa
