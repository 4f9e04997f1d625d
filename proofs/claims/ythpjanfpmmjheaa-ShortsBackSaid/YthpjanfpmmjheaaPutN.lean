import Derived.Test.YthpjanfpmmjheaaPut
import Derived.Test.YthpjanfpmmjheaaGetN
import Derived.Below
namespace Go.Proofs.Ythpjanfpmmjheaa
open Go.RowKit
set_option linter.unusedVariables false

/-- the lowest k bytes of a number, the lowest first -/
def dig (x : Int) (k : Nat) : List Int := (List.range k).map fun i => x / 256 ^ i % 256

theorem dig_len (x : Int) (k : Nat) : (dig x k).length = k := by simp [dig]
theorem dig_succ (x : Int) (k : Nat) : dig x (k + 1) = dig x k ++ [x / 256 ^ k % 256] := by simp [dig, List.range_succ]

/-- of how many bytes Put makes a number -/
def eff (m : Int) : Nat := if 1 ≤ m ∧ m ≤ 8 then m.toNat else 8
theorem eff_le (m : Int) : eff m ≤ 8 := by unfold eff; split <;> omega
theorem eff_pos (m : Int) : 1 ≤ eff m := by unfold eff; split <;> omega

theorem row_dig {w1 : World} {g t : Nat} {zs : List Int} {x u : Int} {k m : Nat} (hk : k < m) (R : Row w1 g t (bv (zs ++ (dig x k ++ List.replicate (m - k) 0)))) (hu : u = x / 256 ^ k % 256) :
    Row (w1.setCell ⟨g, zs.length + k, none⟩ (.int .u8 u)) g t (bv (zs ++ (dig x (k + 1) ++ List.replicate (m - (k + 1)) 0))) := by
  have h := R.set_ (zs.length + k) (.int .u8 u)
  obtain ⟨j, hj⟩ : ∃ j, m - k = j + 1 := ⟨m - k - 1, by omega⟩
  rw [hj, List.replicate_succ] at h
  rw [show m - (k + 1) = j by omega, dig_succ, ← hu]
  simpa [bv, cv, List.set_append, dig_len] using h

theorem shr_dig (x : Int) (k : Nat) : x / 2 ^ (8 * k) % 256 = x / 256 ^ k % 256 := by rw [Int.pow_mul]; rfl

/-- what Put leaves -/
def PutsDone (w : World) (n : Nat) (ys : List Int) (e : Ending) (w' : World) : Prop :=
  ∃ g, e = .returned (.slice (some ⟨g, 0, none⟩) n n) ∧ w.heap.size ≤ g ∧ Row w' g 5 (bv ys) ∧ Below w.heap.size w w'

set_option maxHeartbeats 400000 in
theorem puts (A : Option Addr) (n c : Nat) (zs : List Int) (w : World) (S : Nat) (x m : Int)
    (hx : Sees w S A n (bv zs)) (hS : S ≤ w.heap.size) (hn : n ≤ 1099511627776) (h0 : 0 ≤ x) (h1 : x < 18446744073709551616) :
    Calls Try.prog 12 #[.slice A n c, .int .u64 x, .int .i64 m] w (PutsDone w (n + eff m) (zs ++ dig x (eff m))) := by
  have lx := Lib.hid (show zs.length = n by have := hx.len; rwa [bv_length] at this)
  obtain ⟨b, HF, hb⟩ : ∃ b, Hid (Calls Try.prog 27 #[.int .i64 m] w fun e w' => e = .returned (.bool b) ∧ w = w') ∧ ((b = true ∧ m = (eff m : Nat)) ∨ (b = false ∧ eff m = 8)) := by
    by_cases h : 1 ≤ m ∧ m ≤ 8
    · exact ⟨true, fits_yes m w h.1 h.2, .inl ⟨rfl, by unfold eff; rw [if_pos h]; omega⟩⟩
    · exact ⟨false, fits_no m w (by omega), .inr ⟨rfl, by unfold eff; rw [if_neg h]⟩⟩
  have he := eff_le m
  have hp := eff_pos m
  generalize eff m = k at *
  have HL := Lib.hid (longer_ A n c k zs w S hx hS hn he)
  have H0 := Lib.hid h1
  clear h1
  rcases hb with ⟨rfl, rfl⟩ | ⟨rfl, rfl⟩
  · go_enter Try.func12, Try.ntmps12
    go_wp2_with fail
    refine HF.out.mono ?_
    rintro e w1 ⟨rfl, rfl⟩
    go_wp2_with fail
    refine HL.out.mono ?_
    rintro e w1 ⟨g, rfl, hg, hrow, hb1⟩
    have R := Lib.hid hrow
    clear hrow
    go_wp2_with fail
    go_loopw [8, 16] (fun _ i wr => ∃ j : Nat, j ≤ k ∧ i = .int .i64 j ∧ Row wr g 5 (bv (zs ++ (dig x j ++ List.replicate (k - j) 0))) ∧ Below w.heap.size w wr) (fun _ i _ => k - (intOf i).toNat)
    case atStart => exact ⟨0, Nat.zero_le _, rfl, by simpa [dig] using R.out, hb1⟩
    case round =>
      obtain ⟨j, hj, rfl, hr, hbr⟩ := hrel
      have RR := Lib.hid hr
      by_cases hlt : j < k
      · have f0 := hr.frozen (n + j)
        have c0 := hr.cell (n + j)
        have l0 := lx.out
        rw [bv_getElem?] at c0
        rw [List.getElem?_append_right (by omega), List.getElem?_append_right (by rw [dig_len]; omega), dig_len] at c0
        rw [List.getElem?_replicate_of_lt (by omega)] at c0
        have c0 : wr.cell? ⟨g, n + j, none⟩ = some (.int .u8 0) := c0
        clear hr l0
        go_wp2
        go_roundw
        case rel =>
          refine ⟨j + 1, by omega, by go_num, ?_, hbr.setCell hg _⟩
          have l0 := lx.out
          subst l0
          exact row_dig hlt RR.out (shr_dig x j)
        case measure => simp [intOf]; omega
      · have HK := Lib.hid (show j = k by omega)
        clear hr
        go_wp2
        go_ret
        refine ⟨g, rfl, hg, ?_, hbr⟩
        have h := RR.out
        rw [HK.out] at h
        simpa using h
  · go_enter Try.func12, Try.ntmps12
    go_wp2_with fail
    refine HF.out.mono ?_
    rintro e w1 ⟨rfl, rfl⟩
    go_wp2_with fail
    refine HL.out.mono ?_
    rintro e w1 ⟨g, rfl, hg, hrow, hb1⟩
    have R := Lib.hid hrow
    clear hrow
    go_wp2_with fail
    go_loopw [8, 16] (fun _ i wr => ∃ j : Nat, j ≤ 8 ∧ i = .int .i64 j ∧ Row wr g 5 (bv (zs ++ (dig x j ++ List.replicate (8 - j) 0))) ∧ Below w.heap.size w wr) (fun _ i _ => 8 - (intOf i).toNat)
    case atStart => exact ⟨0, Nat.zero_le _, rfl, by simpa [dig] using R.out, hb1⟩
    case round =>
      obtain ⟨j, hj, rfl, hr, hbr⟩ := hrel
      have RR := Lib.hid hr
      by_cases hlt : j < 8
      · have f0 := hr.frozen (n + j)
        have c0 := hr.cell (n + j)
        have l0 := lx.out
        rw [bv_getElem?] at c0
        rw [List.getElem?_append_right (by omega), List.getElem?_append_right (by rw [dig_len]; omega), dig_len] at c0
        rw [List.getElem?_replicate_of_lt (by omega)] at c0
        have c0 : wr.cell? ⟨g, n + j, none⟩ = some (.int .u8 0) := c0
        clear hr l0
        go_wp2
        go_roundw
        case rel =>
          refine ⟨j + 1, by omega, by go_num, ?_, hbr.setCell hg _⟩
          have l0 := lx.out
          subst l0
          exact row_dig hlt RR.out (shr_dig x j)
        case measure => simp [intOf]; omega
      · have HK := Lib.hid (show j = 8 by omega)
        clear hr
        go_wp2
        go_ret
        refine ⟨g, rfl, hg, ?_, hbr⟩
        have h := RR.out
        rw [HK.out] at h
        simpa using h
end Go.Proofs.Ythpjanfpmmjheaa
