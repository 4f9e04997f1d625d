/-
  The reference's digits and whole.
-/
import Derived.Test.YtlmoehfgbhfhfaaRefWide
import Derived.Test.YtlmoehfgbhfhfaaSumsWalk
namespace Go.Proofs.Ytlmoehfgbhfhfaa
open Go.RowKit
set_option linter.unusedVariables false

theorem quo_step (x : Int) (h : Word x) (j : Nat) : IntKind.u64.wrap ((x / 65536 ^ j).tdiv 65536) = x / 65536 ^ (j + 1) := by
  have p : (0 : Int) < 65536 ^ j := Int.pow_pos (by omega)
  have a := Int.ediv_nonneg h.1 (Int.le_of_lt p)
  have b : x / 65536 ^ j ≤ x := Int.ediv_le_self _ h.1
  have e : x / 65536 ^ (j + 1) = x / 65536 ^ j / 65536 := by rw [Int.pow_succ, ← Int.ediv_ediv_of_nonneg (Int.le_of_lt p)]
  have := h.2
  rw [e, Int.tdiv_eq_ediv_of_nonneg a, IntKind.wrap_u64]
  omega

set_option maxHeartbeats 1000000 in
theorem digits_ (x : Int) (h : Word x) (w : World) :
    Calls Try.prog 20 #[.int .u64 x] w fun e w' => ∃ A c, e = .returned (.slice A 4 c) ∧ Sees w' w'.heap.size A 4 (cv .u64 (dgs x 4)) ∧ Below w.heap.size w w' := by
  obtain ⟨i0, hi, hz0, hz1, hz2⟩ := info_parts info_u64
  have o0 := World.ownsRow_nil w w.heap.size 22 1
  have b0 := Below.refl w.heap.size w
  generalize hB : w.heap.size = B at *
  go_enter Try.func20, Try.ntmps20
  go_wp2
  go_loopw [0, 3, 4] (fun a v i wr => ∃ j : Nat, j ≤ 4 ∧ i = .int .i64 j ∧ a = .int .u64 (x / 65536 ^ j) ∧ wr.ownsRow B 22 1 v j (cv .u64 (dgs x j)) ∧ Below B w wr) (fun _ _ i _ => 4 - (intOf i).toNat)
  case atStart => exact ⟨0, Nat.zero_le _, rfl, by simp, o0, b0⟩
  case round =>
    obtain ⟨j, hj, rfl, rfl, ho, hb⟩ := hrel
    by_cases hlt : j < 4
    · have Q := Lib.hid (quo_step x h j)
      have Q2 := Q.out
      have D := Lib.hid (dgs_succ x j)
      have R0 : (x / 65536 ^ j).tmod 65536 = x / 65536 ^ j % 65536 := Int.tmod_eq_emod_of_nonneg (Int.ediv_nonneg h.1 (Int.le_of_lt (Int.pow_pos (by omega))))
      generalize hy : x / 65536 ^ j = y at *
      generalize hy2 : x / 65536 ^ (j + 1) = y2 at *
      have H2 := Lib.hid hy2
      clear hy hy2
      have O := Lib.hid (own_below ho (Nat.le_refl _) ((Below.refl wr.heap.size wr).alloc (Nat.le_refl _) (.cells #[.int .u64 (y % 65536)] 22)))
      have hsz : B ≤ wr.heap.size := by have := hb.size; omega
      have R1 : Row (wr.alloc (.cells #[.int .u64 (y % 65536)] 22)) wr.heap.size 22 (cv .u64 [y % 65536]) := Row.new' _ _ _ rfl
      have S1 := Lib.hid R1.sees0
      have hbA := hb.alloc hsz (.cells #[.int .u64 (y % 65536)] 22)
      clear ho R1
      go_wp2_with (at_builtin; go_must (refine wpList_append_sees rfl (.tmp 9) (.tmp 12) 24 rfl B 22 i0 _ 8 Try.underlying24 hi hz0 hz1 hz2 rfl _ j _ rfl O.out _ (some ⟨wr.heap.size, 0, none⟩) 1 1 _ rfl S1.out (cv_one _ _) (by unfold maxLen; omega) (by omega) (by have := hbA.size; omega) ?_); intro v7 w7 ho7 hg7 _; have hb7 := below_append hbA O.out (Nat.le_refl _) (by have := hbA.size; omega) hg7; rw [← cv_append] at ho7)
      go_roundw
      case rel => exact ⟨j + 1, by omega, by go_num, by rw [H2.out], by rw [D.out]; exact ho7, hb7⟩
      case measure => simp [intOf]; omega
    · have hj4 : j = 4 := by omega
      subst hj4
      obtain ⟨A, c, rfl⟩ := own_form ho
      have O := Lib.hid ho
      clear ho
      go_wp2
      go_ret
      exact ⟨A, c, rfl, Sees.of_own O.out, hb⟩

theorem val_drop (l : List Int) (k : Nat) (h : k < l.length) : val (l.drop k) = l.getD k 0 + 65536 * val (l.drop (k + 1)) := by
  rw [List.drop_eq_getElem_cons h, List.getD_eq_getElem?_getD, List.getElem?_eq_getElem h]
  rfl

theorem whole_step (l : List Int) (hd : Digs l) (hl : l.length = 4) (k : Nat) (hk : k < 4) : IntKind.u64.wrap (IntKind.u64.wrap (65536 * val (l.drop (k + 1))) + l.getD k 0) = val (l.drop k) := by
  have a := val_in _ (digs_drop hd k)
  have b := val_in _ (digs_drop hd (k + 1))
  have p : (65536 : Int) ^ (l.drop k).length ≤ 18446744073709551616 := by
    have h1 : (65536 : Nat) ^ (l.drop k).length ≤ 65536 ^ 4 := Nat.pow_le_pow_right (by omega) (by simp; omega)
    have h2 : ((65536 ^ (l.drop k).length : Nat) : Int) = (65536 : Int) ^ (l.drop k).length := by simp
    omega
  have d := hd k
  rw [val_drop l k (by omega)] at a ⊢
  generalize val (l.drop (k + 1)) = v at *
  simp only [IntKind.wrap_u64]
  omega

set_option maxHeartbeats 1000000 in
theorem whole_ (A : Option Addr) (c : Nat) (l : List Int) (w : World) (S : Nat) (hx : Sees w S A 4 (cv .u64 l)) (hd : Digs l) :
    Calls Try.prog 16 #[.slice A 4 c] w fun e w' => e = .returned (.int .u64 (val l)) ∧ w = w' := by
  have hl : l.length = 4 := by have := hx.len; rwa [cv_length] at this
  have lx := Lib.hid hl
  clear hl
  go_enter Try.func16, Try.ntmps16
  go_wp2
  go_loop [3, 4] (fun v i => ∃ (k : Nat), k ≤ 4 ∧ i = .int .i64 ((k : Int) - 1) ∧ v = .int .u64 (val (l.drop k))) (fun _ i => (intOf i + 1).toNat)
  case atStart => exact ⟨4, Nat.le_refl _, rfl, by rw [List.drop_eq_nil_of_le (by have := lx.out; omega)]; rfl⟩
  case round =>
    obtain ⟨k, hk, rfl, rfl⟩ := hrel
    by_cases hlt : 0 < k
    · obtain ⟨k, rfl⟩ : ∃ j, k = j + 1 := ⟨k - 1, by omega⟩
      obtain ⟨a, rfl, ha, hca⟩ := hx.num (i := k) (by omega)
      have HS := Lib.hid (whole_step l hd lx.out k (by omega))
      generalize l.getD k 0 = z at *
      generalize val (l.drop (k + 1)) = p at *
      have hc1 : (((k + 1 : Nat) : Int) - 1) = (k : Int) := by omega
      rw [hc1]
      clear hc1
      go_wp2
      go_round
      case rel => exact ⟨k, by omega, by go_num, by rw [HS.out]⟩
      case measure => simp [intOf]
    · have hk0 : k = 0 := by omega
      subst hk0
      have hc1 : (((0 : Nat) : Int) - 1) = -1 := by omega
      rw [hc1]
      clear hc1
      go_wp2
      go_ret
      exact ⟨rfl, rfl⟩
end Go.Proofs.Ytlmoehfgbhfhfaa
