/-
  The reference's Mul and Sum.
-/
import Derived.Test.YtlmoehfgbhfhfaaRefProduct
namespace Go.Proofs.Ytlmoehfgbhfhfaa
open Go.RowKit
set_option linter.unusedVariables false

theorem eight_words (o : List Int) (hl : o.length = 8) (hd : Digs o) {N : Int} (h : val o = N) (h0 : 0 ≤ N) : val (o.drop 4) = N / 18446744073709551616 ∧ val (o.take 4) = N % 18446744073709551616 := by
  have s := val_split o 4 (by omega)
  have a := val_in _ (digs_take hd 4)
  rw [show (o.take 4).length = 4 by simp; omega] at a
  rw [h] at s
  have p : (65536 : Int) ^ 4 = 18446744073709551616 := by decide
  rw [p] at a s
  omega

set_option maxHeartbeats 1000000 in
theorem refMul_ (a b : Int) (ha : Word a) (hb : Word b) (w : World) :
    Calls Try.prog 9 #[.int .u64 a, .int .u64 b] w fun e w' => e = .returned (.tuple #[.int .u64 (a * b / 18446744073709551616), .int .u64 (a * b % 18446744073709551616)]) ∧ Below w.heap.size w w' := by
  have P := product_ a b ha hb w
  have pp := Lib.hid (word_prod ha hb).1
  obtain ⟨h, eh⟩ : ∃ h, a * b / 18446744073709551616 = h := ⟨_, rfl⟩
  obtain ⟨l, el⟩ : ∃ l, a * b % 18446744073709551616 = l := ⟨_, rfl⟩
  rw [eh, el]
  have EH := Lib.hid eh
  have EL := Lib.hid el
  clear eh el
  go_enter Try.func9, Try.ntmps9
  go_wp2_with fail
  refine P.mono ?_
  rintro e w1 ⟨g, o, rfl, hr, hl, hd, hv, hbel⟩
  obtain ⟨v1, v2⟩ := eight_words o hl hd hv pp.out
  have s1 := hr.sees 4
  have s2 := (hr.sees 0).take 4 (by rw [cv_length]; omega)
  rw [cv_length, hl] at s1
  have s1' : Sees w1 w1.heap.size (some ⟨g, 4, none⟩) 4 (cv .u64 (o.drop 4)) := by simpa [cv] using s1
  have s2' : Sees w1 w1.heap.size (some ⟨g, 0, none⟩) 4 (cv .u64 (o.take 4)) := by simpa [cv] using s2
  have C1 : ∀ n, Calls Try.prog 16 #[.slice (some ⟨g, 4, none⟩) 4 4] (w1.drewN n) fun e w' => e = .returned (.int .u64 h) ∧ w' = w1.drewN n := fun n => by
    have := whole_ _ 4 _ (w1.drewN n) _ (s1'.drewN n) (digs_drop hd 4)
    rw [v1, EH.out] at this
    exact this.mono fun e w' ⟨h, h'⟩ => ⟨h, h'.symm⟩
  have C2 : ∀ n, Calls Try.prog 16 #[.slice (some ⟨g, 0, none⟩) 4 8] (w1.drewN n) fun e w' => e = .returned (.int .u64 l) ∧ w' = w1.drewN n := fun n => by
    have := whole_ _ 8 _ (w1.drewN n) _ (s2'.drewN n) (digs_take hd 4)
    rw [v2, EL.out] at this
    exact this.mono fun e w' ⟨h, h'⟩ => ⟨h, h'.symm⟩
  have H1 := Lib.hid C1
  have H2 := Lib.hid C2
  clear C1 C2 s1 s2 s1' s2' v1 v2 hr
  go_wp2
  go_quiet (first | (go_at_call 16; with_reducible refine Calls.quiet_of_same (H1.out _)) | (go_at_call 16; with_reducible refine Calls.quiet_of_same (H2.out _)))
  go_wp2
  go_ret2
  exact ⟨rfl, below_drewN hbel nq⟩

set_option maxHeartbeats 1000000 in
theorem refSum_ (A : Option Addr) (n c : Nat) (zs : List Int) (w : World) (S : Nat) (hx : Sees w S A n (cv .u64 zs)) (hn : n ≤ maxLen) (hz : ∀ z ∈ zs, Word z) :
    Calls Try.prog 13 #[.slice A n c] w fun e w' => e = .returned (.int .u64 (held zs)) ∧ w = w' := by
  unfold maxLen at hn
  have lx := Lib.hid (show zs.length = n by have := hx.len; rwa [cv_length] at this)
  go_enter Try.func13, Try.ntmps13
  go_wp2
  go_loop [3, 4] (fun v i => ∃ j : Nat, j ≤ n ∧ i = .int .i64 j ∧ v = .int .u64 (zs.take j).sum ∧ (zs.take j).sum ≤ 18446744073709551615) (fun _ i => n - (intOf i).toNat)
  case atStart => exact ⟨0, Nat.zero_le _, rfl, rfl, by simp⟩
  case round =>
    obtain ⟨j, hj, rfl, rfl, hs⟩ := hrel
    by_cases hlt : j < n
    · obtain ⟨a, rfl, ha, hca⟩ := hx.num hlt
      have wz := word_getD hz j
      have s0 := sum_nonneg (word_take hz j)
      have E := sum_take zs j (by have := lx.out; omega)
      have s1 := sum_nonneg (word_take hz (j + 1))
      have s2 : (zs.take (j + 1)).sum ≤ zs.sum := by
        have h1 := sum_app (zs.take (j + 1)) (zs.drop (j + 1))
        rw [List.take_append_drop] at h1
        have h2 := sum_nonneg (zs := zs.drop (j + 1)) (fun z hz' => hz z (List.mem_of_mem_drop hz'))
        omega
      have F : IntKind.u64.wrap (18446744073709551615 - (zs.take j).sum) = 18446744073709551615 - (zs.take j).sum := by rw [IntKind.wrap_u64]; omega
      by_cases hc : 18446744073709551615 - (zs.take j).sum < zs.getD j 0
      · have HH := Lib.hid (show held zs = 18446744073709551615 by unfold held cap; rw [if_pos (by omega)])
        clear s1 s2 E
        generalize zs.getD j 0 = z at *
        generalize (zs.take j).sum = s at *
        go_wp2
        go_ret
        rw [HH.out]
        exact ⟨rfl, rfl⟩
      · have G : IntKind.u64.wrap ((zs.take j).sum + zs.getD j 0) = (zs.take (j + 1)).sum := by rw [IntKind.wrap_u64, E]; have := wz.1; omega
        have hs' : (zs.take (j + 1)).sum ≤ 18446744073709551615 := by omega
        clear s1 s2 E
        generalize zs.getD j 0 = z at *
        generalize (zs.take j).sum = s at *
        generalize hs2 : (zs.take (j + 1)).sum = s' at *
        have H2 := Lib.hid hs2
        clear hs2
        go_wp2
        go_round
        case rel => exact ⟨j + 1, by omega, by go_num, by rw [H2.out], by rw [H2.out]; exact hs'⟩
        case measure => simp [intOf]; omega
    · have hj' : j = n := by omega
      have hn' : ¬ n < n := by omega
      have HH := Lib.hid (show held zs = (zs.take j).sum by
        rw [List.take_of_length_le (by have := lx.out; omega)] at hs ⊢
        unfold held cap
        rw [if_neg (by omega)])
      subst hj'
      generalize (zs.take j).sum = s at *
      go_wp2
      go_ret
      rw [HH.out]
      exact ⟨rfl, rfl⟩
end Go.Proofs.Ytlmoehfgbhfhfaa
