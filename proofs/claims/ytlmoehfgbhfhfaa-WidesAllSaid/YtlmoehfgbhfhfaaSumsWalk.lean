/-
  The law on sums, walked.
-/
import Derived.Test.YtlmoehfgbhfhfaaLives2
import Derived.Test.YtlmoehfgbhfhfaaAppend
import Derived.Deep.RegionWith
namespace Go.Proofs.Ytlmoehfgbhfhfaa
open Go.RowKit
set_option linter.unusedVariables false

theorem info_u64 : (Try.prog.info? 22).map (fun i => (i.zero, i.size, i.bytes)) = some (some (.int .u64 0), 1, 8) := by kernel_rfl

theorem cv_one (k : IntKind) (zs : List Int) : ∀ u ∈ cv k zs, u.oneCell' = true := by
  intro u hu
  simp only [cv, List.mem_map] at hu
  obtain ⟨z, _, rfl⟩ := hu
  rfl
theorem cv_append (k : IntKind) (xs ys : List Int) : cv k (xs ++ ys) = cv k xs ++ cv k ys := by simp [cv]

theorem own_below {w w' : World} {base : Nat} {e : TypeId} {v : Value} {n : Nat} {xs : List Value} (h : w.ownsRow base e 1 v n xs) {B : Nat} (hB : w.heap.size ≤ B) (hb : Below B w w') : w'.ownsRow base e 1 v n xs := by
  refine ⟨h.1, ?_⟩
  rcases h.2 with h2 | ⟨g, cap, cur, hv, hg, hh, r⟩
  · exact .inl h2
  · have : g < w.heap.size := (Array.getElem?_eq_some_iff.1 hh).1
    exact .inr ⟨g, cap, cur, hv, hg, (hb.block g (by omega)).trans hh, r⟩

theorem Sees.drop {w : World} {B n : Nat} {A : Option Addr} {xs : List Value} (h : Sees w B A n xs) {a : Addr} (hA : A = some a) (k : Nat) : Sees w B (some (a.add k)) (n - k) (xs.drop k) :=
  ⟨by have := h.len; simp; omega, fun i u hu => by
    rw [List.getElem?_drop] at hu
    obtain ⟨a', e, hb, hc⟩ := h.cell _ u hu
    rw [hA] at e
    cases e
    exact ⟨_, rfl, by rw [addr_block]; exact hb, by rw [addr_add]; exact hc⟩⟩
theorem Sees.take {w : World} {B n : Nat} {A : Option Addr} {xs : List Value} (h : Sees w B A n xs) (k : Nat) (hk : k ≤ n) : Sees w B A k (xs.take k) :=
  ⟨by have := h.len; simp; omega, fun i u hu => by
    rw [List.getElem?_take] at hu
    split at hu
    · exact h.cell i u hu
    · cases hu⟩

theorem sum_app (xs ys : List Int) : (xs ++ ys).sum = xs.sum + ys.sum := by simp
theorem held_app {xs ys : List Int} (hx : ∀ z ∈ xs, Word z) (hy : ∀ z ∈ ys, Word z) : cap (held xs + held ys) = held (xs ++ ys) := by
  unfold held
  rw [sum_app]
  have := sum_nonneg hx
  have := sum_nonneg hy
  rw [cap_add (cap_word (by omega)).1, Int.add_comm, cap_add (by omega), Int.add_comm]
theorem held_turn (xs : List Int) (k : Nat) : held (xs.drop k ++ xs.take k) = held xs := by
  unfold held
  rw [sum_app, Int.add_comm, ← sum_app, List.take_append_drop]
theorem held_one {xs : List Int} (h : ∀ z ∈ xs, Word z) : (held xs = 18446744073709551615 ∧ held (xs ++ [1]) = 18446744073709551615) ∨ (held xs < 18446744073709551615 ∧ held (xs ++ [1]) = held xs + 1 ∧ IntKind.u64.wrap (held xs + 1) = held xs + 1) := by
  have := sum_nonneg h
  have e : (xs ++ [1]).sum = xs.sum + 1 := by simp
  unfold held
  rw [e, IntKind.wrap_u64]
  unfold cap
  repeat' split <;> omega

/-- a number among others, one after another, of two slices -/
theorem words_app {xs ys : List Int} (hx : ∀ z ∈ xs, Word z) (hy : ∀ z ∈ ys, Word z) : ∀ z ∈ xs ++ ys, Word z := by
  intro z hz
  rw [List.mem_append] at hz
  exact hz.elim (hx z) (hy z)

theorem own_some {w : World} {base n : Nat} {e : TypeId} {A : Option Addr} {c : Nat} {xs : List Value} (h0 : 0 < n) (h : w.ownsRow base e 1 (.slice A n c) n xs) : ∃ g, A = some ⟨g, 0, none⟩ ∧ n ≤ c := by
  rcases h.2 with ⟨hv, hx⟩ | ⟨g, cap, cur, hv, _, _, hnc, _⟩
  · have := h.1
    rw [hx] at this
    simp at this
    omega
  · injection hv with h1 h2 h3
    exact ⟨g, h1, by omega⟩

/-- what the program's sum comes to on a slice, whatever the world -/
theorem sum_own {w : World} {base n : Nat} {A : Option Addr} {c : Nat} {zs : List Int} (h : w.ownsRow base 22 1 (.slice A n c) n (cv .u64 zs)) (hn : n ≤ maxLen) (hz : ∀ z ∈ zs, Word z) :
    Calls Try.prog 12 #[.slice A n c] w fun e w' => e = .returned (.int .u64 (held zs)) ∧ Below w.heap.size w w' :=
  sum_ A n c zs w _ (Sees.of_own h) (Nat.le_refl _) hn hz

set_option maxHeartbeats 4000000 in
theorem widesSums_short (A1 A2 : Option Addr) (n1 n2 c1 c2 : Nat) (at_ : Int) (h : 1000 < n1 ∨ 1000 < n2) (w : World) (hm1 : n1 ≤ maxLen) (hm2 : n2 ≤ maxLen) :
    Calls Try.prog 6 #[.slice A1 n1 c1, .slice A2 n2 c2, .int .u16 at_] w fun e w' => e = .returned (.bool true) ∧ Below w.heap.size w w' := by
  unfold maxLen at hm1 hm2
  by_cases h1 : 1000 < n1
  · go_enter Try.func6, Try.ntmps6
    go_wp2_with fail
    refine (lives2 _).mono ?_
    rintro e w1 ⟨rfl, hb⟩
    go_wp2
    go_ret
    exact ⟨rfl, hb⟩
  · have h2 : 1000 < n2 := by omega
    go_enter Try.func6, Try.ntmps6
    go_wp2_with fail
    refine (lives2 _).mono ?_
    rintro e w1 ⟨rfl, hb⟩
    go_wp2
    go_ret
    exact ⟨rfl, hb⟩

set_option maxHeartbeats 4000000 in
theorem widesSums_long (A1 A2 : Option Addr) (n1 n2 c1 c2 : Nat) (z1 z2 : List Int) (at_ : Int) (w : World) (h1 : n1 ≤ 1000) (h2 : n2 ≤ 1000)
    (hs1 : Sees w w.heap.size A1 n1 (cv .u64 z1)) (hs2 : Sees w w.heap.size A2 n2 (cv .u64 z2)) (hw1 : ∀ z ∈ z1, Word z) (hw2 : ∀ z ∈ z2, Word z) (ha : 0 ≤ at_ ∧ at_ < 65536) :
    Calls Try.prog 6 #[.slice A1 n1 c1, .slice A2 n2 c2, .int .u16 at_] w fun e w' => e = .returned (.bool true) ∧ Below w.heap.size w w' := by
  obtain ⟨i0, hi, hz0, hz1, hz2⟩ := info_parts info_u64
  have g1 : ¬ (1000 : Int) < n1 := by omega
  have g2 : ¬ (1000 : Int) < n2 := by omega
  have hs1h := Lib.hid hs1
  have hs2h := Lib.hid hs2
  have l1 := Lib.hid (show z1.length = n1 by have := hs1.len; rwa [cv_length] at this)
  have l2 := Lib.hid (show z2.length = n2 by have := hs2.len; rwa [cv_length] at this)
  have o0 := Lib.hid (World.ownsRow_nil w w.heap.size 22 1)
  clear hs1 hs2
  go_enter Try.func6, Try.ntmps6
  go_wp2_with (first
    | (at_builtin; refine wpList_append_sees rfl (.tmp 22) (.tmp 23) 24 rfl w.heap.size 22 i0 _ 8 Try.underlying24 hi hz0 hz1 hz2 rfl _ _ _ rfl ho1 w.heap.size A2 n2 c2 _ rfl (hs2h.out.below hb1) (cv_one _ _) (by unfold maxLen; omega) (by omega) hb1.size ?_; intro v2 w2 ho2 hg2 _; have hb2 := below_append hb1 ho1 (Nat.le_refl _) hb1.size hg2; rw [← cv_append, Nat.zero_add] at ho2; obtain ⟨A3, c3, rfl⟩ := own_form ho2)
    | (at_builtin; refine wpList_append_sees rfl (.const (.slice none 0 0)) (.tmp 21) 24 rfl w.heap.size 22 i0 _ 8 Try.underlying24 hi hz0 hz1 hz2 rfl _ 0 _ rfl o0.out _ A1 n1 c1 _ rfl hs1h.out (cv_one _ _) (by unfold maxLen; omega) (by omega) (Nat.le_refl _) ?_; intro v1 w1 ho1 hg1 _; have hb1 := below_append (Below.refl w.heap.size w) o0.out (Nat.le_refl _) (Nat.le_refl _) hg1; rw [List.nil_append] at ho1)
    | fail)
  have hwa := words_app hw1 hw2
  have la := Lib.hid (show (z1 ++ z2).length = n1 + n2 by rw [List.length_append, l1.out, l2.out])
  have HA := Lib.hid (held_app hw1 hw2)
  obtain ⟨H1, q1⟩ : ∃ x, Hid (held z1 = x) := ⟨_, Lib.hid rfl⟩
  obtain ⟨H2, q2⟩ : ∃ x, Hid (held z2 = x) := ⟨_, Lib.hid rfl⟩
  have p1 := held_word hw1
  have p2 := held_word hw2
  rw [q1.out] at p1
  rw [q2.out] at p2
  refine (sum_own ho2 (by unfold maxLen; omega) hwa).mono ?_
  rintro e w3 ⟨rfl, h3⟩
  have ho3 := own_below ho2 (Nat.le_refl _) h3
  have hb3 := hb2.trans (h3.mono hb2.size)
  clear ho2 hg2 hg1 ho1 hb2 h3
  go_wp2_with fail
  refine (sum_ A1 n1 c1 z1 w3 _ (hs1h.out.below hb3) hb3.size (by unfold maxLen; omega) hw1).mono ?_
  rintro e w4 ⟨rfl, h4⟩
  have ho4 := own_below ho3 (Nat.le_refl _) h4
  have hb4 := hb3.trans (h4.mono hb3.size)
  clear ho3 hb3 h4
  rw [q1.out]
  go_wp2_with fail
  refine (sum_ A2 n2 c2 z2 w4 _ (hs2h.out.below hb4) hb4.size (by unfold maxLen; omega) hw2).mono ?_
  rintro e w5 ⟨rfl, h5⟩
  have ho5 := own_below ho4 (Nat.le_refl _) h5
  have hb5 := hb4.trans (h5.mono hb4.size)
  clear ho4 hb4 h5
  rw [q2.out]
  go_wp2_with fail
  refine (sum_two H1 H2 _ _ p1 p2 (Row.new' _ _ _ (by simp))).mono ?_
  rintro e w6 ⟨rfl, h6⟩
  have hb6 := hb5.alloc hb5.size (.cells #[.int .u64 H1, .int .u64 H2] 22)
  have ho6 := own_below (own_below ho5 (Nat.le_refl _) ((Below.refl w5.heap.size w5).alloc (Nat.le_refl _) (.cells #[.int .u64 H1, .int .u64 H2] 22))) (Nat.le_refl _) h6
  have hb7 := hb6.trans (h6.mono hb6.size)
  have hh := HA.out
  rw [q1.out, q2.out] at hh
  rw [hh]
  clear hh HA hb5 hb6 h6 ho5
  obtain ⟨za, hza⟩ : ∃ za, z1 ++ z2 = za := ⟨_, rfl⟩
  rw [hza] at hwa la ho6 ⊢
  obtain ⟨S, hS⟩ : ∃ s, held za = s := ⟨_, rfl⟩
  rw [hS]
  have HS := Lib.hid hS
  have HZ := Lib.hid hza
  clear hza hS q1 q2 p1 p2 hw1 hw2 hs1h hs2h l1 l2
  obtain ⟨N, hN⟩ : ∃ N, n1 + n2 = N := ⟨_, rfl⟩
  have N1 : N ≤ 2000 := by omega
  rw [hN] at ho6 la ⊢
  clear hN
  by_cases N0 : 0 < N
  · obtain ⟨k, hk⟩ : ∃ k : Nat, (at_ % (N : Int)) = k := ⟨(at_ % (N : Int)).toNat, by have := Int.emod_nonneg at_ (show (N : Int) ≠ 0 by omega); omega⟩
    have k1 : k < N := by have := Int.emod_lt_of_pos at_ (show (0 : Int) < N by omega); omega
    have z0 : (0 : Int) < N := by omega
    obtain ⟨g, rfl, hc3⟩ := own_some N0 ho6
    have k2 : (k : Int) ≤ N := by omega
    have k3 : (k : Int) ≤ c3 := by omega
    have k4 : (0 : Int) ≤ k := by omega
    have k5 : ¬ c3 = k := by omega
    have k6 : ¬ (c3 : Int) = k := by omega
    go_wp2_with fail
    rw [hk]
    refine wp_region_any (by kernel_rfl) ?_
    try (change wpAny _ _ _ _ _ _ _ (World.drew _))
    refine wpAny_take (i := 0) (v := ?_) rfl (by kernel_rfl) (by kernel_rfl) (by kernel_rfl) (fun _ _ _ h => h) (Or.inl ⟨by rfl, ?_⟩) ?_
    rotate_left
    · intro w
      go_simp
      try with_reducible rfl
    refine wpAny_take (i := 1) (v := ?_) rfl (by kernel_rfl) (by kernel_rfl) (by kernel_rfl) (fun _ _ _ h => h) (Or.inl ⟨by rfl, ?_⟩) ?_
    rotate_left
    · intro w
      go_simp
      try with_reducible rfl
    refine wpAny_take (i := 4) (v := ?_) rfl (by kernel_rfl) (by kernel_rfl) (by kernel_rfl) (fun _ _ _ h => h) (Or.inl ⟨by rfl, ?_⟩) ?_
    rotate_left
    · intro w
      go_simp
      try with_reducible rfl
    refine wpAny_take (i := 5) (v := ?_) rfl (by kernel_rfl) (by kernel_rfl) (by kernel_rfl) (fun _ _ _ h => h) (Or.inl ⟨by rfl, ?_⟩) ?_
    rotate_left
    · intro w
      go_simp
      try with_reducible rfl
    refine wpAny_take (i := 2) (v := ?_) rfl (by kernel_rfl) (by kernel_rfl) (by kernel_rfl) (fun _ _ _ h => h) (Or.inl ⟨by rfl, ?_⟩) ?_
    rotate_left
    · intro w
      go_simp
      try with_reducible rfl
    refine wpAny_take (i := 6) (v := ?_) rfl (by kernel_rfl) (by kernel_rfl) (by kernel_rfl) (fun _ _ _ h => h) (Or.inl ⟨by rfl, ?_⟩) ?_
    rotate_left
    · intro w
      go_simp
      try with_reducible rfl
    refine wpAny_ready (rs := [3]) (by kernel_rfl) (by simp) ?_
    refine AllReady.cons rfl (fun K hK => ?_) AllReady.nil
    have hB6 := hb7.size
    have hb6' := hb7.size
    have o6 := World.ownsRow_nil w6.drew w.heap.size 22 1
    have hsA := Sees.of_own ho6
    have hsD := ((hsA.drop rfl k).drew)
    have hsT := ((hsA.take k (by omega)).drew)
    rw [addr_row, Nat.zero_add] at hsD
    rw [if_pos (by kernel_rfl)]
    refine wp_append_sees (P := Try.prog) (t := 24) (e := 22) (i := i0) (z := .int .u64 0) (bytes := 8) (base := w.heap.size) (B := w6.heap.size) (v := .slice none 0 0) (n := 0) (A := some ⟨g, k, none⟩) (m := N - k) (c := c3 - k) (xs := []) (news := (cv .u64 za).drop k) (.const (.slice none 0 0)) (.tmp 45) ?_ Try.underlying24 hi hz0 hz1 hz2 rfl ?_ o6 ?_ hsD (fun u hu => cv_one _ _ u (List.mem_of_mem_drop hu)) (by unfold maxLen; omega) (by omega) hB6 ?_
    · rfl
    · rfl
    · go_simp
    intro v7 w7 ho7 hg7 hat7
    refine hK _ _ ?_
    clear hK K
    have b67 : Below w6.heap.size w6 w7 := (Below.refl w6.heap.size w6).drew.grown hg7 (Nat.le_refl _) (fun k hk => by cases hk)
    have hb8 := below_append hb7.drew o6 (Nat.le_refl _) hB6 hg7
    have hsT7 := (hsA.take k (by omega)).below b67
    refine wpAny_ready (rs := [7]) (by kernel_rfl) (by simp) ?_
    refine AllReady.cons rfl (fun K hK => ?_) AllReady.nil
    rw [if_pos (by kernel_rfl)]
    refine wp_append_sees (P := Try.prog) (t := 24) (e := 22) (i := i0) (z := .int .u64 0) (bytes := 8) (base := w.heap.size) (B := w6.heap.size) (v := v7) (n := 0 + (N - k)) (A := some ⟨g, 0, none⟩) (m := k) (c := c3) (xs := [] ++ (cv .u64 za).drop k) (news := (cv .u64 za).take k) (.tmp 46) (.tmp 49) ?_ Try.underlying24 hi hz0 hz1 hz2 rfl ?_ ho7 ?_ hsT7 (fun u hu => cv_one _ _ u (List.mem_of_mem_take hu)) (by unfold maxLen; omega) (by omega) hb8.size ?_
    · rfl
    · go_simp
    · go_simp
    intro v8 w8 ho8 hg8 _
    refine hK _ _ ?_
    clear hK K
    have b68 : Below w6.heap.size w6 w8 := b67.grown hg8 b67.size (fun k hk => by
      rcases hat7 with h | h
      · rw [h] at hk; cases hk
      · rw [h] at hk; cases hk; exact Nat.le_refl _)
    have hb9 := hb7.trans (b68.mono hb6')
    have ho9 := own_below ho6 (Nat.le_refl _) b68
    refine wpAny_ready (rs := [8]) (by kernel_rfl) (by simp) ?_
    refine AllReady.cons rfl (fun K hK => ?_) AllReady.nil
    go_simp
    refine hK _ _ ?_
    clear hK K
    refine wpAny_done (by kernel_rfl) ?_ _
    obtain ⟨A8, c8, rfl⟩ := own_form ho8
    have e8 : 0 + (N - k) + k = N := by omega
    rw [e8, List.nil_append] at ho8
    rw [e8]
    have hz8 : cv .u64 (za.drop k ++ za.take k) = (cv .u64 za).drop k ++ (cv .u64 za).take k := by simp [cv]
    rw [← hz8] at ho8
    have hw8 : ∀ z ∈ za.drop k ++ za.take k, Word z := words_app (fun z hz => hwa z (List.mem_of_mem_drop hz)) (fun z hz => hwa z (List.mem_of_mem_take hz))
    go_wp2_with fail
    refine (sum_own ho8 (by unfold maxLen; omega) hw8).mono ?_
    rw [held_turn, HS.out]
    rintro e w9 ⟨rfl, h9⟩
    have ho10 := own_below ho9 (Nat.le_refl _) h9
    have hb10 := hb9.trans (h9.mono hb9.size)
    clear ho9 hb9 h9 hw8 ho8 hz8 e8 b68 b67 hg8 hg7 hat7
    have hoA := own_below ho10 (Nat.le_refl _) ((Below.refl w9.heap.size w9).alloc (Nat.le_refl _) (.cells #[.int .u64 1] 22))
    have hbA := hb10.alloc hb10.size (.cells #[.int .u64 1] 22)
    have hrA : Row (w9.alloc (.cells #[.int .u64 1] 22)) w9.heap.size 22 (cv .u64 [1]) := Row.new' _ _ _ rfl
    have hsA := Lib.hid hrA.sees0
    clear ho10 hb10 hrA
    go_wp2_with (at_builtin; go_must (refine wpList_append_sees rfl (.tmp 55) (.tmp 56) 24 rfl w.heap.size 22 i0 _ 8 Try.underlying24 hi hz0 hz1 hz2 rfl _ N _ rfl hoA _ (some ⟨w9.heap.size, 0, none⟩) 1 1 _ rfl hsA.out (cv_one _ _) (by unfold maxLen; omega) (by omega) hbA.size ?_); intro v10 w10 hoB hgB _; have hbB := below_append hbA hoA (Nat.le_refl _) hbA.size hgB; rw [← cv_append] at hoB; obtain ⟨A10, c10, rfl⟩ := own_form hoB)
    refine (sum_own hoB (by unfold maxLen; omega) (words_app hwa (by intro z hz; simp at hz; subst hz; exact word_lit (by omega) (by omega)))).mono ?_
    rintro e w11 ⟨rfl, h11⟩
    have hbC := hbB.trans (h11.mono hbB.size)
    clear hbB h11 hoB hgB hbA hoA hsA
    have hd := held_one hwa
    rw [HS.out] at hd
    generalize held (za ++ [1]) = M at *
    rcases hd with ⟨q1, q2⟩ | ⟨q1, q2, q3⟩
    · have q4 := Lib.hid q1
      have q5 : (S == 18446744073709551615) = true := by simp [q1]
      have q6 : (M == 18446744073709551615) = true := by simp [q2]
      clear q1 q2
      go_wp2_with fail
      refine (lives2 _).mono ?_
      rintro e w12 ⟨rfl, h12⟩
      go_wp2
      go_ret
      exact ⟨rfl, hbC.trans (h12.mono hbC.size)⟩
    · have q5 : (S == 18446744073709551615) = false := by simp; omega
      clear q1
      subst q2
      have q6 : S < 18446744073709551615 := by simp at q5; have := (cap_word (sum_nonneg hwa)).2; have h := HS.out; unfold held at h; omega
      go_wp2_with fail
      refine (lives2 _).mono ?_
      rintro e w12 ⟨rfl, h12⟩
      go_wp2
      go_ret
      exact ⟨rfl, hbC.trans (h12.mono hbC.size)⟩
  · have z0 : ¬ (0 : Int) < N := by omega
    have hoA := own_below ho6 (Nat.le_refl _) ((Below.refl w6.heap.size w6).alloc (Nat.le_refl _) (.cells #[.int .u64 1] 22))
    have hbA := hb7.alloc hb7.size (.cells #[.int .u64 1] 22)
    have hrA : Row (w6.alloc (.cells #[.int .u64 1] 22)) w6.heap.size 22 (cv .u64 [1]) := Row.new' _ _ _ rfl
    have hsA := Lib.hid hrA.sees0
    clear ho6 hb7 hrA
    go_wp2_with (at_builtin; go_must (refine wpList_append_sees rfl (.tmp 55) (.tmp 56) 24 rfl w.heap.size 22 i0 _ 8 Try.underlying24 hi hz0 hz1 hz2 rfl _ N _ rfl hoA _ (some ⟨w6.heap.size, 0, none⟩) 1 1 _ rfl hsA.out (cv_one _ _) (by unfold maxLen; omega) (by omega) hbA.size ?_); intro v10 w10 hoB hgB _; have hbB := below_append hbA hoA (Nat.le_refl _) hbA.size hgB; rw [← cv_append] at hoB; obtain ⟨A10, c10, rfl⟩ := own_form hoB)
    refine (sum_own hoB (by unfold maxLen; omega) (words_app hwa (by intro z hz; simp at hz; subst hz; exact word_lit (by omega) (by omega)))).mono ?_
    rintro e w11 ⟨rfl, h11⟩
    have hbC := hbB.trans (h11.mono hbB.size)
    clear hbB h11 hoB hgB hbA hoA hsA
    have hd := held_one hwa
    rw [HS.out] at hd
    generalize held (za ++ [1]) = M at *
    rcases hd with ⟨q1, q2⟩ | ⟨q1, q2, q3⟩
    · have q4 := Lib.hid q1
      have q5 : (S == 18446744073709551615) = true := by simp [q1]
      have q6 : (M == 18446744073709551615) = true := by simp [q2]
      clear q1 q2
      go_wp2_with fail
      refine (lives2 _).mono ?_
      rintro e w12 ⟨rfl, h12⟩
      go_wp2
      go_ret
      exact ⟨rfl, hbC.trans (h12.mono hbC.size)⟩
    · have q5 : (S == 18446744073709551615) = false := by simp; omega
      clear q1
      subst q2
      have q6 : S < 18446744073709551615 := by simp at q5; have := (cap_word (sum_nonneg hwa)).2; have h := HS.out; unfold held at h; omega
      go_wp2_with fail
      refine (lives2 _).mono ?_
      rintro e w12 ⟨rfl, h12⟩
      go_wp2
      go_ret
      exact ⟨rfl, hbC.trans (h12.mono hbC.size)⟩

theorem widesSums_walk (A1 A2 : Option Addr) (n1 n2 c1 c2 : Nat) (z1 z2 : List Int) (at_ : Int) (w : World) (hm1 : n1 ≤ maxLen) (hm2 : n2 ≤ maxLen)
    (hs1 : Sees w w.heap.size A1 n1 (cv .u64 z1)) (hs2 : Sees w w.heap.size A2 n2 (cv .u64 z2)) (hw1 : ∀ z ∈ z1, Word z) (hw2 : ∀ z ∈ z2, Word z) (ha : 0 ≤ at_ ∧ at_ < 65536) :
    Calls Try.prog 6 #[.slice A1 n1 c1, .slice A2 n2 c2, .int .u16 at_] w fun e w' => e = .returned (.bool true) ∧ Below w.heap.size w w' := by
  by_cases h : 1000 < n1 ∨ 1000 < n2
  · exact widesSums_short A1 A2 n1 n2 c1 c2 at_ h w hm1 hm2
  · exact widesSums_long A1 A2 n1 n2 c1 c2 z1 z2 at_ w (by omega) (by omega) hs1 hs2 hw1 hw2 ha
end Go.Proofs.Ytlmoehfgbhfhfaa
