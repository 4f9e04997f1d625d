import Derived.Test.YthpjanfpmmjheaaLives
import Derived.Test.YthpjanfpmmjheaaRefGet
import Derived.Deep.RegionWith
namespace Go.Proofs.Ythpjanfpmmjheaa
open Go.RowKit
set_option linter.unusedVariables false

theorem take_one (zs : List Int) (h : 1 ≤ zs.length) : zs.take 1 = [zs.getD 0 0] := by
  match zs, h with
  | a :: r, _ => simp
theorem take_two (zs : List Int) (h : 2 ≤ zs.length) : zs.take 2 = [zs.getD 0 0, zs.getD 1 0] := by
  match zs, h with
  | a :: b :: r, _ => simp
theorem take_three (zs : List Int) (h : 3 ≤ zs.length) : zs.take 3 = [zs.getD 0 0, zs.getD 1 0, zs.getD 2 0] := by
  match zs, h with
  | a :: b :: c :: r, _ => simp

/-- what is taken as a short number is just what is put for it -/
theorem getS_cases (zs : List Int) (hb : Bytes zs) : getS zs = (0, 0, 4) ∨ getS zs = (0, 0, 5) ∨
    ∃ (v : Int) (t : Nat), getS zs = (v, (t : Int), 0) ∧ 1 ≤ t ∧ t ≤ 3 ∧ t ≤ zs.length ∧ 0 ≤ v ∧ v ≤ 65535 ∧ short v = zs.take t := by
  have h0 := hb 0
  have h1 := hb 1
  have h2 := hb 2
  rcases mea_cases zs hb with (h | h) | ⟨h, hl, ha⟩ | ⟨h, hl, ha, hbb, hb2⟩ | ⟨h, hl, ha, hbb, hcc, hc2⟩
  · left; simp [getS, h]
  · right; left; simp [getS, h]
  · right; right
    refine ⟨zs.getD 0 0, 1, by simp [getS, h], by omega, by omega, hl, by omega, by omega, ?_⟩
    rw [take_one zs hl]
    simp only [short]
    rw [if_pos ha]
  · right; right
    refine ⟨zs.getD 0 0 - 128 + 128 * zs.getD 1 0, 2, by simp [getS, h], by omega, by omega, hl, by omega, by omega, ?_⟩
    rw [take_two zs hl]
    simp only [short]
    rw [if_neg (by omega), if_pos (by omega), show (zs.getD 0 0 - 128 + 128 * zs.getD 1 0) % 128 + 128 = zs.getD 0 0 by omega, show (zs.getD 0 0 - 128 + 128 * zs.getD 1 0) / 128 = zs.getD 1 0 by omega]
  · right; right
    refine ⟨zs.getD 0 0 - 128 + 128 * (zs.getD 1 0 - 128) + 16384 * zs.getD 2 0, 3, by simp [getS, h], by omega, by omega, hl, by omega, by omega, ?_⟩
    rw [take_three zs hl]
    generalize zs.getD 0 0 = x at *
    generalize zs.getD 1 0 = y at *
    generalize zs.getD 2 0 = z at *
    simp only [short]
    rw [if_neg (by omega), if_neg (by omega), show (x - 128 + 128 * (y - 128) + 16384 * z) % 128 + 128 = x by omega, show (x - 128 + 128 * (y - 128) + 16384 * z) / 128 % 128 + 128 = y by omega, show (x - 128 + 128 * (y - 128) + 16384 * z) / 16384 = z by omega]

set_option maxHeartbeats 1000000 in
theorem only_walk (zs : List Int) (w : World) (hl : zs.length = 5) (hb : Bytes zs) :
    Calls Try.prog 6 #[.agg (cv .u8 zs).toArray] w fun e w' => e = .returned (.bool true) ∧ Below w.heap.size w w' := by
  have hrow := Row.new w 46 (cv .u8 zs)
  have hb1 := (Below.refl w.heap.size w).alloc (Nat.le_refl _) (.cells (cv .u8 zs).toArray 46)
  have hs := hrow.sees0
  rw [cv_length, hl] at hs
  have G := getShort (some ⟨w.heap.size, 0, none⟩) 5 5 zs _ _ hs (by simp [maxLen]) hb
  rcases getS_cases zs hb with h | h | ⟨v, t, h, h1, h3, _, hv0, hv1, hsh⟩
  · rw [h] at G
    have GG := Lib.hid G
    clear G h hl hb
    go_enter Try.func6, Try.ntmps6
    go_wp2_with fail
    refine GG.out.mono ?_
    rintro e w1 ⟨rfl, rfl⟩
    go_wp2_with fail
    refine (lives _).mono ?_
    rintro e w5 ⟨rfl, hb5⟩
    go_wp2_with fail
    go_ret
    exact ⟨rfl, hb1.trans (hb5.mono hb1.size)⟩
  · rw [h] at G
    have GG := Lib.hid G
    clear G h hl hb
    go_enter Try.func6, Try.ntmps6
    go_wp2_with fail
    refine GG.out.mono ?_
    rintro e w1 ⟨rfl, rfl⟩
    go_wp2_with fail
    refine (lives _).mono ?_
    rintro e w5 ⟨rfl, hb5⟩
    go_wp2_with fail
    go_ret
    exact ⟨rfl, hb1.trans (hb5.mono hb1.size)⟩
  · obtain ⟨T, hT⟩ : ∃ T : Int, (t : Int) = T := ⟨_, rfl⟩
    have hT2 : T.toNat = t := by omega
    have hT3 : 1 ≤ T := by omega
    have hT4 : T ≤ 3 := by omega
    have hT5 : T ≤ 5 := by omega
    have hT6 : 0 ≤ T := by omega
    rw [h, hT] at G
    have GG := Lib.hid G
    clear hT
    have e1 : decide (0 ≤ v) = true := by simpa using hv0
    have e2 : decide (v ≤ 65535) = true := by simpa using hv1
    have P : ∀ w, Hid (Calls Try.prog 22 #[.int .i64 v] w fun e w' => ∃ g, e = .returned (.slice (some ⟨g, 0, none⟩) t t) ∧ w.heap.size ≤ g ∧ Row w' g 5 (bv (zs.take t)) ∧ Below w.heap.size w w') :=
      fun w => Lib.hid (put_lit v (zs.take t) t w hsh (by simp; omega) hv0 hv1)
    have S : ∀ g w', Row w' g 5 (bv (zs.take t)) → Row w' w.heap.size 46 (cv .u8 zs) → Hid (Calls Try.prog 13 #[.slice (some ⟨g, 0, none⟩) t t, .slice (some ⟨w.heap.size, 0, none⟩) t 5] w' fun e w'' => e = .returned (.bool true) ∧ ∃ k, w'' = w'.drewN k) := by
      intro g w' hr hr2
      have h1 := hr.sees0
      rw [bv_length, show (zs.take t).length = t by simp; omega] at h1
      have h2 : Sees w' w'.heap.size (some ⟨w.heap.size, 0, none⟩) t (bv (zs.take t)) := ⟨by rw [bv_length]; simp; omega, fun i u hu => ⟨_, rfl, hr2.lt, by
        rw [addr_row, hr2.cell]
        simp [bv, cv, List.getElem?_take] at hu ⊢
        exact hu.2⟩⟩
      refine Lib.hid ((sameBytes _ _ t t _ _ _ _ _ _ _ h1 h2 (by unfold maxLen; omega) (by unfold maxLen; omega)).mono ?_)
      rintro e w'' ⟨rfl, k, rfl⟩
      exact ⟨by simp, k, rfl⟩
    clear G h hl hb hs hsh
    have R := Lib.hid hrow
    clear hrow
    go_enter Try.func6, Try.ntmps6
    go_wp2_with fail
    refine GG.out.mono ?_
    rintro e w1 ⟨rfl, rfl⟩
    go_wp2_with fail
    refine wp_region_any (by kernel_rfl) ?_
    try (change wpAny _ _ _ _ _ _ _ (World.drew _))
    refine wpAny_ready (rs := [0]) (by kernel_rfl) (by simp) ?_
    refine AllReady.cons rfl (fun K hK => ?_) AllReady.nil
    go_simp
    (refine hK _ _ ?_; clear hK K)
    refine wpAny_ready (rs := [1]) (by kernel_rfl) (by simp) ?_
    refine AllReady.cons rfl (fun K hK => ?_) AllReady.nil
    go_simp
    (refine hK _ _ ?_; clear hK K)
    refine wpAny_ready (rs := [2]) (by kernel_rfl) (by simp) ?_
    refine AllReady.cons rfl (fun K hK => ?_) AllReady.nil
    go_simp
    (refine hK _ _ ?_; clear hK K)
    refine wpAny_ready (rs := [3]) (by kernel_rfl) (by simp) ?_
    refine AllReady.cons rfl (fun K hK => ?_) AllReady.nil
    go_simp
    (refine hK _ _ ?_; clear hK K)
    refine wpAny_ready (rs := [4]) (by kernel_rfl) (by simp) ?_
    refine AllReady.cons rfl (fun K hK => ?_) AllReady.nil
    go_simp
    (refine hK _ _ ?_; clear hK K)
    refine wpAny_ready (rs := [5]) (by kernel_rfl) (by simp) ?_
    refine AllReady.cons rfl (fun K hK => ?_) AllReady.nil
    go_simp
    (refine hK _ _ ?_; clear hK K)
    refine wpAny_ready (rs := [6]) (by kernel_rfl) (by simp) ?_
    refine AllReady.cons rfl (fun K hK => ?_) AllReady.nil
    go_simp
    (refine hK _ _ ?_; clear hK K)
    refine wpAny_ready (rs := [7]) (by kernel_rfl) (by simp) ?_
    refine AllReady.cons rfl (fun K hK => ?_) AllReady.nil
    go_simp
    (refine hK _ _ ?_; clear hK K)
    refine wpAny_ready (rs := [8]) (by kernel_rfl) (by simp) ?_
    refine AllReady.cons rfl (fun K hK => ?_) AllReady.nil
    go_simp
    (refine hK _ _ ?_; clear hK K)
    refine wpAny_ready (rs := [9]) (by kernel_rfl) (by simp) ?_
    refine AllReady.cons rfl (fun K hK => ?_) AllReady.nil
    go_simp
    (refine hK _ _ ?_; clear hK K)
    refine wpAny_ready (rs := [10]) (by kernel_rfl) (by simp) ?_
    refine AllReady.cons rfl (fun K hK => ?_) AllReady.nil
    go_simp
    (refine hK _ _ ?_; clear hK K)
    refine wpAny_ready (rs := [11]) (by kernel_rfl) (by simp) ?_
    refine AllReady.cons rfl (fun K hK => ?_) AllReady.nil
    go_simp
    (refine hK _ _ ?_; clear hK K)
    refine wpAny_ready (rs := [12]) (by kernel_rfl) (by simp) ?_
    refine AllReady.cons rfl (fun K hK => ?_) AllReady.nil
    go_simp
    (refine hK _ _ ?_; clear hK K)
    refine wpAny_ready (rs := [13]) (by kernel_rfl) (by simp) ?_
    refine AllReady.cons rfl (fun K hK => ?_) AllReady.nil
    go_simp
    (refine hK _ _ ?_; clear hK K)
    refine wpAny_ready (rs := [14]) (by kernel_rfl) (by simp) ?_
    refine AllReady.cons rfl (fun K hK => ?_) AllReady.nil
    go_simp
    (refine hK _ _ ?_; clear hK K)
    refine wpAny_take (i := 15) (v := ?_) rfl (by kernel_rfl) (by kernel_rfl) (by kernel_rfl) (fun _ _ _ h => h) (Or.inl ⟨by rfl, ?_⟩) ?_
    rotate_left
    · intro w
      go_simp
      try with_reducible rfl
    refine wpAny_take (i := 17) (v := ?_) rfl (by kernel_rfl) (by kernel_rfl) (by kernel_rfl) (fun _ _ _ h => h) (Or.inl ⟨by rfl, ?_⟩) ?_
    rotate_left
    · intro w
      go_simp
      try with_reducible rfl
    refine wpAny_ready (rs := [16, 18]) (by kernel_rfl) (by simp) ?_
    refine AllReady.cons rfl (fun K hK => ?_) (AllReady.cons rfl (fun K hK => ?_) AllReady.nil)
    · go_simp
      go_wp2_with (go_at_call 22; refine (P _).out.mono ?_; rintro e w2 ⟨g, rfl, hg, hr2, hb2⟩)
      refine wpAny_ready (rs := [18]) (by kernel_rfl) (by simp) ?_
      refine AllReady.cons rfl (fun K hK => ?_) AllReady.nil
      go_simp
      (refine hK _ _ ?_; clear hK K)
      refine wpAny_ready (rs := [19]) (by kernel_rfl) (by simp) ?_
      refine AllReady.cons rfl (fun K hK => ?_) AllReady.nil
      go_simp
      go_wp2_with (go_at_call 13; refine (S _ _ hr2 ((R.out).drew.below hb2 (by simp))).out.mono ?_; rintro e w3 ⟨rfl, k, rfl⟩)
      refine wpAny_ready (rs := [20]) (by kernel_rfl) (by simp) ?_
      refine AllReady.cons rfl (fun K hK => ?_) AllReady.nil
      go_simp
      (refine hK _ _ ?_; clear hK K)
      refine wpAny_ready (rs := [21]) (by kernel_rfl) (by simp) ?_
      refine AllReady.cons rfl (fun K hK => ?_) AllReady.nil
      go_simp
      (refine hK _ _ ?_; clear hK K)
      refine wpAny_ready (rs := [22]) (by kernel_rfl) (by simp) ?_
      refine AllReady.cons rfl (fun K hK => ?_) AllReady.nil
      go_simp
      go_wp2_with (go_at_call 8; refine (lives _).mono ?_; rintro e w5 ⟨rfl, hb5⟩)
      refine wpAny_ready (rs := [23]) (by kernel_rfl) (by simp) ?_
      refine AllReady.cons rfl (fun K hK => ?_) AllReady.nil
      go_simp
      (refine hK _ _ ?_; clear hK K)
      refine wpAny_ready (rs := [24]) (by kernel_rfl) (by simp) ?_
      refine AllReady.cons rfl (fun K hK => ?_) AllReady.nil
      go_simp
      (refine hK _ _ ?_; clear hK K)
      refine wpAny_done (by kernel_rfl) ?_ _
      go_wp2
      go_ret
      have hb3 := hb1.drew.trans (hb2.mono hb1.drew.size)
      exact ⟨rfl, (below_drewN hb3 k).trans (hb5.mono (below_drewN hb3 k).size)⟩
    · go_simp
      (refine hK _ _ ?_; clear hK K)
      refine wpAny_ready (rs := [16]) (by kernel_rfl) (by simp) ?_
      refine AllReady.cons rfl (fun K hK => ?_) AllReady.nil
      go_simp
      go_wp2_with (go_at_call 22; refine (P _).out.mono ?_; rintro e w2 ⟨g, rfl, hg, hr2, hb2⟩)
      refine wpAny_ready (rs := [19]) (by kernel_rfl) (by simp) ?_
      refine AllReady.cons rfl (fun K hK => ?_) AllReady.nil
      go_simp
      go_wp2_with (go_at_call 13; refine (S _ _ hr2 ((R.out).drew.below hb2 (by simp))).out.mono ?_; rintro e w3 ⟨rfl, k, rfl⟩)
      refine wpAny_ready (rs := [20]) (by kernel_rfl) (by simp) ?_
      refine AllReady.cons rfl (fun K hK => ?_) AllReady.nil
      go_simp
      (refine hK _ _ ?_; clear hK K)
      refine wpAny_ready (rs := [21]) (by kernel_rfl) (by simp) ?_
      refine AllReady.cons rfl (fun K hK => ?_) AllReady.nil
      go_simp
      (refine hK _ _ ?_; clear hK K)
      refine wpAny_ready (rs := [22]) (by kernel_rfl) (by simp) ?_
      refine AllReady.cons rfl (fun K hK => ?_) AllReady.nil
      go_simp
      go_wp2_with (go_at_call 8; refine (lives _).mono ?_; rintro e w5 ⟨rfl, hb5⟩)
      refine wpAny_ready (rs := [23]) (by kernel_rfl) (by simp) ?_
      refine AllReady.cons rfl (fun K hK => ?_) AllReady.nil
      go_simp
      (refine hK _ _ ?_; clear hK K)
      refine wpAny_ready (rs := [24]) (by kernel_rfl) (by simp) ?_
      refine AllReady.cons rfl (fun K hK => ?_) AllReady.nil
      go_simp
      (refine hK _ _ ?_; clear hK K)
      refine wpAny_done (by kernel_rfl) ?_ _
      go_wp2
      go_ret
      have hb3 := hb1.drew.trans (hb2.mono hb1.drew.size)
      exact ⟨rfl, (below_drewN hb3 k).trans (hb5.mono (below_drewN hb3 k).size)⟩
end Go.Proofs.Ythpjanfpmmjheaa
