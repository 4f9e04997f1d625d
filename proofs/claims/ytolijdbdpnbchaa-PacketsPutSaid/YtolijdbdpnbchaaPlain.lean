/-
  Reading from the front, plainly: what is read is what was put for it; the errors are two.
-/
import Derived.Test.YtolijdbdpnbchaaParse
namespace Go.Proofs.Ytolijdbdpnbchaa
open Go.RowKit
set_option linter.unusedVariables false

theorem take1 (zs : List Int) (h : 1 ≤ zs.length) : zs.take 1 = [zs.getD 0 0] := by
  match zs, h with
  | a :: r, _ => simp
theorem take2 (zs : List Int) (h : 2 ≤ zs.length) : zs.take 2 = [zs.getD 0 0, zs.getD 1 0] := by
  match zs, h with
  | a :: b :: r, _ => simp
theorem take3 (zs : List Int) (h : 3 ≤ zs.length) : zs.take 3 = [zs.getD 0 0, zs.getD 1 0, zs.getD 2 0] := by
  match zs, h with
  | a :: b :: c :: r, _ => simp

theorem pShort_got {zs : List Int} (hz : AllBytes zs) {n : Nat} {r : List Int} (h : pShort zs = .ok (n, r)) : zs = short n ++ r ∧ n ≤ 65535 := by
  have hb := hz.bytes
  have h0 := hb 0
  have h1 := hb 1
  have h2 := hb 2
  unfold pShort at h
  rcases mea_cases zs hb with (hm | hm) | ⟨hm, hl, ha⟩ | ⟨hm, hl, ha, hc, hd⟩ | ⟨hm, hl, ha, hc, hd, he⟩
  · simp [getS, hm] at h
  · simp [getS, hm] at h
  · have e : getS zs = (zs.getD 0 0, 1, 0) := by simp [getS, hm]
    rw [e] at h
    simp only [if_true] at h
    cases h
    refine ⟨?_, by omega⟩
    have e2 : short ((zs.getD 0 0).toNat : Int) = zs.take 1 := by
      rw [take1 zs hl, Int.toNat_of_nonneg (by omega)]
      simp only [short]
      rw [if_pos ha]
    rw [e2]
    exact (List.take_append_drop 1 zs).symm
  · have e : getS zs = (zs.getD 0 0 - 128 + 128 * zs.getD 1 0, 2, 0) := by simp [getS, hm]
    rw [e] at h
    simp only [if_true] at h
    cases h
    refine ⟨?_, by omega⟩
    have e2 : short ((zs.getD 0 0 - 128 + 128 * zs.getD 1 0).toNat : Int) = zs.take 2 := by
      rw [take2 zs hl, Int.toNat_of_nonneg (by omega)]
      simp only [short]
      rw [if_neg (by omega), if_pos (by omega), show (zs.getD 0 0 - 128 + 128 * zs.getD 1 0) % 128 + 128 = zs.getD 0 0 by omega, show (zs.getD 0 0 - 128 + 128 * zs.getD 1 0) / 128 = zs.getD 1 0 by omega]
    rw [e2]
    exact (List.take_append_drop 2 zs).symm
  · have e : getS zs = (zs.getD 0 0 - 128 + 128 * (zs.getD 1 0 - 128) + 16384 * zs.getD 2 0, 3, 0) := by simp [getS, hm]
    rw [e] at h
    simp only [if_true] at h
    cases h
    refine ⟨?_, by omega⟩
    have e2 : short ((zs.getD 0 0 - 128 + 128 * (zs.getD 1 0 - 128) + 16384 * zs.getD 2 0).toNat : Int) = zs.take 3 := by
      rw [take3 zs hl, Int.toNat_of_nonneg (by omega)]
      generalize zs.getD 0 0 = x at *
      generalize zs.getD 1 0 = y at *
      generalize zs.getD 2 0 = z at *
      simp only [short]
      rw [if_neg (by omega), if_neg (by omega), show (x - 128 + 128 * (y - 128) + 16384 * z) % 128 + 128 = x by omega, show (x - 128 + 128 * (y - 128) + 16384 * z) / 128 % 128 + 128 = y by omega, show (x - 128 + 128 * (y - 128) + 16384 * z) / 16384 = z by omega]
    rw [e2]
    exact (List.take_append_drop 3 zs).symm
theorem pShort_err {zs : List Int} (hz : AllBytes zs) {c : Int} (h : pShort zs = .error c) : c = 4 ∨ c = 5 := by
  unfold pShort at h
  rcases getS_cases zs hz with (e | e) | ⟨n, k, e, _⟩ <;> rw [e] at h <;> simp at h <;> simp [h.symm]

/-- what is read is what was put for it -/
def Got {α : Type} (f : α → List Int) (P : α → Prop) (one : List Int → PR α) : Prop := ∀ zs x r, AllBytes zs → one zs = .ok (x, r) → zs = f x ++ r ∧ P x
/-- the errors are two -/
def Errs {α : Type} (one : List Int → PR α) : Prop := ∀ zs c, AllBytes zs → one zs = .error c → c = 4 ∨ c = 5

theorem got_octet : Got (fun z => [z]) IsByte pOctet := by
  intro zs x r hz h
  match zs, h with
  | z :: r', h => cases h; exact ⟨rfl, hz _ (by simp)⟩
theorem err_octet : Errs pOctet := by
  intro zs c hz h
  match zs, h with
  | [], h => cases h; exact .inr rfl
theorem got_take (n : Nat) : Got (fun l => l) (fun l => l.length = n ∧ AllBytes l) (pTake n) := by
  intro zs x r hz h
  unfold pTake at h
  split at h
  · cases h
  · cases h
    exact ⟨(List.take_append_drop n zs).symm, by simp; omega, hz.take n⟩
theorem err_take (n : Nat) : Errs (pTake n) := by
  intro zs c hz h
  unfold pTake at h
  split at h
  · cases h; exact .inr rfl
  · cases h
section
variable {α : Type} {f : α → List Int} {P : α → Prop} {one : List Int → PR α}
theorem got_many (h1 : Got f P one) : ∀ n zs l r, AllBytes zs → pMany one n zs = .ok (l, r) → zs = l.flatMap f ++ r ∧ l.length = n ∧ ∀ x ∈ l, P x
  | 0, zs, l, r, hz, h => by cases h; simp
  | n + 1, zs, l, r, hz, h => by
    unfold pMany at h
    split at h
    · cases h
    · rename_i l1 r1 e1
      split at h
      · cases h
      · rename_i y r2 e2
        cases h
        obtain ⟨h2, h3, h4⟩ := got_many h1 n zs _ _ hz e1
        have hz1 : AllBytes r1 := fun z hzz => hz z (by rw [h2]; simp [hzz])
        obtain ⟨h5, h6⟩ := h1 _ _ _ hz1 e2
        refine ⟨by rw [h2, h5]; simp, by simp [h3], fun x hx => ?_⟩
        rcases List.mem_append.1 hx with hx | hx
        · exact h4 x hx
        · obtain rfl : x = y := by simpa using hx
          exact h6
theorem err_many (h1 : Got f P one) (he : Errs one) : ∀ n zs c, AllBytes zs → pMany one n zs = .error c → c = 4 ∨ c = 5
  | 0, zs, c, hz, h => by cases h
  | n + 1, zs, c, hz, h => by
    unfold pMany at h
    split at h
    · rename_i e1
      cases h
      exact err_many h1 he n zs _ hz e1
    · rename_i l1 r1 e1
      obtain ⟨h2, h3, h4⟩ := got_many h1 n zs _ _ hz e1
      have hz1 : AllBytes r1 := fun z hzz => hz z (by rw [h2]; simp [hzz])
      split at h
      · rename_i e2
        cases h
        exact he _ _ hz1 e2
      · cases h
theorem got_list (h1 : Got f P one) : Got (fun l => short l.length ++ l.flatMap f) (fun l => l.length ≤ 65535 ∧ ∀ x ∈ l, P x) (pList one) := by
  intro zs l r hz h
  unfold pList at h
  split at h
  · cases h
  · rename_i n r1 e1
    obtain ⟨h2, h3⟩ := pShort_got hz e1
    have hz1 : AllBytes r1 := fun z hzz => hz z (by rw [h2]; simp [hzz])
    obtain ⟨h4, h5, h6⟩ := got_many h1 n _ _ _ hz1 h
    refine ⟨by show zs = short l.length ++ l.flatMap f ++ r; rw [h5, h2, h4]; simp, by omega, h6⟩
theorem err_list (h1 : Got f P one) (he : Errs one) : Errs (pList one) := by
  intro zs c hz h
  unfold pList at h
  split at h
  · rename_i e1
    cases h
    exact pShort_err hz e1
  · rename_i n r1 e1
    obtain ⟨h2, h3⟩ := pShort_got hz e1
    have hz1 : AllBytes r1 := fun z hzz => hz z (by rw [h2]; simp [hzz])
    exact err_many h1 he n _ _ hz1 h
end
theorem flatMap_one (l : List Int) : l.flatMap (fun z => [z]) = l := by induction l with
  | nil => rfl
  | cons x r ih => simp [ih]
theorem flatMap_id (l : List (List Int)) : l.flatMap (fun z => z) = l.flatten := by simp [List.flatMap]
theorem got_bytes : Got encL (fun l => l.length ≤ 65535 ∧ AllBytes l) pBytes := by
  intro zs x r hz h
  obtain ⟨h1, h2, h3⟩ := got_list got_octet zs x r hz h
  refine ⟨?_, h2, h3⟩
  rw [h1]
  show short x.length ++ x.flatMap (fun z => [z]) ++ r = _
  rw [flatMap_one]
  rfl
theorem err_bytes : Errs pBytes := err_list got_octet err_octet

theorem AllBytes.behind {zs a r : List Int} (hz : AllBytes zs) (h : zs = a ++ r) : AllBytes r := fun z hzz => hz z (by rw [h]; simp [hzz])

/-- what holds of an instruction that has been read -/
def InOk (i : LIn) : Prop := IsByte i.p ∧ (i.acc.length ≤ 65535 ∧ AllBytes i.acc) ∧ (i.dat.length ≤ 65535 ∧ AllBytes i.dat)
def LookOk (l : LLook) : Prop := (l.tab.length = 32 ∧ AllBytes l.tab) ∧ (l.wr.length ≤ 65535 ∧ AllBytes l.wr) ∧ (l.rd.length ≤ 65535 ∧ AllBytes l.rd)
theorem got_in : Got encIn InOk pIn := by
  intro zs x r hz h
  unfold pIn at h
  split at h
  · cases h
  · rename_i e1
    obtain ⟨a1, b1⟩ := got_octet _ _ _ hz e1
    have hz1 := hz.behind a1
    split at h
    · cases h
    · rename_i e2
      obtain ⟨a2, b2⟩ := got_bytes _ _ _ hz1 e2
      have hz2 := hz1.behind a2
      split at h
      · cases h
      · rename_i e3
        obtain ⟨a3, b3⟩ := got_bytes _ _ _ hz2 e3
        cases h
        exact ⟨by rw [a1, a2, a3]; simp [encIn], b1, b2, b3⟩
theorem err_in : Errs pIn := by
  intro zs c hz h
  unfold pIn at h
  split at h
  · rename_i e1
    cases h
    exact err_octet _ _ hz e1
  · rename_i e1
    have hz1 := hz.behind (got_octet _ _ _ hz e1).1
    split at h
    · rename_i e2
      cases h
      exact err_bytes _ _ hz1 e2
    · rename_i e2
      have hz2 := hz1.behind (got_bytes _ _ _ hz1 e2).1
      split at h
      · rename_i e3
        cases h
        exact err_bytes _ _ hz2 e3
      · cases h
theorem got_look : Got encLook LookOk pLook := by
  intro zs x r hz h
  unfold pLook at h
  split at h
  · cases h
  · rename_i e1
    obtain ⟨a1, b1⟩ := got_take 32 _ _ _ hz e1
    have hz1 := hz.behind a1
    split at h
    · cases h
    · rename_i e2
      obtain ⟨a2, b2⟩ := got_bytes _ _ _ hz1 e2
      have hz2 := hz1.behind a2
      split at h
      · cases h
      · rename_i e3
        obtain ⟨a3, b3⟩ := got_bytes _ _ _ hz2 e3
        cases h
        exact ⟨by rw [a1, a2, a3]; simp [encLook], b1, b2, b3⟩
theorem err_look : Errs pLook := by
  intro zs c hz h
  unfold pLook at h
  split at h
  · rename_i e1
    cases h
    exact err_take 32 _ _ hz e1
  · rename_i e1
    have hz1 := hz.behind (got_take 32 _ _ _ hz e1).1
    split at h
    · rename_i e2
      cases h
      exact err_bytes _ _ hz1 e2
    · rename_i e2
      have hz2 := hz1.behind (got_bytes _ _ _ hz1 e2).1
      split at h
      · rename_i e3
        cases h
        exact err_bytes _ _ hz2 e3
      · cases h
theorem got_first : Got (fun p => if p.1 then [128, p.2] else [p.2]) (fun p => IsByte p.2 ∧ (p.1 = true ∨ p.2 < 128)) pFirst := by
  intro zs x r hz h
  unfold pFirst at h
  split at h
  · cases h
  · rename_i f r1 e1
    obtain ⟨a1, b1⟩ := got_octet _ _ _ hz e1
    have hz1 := hz.behind a1
    split at h
    · cases h
    · split at h
      · rename_i hf
        split at h
        · cases h
        · rename_i e2
          obtain ⟨a2, b2⟩ := got_octet _ _ _ hz1 e2
          cases h
          exact ⟨by rw [a1, a2, hf]; simp, b2, .inl rfl⟩
      · cases h
        exact ⟨by rw [a1]; simp, b1, .inr (by show f < 128; omega)⟩
theorem err_first : Errs pFirst := by
  intro zs c hz h
  unfold pFirst at h
  split at h
  · rename_i e1
    cases h
    exact err_octet _ _ hz e1
  · rename_i f r1 e1
    have hz1 := hz.behind (got_octet _ _ _ hz e1).1
    split at h
    · cases h; exact .inl rfl
    · split at h
      · split at h
        · rename_i e2
          cases h
          exact err_octet _ _ hz1 e2
        · cases h
      · cases h
theorem got_keys : Got (fun l => short l.length ++ l.flatten) (fun l => l.length ≤ 65535 ∧ ∀ k ∈ l, k.length = 32 ∧ AllBytes k) (pList (pTake 32)) := by
  intro zs x r hz h
  obtain ⟨h1, h2, h3⟩ := got_list (got_take 32) zs x r hz h
  refine ⟨?_, h2, h3⟩
  rw [h1]
  simp [flatMap_id]
theorem err_keys : Errs (pList (pTake 32)) := err_list (got_take 32) (err_take 32)

/-- a message that has been read is laid out just so -/
theorem pMsg_got {zs : List Int} (hz : AllBytes zs) {m : LMsg} {r : List Int} (h : pMsg zs = .ok (m, r)) : zs = enc m ++ r ∧ Fits m ∧ m.Wf := by
  unfold pMsg at h
  split at h
  · cases h
  rename_i v0 s r1 e1
  obtain ⟨a1, b1⟩ := got_first _ _ _ hz e1
  have hz1 := hz.behind a1
  split at h
  · cases h
  rename_i rs r2 e2
  obtain ⟨a2, b2⟩ := got_octet _ _ _ hz1 e2
  have hz2 := hz1.behind a2
  split at h
  · cases h
  rename_i ro r3 e3
  obtain ⟨a3, b3⟩ := got_octet _ _ _ hz2 e3
  have hz3 := hz2.behind a3
  split at h
  · cases h
  rename_i ks r4 e4
  obtain ⟨a4, b4⟩ := got_keys _ _ _ hz3 e4
  have hz4 := hz3.behind a4
  split at h
  · cases h
  rename_i hh r5 e5
  obtain ⟨a5, b5⟩ := got_take 32 _ _ _ hz4 e5
  have hz5 := hz4.behind a5
  split at h
  · cases h
  rename_i is r6 e6
  obtain ⟨a6, b6⟩ := got_list got_in _ _ _ hz5 e6
  have hz6 := hz5.behind a6
  split at h
  · cases h
  rename_i ls r7 e7
  cases h
  cases v0
  · simp only [pLooks, Bool.false_eq_true, if_false] at e7
    cases e7
    simp only [Bool.false_eq_true, if_false, false_or] at a1 b1
    refine ⟨?_, ⟨.inr ⟨rfl, b1.2⟩, b4.1, b6.1, by simp, fun i hi => ⟨(b6.2 i hi).2.1.1, (b6.2 i hi).2.2.1⟩, by simp⟩, b1.1, b2, b3, b4.2, b5, fun i hi => ⟨(b6.2 i hi).1, (b6.2 i hi).2.1.2, (b6.2 i hi).2.2.2⟩, by simp⟩
    rw [a1, a2, a3, a4, a5, a6]
    simp [enc, encHead, encTail]
  · simp only [pLooks, if_true] at e7
    obtain ⟨a7, b7⟩ := got_list got_look _ _ _ hz6 e7
    simp only [if_true, true_or, and_true] at a1 b1
    refine ⟨?_, ⟨.inl rfl, b4.1, b6.1, b7.1, fun i hi => ⟨(b6.2 i hi).2.1.1, (b6.2 i hi).2.2.1⟩, fun l hl => ⟨(b7.2 l hl).2.1.1, (b7.2 l hl).2.2.1⟩⟩, b1, b2, b3, b4.2, b5, fun i hi => ⟨(b6.2 i hi).1, (b6.2 i hi).2.1.2, (b6.2 i hi).2.2.2⟩, fun l hl => ⟨(b7.2 l hl).1, (b7.2 l hl).2.1.2, (b7.2 l hl).2.2.2⟩⟩
    rw [a1, a2, a3, a4, a5, a6, a7]
    simp [enc, encHead, encTail]

theorem pMsg_err {zs : List Int} (hz : AllBytes zs) {c : Int} (h : pMsg zs = .error c) : c = 4 ∨ c = 5 := by
  unfold pMsg at h
  split at h
  · rename_i e; cases h; exact err_first _ _ hz e
  rename_i v0 s r1 e1
  have hz1 := hz.behind (got_first _ _ _ hz e1).1
  split at h
  · rename_i e; cases h; exact err_octet _ _ hz1 e
  rename_i rs r2 e2
  have hz2 := hz1.behind (got_octet _ _ _ hz1 e2).1
  split at h
  · rename_i e; cases h; exact err_octet _ _ hz2 e
  rename_i ro r3 e3
  have hz3 := hz2.behind (got_octet _ _ _ hz2 e3).1
  split at h
  · rename_i e; cases h; exact err_keys _ _ hz3 e
  rename_i ks r4 e4
  have hz4 := hz3.behind (got_keys _ _ _ hz3 e4).1
  split at h
  · rename_i e; cases h; exact err_take 32 _ _ hz4 e
  rename_i hh r5 e5
  have hz5 := hz4.behind (got_take 32 _ _ _ hz4 e5).1
  split at h
  · rename_i e; cases h; exact err_list got_in err_in _ _ hz5 e
  rename_i is r6 e6
  have hz6 := hz5.behind (got_list got_in _ _ _ hz5 e6).1
  split at h
  · rename_i e
    cases h
    cases v0
    · simp [pLooks] at e
    · simp only [pLooks, if_true] at e
      exact err_list got_look err_look _ _ hz6 e
  · cases h
end Go.Proofs.Ytolijdbdpnbchaa
