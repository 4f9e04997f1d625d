/-
  Parts joined: Plain ParseBack RefAt BookK CameIn Enc Tx SameTx BookS Great OpenMsg OpenTx Rules KeyEq.
-/
import Derived.Test.YtdgbodljmdcagaaGreatDoorChecked
import Derived.WalkKit
import Derived.LaidEql
import Derived.Stop.Asserts
import Derived.RowKitTokens
import Derived.Lib.IfaceEq
import Derived.Lib.Hide
import Derived.Below
import Derived.Laws.OwnMore
import Derived.Deep.AppendLies
import Derived.Deep.Draws
import Derived.Laws.MakeOwn
import Derived.Laws.CopyOwn
import Derived.Laws.Rows
import Derived.Maps.AppendAt
import Derived.OwnWalk
import Derived.Laws.BitsAllLaws
import Derived.Test.YtdgbodljmdcagaaGreatDoorRows
import Derived.WalkSpells
import Derived.WalkLawsBesides
import Derived.IntWalk
import Derived.Deep.QuietTactic
import Derived.BigQuiet
import Derived.Deep.MidRow
import Derived.Deep.WholeRow
import Derived.Great.BuildSlice
import Derived.Recover
import Derived.Deep.RegionHeld
import Derived.ChangeKeysEq
import Derived.Deep.RegionHeld2
import Derived.Deep.CutBlock
import Derived.Laws.Tables
import Derived.ProofKit
import Derived.OpenShut
import Derived.ShutString
import Derived.ChangeOld
import Derived.Lib.SmallJoins
import Derived.Deep.Slices
import Derived.Deep.Strs
import Derived.SizedLaws
import Derived.Test.YtdgbodljmdcagaaGreatDoorA1
import Derived.Test.YtdgbodljmdcagaaGreatDoorA2
import Derived.Test.YtdgbodljmdcagaaGreatDoorA3
/-
  Of part Plain: what is needed here.
-/
namespace Go.Proofs.YtdgbodljmdcagaaGreatDoor
open Go.RowKit
set_option linter.unusedVariables false
set_option maxRecDepth 100000
theorem take1 (zs : List Int) (h : 1 ≤ zs.length) : zs.take 1 = [zs.getD 0 0] := by
  match zs, h with
  | a :: r, _ => simp
theorem take2 (zs : List Int) (h : 2 ≤ zs.length) : zs.take 2 = [zs.getD 0 0, zs.getD 1 0] := by
  match zs, h with
  | a :: b :: r, _ => simp
theorem take3 (zs : List Int) (h : 3 ≤ zs.length) : zs.take 3 = [zs.getD 0 0, zs.getD 1 0, zs.getD 2 0] := by
  match zs, h with
  | a :: b :: c :: r, _ => simp
theorem pShort_got {zs : List Int} (hz : AllBytes zs) {n : Nat} {r : List Int} (h : pShort zs = .ok (n, r)) : zs = short n ++ r ∧ n ≤ 65535 := by
  have hb := hz.bytes
  have h0 := hb 0
  have h1 := hb 1
  have h2 := hb 2
  unfold pShort at h
  rcases mea_cases zs hb with (hm | hm) | ⟨hm, hl, ha⟩ | ⟨hm, hl, ha, hc, hd⟩ | ⟨hm, hl, ha, hc, hd, he⟩
  · simp [getS, hm] at h
  · simp [getS, hm] at h
  · have e : getS zs = (zs.getD 0 0, 1, 0) := by simp [getS, hm]
    rw [e] at h
    simp only [if_true] at h
    cases h
    refine ⟨?_, by omega⟩
    have e2 : short ((zs.getD 0 0).toNat : Int) = zs.take 1 := by
      rw [take1 zs hl, Int.toNat_of_nonneg (by omega)]
      simp only [short]
      rw [if_pos ha]
    rw [e2]
    exact (List.take_append_drop 1 zs).symm
  · have e : getS zs = (zs.getD 0 0 - 128 + 128 * zs.getD 1 0, 2, 0) := by simp [getS, hm]
    rw [e] at h
    simp only [if_true] at h
    cases h
    refine ⟨?_, by omega⟩
    have e2 : short ((zs.getD 0 0 - 128 + 128 * zs.getD 1 0).toNat : Int) = zs.take 2 := by
      rw [take2 zs hl, Int.toNat_of_nonneg (by omega)]
      simp only [short]
      rw [if_neg (by omega), if_pos (by omega), show (zs.getD 0 0 - 128 + 128 * zs.getD 1 0) % 128 + 128 = zs.getD 0 0 by omega, show (zs.getD 0 0 - 128 + 128 * zs.getD 1 0) / 128 = zs.getD 1 0 by omega]
    rw [e2]
    exact (List.take_append_drop 2 zs).symm
  · have e : getS zs = (zs.getD 0 0 - 128 + 128 * (zs.getD 1 0 - 128) + 16384 * zs.getD 2 0, 3, 0) := by simp [getS, hm]
    rw [e] at h
    simp only [if_true] at h
    cases h
    refine ⟨?_, by omega⟩
    have e2 : short ((zs.getD 0 0 - 128 + 128 * (zs.getD 1 0 - 128) + 16384 * zs.getD 2 0).toNat : Int) = zs.take 3 := by
      rw [take3 zs hl, Int.toNat_of_nonneg (by omega)]
      generalize zs.getD 0 0 = x at *
      generalize zs.getD 1 0 = y at *
      generalize zs.getD 2 0 = z at *
      simp only [short]
      rw [if_neg (by omega), if_neg (by omega), show (x - 128 + 128 * (y - 128) + 16384 * z) % 128 + 128 = x by omega, show (x - 128 + 128 * (y - 128) + 16384 * z) / 128 % 128 + 128 = y by omega, show (x - 128 + 128 * (y - 128) + 16384 * z) / 16384 = z by omega]
    rw [e2]
    exact (List.take_append_drop 3 zs).symm
theorem pShort_err {zs : List Int} (hz : AllBytes zs) {c : Int} (h : pShort zs = .error c) : c = 4 ∨ c = 5 := by
  unfold pShort at h
  rcases getS_cases zs hz with (e | e) | ⟨n, k, e, _⟩ <;> rw [e] at h <;> simp at h <;> simp [h.symm]
/-- what is read is what was put for it -/
def Got {α : Type} (f : α → List Int) (P : α → Prop) (one : List Int → PR α) : Prop := ∀ zs x r, AllBytes zs → one zs = .ok (x, r) → zs = f x ++ r ∧ P x
/-- the errors are two -/
def Errs {α : Type} (one : List Int → PR α) : Prop := ∀ zs c, AllBytes zs → one zs = .error c → c = 4 ∨ c = 5
theorem got_octet : Got (fun z => [z]) IsByte pOctet := by
  intro zs x r hz h
  match zs, h with
  | z :: r', h => cases h; exact ⟨rfl, hz _ (by simp)⟩
theorem err_octet : Errs pOctet := by
  intro zs c hz h
  match zs, h with
  | [], h => cases h; exact .inr rfl
theorem got_take (n : Nat) : Got (fun l => l) (fun l => l.length = n ∧ AllBytes l) (pTake n) := by
  intro zs x r hz h
  unfold pTake at h
  split at h
  · cases h
  · cases h
    exact ⟨(List.take_append_drop n zs).symm, by simp; omega, hz.take n⟩
theorem err_take (n : Nat) : Errs (pTake n) := by
  intro zs c hz h
  unfold pTake at h
  split at h
  · cases h; exact .inr rfl
  · cases h
section
variable {α : Type} {f : α → List Int} {P : α → Prop} {one : List Int → PR α}
theorem got_many (h1 : Got f P one) : ∀ n zs l r, AllBytes zs → pMany one n zs = .ok (l, r) → zs = l.flatMap f ++ r ∧ l.length = n ∧ ∀ x ∈ l, P x
  | 0, zs, l, r, hz, h => by cases h; simp
  | n + 1, zs, l, r, hz, h => by
    unfold pMany at h
    split at h
    · cases h
    · rename_i l1 r1 e1
      split at h
      · cases h
      · rename_i y r2 e2
        cases h
        obtain ⟨h2, h3, h4⟩ := got_many h1 n zs _ _ hz e1
        have hz1 : AllBytes r1 := fun z hzz => hz z (by rw [h2]; simp [hzz])
        obtain ⟨h5, h6⟩ := h1 _ _ _ hz1 e2
        refine ⟨by rw [h2, h5]; simp, by simp [h3], fun x hx => ?_⟩
        rcases List.mem_append.1 hx with hx | hx
        · exact h4 x hx
        · obtain rfl : x = y := by simpa using hx
          exact h6
theorem err_many (h1 : Got f P one) (he : Errs one) : ∀ n zs c, AllBytes zs → pMany one n zs = .error c → c = 4 ∨ c = 5
  | 0, zs, c, hz, h => by cases h
  | n + 1, zs, c, hz, h => by
    unfold pMany at h
    split at h
    · rename_i e1
      cases h
      exact err_many h1 he n zs _ hz e1
    · rename_i l1 r1 e1
      obtain ⟨h2, h3, h4⟩ := got_many h1 n zs _ _ hz e1
      have hz1 : AllBytes r1 := fun z hzz => hz z (by rw [h2]; simp [hzz])
      split at h
      · rename_i e2
        cases h
        exact he _ _ hz1 e2
      · cases h
theorem got_list (h1 : Got f P one) : Got (fun l => short l.length ++ l.flatMap f) (fun l => l.length ≤ 65535 ∧ ∀ x ∈ l, P x) (pList one) := by
  intro zs l r hz h
  unfold pList at h
  split at h
  · cases h
  · rename_i n r1 e1
    obtain ⟨h2, h3⟩ := pShort_got hz e1
    have hz1 : AllBytes r1 := fun z hzz => hz z (by rw [h2]; simp [hzz])
    obtain ⟨h4, h5, h6⟩ := got_many h1 n _ _ _ hz1 h
    refine ⟨by show zs = short l.length ++ l.flatMap f ++ r; rw [h5, h2, h4]; simp, by omega, h6⟩
theorem err_list (h1 : Got f P one) (he : Errs one) : Errs (pList one) := by
  intro zs c hz h
  unfold pList at h
  split at h
  · rename_i e1
    cases h
    exact pShort_err hz e1
  · rename_i n r1 e1
    obtain ⟨h2, h3⟩ := pShort_got hz e1
    have hz1 : AllBytes r1 := fun z hzz => hz z (by rw [h2]; simp [hzz])
    exact err_many h1 he n _ _ hz1 h
end
theorem flatMap_one (l : List Int) : l.flatMap (fun z => [z]) = l := by induction l with
  | nil => rfl
  | cons x r ih => simp [ih]
theorem flatMap_id (l : List (List Int)) : l.flatMap (fun z => z) = l.flatten := by simp [List.flatMap]
theorem got_bytes : Got encL (fun l => l.length ≤ 65535 ∧ AllBytes l) pBytes := by
  intro zs x r hz h
  obtain ⟨h1, h2, h3⟩ := got_list got_octet zs x r hz h
  refine ⟨?_, h2, h3⟩
  rw [h1]
  show short x.length ++ x.flatMap (fun z => [z]) ++ r = _
  rw [flatMap_one]
  rfl
theorem err_bytes : Errs pBytes := err_list got_octet err_octet
theorem AllBytes.behind {zs a r : List Int} (hz : AllBytes zs) (h : zs = a ++ r) : AllBytes r := fun z hzz => hz z (by rw [h]; simp [hzz])
/-- what holds of an instruction that has been read -/
def InOk (i : LIn) : Prop := IsByte i.p ∧ (i.acc.length ≤ 65535 ∧ AllBytes i.acc) ∧ (i.dat.length ≤ 65535 ∧ AllBytes i.dat)
def LookOk (l : LLook) : Prop := (l.tab.length = 32 ∧ AllBytes l.tab) ∧ (l.wr.length ≤ 65535 ∧ AllBytes l.wr) ∧ (l.rd.length ≤ 65535 ∧ AllBytes l.rd)
theorem got_in : Got encIn InOk pIn := by
  intro zs x r hz h
  unfold pIn at h
  split at h
  · cases h
  · rename_i e1
    obtain ⟨a1, b1⟩ := got_octet _ _ _ hz e1
    have hz1 := hz.behind a1
    split at h
    · cases h
    · rename_i e2
      obtain ⟨a2, b2⟩ := got_bytes _ _ _ hz1 e2
      have hz2 := hz1.behind a2
      split at h
      · cases h
      · rename_i e3
        obtain ⟨a3, b3⟩ := got_bytes _ _ _ hz2 e3
        cases h
        exact ⟨by rw [a1, a2, a3]; simp [encIn], b1, b2, b3⟩
theorem err_in : Errs pIn := by
  intro zs c hz h
  unfold pIn at h
  split at h
  · rename_i e1
    cases h
    exact err_octet _ _ hz e1
  · rename_i e1
    have hz1 := hz.behind (got_octet _ _ _ hz e1).1
    split at h
    · rename_i e2
      cases h
      exact err_bytes _ _ hz1 e2
    · rename_i e2
      have hz2 := hz1.behind (got_bytes _ _ _ hz1 e2).1
      split at h
      · rename_i e3
        cases h
        exact err_bytes _ _ hz2 e3
      · cases h
theorem got_look : Got encLook LookOk pLook := by
  intro zs x r hz h
  unfold pLook at h
  split at h
  · cases h
  · rename_i e1
    obtain ⟨a1, b1⟩ := got_take 32 _ _ _ hz e1
    have hz1 := hz.behind a1
    split at h
    · cases h
    · rename_i e2
      obtain ⟨a2, b2⟩ := got_bytes _ _ _ hz1 e2
      have hz2 := hz1.behind a2
      split at h
      · cases h
      · rename_i e3
        obtain ⟨a3, b3⟩ := got_bytes _ _ _ hz2 e3
        cases h
        exact ⟨by rw [a1, a2, a3]; simp [encLook], b1, b2, b3⟩
theorem err_look : Errs pLook := by
  intro zs c hz h
  unfold pLook at h
  split at h
  · rename_i e1
    cases h
    exact err_take 32 _ _ hz e1
  · rename_i e1
    have hz1 := hz.behind (got_take 32 _ _ _ hz e1).1
    split at h
    · rename_i e2
      cases h
      exact err_bytes _ _ hz1 e2
    · rename_i e2
      have hz2 := hz1.behind (got_bytes _ _ _ hz1 e2).1
      split at h
      · rename_i e3
        cases h
        exact err_bytes _ _ hz2 e3
      · cases h
theorem got_first : Got (fun p => if p.1 then [128, p.2] else [p.2]) (fun p => IsByte p.2 ∧ (p.1 = true ∨ p.2 < 128)) pFirst := by
  intro zs x r hz h
  unfold pFirst at h
  split at h
  · cases h
  · rename_i f r1 e1
    obtain ⟨a1, b1⟩ := got_octet _ _ _ hz e1
    have hz1 := hz.behind a1
    split at h
    · cases h
    · split at h
      · rename_i hf
        split at h
        · cases h
        · rename_i e2
          obtain ⟨a2, b2⟩ := got_octet _ _ _ hz1 e2
          cases h
          exact ⟨by rw [a1, a2, hf]; simp, b2, .inl rfl⟩
      · cases h
        exact ⟨by rw [a1]; simp, b1, .inr (by show f < 128; omega)⟩
theorem err_first : Errs pFirst := by
  intro zs c hz h
  unfold pFirst at h
  split at h
  · rename_i e1
    cases h
    exact err_octet _ _ hz e1
  · rename_i f r1 e1
    have hz1 := hz.behind (got_octet _ _ _ hz e1).1
    split at h
    · cases h; exact .inl rfl
    · split at h
      · split at h
        · rename_i e2
          cases h
          exact err_octet _ _ hz1 e2
        · cases h
      · cases h
theorem got_keys : Got (fun l => short l.length ++ l.flatten) (fun l => l.length ≤ 65535 ∧ ∀ k ∈ l, k.length = 32 ∧ AllBytes k) (pList (pTake 32)) := by
  intro zs x r hz h
  obtain ⟨h1, h2, h3⟩ := got_list (got_take 32) zs x r hz h
  refine ⟨?_, h2, h3⟩
  rw [h1]
  simp
theorem err_keys : Errs (pList (pTake 32)) := err_list (got_take 32) (err_take 32)
/-- a message that has been read is laid out just so -/
theorem pMsg_got {zs : List Int} (hz : AllBytes zs) {m : LMsg} {r : List Int} (h : pMsg zs = .ok (m, r)) : zs = enc m ++ r ∧ Fits m ∧ m.Wf := by
  unfold pMsg at h
  split at h
  · cases h
  rename_i v0 s r1 e1
  obtain ⟨a1, b1⟩ := got_first _ _ _ hz e1
  have hz1 := hz.behind a1
  split at h
  · cases h
  rename_i rs r2 e2
  obtain ⟨a2, b2⟩ := got_octet _ _ _ hz1 e2
  have hz2 := hz1.behind a2
  split at h
  · cases h
  rename_i ro r3 e3
  obtain ⟨a3, b3⟩ := got_octet _ _ _ hz2 e3
  have hz3 := hz2.behind a3
  split at h
  · cases h
  rename_i ks r4 e4
  obtain ⟨a4, b4⟩ := got_keys _ _ _ hz3 e4
  have hz4 := hz3.behind a4
  split at h
  · cases h
  rename_i hh r5 e5
  obtain ⟨a5, b5⟩ := got_take 32 _ _ _ hz4 e5
  have hz5 := hz4.behind a5
  split at h
  · cases h
  rename_i is r6 e6
  obtain ⟨a6, b6⟩ := got_list got_in _ _ _ hz5 e6
  have hz6 := hz5.behind a6
  split at h
  · cases h
  rename_i ls r7 e7
  cases h
  cases v0
  · simp only [pLooks, Bool.false_eq_true, if_false] at e7
    cases e7
    simp only [Bool.false_eq_true, if_false, false_or] at a1 b1
    refine ⟨?_, ⟨.inr ⟨rfl, b1.2⟩, b4.1, b6.1, by simp, fun i hi => ⟨(b6.2 i hi).2.1.1, (b6.2 i hi).2.2.1⟩, by simp⟩, b1.1, b2, b3, b4.2, b5, fun i hi => ⟨(b6.2 i hi).1, (b6.2 i hi).2.1.2, (b6.2 i hi).2.2.2⟩, by simp⟩
    rw [a1, a2, a3, a4, a5, a6]
    simp [enc, encHead, encTail]
  · simp only [pLooks, if_true] at e7
    obtain ⟨a7, b7⟩ := got_list got_look _ _ _ hz6 e7
    simp only [if_true, true_or, and_true] at a1 b1
    refine ⟨?_, ⟨.inl rfl, b4.1, b6.1, b7.1, fun i hi => ⟨(b6.2 i hi).2.1.1, (b6.2 i hi).2.2.1⟩, fun l hl => ⟨(b7.2 l hl).2.1.1, (b7.2 l hl).2.2.1⟩⟩, b1, b2, b3, b4.2, b5, fun i hi => ⟨(b6.2 i hi).1, (b6.2 i hi).2.1.2, (b6.2 i hi).2.2.2⟩, fun l hl => ⟨(b7.2 l hl).1, (b7.2 l hl).2.1.2, (b7.2 l hl).2.2.2⟩⟩
    rw [a1, a2, a3, a4, a5, a6, a7]
    simp [enc, encHead, encTail]
theorem pMsg_err {zs : List Int} (hz : AllBytes zs) {c : Int} (h : pMsg zs = .error c) : c = 4 ∨ c = 5 := by
  unfold pMsg at h
  split at h
  · rename_i e; cases h; exact err_first _ _ hz e
  rename_i v0 s r1 e1
  have hz1 := hz.behind (got_first _ _ _ hz e1).1
  split at h
  · rename_i e; cases h; exact err_octet _ _ hz1 e
  rename_i rs r2 e2
  have hz2 := hz1.behind (got_octet _ _ _ hz1 e2).1
  split at h
  · rename_i e; cases h; exact err_octet _ _ hz2 e
  rename_i ro r3 e3
  have hz3 := hz2.behind (got_octet _ _ _ hz2 e3).1
  split at h
  · rename_i e; cases h; exact err_keys _ _ hz3 e
  rename_i ks r4 e4
  have hz4 := hz3.behind (got_keys _ _ _ hz3 e4).1
  split at h
  · rename_i e; cases h; exact err_take 32 _ _ hz4 e
  rename_i hh r5 e5
  have hz5 := hz4.behind (got_take 32 _ _ _ hz4 e5).1
  split at h
  · rename_i e; cases h; exact err_list got_in err_in _ _ hz5 e
  rename_i is r6 e6
  have hz6 := hz5.behind (got_list got_in _ _ _ hz5 e6).1
  split at h
  · rename_i e
    cases h
    cases v0
    · simp [pLooks] at e
    · simp only [pLooks, if_true] at e
      exact err_list got_look err_look _ _ hz6 e
  · cases h
end Go.Proofs.YtdgbodljmdcagaaGreatDoor

/-
  Of part ParseBack: what is needed here.
-/
namespace Go.Proofs.YtdgbodljmdcagaaGreatDoor
open Go.RowKit
set_option linter.unusedVariables false
set_option maxRecDepth 100000
theorem getS_put (n : Int) (rest : List Int) (h0 : 0 ≤ n) (h1 : n ≤ 65535) : getS (short n ++ rest) = (n, ((short n).length : Int), 0) := by
  by_cases h : n < 128
  · have e : short n = [n] := by simp [short, h]
    have hm : mea (n :: rest) = (1, 0) := by simp [mea, h]
    simp [e, getS, hm]
  · by_cases h' : n < 16384
    · have e : short n = [n % 128 + 128, n / 128] := by simp [short, h, h']
      have hm : mea ((n % 128 + 128) :: (n / 128) :: rest) = (2, 0) := by
        simp only [mea, List.length_cons, List.getD_cons_zero, List.getD_cons_succ]
        rw [if_neg (by omega), if_neg (by omega), if_neg (by omega), if_neg (by omega), if_pos (by omega)]
      simp [e, getS, hm]
      omega
    · have e : short n = [n % 128 + 128, n / 128 % 128 + 128, n / 16384] := by simp [short, h, h']
      have hm : mea ((n % 128 + 128) :: (n / 128 % 128 + 128) :: (n / 16384) :: rest) = (3, 0) := by
        simp only [mea, List.length_cons, List.getD_cons_zero, List.getD_cons_succ]
        rw [if_neg (by omega), if_neg (by omega), if_neg (by omega), if_neg (by omega), if_neg (by omega), if_neg (by omega), if_neg (by omega)]
      simp [e, getS, hm]
      omega
theorem pShort_put (n : Nat) (r : List Int) (h : n ≤ 65535) : pShort (short n ++ r) = .ok (n, r) := by
  unfold pShort
  rw [getS_put n r (by omega) (by omega)]
  simp
/-- what was put is read -/
def Puts {α : Type} (f : α → List Int) (P : α → Prop) (one : List Int → PR α) : Prop := ∀ x, P x → ∀ r, one (f x ++ r) = .ok (x, r)
theorem puts_octet : Puts (fun z => [z]) (fun _ => True) pOctet := fun x _ r => rfl
theorem puts_take (n : Nat) : Puts (fun l => l) (fun l => l.length = n) (pTake n) := by
  rintro l rfl r
  unfold pTake
  rw [if_neg (by simp)]
  simp
section
variable {α : Type} {f : α → List Int} {P : α → Prop} {one : List Int → PR α}
theorem puts_many (h1 : Puts f P one) : ∀ (n : Nat) (l : List α), l.length = n → (∀ x ∈ l, P x) → ∀ r, pMany one n (l.flatMap f ++ r) = .ok (l, r)
  | 0, l, hl, _, r => by
    obtain rfl := List.length_eq_zero_iff.1 hl
    rfl
  | n + 1, l, hl, hp, r => by
    obtain ⟨l', x, rfl⟩ : ∃ l' x, l = l' ++ [x] := ⟨l.dropLast, l.getLast (by intro h; simp [h] at hl), (List.dropLast_concat_getLast _).symm⟩
    have h2 := puts_many h1 n l' (by simpa using hl) (fun y hy => hp y (by simp [hy])) (f x ++ r)
    have h3 := h1 x (hp x (by simp)) r
    unfold pMany
    rw [List.flatMap_append, List.append_assoc, show [x].flatMap f = f x by simp, h2]
    simp only [h3]
theorem puts_list (h1 : Puts f P one) : Puts (fun l => short l.length ++ l.flatMap f) (fun l => l.length ≤ 65535 ∧ ∀ x ∈ l, P x) (pList one) := by
  rintro l ⟨h2, h3⟩ r
  unfold pList
  rw [List.append_assoc, pShort_put _ _ h2]
  exact puts_many h1 _ l rfl h3 r
end
theorem puts_bytes : Puts encL (fun l => l.length ≤ 65535) pBytes := by
  intro l hl r
  have := puts_list puts_octet l ⟨hl, fun _ _ => trivial⟩ r
  simp only [flatMap_one] at this
  exact this
theorem puts_in : Puts encIn (fun i => i.acc.length ≤ 65535 ∧ i.dat.length ≤ 65535) pIn := by
  rintro ⟨p, a, d⟩ ⟨h1, h2⟩ r
  unfold pIn
  have e1 : pOctet (encIn ⟨p, a, d⟩ ++ r) = .ok (p, encL a ++ (encL d ++ r)) := by simp [encIn, pOctet]
  rw [e1]
  simp only [puts_bytes a h1, puts_bytes d h2]
theorem puts_look : Puts encLook (fun l => l.tab.length = 32 ∧ l.wr.length ≤ 65535 ∧ l.rd.length ≤ 65535) pLook := by
  rintro ⟨t, a, d⟩ ⟨h0, h1, h2⟩ r
  unfold pLook
  have e1 : pTake 32 (encLook ⟨t, a, d⟩ ++ r) = .ok (t, encL a ++ (encL d ++ r)) := by
    have := puts_take 32 t h0 (encL a ++ (encL d ++ r))
    rw [← this]
    simp [encLook]
  rw [e1]
  simp only [puts_bytes a h1, puts_bytes d h2]
theorem puts_keys : Puts (fun l => short l.length ++ l.flatten) (fun l : List (List Int) => l.length ≤ 65535 ∧ ∀ k ∈ l, k.length = 32) (pList (pTake 32)) := by
  rintro l h r
  have := puts_list (puts_take 32) l h r
  simp only [flatMap_id] at this
  exact this
/-- a message that has been put is read -/
theorem pMsg_put {m : LMsg} (hf : Fits m) (hw : m.Wf) (r : List Int) : pMsg (enc m ++ r) = .ok (m, r) := by
  obtain ⟨v0, s, rs, ro, ks, h, is, ls⟩ := m
  obtain ⟨f1, f2, f3, f4, f5, f6⟩ := hf
  have k1 := puts_keys ks ⟨f2, fun k hk => (hw.keys k hk).1⟩
  have k2 := puts_take 32 h hw.recent.1
  have k3 := puts_list puts_in is ⟨f3, f5⟩
  have k4 := puts_list puts_look ls ⟨f4, fun l hl => ⟨(hw.looks l hl).1.1, f6 l hl⟩⟩
  have hs := hw.s
  unfold IsByte at hs
  dsimp only at f1 f2 f3 f4 f5 f6 hs
  simp only [List.append_assoc] at k1 k2 k3 k4
  cases v0
  · obtain ⟨rfl, hs1⟩ : ls = [] ∧ s < 128 := by simpa using f1
    have e : enc ⟨false, s, rs, ro, ks, h, is, []⟩ ++ r = s :: rs :: ro :: (short ks.length ++ (ks.flatten ++ (h ++ (short is.length ++ (is.flatMap encIn ++ r))))) := by
      simp [enc, encHead, encTail]
    rw [e]
    have e1 : pFirst (s :: rs :: ro :: (short ks.length ++ (ks.flatten ++ (h ++ (short is.length ++ (is.flatMap encIn ++ r)))))) = .ok ((false, s), rs :: ro :: (short ks.length ++ (ks.flatten ++ (h ++ (short is.length ++ (is.flatMap encIn ++ r)))))) := by
      unfold pFirst
      simp only [pOctet]
      rw [if_neg (by omega), if_neg (by omega)]
    unfold pMsg
    rw [e1]
    simp only [pOctet, k1, k2, k3, pLooks, Bool.false_eq_true, if_false]
  · have e : enc ⟨true, s, rs, ro, ks, h, is, ls⟩ ++ r = 128 :: s :: rs :: ro :: (short ks.length ++ (ks.flatten ++ (h ++ (short is.length ++ (is.flatMap encIn ++ (short ls.length ++ (ls.flatMap encLook ++ r))))))) := by
      simp [enc, encHead, encTail]
    rw [e]
    have e1 : pFirst (128 :: s :: rs :: ro :: (short ks.length ++ (ks.flatten ++ (h ++ (short is.length ++ (is.flatMap encIn ++ (short ls.length ++ (ls.flatMap encLook ++ r)))))))) = .ok ((true, s), rs :: ro :: (short ks.length ++ (ks.flatten ++ (h ++ (short is.length ++ (is.flatMap encIn ++ (short ls.length ++ (ls.flatMap encLook ++ r)))))))) := by
      unfold pFirst
      simp only [pOctet]
      rw [if_neg (by omega), if_pos trivial]
    unfold pMsg
    rw [e1]
    simp only [pOctet, k1, k2, k3, k4, pLooks, if_true]
end Go.Proofs.YtdgbodljmdcagaaGreatDoor

/-
  Of part RefAt: what is needed here.
-/
namespace Go.Proofs.YtdgbodljmdcagaaGreatDoor
open Go.RowKit
set_option linter.unusedVariables false
set_option maxRecDepth 100000
/-- two that may come up -/
theorem readyL2 {P : Program} {L : List Oper} {Q : Exit → Act → World → Prop} {md : Region.Mode} {S : World → Prop} {i j : Nat} {o o' : Oper} {fuel : Nat} {listed : Array Bool} {a : Act} {w : World} (ho : L[i]? = some o) (ho' : L[j]? = some o') (hr : Region.ready md L.toArray listed = [i, j])
    (hw : Region.wanted o (yielded L.toArray a.tmps) = true) (hw' : Region.wanted o' (yielded L.toArray a.tmps) = true)
    (h : ∀ K' : Act → World → Prop, Shut (∀ a w, S w → wpAnyH P md L.toArray Q S fuel (listed.setIfInBounds i true) a w → K' a w) → Oper.wp P o a w K' Q)
    (h' : ∀ K' : Act → World → Prop, Shut (∀ a w, S w → wpAnyH P md L.toArray Q S fuel (listed.setIfInBounds j true) a w → K' a w) → Oper.wp P o' a w K' Q) : wpAnyH P md L.toArray Q S (fuel + 1) listed a w :=
  wpAnyH_ready hr (by simp) (AllReadyH.cons (by simpa using ho) (fun K hK => by
    rw [if_pos hw]
    exact h K (fun a w hS hW => hK a w hS fun _ => hW)) (AllReadyH.cons (by simpa using ho') (fun K hK => by
    rw [if_pos hw']
    exact h' K (fun a w hS hW => hK a w hS fun _ => hW)) AllReadyH.nil))
section
variable {P : Program}
/-- 'wpList_buildOne' as one step -/
theorem wp_buildOne {o : Oper} {a : Act} {w : World} {K : Act → World → Prop} {Q : Exit → Act → World → Prop} (t e : TypeId) (y : Operand) (ho : o.op = .buildSlice t 1 #[(0, y)])
    (cs : List Value) (z : Value) (size bytes : Nat) (hu : P.underlying t = some (.slice e)) (hi : (P.info? e).map (fun i => (i.zero, i.size, i.bytes)) = some (some z, size, bytes)) (hzs : z.cells.size = size) (hs0 : 0 < size) (hs1 : size ≤ 1000)
    (hcs : cs.length = size) (hy : a.eval y = .agg cs.toArray)
    (h : K (a.put o.dst (.slice (some ⟨w.heap.size, 0, none⟩) 1 1)) (w.alloc (.cells cs.toArray e))) : o.wp P a w K Q := by
  obtain ⟨ie, hie, h1, h2, _⟩ := info_parts hi
  subst h2
  refine wp_buildSlice t e 1 _ ho cs.toArray ie z hu hie h1 (by omega) (by omega) ?_ h
  have := Go.Great.fill_whole (s := ie.size) hs0 [Value.agg cs.toArray] ((Array.range (1 * ie.size)).map (z.cells[· % z.cells.size]!)) (by simp [Value.cells, hcs]) (by simp)
  simpa [hy, Value.cells] using this
/-- 'wpList_addRow' as one step -/
theorem wp_addRow {w0 : World} {c : Array Value} {o : Oper} {a : Act} {K : Act → World → Prop} {Q : Exit → Act → World → Prop} (s x : Operand) (t : TypeId)
    (ho : o.op = .call { callee := .builtin .append, args := #[s, x], argTypes := #[t, t] })
    (base : Nat) (e : TypeId) (z : Value) (size bytes : Nat) (ht : P.underlying t = some (.slice e)) (hi : (P.info? e).map (fun i => (i.zero, i.size, i.bytes)) = some (some z, size, bytes)) (hzs : z.cells.size = size) (hs0 : 0 < size)
    (v : Value) (n : Nat) (xs cs : List Value) (cc : Nat) (hcs : cs.length = size) (h1 : ∀ u ∈ cs, u.oneCell' = true) (hc : c = cs.toArray) (hs : a.eval s = v) (hown : w0.ownsRow base e size v n xs)
    (hx : a.eval x = .slice (some ⟨w0.heap.size, 0, none⟩) 1 cc) (hbase : base ≤ w0.heap.size) (hnm : n + 1 ≤ maxLen) (hbytes : (n + 1) * bytes ≤ 140737488355328)
    (h : ∀ v' w', w'.ownsRow base e size v' (n + 1) (xs ++ cs) → Grew w0 w' v v' → K (a.put o.dst v') w') : o.wp P a (w0.alloc (.cells c e)) K Q := by
  subst hc
  obtain ⟨i0, hi, hz0, hz1, hz2⟩ := info_parts hi
  have hr := Row.new w0 e cs
  obtain ⟨v', w', hrun, h2, h3, _, h5⟩ := run_append_own_at (P := P) (w0.alloc (.cells cs.toArray e)) base t o.type e i0 z size bytes ht hi hz0 hz1 hz2 hzs hs0 v n xs (hown.alloc _) ⟨w0.heap.size, 0, none⟩ 1 cc cs (by omega)
    (fun j u hu => by rw [addr_row, hr.cell]; simpa using hu) h1 hnm hbytes (by simp; omega)
  unfold Oper.wp execOp
  simp only [ho, resolve, invoke, builtin, Sem.run_bind, Sem.run_pure, Result.andThen_ok, List.map_toArray, List.map_cons, List.map_nil, hs, hx, hrun]
  refine h v' w' h2 ((Grew.of_below ((Below.refl _ w0).alloc (Nat.le_refl _) _) v).trans ⟨h3, fun k hk => ?_⟩)
  rcases h5 with h5 | h5
  · exact .inl (h5 ▸ hk)
  · rw [h5] at hk
    cases hk
    exact .inr (Nat.le_refl _)
end
theorem own_formN {w : World} {base : Nat} {e : TypeId} {size : Nat} {v : Value} {n : Nat} {xs : List Value} (h : w.ownsRow base e size v n xs) : ∃ A c, v = .slice A n c := by
  rcases h.2 with ⟨rfl, rfl⟩ | ⟨g, cap, cur, rfl, _⟩
  · exact ⟨_, _, rfl⟩
  · exact ⟨_, _, rfl⟩
theorem LVR.grew {α : Type} {EV : World → Nat → Nat → List Value → α → Prop} {e size : Nat} {w w' : World} {lo hi : Nat} {v : Value} {l : List α} {lo2 n size2 : Nat} {e2 : TypeId} {u u' : Value} {xs : List Value}
    (h : LVR EV e size w lo hi v l) (hg : Grew w w' u u') (ho : w.ownsRow lo2 e2 size2 u n xs) (hh : hi ≤ lo2) : LVR EV e size w' lo hi v l := by
  obtain ⟨w0, css, L, R, h1, h2, h3, h4⟩ := h
  have := hg.size
  refine ⟨w0, css, L, R, h1, h2, by omega, fun k a b => (hg.grown.block k (by omega) fun e' => ?_).trans (h4 k a b)⟩
  have := (ho.lt k e'.symm).1
  omega
end Go.Proofs.YtdgbodljmdcagaaGreatDoor

/-
  Of part BookK: what is needed here.
-/
namespace Go.Proofs.YtdgbodljmdcagaaGreatDoor
open Go.RowKit
set_option linter.unusedVariables false
set_option maxRecDepth 100000
/-- a key's mark -/
def kz (a b l : Int) : List Int := [a, b, 77, 0, 0, 0, 0, 0, 0, 0, 0, 0, 0, 0, 0, 0, 0, 0, 0, 0, 0, 0, 0, 0, 0, 0, 0, 0, 0, 0, 0, l]
theorem built_key (a b l : Int) : Tryz.prog.built 78 [(0, .int .u8 a), (1, .int .u8 b), (2, .int .u8 77), (31, .int .u8 l)] = some (bv (kz a b l)).toArray := by kernel_rfl
theorem built_sheet (B : Option Addr) (m d : Nat) (z1 z2 : List Int) (h1 : z1.length = 32) (h2 : z2.length = 32) : Tryz.prog.built 208 [(0, .slice B m d), (1, .agg (bv z1).toArray), (2, .agg (bv z2).toArray)] = some (sheetCells (.slice B m d) z1 z2).toArray := by
  obtain ⟨f, rfl⟩ : ∃ f : Fin 32 → Int, z1 = List.ofFn f := ⟨fun i => z1.getD i 0, by
    refine List.ext_getElem (by simpa using h1) fun i h3 h4 => ?_
    rw [List.getElem_ofFn, List.getD_eq_getElem?_getD, List.getElem?_eq_getElem h3]
    rfl⟩
  obtain ⟨g, rfl⟩ : ∃ f : Fin 32 → Int, z2 = List.ofFn f := ⟨fun i => z2.getD i 0, by
    refine List.ext_getElem (by simpa using h2) fun i h3 h4 => ?_
    rw [List.getElem_ofFn, List.getD_eq_getElem?_getD, List.getElem?_eq_getElem h3]
    rfl⟩
  kernel_rfl
theorem exec_built {a : Act} {o : Oper} (w : World) (t : TypeId) (parts : Array (Nat × Operand)) (cells : Array Value) (ho : o.op = .build t parts) (h : Tryz.prog.built t (parts.map fun (i, x) => (i, a.eval x)).toList = some cells) : (execOp a.eval o).run Tryz.prog w = .ok (.value (.agg cells)) w := by
  simp only [execOp, ho, Sem.run_bind, run_build w t _ cells h, Result.andThen_ok]
  rfl
theorem wp_built {o : Oper} {a : Act} {w : World} {K : Act → World → Prop} {Q : Exit → Act → World → Prop} (t : TypeId) (parts : Array (Nat × Operand)) (cells : Array Value) (ho : o.op = .build t parts)
    (h : Tryz.prog.built t (parts.map fun (i, x) => (i, a.eval x)).toList = some cells) (hK : K (a.put o.dst (.agg cells)) w) : o.wp Tryz.prog a w K Q :=
  wp_build t parts ho (by rw [h]; rfl) (by rw [h]; exact hK)
/-- of the blocks below 'base' only p has been written -/
structure ButOne (base p : Nat) (w w' : World) : Prop where
  os : w'.os = w.os
  tape : w'.tape = w.tape
  output : w'.output = w.output
  size : w.heap.size ≤ w'.heap.size
  block : ∀ k, k < base → k ≠ p → w'.heap[k]? = w.heap[k]?
theorem ButOne.refl (base p : Nat) (w : World) : ButOne base p w w := ⟨rfl, rfl, rfl, Nat.le_refl _, fun _ _ _ => rfl⟩
theorem ButOne.trans {base p : Nat} {a b c : World} (h : ButOne base p a b) (k : ButOne base p b c) : ButOne base p a c :=
  ⟨k.os.trans h.os, k.tape.trans h.tape, k.output.trans h.output, Nat.le_trans h.size k.size, fun i hi hp => (k.block i hi hp).trans (h.block i hi hp)⟩
theorem ButOne.below {base p B : Nat} {a b : World} (h : ButOne base p a b) (hB : B ≤ base) (hp : B ≤ p) : Below B a b :=
  ⟨h.os, h.tape, h.output, h.size, fun k hk => h.block k (by omega) (by omega)⟩
/-- 'AllReadyH.cons', the operations a list -/
theorem allL {P : Program} {L : List Oper} {Q : Exit → Act → World → Prop} {md : Region.Mode} {S : World → Prop} {i : Nat} {o : Oper} {fuel : Nat} {listed : Array Bool} {a : Act} {w : World} {rs : List Nat} (ho : L[i]? = some o)
    (hw : Region.wanted o (yielded L.toArray a.tmps) = true)
    (h : ∀ K' : Act → World → Prop, Shut (∀ a w, S w → wpAnyH P md L.toArray Q S fuel (listed.setIfInBounds i true) a w → K' a w) → Oper.wp P o a w K' Q)
    (hs : AllReadyH P md L.toArray Q S fuel listed a w rs) : AllReadyH P md L.toArray Q S fuel listed a w (i :: rs) :=
  AllReadyH.cons (by simpa using ho) (fun K hK => by
    rw [if_pos hw]
    exact h K (fun a w hS hW => hK a w hS fun _ => hW)) hs
set_option maxRecDepth 100000 in
set_option maxHeartbeats 800000 in
theorem keyMark (x y : Int) (w : World) : Calls Tryz.prog 98 #[.int .i64 x, .int .u8 y] w fun e w' => ∃ z, e = .returned (.agg (bv z).toArray) ∧ z.length = 32 ∧ Below w.heap.size w w' := by
  go_enter Tryz.func98, Tryz.ntmps98
  go_wp2_with (first
    | ((with_reducible show wpList _ _ _ ({ dst := some 11, op := Op.build _ _, type := _, pos := _, after := _, guard := _ } :: _) _ _); go_must (refine wpList_plain rfl fun K hK => wp_built _ _ _ rfl (by simp only [List.map_toArray, List.map_cons, List.map_nil]; exact built_key _ _ _) (hK _ _ ?_)))
    | ((with_reducible show wpList _ _ _ ({ dst := none, op := Op.store 78 _ _, type := _, pos := _, after := _, guard := _ } :: _) _ _); go_must (refine wpList_store_new rfl 78 (.tmp 4) (.tmp 11) rfl (bv (kz (x % 256) (wrap64 (x.tdiv 256) % 256) y)) size_key (bv_one _) rfl ?_ ?_ ?_; go_simp; go_simp; intro w1 hr1 hb1 hz1; have HR1 := Lib.hid hr1; have HB1 := Lib.hid hb1; clear hr1 hb1)))
  refine bodyPost_ret (results_cell_row (h := rfl) _ w1 w.heap.size 78 _ (0, 0) _ (by rfl) HR1.out.is Tryz.underlying78 rfl size_key) rfl ?_
  exact ⟨_, rfl, rfl, HB1.out⟩
/-- block k holds no pages -/
def NoPages (w : World) (k : Nat) : Prop := ∀ xs fr, w.heap[k]? ≠ some (.cells xs 115 fr)
/-- a book, its pages of the call's own, from world w0 on -/
structure BookW (w0 : World) (p base : Nat) (A : Option Addr) (n c : Nat) (ps : List Value) (w : World) : Prop where
  row : Row w p 60 [.slice A n c]
  own : w.ownsRow base 115 1 (.slice A n c) n ps
  one : ButOne base p w0 w
  lt : base ≤ w.heap.size
  keep : ∀ k, k < w0.heap.size → k ≠ p → NoPages w0 k → w.heap[k]? = w0.heap[k]?
section
variable {w0 w w' : World} {p base n c : Nat} {A : Option Addr} {ps : List Value}
theorem BookW.start (h : BookW w0 p base A n c ps w) : BookW w p base A n c ps w := ⟨h.row, h.own, ButOne.refl _ _ _, h.lt, fun _ _ _ _ => rfl⟩
theorem BookW.trans {A' : Option Addr} {n' c' : Nat} {ps' : List Value} (h : BookW w0 p base A n c ps w) (h' : BookW w p base A' n' c' ps' w') : BookW w0 p base A' n' c' ps' w' :=
  ⟨h'.row, h'.own, h.one.trans h'.one, h'.lt, fun k hk hp hn => by
    have e := h.keep k hk hp hn
    refine (h'.keep k (Nat.lt_of_lt_of_le hk h.one.size) hp ?_).trans e
    intro xs fr
    rw [e]
    exact hn xs fr⟩
theorem BookW.below (h : BookW w0 p base A n c ps w) (hb : Below w.heap.size w w') : BookW w0 p base A n c ps w' :=
  ⟨h.row.below hb h.row.lt, own_below h.own hb, h.one.trans ⟨hb.os, hb.tape, hb.output, hb.size, fun k hk _ => hb.block k (by have := h.lt; omega)⟩, by have := h.lt; have := hb.size; omega,
    fun k hk hp hn => (hb.block k (Nat.lt_of_lt_of_le hk h.one.size)).trans (h.keep k hk hp hn)⟩
theorem BookW.alloc (h : BookW w0 p base A n c ps w) (o : Obj) : BookW w0 p base A n c ps (w.alloc o) := h.below ((Below.refl _ _).alloc (Nat.le_refl _) o)
theorem BookW.drewN (h : BookW w0 p base A n c ps w) (k : Nat) : BookW w0 p base A n c ps (w.drewN k) := ⟨h.row.drewN k, h.own, ⟨h.one.os, h.one.tape, h.one.output, h.one.size, h.one.block⟩, h.lt, h.keep⟩
theorem own_pages {v : Value} {m : Nat} (h : w.ownsRow base 115 1 v m ps) {k : Nat} (hn : NoPages w k) : some k ≠ v.ownBlock := by
  rcases h.2 with ⟨rfl, _⟩ | ⟨g', cap, cur, rfl, _, hh, _⟩
  · simp [Value.ownBlock]
  · intro he
    have hg : k = g' := by simpa [Value.ownBlock] using he
    subst hg
    exact hn _ _ hh
theorem BookW.last {q : List Value} {m : Nat} {A' : Option Addr} {c' : Nat} (h : BookW w0 p base A n c ps w) (hr : Row w' p 60 [.slice A n c]) (ho : w'.ownsRow base 115 1 (.slice A' m c') m (ps ++ q)) (hg : w.grownBy w' (Value.slice A n c).ownBlock) :
    BookW w0 p base A' m c' (ps ++ q) (w'.setCell ⟨p, 0, none⟩ (.slice A' m c')) := by
  have hT := turned_setCell w' ⟨p, 0, none⟩ (.slice A' m c')
  have hz := hg.size
  have hl := h.lt
  refine ⟨hr.set_ 0 _, own_far ho hr (by decide) 0 _, h.one.trans ⟨hg.os, hg.tape, hg.output, ?_, fun k hk hp => ?_⟩, by rw [hT.size]; omega, fun k hk hp hn => ?_⟩
  · rw [hT.size]; exact hz
  · rw [hT.block k hp]
    exact hg.block k (by omega) fun e => by have := (h.own.lt k e.symm).1; omega
  · have e := h.keep k hk hp hn
    rw [hT.block k hp]
    refine (hg.block k (Nat.lt_of_lt_of_le hk h.one.size) (own_pages h.own ?_)).trans e
    intro xs fr
    rw [e]
    exact hn xs fr
/-- a row of other things stays -/
theorem BookW.rowK {g t : Nat} {xs : List Value} (h : BookW w0 p base A n c ps w) (hr : Row w0 g t xs) (hg : g ≠ p) (ht : t ≠ 115) : Row w g t xs :=
  ⟨(h.keep g hr.lt hg (fun ys fr e => by
    rw [hr.is] at e
    injection e with e
    injection e with _ e
    exact ht e)).trans hr.is⟩
end
set_option maxHeartbeats 400000 in
theorem bookBytesW (p base : Nat) (A B : Option Addr) (n c m d : Nat) (ps : List Value) (w0 w : World) (h : BookW w0 p base A n c ps w) (hn : n ≤ 1000000) :
    Calls Tryz.prog 19 #[.pointer (some ⟨p, 0, none⟩), .slice B m d] w fun e w' => ∃ hh ff A' c', e = .returned (.tuple #[]) ∧
      BookW w0 p base A' (n + 1) c' (ps ++ [.iface 110 (.agg #[.slice B m d, .int .u8 hh, .int .u8 ff])]) w' := by
  obtain ⟨i0, hi, hz0, hz1, hz2⟩ := info_parts info_page
  have c0 : w.cell? ⟨p, 0, none⟩ = some (.slice A n c) := h.row.cell 0
  have f0 := h.row.frozen 0
  have HN := Lib.hid (number_ p A n c w h.row hn)
  have HH := Lib.hid h
  let q : Value := .iface 110 (.agg #[.slice B m d, .int .u8 (((n : Int) + 1) % 256), .int .u8 (255 - ((n : Int) + 1) % 256)])
  have hsees := (Row.new w 115 [q]).sees0
  have HH1 := Lib.hid (h.alloc (.cells [q].toArray 115))
  have hown1 := HH1.out.own
  have hone : ∀ u ∈ [q], u.oneCell' = true := by simp [q, Value.oneCell']
  have hbase := HH1.out.lt
  clear h
  go_enter Tryz.func19, Tryz.ntmps19
  go_wp2_with fail
  refine HN.out.mono ?_
  rintro e w1 ⟨rfl, rfl⟩
  go_wp2_with (at_builtin; go_must (refine wpList_append_sees rfl (.tmp 12) (.tmp 19) 58 rfl base 115 i0 _ 16 Tryz.underlying58 hi hz0 hz1 hz2 rfl _ n _ rfl hown1 _ _ 1 _ _ rfl hsees hone (by unfold maxLen; omega) (by omega) hbase ?_); intro v2 w2 hown2 hg2 hat2; have hR2 := HH1.out.row.grown hg2 (own_row_ne HH1.out.own HH1.out.row (by decide)); have c2 : w2.cell? ⟨p, 0, none⟩ = some (.slice A n c) := hR2.cell 0; have f2 := hR2.frozen 0; obtain ⟨A', c', rfl⟩ := own_form hown2; have HR2 := Lib.hid hR2; clear hR2)
  go_end0
  exact ⟨_, _, A', c', rfl, HH1.out.last HR2.out hown2 hg2⟩
set_option maxRecDepth 100000 in
set_option maxHeartbeats 4000000 in
theorem bookKeys (p base : Nat) (A B : Option Addr) (n c m d : Nat) (ps : List Value) (w0 w : World) (h : BookW w0 p base A n c ps w) (hn : n ≤ 1000000) :
    Calls Tryz.prog 99 #[.pointer (some ⟨p, 0, none⟩), .slice B m d] w fun e w' => ∃ z1 z2 A' c', e = .returned (.tuple #[]) ∧ z1.length = 32 ∧ z2.length = 32 ∧
      BookW w0 p base A' (n + 1) c' (ps ++ [.iface 208 (.agg (sheetCells (.slice B m d) z1 z2).toArray)]) w' := by
  obtain ⟨i0, hi, hz0, hz1, hz2⟩ := info_parts info_page
  have HI := Lib.hid (And.intro hi (And.intro hz0 (And.intro hz1 hz2)))
  have HN := Lib.hid (number_ p A n c w h.row hn)
  have H0 := Lib.hid (h.drewN 1)
  clear h hi hz0 hz1 hz2
  go_enter Tryz.func99, Tryz.ntmps99
  go_wp2_with fail
  refine HN.out.mono ?_
  rintro e w1 ⟨rfl, rfl⟩
  go_wp2_with fail
  refine wp_region_held (S := fun _ => True) (by kernel_rfl) ?_
  try (change wpAnyH _ _ _ _ _ _ _ _ (World.drew _))
  refine takeL (i := 0) (v := ?_) rfl (by kernel_rfl) (by kernel_rfl) (by kernel_rfl) (fun _ _ _ h => h) (Or.inl ⟨by rfl, ?_⟩) trivial ?_
  rotate_left
  · intro w _
    go_simp
    try with_reducible rfl
  try simp only [Act.put, List.setIfInBounds_toArray, List.set_cons_zero, List.set_cons_succ]
  refine takeL (i := 1) (v := ?_) rfl (by kernel_rfl) (by kernel_rfl) (by kernel_rfl) (fun _ _ _ h => h) (Or.inl ⟨by rfl, ?_⟩) trivial ?_
  rotate_left
  · intro w _
    go_simp
    try with_reducible rfl
  try simp only [Act.put, List.setIfInBounds_toArray, List.set_cons_zero, List.set_cons_succ]
  refine takeL (i := 2) (v := ?_) rfl (by kernel_rfl) (by kernel_rfl) (by kernel_rfl) (fun _ _ _ h => h) (Or.inl ⟨by rfl, ?_⟩) trivial ?_
  rotate_left
  · intro w _
    go_simp
    try with_reducible rfl
  try simp only [Act.put, List.setIfInBounds_toArray, List.set_cons_zero, List.set_cons_succ]
  refine takeL (i := 3) (v := ?_) rfl (by kernel_rfl) (by kernel_rfl) (by kernel_rfl) (fun _ _ _ h => h) (Or.inl ⟨by rfl, ?_⟩) trivial ?_
  rotate_left
  · intro w _
    go_simp
    try with_reducible rfl
  try simp only [Act.put, List.setIfInBounds_toArray, List.set_cons_zero, List.set_cons_succ]
  refine takeL (i := 5) (v := ?_) rfl (by kernel_rfl) (by kernel_rfl) (by kernel_rfl) (fun _ _ _ h => h) (Or.inl ⟨by rfl, ?_⟩) trivial ?_
  rotate_left
  · intro w _
    go_simp
    try with_reducible rfl
  try simp only [Act.put, List.setIfInBounds_toArray, List.set_cons_zero, List.set_cons_succ]
  refine takeL (i := 6) (v := ?_) rfl (by kernel_rfl) (by kernel_rfl) (by kernel_rfl) (fun _ _ _ h => h) (Or.inl ⟨by rfl, ?_⟩) trivial ?_
  rotate_left
  · intro w _
    go_simp
    try with_reducible rfl
  try simp only [Act.put, List.setIfInBounds_toArray, List.set_cons_zero, List.set_cons_succ]
  refine takeL (i := 8) (v := ?_) rfl (by kernel_rfl) (by kernel_rfl) (by kernel_rfl) (fun _ _ _ h => h) (Or.inl ⟨by rfl, ?_⟩) trivial ?_
  rotate_left
  · intro w _
    go_simp
    try with_reducible rfl
  try simp only [Act.put, List.setIfInBounds_toArray, List.set_cons_zero, List.set_cons_succ]
  refine wpAnyH_ready (rs := [4, 7]) (by kernel_rfl) (by simp) ?_
  refine allL rfl (by kernel_rfl) (fun K hK => ?_) (allL rfl (by kernel_rfl) (fun K hK => ?_) (AllReadyH.nil))
  · have c1 : w.drew.cell? ⟨p, 0, none⟩ = some (.slice A n c) := H0.out.row.cell 0
    go_simp
    clear c1
    refine hK _ _ trivial ?_
    clear hK K
    try simp only [Act.put, List.setIfInBounds_toArray, List.set_cons_zero, List.set_cons_succ]
    refine readyL (i := 7) rfl (by kernel_rfl) (by kernel_rfl) fun K hK => ?_
    go_simp
    refine (keyMark _ _ _).mono ?_
    rintro e w12 ⟨z1, rfl, hz1, hb⟩
    have H12 := Lib.hid (H0.out.below hb)
    clear hb
    simp only []
    refine hK _ _ trivial ?_
    clear hK K
    try simp only [Act.put, List.setIfInBounds_toArray, List.set_cons_zero, List.set_cons_succ]
    refine readyL (i := 9) rfl (by kernel_rfl) (by kernel_rfl) fun K hK => ?_
    go_simp
    refine (keyMark _ _ _).mono ?_
    rintro e w23 ⟨z2, rfl, hz2, hb⟩
    have H23 := Lib.hid (H12.out.below hb)
    clear hb
    simp only []
    refine hK _ _ trivial ?_
    clear hK K
    try simp only [Act.put, List.setIfInBounds_toArray, List.set_cons_zero, List.set_cons_succ]
    refine takeL (i := 10) (v := .agg (sheetCells (.slice B m d) z1 z2).toArray) rfl (by kernel_rfl) (by kernel_rfl) (by kernel_rfl) (fun _ _ _ h => h) (Or.inl ⟨by rfl, fun w _ => ?_⟩) trivial ?_
    · exact exec_built w _ _ _ rfl (by simp only [List.map_toArray, List.map_cons, List.map_nil]; exact built_sheet B m d z1 z2 hz1 hz2)
    try simp only [Act.put, List.setIfInBounds_toArray, List.set_cons_zero, List.set_cons_succ]
    refine takeL (i := 11) (v := ?_) rfl (by kernel_rfl) (by kernel_rfl) (by kernel_rfl) (fun _ _ _ h => h) (Or.inl ⟨by rfl, ?_⟩) trivial ?_
    rotate_left
    · intro w _
      go_simp
      try with_reducible rfl
    try simp only [Act.put, List.setIfInBounds_toArray, List.set_cons_zero, List.set_cons_succ]
    refine readyL (i := 12) rfl (by kernel_rfl) (by kernel_rfl) fun K hK => ?_
    go_simp
    refine hK _ _ trivial ?_
    clear hK K
    try simp only [Act.put, List.setIfInBounds_toArray, List.set_cons_zero, List.set_cons_succ]
    have HB4 := Lib.hid (H23.out.alloc (.cells [Value.iface 208 (.agg (sheetCells (.slice B m d) z1 z2).toArray)].toArray 115))
    have hsee := (Row.new w23 115 [Value.iface 208 (.agg (sheetCells (.slice B m d) z1 z2).toArray)]).sees0
    have HSEE := Lib.hid hsee
    clear hsee
    refine readyL (i := 13) rfl (by kernel_rfl) (by kernel_rfl) fun K hK => ?_
    refine wp_append_sees (.tmp 11) (.tmp 19) rfl Tryz.underlying58 HI.out.1 HI.out.2.1 HI.out.2.2.1 HI.out.2.2.2 rfl rfl HB4.out.own rfl HSEE.out (by simp [Value.oneCell']) (by unfold maxLen; omega) (by omega) HB4.out.lt ?_
    intro v5 w5 ho5 hg5 hat5
    obtain ⟨A5, c5, rfl⟩ := own_form ho5
    refine hK _ _ trivial ?_
    clear hK K
    try simp only [Act.put, List.setIfInBounds_toArray, List.set_cons_zero, List.set_cons_succ]
    have hr5 := HB4.out.row.grown hg5 (own_row_ne HB4.out.own HB4.out.row (by decide))
    have e5 : w5.cell? ⟨p, 0, none⟩ = some (.slice A n c) := hr5.cell 0
    have g5 := hr5.frozen 0
    refine takeL (i := 14) (v := ?_) rfl (by kernel_rfl) (by kernel_rfl) (by kernel_rfl) (fun _ _ _ h => h) (Or.inl ⟨by rfl, ?_⟩) trivial ?_
    rotate_left
    · intro w _
      go_simp
      try with_reducible rfl
    try simp only [Act.put, List.setIfInBounds_toArray, List.set_cons_zero, List.set_cons_succ]
    refine takeL (i := 15) (v := ?_) rfl (by kernel_rfl) (by kernel_rfl) (by kernel_rfl) (fun _ _ _ h => h) (Or.inl ⟨by rfl, ?_⟩) trivial ?_
    rotate_left
    · intro w _
      go_simp
      try with_reducible rfl
    try simp only [Act.put, List.setIfInBounds_toArray, List.set_cons_zero, List.set_cons_succ]
    refine readyL (i := 16) rfl (by kernel_rfl) (by kernel_rfl) fun K hK => ?_
    go_simp
    refine hK _ _ trivial ?_
    clear hK K
    try simp only [Act.put, List.setIfInBounds_toArray, List.set_cons_zero, List.set_cons_succ]
    refine wpAnyH_done (by kernel_rfl) ?_ _
    have HE := Lib.hid (HB4.out.last hr5 ho5 hg5)
    clear e5 g5 hr5 ho5 hg5 hat5
    go_wp2_with fail
    go_end0
    exact ⟨z1, z2, A5, c5, rfl, hz1, hz2, HE.out⟩
  · go_simp
    refine (keyMark _ _ _).mono ?_
    rintro e w11 ⟨z1, rfl, hz1, hb⟩
    have H11 := Lib.hid (H0.out.below hb)
    clear hb
    simp only []
    refine hK _ _ trivial ?_
    clear hK K
    try simp only [Act.put, List.setIfInBounds_toArray, List.set_cons_zero, List.set_cons_succ]
    refine wpAnyH_ready (rs := [4, 9]) (by kernel_rfl) (by simp) ?_
    refine allL rfl (by kernel_rfl) (fun K hK => ?_) (allL rfl (by kernel_rfl) (fun K hK => ?_) (AllReadyH.nil))
    · have c2 : w11.cell? ⟨p, 0, none⟩ = some (.slice A n c) := H11.out.row.cell 0
      go_simp
      clear c2
      refine hK _ _ trivial ?_
      clear hK K
      try simp only [Act.put, List.setIfInBounds_toArray, List.set_cons_zero, List.set_cons_succ]
      refine readyL (i := 9) rfl (by kernel_rfl) (by kernel_rfl) fun K hK => ?_
      go_simp
      refine (keyMark _ _ _).mono ?_
      rintro e w23 ⟨z2, rfl, hz2, hb⟩
      have H23 := Lib.hid (H11.out.below hb)
      clear hb
      simp only []
      refine hK _ _ trivial ?_
      clear hK K
      try simp only [Act.put, List.setIfInBounds_toArray, List.set_cons_zero, List.set_cons_succ]
      refine takeL (i := 10) (v := .agg (sheetCells (.slice B m d) z1 z2).toArray) rfl (by kernel_rfl) (by kernel_rfl) (by kernel_rfl) (fun _ _ _ h => h) (Or.inl ⟨by rfl, fun w _ => ?_⟩) trivial ?_
      · exact exec_built w _ _ _ rfl (by simp only [List.map_toArray, List.map_cons, List.map_nil]; exact built_sheet B m d z1 z2 hz1 hz2)
      try simp only [Act.put, List.setIfInBounds_toArray, List.set_cons_zero, List.set_cons_succ]
      refine takeL (i := 11) (v := ?_) rfl (by kernel_rfl) (by kernel_rfl) (by kernel_rfl) (fun _ _ _ h => h) (Or.inl ⟨by rfl, ?_⟩) trivial ?_
      rotate_left
      · intro w _
        go_simp
        try with_reducible rfl
      try simp only [Act.put, List.setIfInBounds_toArray, List.set_cons_zero, List.set_cons_succ]
      refine readyL (i := 12) rfl (by kernel_rfl) (by kernel_rfl) fun K hK => ?_
      go_simp
      refine hK _ _ trivial ?_
      clear hK K
      try simp only [Act.put, List.setIfInBounds_toArray, List.set_cons_zero, List.set_cons_succ]
      have HB4 := Lib.hid (H23.out.alloc (.cells [Value.iface 208 (.agg (sheetCells (.slice B m d) z1 z2).toArray)].toArray 115))
      have hsee := (Row.new w23 115 [Value.iface 208 (.agg (sheetCells (.slice B m d) z1 z2).toArray)]).sees0
      have HSEE := Lib.hid hsee
      clear hsee
      refine readyL (i := 13) rfl (by kernel_rfl) (by kernel_rfl) fun K hK => ?_
      refine wp_append_sees (.tmp 11) (.tmp 19) rfl Tryz.underlying58 HI.out.1 HI.out.2.1 HI.out.2.2.1 HI.out.2.2.2 rfl rfl HB4.out.own rfl HSEE.out (by simp [Value.oneCell']) (by unfold maxLen; omega) (by omega) HB4.out.lt ?_
      intro v5 w5 ho5 hg5 hat5
      obtain ⟨A5, c5, rfl⟩ := own_form ho5
      refine hK _ _ trivial ?_
      clear hK K
      try simp only [Act.put, List.setIfInBounds_toArray, List.set_cons_zero, List.set_cons_succ]
      have hr5 := HB4.out.row.grown hg5 (own_row_ne HB4.out.own HB4.out.row (by decide))
      have e5 : w5.cell? ⟨p, 0, none⟩ = some (.slice A n c) := hr5.cell 0
      have g5 := hr5.frozen 0
      refine takeL (i := 14) (v := ?_) rfl (by kernel_rfl) (by kernel_rfl) (by kernel_rfl) (fun _ _ _ h => h) (Or.inl ⟨by rfl, ?_⟩) trivial ?_
      rotate_left
      · intro w _
        go_simp
        try with_reducible rfl
      try simp only [Act.put, List.setIfInBounds_toArray, List.set_cons_zero, List.set_cons_succ]
      refine takeL (i := 15) (v := ?_) rfl (by kernel_rfl) (by kernel_rfl) (by kernel_rfl) (fun _ _ _ h => h) (Or.inl ⟨by rfl, ?_⟩) trivial ?_
      rotate_left
      · intro w _
        go_simp
        try with_reducible rfl
      try simp only [Act.put, List.setIfInBounds_toArray, List.set_cons_zero, List.set_cons_succ]
      refine readyL (i := 16) rfl (by kernel_rfl) (by kernel_rfl) fun K hK => ?_
      go_simp
      refine hK _ _ trivial ?_
      clear hK K
      try simp only [Act.put, List.setIfInBounds_toArray, List.set_cons_zero, List.set_cons_succ]
      refine wpAnyH_done (by kernel_rfl) ?_ _
      have HE := Lib.hid (HB4.out.last hr5 ho5 hg5)
      clear e5 g5 hr5 ho5 hg5 hat5
      go_wp2_with fail
      go_end0
      exact ⟨z1, z2, A5, c5, rfl, hz1, hz2, HE.out⟩
    · go_simp
      refine (keyMark _ _ _).mono ?_
      rintro e w22 ⟨z2, rfl, hz2, hb⟩
      have H22 := Lib.hid (H11.out.below hb)
      clear hb
      simp only []
      refine hK _ _ trivial ?_
      clear hK K
      try simp only [Act.put, List.setIfInBounds_toArray, List.set_cons_zero, List.set_cons_succ]
      refine takeL (i := 10) (v := .agg (sheetCells (.slice B m d) z1 z2).toArray) rfl (by kernel_rfl) (by kernel_rfl) (by kernel_rfl) (fun _ _ _ h => h) (Or.inl ⟨by rfl, fun w _ => ?_⟩) trivial ?_
      · exact exec_built w _ _ _ rfl (by simp only [List.map_toArray, List.map_cons, List.map_nil]; exact built_sheet B m d z1 z2 hz1 hz2)
      try simp only [Act.put, List.setIfInBounds_toArray, List.set_cons_zero, List.set_cons_succ]
      refine takeL (i := 11) (v := ?_) rfl (by kernel_rfl) (by kernel_rfl) (by kernel_rfl) (fun _ _ _ h => h) (Or.inl ⟨by rfl, ?_⟩) trivial ?_
      rotate_left
      · intro w _
        go_simp
        try with_reducible rfl
      try simp only [Act.put, List.setIfInBounds_toArray, List.set_cons_zero, List.set_cons_succ]
      refine wpAnyH_ready (rs := [4, 12]) (by kernel_rfl) (by simp) ?_
      refine allL rfl (by kernel_rfl) (fun K hK => ?_) (allL rfl (by kernel_rfl) (fun K hK => ?_) (AllReadyH.nil))
      · have c3 : w22.cell? ⟨p, 0, none⟩ = some (.slice A n c) := H22.out.row.cell 0
        go_simp
        clear c3
        refine hK _ _ trivial ?_
        clear hK K
        try simp only [Act.put, List.setIfInBounds_toArray, List.set_cons_zero, List.set_cons_succ]
        refine readyL (i := 12) rfl (by kernel_rfl) (by kernel_rfl) fun K hK => ?_
        go_simp
        refine hK _ _ trivial ?_
        clear hK K
        try simp only [Act.put, List.setIfInBounds_toArray, List.set_cons_zero, List.set_cons_succ]
        have HB4 := Lib.hid (H22.out.alloc (.cells [Value.iface 208 (.agg (sheetCells (.slice B m d) z1 z2).toArray)].toArray 115))
        have hsee := (Row.new w22 115 [Value.iface 208 (.agg (sheetCells (.slice B m d) z1 z2).toArray)]).sees0
        have HSEE := Lib.hid hsee
        clear hsee
        refine readyL (i := 13) rfl (by kernel_rfl) (by kernel_rfl) fun K hK => ?_
        refine wp_append_sees (.tmp 11) (.tmp 19) rfl Tryz.underlying58 HI.out.1 HI.out.2.1 HI.out.2.2.1 HI.out.2.2.2 rfl rfl HB4.out.own rfl HSEE.out (by simp [Value.oneCell']) (by unfold maxLen; omega) (by omega) HB4.out.lt ?_
        intro v5 w5 ho5 hg5 hat5
        obtain ⟨A5, c5, rfl⟩ := own_form ho5
        refine hK _ _ trivial ?_
        clear hK K
        try simp only [Act.put, List.setIfInBounds_toArray, List.set_cons_zero, List.set_cons_succ]
        have hr5 := HB4.out.row.grown hg5 (own_row_ne HB4.out.own HB4.out.row (by decide))
        have e5 : w5.cell? ⟨p, 0, none⟩ = some (.slice A n c) := hr5.cell 0
        have g5 := hr5.frozen 0
        refine takeL (i := 14) (v := ?_) rfl (by kernel_rfl) (by kernel_rfl) (by kernel_rfl) (fun _ _ _ h => h) (Or.inl ⟨by rfl, ?_⟩) trivial ?_
        rotate_left
        · intro w _
          go_simp
          try with_reducible rfl
        try simp only [Act.put, List.setIfInBounds_toArray, List.set_cons_zero, List.set_cons_succ]
        refine takeL (i := 15) (v := ?_) rfl (by kernel_rfl) (by kernel_rfl) (by kernel_rfl) (fun _ _ _ h => h) (Or.inl ⟨by rfl, ?_⟩) trivial ?_
        rotate_left
        · intro w _
          go_simp
          try with_reducible rfl
        try simp only [Act.put, List.setIfInBounds_toArray, List.set_cons_zero, List.set_cons_succ]
        refine readyL (i := 16) rfl (by kernel_rfl) (by kernel_rfl) fun K hK => ?_
        go_simp
        refine hK _ _ trivial ?_
        clear hK K
        try simp only [Act.put, List.setIfInBounds_toArray, List.set_cons_zero, List.set_cons_succ]
        refine wpAnyH_done (by kernel_rfl) ?_ _
        have HE := Lib.hid (HB4.out.last hr5 ho5 hg5)
        clear e5 g5 hr5 ho5 hg5 hat5
        go_wp2_with fail
        go_end0
        exact ⟨z1, z2, A5, c5, rfl, hz1, hz2, HE.out⟩
      · go_simp
        refine hK _ _ trivial ?_
        clear hK K
        try simp only [Act.put, List.setIfInBounds_toArray, List.set_cons_zero, List.set_cons_succ]
        have HB3 := Lib.hid (H22.out.alloc (.cells [Value.iface 208 (.agg (sheetCells (.slice B m d) z1 z2).toArray)].toArray 115))
        have hsee := (Row.new w22 115 [Value.iface 208 (.agg (sheetCells (.slice B m d) z1 z2).toArray)]).sees0
        have HSEE := Lib.hid hsee
        clear hsee
        refine readyL (i := 4) rfl (by kernel_rfl) (by kernel_rfl) fun K hK => ?_
        have c4 : (w22.alloc (.cells [Value.iface 208 (.agg (sheetCells (.slice B m d) z1 z2).toArray)].toArray 115)).cell? ⟨p, 0, none⟩ = some (.slice A n c) := HB3.out.row.cell 0
        go_simp
        clear c4
        refine hK _ _ trivial ?_
        clear hK K
        try simp only [Act.put, List.setIfInBounds_toArray, List.set_cons_zero, List.set_cons_succ]
        refine readyL (i := 13) rfl (by kernel_rfl) (by kernel_rfl) fun K hK => ?_
        refine wp_append_sees (.tmp 11) (.tmp 19) rfl Tryz.underlying58 HI.out.1 HI.out.2.1 HI.out.2.2.1 HI.out.2.2.2 rfl rfl HB3.out.own rfl HSEE.out (by simp [Value.oneCell']) (by unfold maxLen; omega) (by omega) HB3.out.lt ?_
        intro v5 w5 ho5 hg5 hat5
        obtain ⟨A5, c5, rfl⟩ := own_form ho5
        refine hK _ _ trivial ?_
        clear hK K
        try simp only [Act.put, List.setIfInBounds_toArray, List.set_cons_zero, List.set_cons_succ]
        have hr5 := HB3.out.row.grown hg5 (own_row_ne HB3.out.own HB3.out.row (by decide))
        have e5 : w5.cell? ⟨p, 0, none⟩ = some (.slice A n c) := hr5.cell 0
        have g5 := hr5.frozen 0
        refine takeL (i := 14) (v := ?_) rfl (by kernel_rfl) (by kernel_rfl) (by kernel_rfl) (fun _ _ _ h => h) (Or.inl ⟨by rfl, ?_⟩) trivial ?_
        rotate_left
        · intro w _
          go_simp
          try with_reducible rfl
        try simp only [Act.put, List.setIfInBounds_toArray, List.set_cons_zero, List.set_cons_succ]
        refine takeL (i := 15) (v := ?_) rfl (by kernel_rfl) (by kernel_rfl) (by kernel_rfl) (fun _ _ _ h => h) (Or.inl ⟨by rfl, ?_⟩) trivial ?_
        rotate_left
        · intro w _
          go_simp
          try with_reducible rfl
        try simp only [Act.put, List.setIfInBounds_toArray, List.set_cons_zero, List.set_cons_succ]
        refine readyL (i := 16) rfl (by kernel_rfl) (by kernel_rfl) fun K hK => ?_
        go_simp
        refine hK _ _ trivial ?_
        clear hK K
        try simp only [Act.put, List.setIfInBounds_toArray, List.set_cons_zero, List.set_cons_succ]
        refine wpAnyH_done (by kernel_rfl) ?_ _
        have HE := Lib.hid (HB3.out.last hr5 ho5 hg5)
        clear e5 g5 hr5 ho5 hg5 hat5
        go_wp2_with fail
        go_end0
        exact ⟨z1, z2, A5, c5, rfl, hz1, hz2, HE.out⟩
end Go.Proofs.YtdgbodljmdcagaaGreatDoor

/-
  Of part CameIn: what is needed here.
-/
namespace Go.Proofs.YtdgbodljmdcagaaGreatDoor
open Go.RowKit
set_option linter.unusedVariables false
set_option maxRecDepth 100000
/-- a slice that came in reads as the numbers zs, each fitting its kind -/
structure CameIn (k : IntKind) (w : World) (A : Option Addr) (n c : Nat) (zs : List Int) : Prop where
  sees : Sees w w.heap.size A n (cv k zs)
  cap : n ≤ c
  max : c ≤ maxLen
  wf : ∀ z ∈ zs, (Lit.int k z).wf = true
theorem CameIn.nil (k : IntKind) (w : World) : CameIn k w none 0 0 [] := ⟨Sees.nil _ _ _, Nat.le_refl _, Nat.zero_le _, by simp⟩
theorem CameIn.of {k : IntKind} {w : World} {x : Addr} {l c : Nat} {zs : List Int} (hl : l ≤ c) (hm : c ≤ maxLen) (hz : zs.length = c)
    (hcell : ∀ i, i < zs.length → w.cell? (x.add i) = some (.int k (zs.getD i 0))) (hw : ∀ z ∈ zs, (Lit.int k z).wf = true) : CameIn k w (some x) l c (zs.take l) :=
  ⟨⟨by simp [cv]; omega, fun i u hu => by
    have hi : i < l ∧ i < zs.length := by
      have := (List.getElem?_eq_some_iff.1 hu).1
      simp [cv] at this
      omega
    have hc := hcell i hi.2
    have hu' : u = .int k (zs.getD i 0) := by
      simp [cv, hi.1, hi.2] at hu
      rw [List.getD_eq_getElem?_getD, List.getElem?_eq_getElem hi.2]
      exact hu.symm
    refine ⟨x, rfl, ?_, by rw [hu']; exact hc⟩
    have := World.block_lt_of_cell? w _ hc
    rwa [addr_block] at this⟩, hl, hm, fun z hz => hw z (List.mem_of_mem_take hz)⟩
end Go.Proofs.YtdgbodljmdcagaaGreatDoor

/-
  Of part Enc: what is needed here.
-/
namespace Go.Proofs.YtdgbodljmdcagaaGreatDoor
open Go.RowKit
set_option linter.unusedVariables false
set_option maxRecDepth 100000
theorem isByte_wf {z : Int} (h : (Lit.int .u8 z).wf = true) : IsByte z := by
  have := bounds_u8 h
  unfold IsByte
  omega
theorem AllBytes.app {a b : List Int} (ha : AllBytes a) (hb : AllBytes b) : AllBytes (a ++ b) := fun z hz => by
  rcases List.mem_append.1 hz with h | h
  · exact ha z h
  · exact hb z h
theorem AllBytes.map {α : Type} {f : α → List Int} {l : List α} (h : ∀ x ∈ l, AllBytes (f x)) : AllBytes (l.flatMap f) := fun z hz => by
  obtain ⟨x, hx, hz⟩ := List.mem_flatMap.1 hz
  exact h x hx z hz
theorem info_key3 : (Tryz.prog.info? 78).map (fun i => (i.zero, i.size, i.bytes)) = some (some (.agg (zeros 32).toArray), 32, 32) := by kernel_rfl
end Go.Proofs.YtdgbodljmdcagaaGreatDoor

/-
  Of part Tx: what is needed here.
-/
namespace Go.Proofs.YtdgbodljmdcagaaGreatDoor
open Go.RowKit
set_option linter.unusedVariables false
set_option maxRecDepth 100000
/-- a transaction -/
structure LTx where
  sigs : List (List Int)
  m : LMsg
/-- a transaction's bytes -/
def encTx (x : LTx) : List Int := short x.sigs.length ++ (x.sigs.flatten ++ enc x.m)
/-- may it be put, but for its length? -/
def TFits (x : LTx) : Prop := x.sigs.length ≤ 65535 ∧ Fits x.m
/-- all numbers are bytes, signatures have 64 of them -/
structure LTx.Wf (x : LTx) : Prop where
  sigs : ∀ s ∈ x.sigs, s.length = 64 ∧ AllBytes s
  m : x.m.Wf
/-- what there is of a transaction at the front -/
def pSigs (zs : List Int) : PR (List (List Int)) := pList (pTake 64) zs
def pTx (zs : List Int) : PR LTx := match pSigs zs with
  | .error c => .error c
  | .ok (s, r) => match pMsg r with
    | .error c => .error c
    | .ok (m, r) => .ok (⟨s, m⟩, r)
/-- the transaction that bytes are -/
def wTx (zs : List Int) : Except Int LTx := if 1232 < zs.length then .error 3 else match pTx zs with
  | .error c => .error c
  | .ok (x, r) => if r.length = 0 then .ok x else .error 4
theorem flat64_len : ∀ (l : List (List Int)), (∀ y ∈ l, y.length = 64) → l.flatten.length = l.length * 64
  | [], _ => rfl
  | y :: r, h => by
    have := flat64_len r (fun z hz => h z (by simp [hz]))
    have hy := h y (by simp)
    simp only [List.flatten_cons, List.length_append, List.length_cons, this, hy]
    omega
theorem encTx_len {x : LTx} (h : ∀ y ∈ x.sigs, y.length = 64) : (encTx x).length = (short x.sigs.length).length + x.sigs.length * 64 + (enc x.m).length := by
  unfold encTx
  simp only [List.length_append, flat64_len x.sigs h]
  omega
theorem got_sigs : Got (fun l => short l.length ++ l.flatten) (fun l => l.length ≤ 65535 ∧ ∀ k ∈ l, k.length = 64 ∧ AllBytes k) pSigs := by
  intro zs l r hz h
  have := got_list (got_take 64) zs l r hz h
  simp only [flatMap_id] at this
  exact this
theorem err_sigs : Errs pSigs := err_list (got_take 64) (err_take 64)
theorem puts_sigs : Puts (fun l => short l.length ++ l.flatten) (fun l : List (List Int) => l.length ≤ 65535 ∧ ∀ k ∈ l, k.length = 64) pSigs := by
  rintro l h r
  have := puts_list (puts_take 64) l h r
  simp only [flatMap_id] at this
  exact this
theorem front_sigs : FromFront pSigs := front_list (front_take 64)
theorem front_tx : FromFront pTx := by
  intro zs x r h
  unfold pTx at h
  split at h
  · cases h
  rename_i e1
  split at h
  · cases h
  rename_i e2
  cases h
  exact (front_sigs _ _ _ e1).trans (front_msg _ _ _ e2)
theorem pTx_got {zs : List Int} (hz : AllBytes zs) {x : LTx} {r : List Int} (h : pTx zs = .ok (x, r)) : zs = encTx x ++ r ∧ TFits x ∧ x.Wf := by
  unfold pTx at h
  split at h
  · cases h
  rename_i s r1 e1
  split at h
  · cases h
  rename_i m r2 e2
  cases h
  obtain ⟨h1, h2, h3⟩ := got_sigs _ _ _ hz e1
  have hz1 : AllBytes r1 := hz.behind h1
  obtain ⟨h4, h5, h6⟩ := pMsg_got hz1 e2
  refine ⟨?_, ⟨h2, h5⟩, ⟨h3, h6⟩⟩
  rw [h1, h4]
  simp [encTx]
theorem pTx_err {zs : List Int} (hz : AllBytes zs) {c : Int} (h : pTx zs = .error c) : c = 4 ∨ c = 5 := by
  unfold pTx at h
  split at h
  · rename_i e1
    cases h
    exact err_sigs _ _ hz e1
  rename_i s r1 e1
  split at h
  · rename_i e2
    cases h
    exact pMsg_err (hz.behind (got_sigs _ _ _ hz e1).1) e2
  · cases h
theorem pTx_put {x : LTx} (hf : TFits x) (hw : x.Wf) (r : List Int) : pTx (encTx x ++ r) = .ok (x, r) := by
  obtain ⟨s, m⟩ := x
  have h1 := puts_sigs s ⟨hf.1, fun k hk => (hw.sigs k hk).1⟩ (enc m ++ r)
  have h2 := pMsg_put hf.2 hw.m r
  have e : encTx ⟨s, m⟩ ++ r = (short s.length ++ s.flatten) ++ (enc m ++ r) := by simp [encTx]
  unfold pTx
  rw [e, h1]
  simp only [h2]
/-- so many parts of 64 bytes -/
theorem many_short {zs : List Int} : ∀ (n : Nat), zs.length < n * 64 → pMany (pTake 64) n zs = .error 5
  | 0, h => by omega
  | n + 1, h => by
    unfold pMany
    by_cases h1 : zs.length < n * 64
    · rw [many_short (zs := zs) n h1]
    · cases e : pMany (pTake 64) n zs with
      | error c =>
        exfalso
        exact absurd e (by
          have : ∀ (k : Nat), k * 64 ≤ zs.length → ∃ l, pMany (pTake 64) k zs = .ok (l, zs.drop (k * 64)) := by
            intro k
            induction k with
            | zero => exact fun _ => ⟨[], by simp [pMany]⟩
            | succ k ih =>
              intro hk
              obtain ⟨l, hl⟩ := ih (by omega)
              refine ⟨l ++ [(zs.drop (k * 64)).take 64], ?_⟩
              unfold pMany
              rw [hl]
              dsimp only
              unfold pTake
              rw [if_neg (by rw [List.length_drop]; omega)]
              dsimp only
              rw [List.drop_drop, show k * 64 + 64 = (k + 1) * 64 by omega]
          obtain ⟨l, hl⟩ := this n (by omega)
          rw [hl]
          intro h'
          cases h')
      | ok p =>
        obtain ⟨l, r⟩ := p
        dsimp only
        have hr : r.length = zs.length - n * 64 := by
          have : ∀ (k : Nat) l r, pMany (pTake 64) k zs = .ok (l, r) → r = zs.drop (k * 64) ∧ k * 64 ≤ zs.length := by
            intro k
            induction k with
            | zero => intro l r h; cases h; simp
            | succ k ih =>
              intro l r h
              unfold pMany at h
              split at h
              · cases h
              rename_i l1 r1 e1
              split at h
              · cases h
              rename_i x2 r2 e2
              cases h
              obtain ⟨h1, h2⟩ := ih _ _ e1
              unfold pTake at e2
              split at e2
              · cases e2
              rename_i h3
              cases e2
              subst h1
              rw [List.length_drop] at h3
              refine ⟨?_, by omega⟩
              rw [List.drop_drop, show k * 64 + 64 = (k + 1) * 64 by omega]
          rw [(this n l r e).1, List.length_drop]
        unfold pTake
        rw [if_pos (by omega)]
theorem many_long {zs : List Int} : ∀ (n : Nat), n * 64 ≤ zs.length → ∃ l, pMany (pTake 64) n zs = .ok (l, zs.drop (n * 64)) ∧ l.length = n ∧ (∀ y ∈ l, y.length = 64) ∧ l.flatten = zs.take (n * 64)
  | 0, _ => ⟨[], by simp [pMany], rfl, by simp, by simp⟩
  | n + 1, h => by
    obtain ⟨l, h1, h2, h3, h4⟩ := many_long (zs := zs) n (by omega)
    have hl : ((zs.drop (n * 64)).take 64).length = 64 := by rw [List.length_take, List.length_drop]; omega
    refine ⟨l ++ [(zs.drop (n * 64)).take 64], ?_, by simp [h2], ?_, ?_⟩
    · unfold pMany
      rw [h1]
      dsimp only
      unfold pTake
      rw [if_neg (by rw [List.length_drop]; omega)]
      dsimp only
      rw [List.drop_drop, show n * 64 + 64 = (n + 1) * 64 by omega]
    · intro y hy
      rcases List.mem_append.1 hy with hy | hy
      · exact h3 y hy
      · rw [List.mem_singleton.1 hy]; exact hl
    · rw [List.flatten_append, h4, show (n + 1) * 64 = n * 64 + 64 by omega, List.take_add]
      simp
/-- signatures that lie below block B -/
structure SigsIn (w : World) (B : Nat) (A : Option Addr) (n : Nat) (l : List (List Int)) : Prop where
  len : l.length = n
  each : ∀ k ∈ l, k.length = 64
  sees : Sees w B A (n * 64) (bv l.flatten)
/-- where a transaction's lists lie -/
structure TRaw where
  SA : Option Addr
  sn : Nat
  sc : Nat
  q : Raw
/-- a transaction's cells -/
def TRaw.cells (s : TRaw) (x : LTx) : List Value := .slice s.SA s.sn s.sc :: s.q.cells x.m
/-- a transaction's lists lie below block B -/
structure TxIn (w : World) (B : Nat) (s : TRaw) (x : LTx) : Prop where
  sigs : SigsIn w B s.SA s.sn x.sigs
  sn : s.sn ≤ s.sc ∧ s.sc ≤ maxLen
  m : MsgIn w B s.q x.m
section
variable {w w' : World} {B B' : Nat}
theorem SigsIn.keep {A : Option Addr} {n : Nat} {l : List (List Int)} (h : SigsIn w B A n l) (hk : ∀ p : Addr, p.block < B → w'.cell? p = w.cell? p) : SigsIn w' B A n l := ⟨h.len, h.each, h.sees.keep hk⟩
theorem SigsIn.more {A : Option Addr} {n : Nat} {l : List (List Int)} (h : SigsIn w B A n l) (hB : B ≤ B') : SigsIn w B' A n l := ⟨h.len, h.each, h.sees.more hB⟩
theorem SigsIn.below {A : Option Addr} {n : Nat} {l : List (List Int)} (h : SigsIn w B A n l) (hb : Below B w w') : SigsIn w' B A n l := h.keep fun _ hp => hb.cell hp
variable {s : TRaw} {x : LTx}
theorem TxIn.keep (h : TxIn w B s x) (hk : ∀ p : Addr, p.block < B → w'.cell? p = w.cell? p) : TxIn w' B s x := ⟨h.sigs.keep hk, h.sn, h.m.keep hk⟩
theorem TxIn.more (h : TxIn w B s x) (hB : B ≤ B') : TxIn w B' s x := ⟨h.sigs.more hB, h.sn, h.m.more hB⟩
theorem TxIn.below (h : TxIn w B s x) (hb : Below B w w') : TxIn w' B s x := h.keep fun _ hp => hb.cell hp
theorem TxIn.alloc (h : TxIn w B s x) (hB : B ≤ w.heap.size) (o : Obj) : TxIn (w.alloc o) B s x := h.keep fun p hp => World.cell?_alloc_lt w o p (by omega)
theorem TxIn.drewN (h : TxIn w B s x) (n : Nat) : TxIn (w.drewN n) B s x := h.keep fun p hp => rfl
theorem tcells_len (h : x.m.recent.length = 32) : (s.cells x).length = 40 := by simp [TRaw.cells, cells_len h]
theorem tcells_0 : (s.cells x)[0]? = some (.slice s.SA s.sn s.sc) := rfl
theorem tcells_m (j : Nat) : (s.cells x)[1 + j]? = (s.q.cells x.m)[j]? := by unfold TRaw.cells; rw [show 1 + j = j + 1 by omega]; rfl
theorem tcells_one : ∀ u ∈ s.cells x, u.oneCell' = true := by
  intro u hu
  rcases List.mem_cons.1 hu with rfl | hu
  · rfl
  · exact cells_one u hu
end
theorem size_tx : (Tryz.prog.info? 42).map (·.size) = some 40 := by kernel_rfl
theorem size_sig : (Tryz.prog.info? 104).map (·.size) = some 64 := by kernel_rfl
theorem flatten_get64 : ∀ (l : List (List Int)) (k : Nat) (x : List Int), (∀ y ∈ l, y.length = 64) → l[k]? = some x → ∀ j, j < 64 → l.flatten[k * 64 + j]? = x[j]?
  | [], k, x, _, h, _, _ => by simp at h
  | y :: r, 0, x, hl, h, j, hj => by
    have : y = x := by simpa using h
    subst this
    have hy := hl y (by simp)
    rw [List.flatten_cons, List.getElem?_append_left (by omega)]
    simp
  | y :: r, k + 1, x, hl, h, j, hj => by
    have hy := hl y (by simp)
    rw [List.flatten_cons, List.getElem?_append_right (by omega)]
    have := flatten_get64 r k x (fun z hz => hl z (by simp [hz])) (by simpa using h) j hj
    rw [← this]
    congr 1
    omega
/-- the k-th signature -/
structure SigAt (w : World) (a : Addr) (k : Nat) (x : List Int) : Prop where
  cells : ∀ j u, (bv x)[j]? = some u → w.cell? ((a.add (k * 64)).add j) = some u
  len : x.length = 64
theorem SigsIn.get {w : World} {B n : Nat} {A : Option Addr} {l : List (List Int)} (h : SigsIn w B A n l) {k : Nat} (hk : k < n) : ∃ a x, A = some a ∧ a.block < B ∧ l[k]? = some x ∧ SigAt w a k x := by
  obtain ⟨x, hx⟩ : ∃ x, l[k]? = some x := ⟨_, List.getElem?_eq_getElem (by rw [h.len]; exact hk)⟩
  have hxl := h.each x (List.mem_of_getElem? hx)
  obtain ⟨a, u, e, hb, _, _⟩ := h.sees.at_ (k := k * 64) (by omega)
  refine ⟨a, x, e, hb, hx, fun j u hu => ?_, hxl⟩
  have hj : j < 64 := by have := (List.getElem?_eq_some_iff.1 hu).1; rw [bv_length] at this; omega
  rw [bv_getElem?, ← flatten_get64 l k x h.each hx j hj, ← bv_getElem?] at hu
  obtain ⟨a', e', _, hc⟩ := h.sees.cell _ u hu
  rw [e] at e'
  cases e'
  rw [addr_add]
  exact hc
theorem SigAt.keep {w w' : World} {B k : Nat} {a : Addr} {x : List Int} (h : SigAt w a k x) (ha : a.block < B) (hk : ∀ p : Addr, p.block < B → w'.cell? p = w.cell? p) : SigAt w' a k x :=
  ⟨fun j u hu => (hk _ (by rw [addr_block, addr_block]; exact ha)).trans (h.cells j u hu), h.len⟩
/-- the zero transaction -/
def zRaw : TRaw := ⟨none, 0, 0, ⟨none, 0, 0, none, 0, 0, none, 0, 0⟩⟩
def zTx : LTx := ⟨[], ⟨false, 0, 0, 0, [], zero32, [], []⟩⟩
def tzero : List Value := .slice none 0 0 :: mzero
theorem zTx_in (w : World) (B : Nat) : TxIn w B zRaw zTx :=
  ⟨⟨rfl, fun k hk => by simp [zTx] at hk, Sees.nil _ _ _⟩, by simp [zRaw, maxLen], ⟨rfl, ⟨rfl, fun k hk => by simp [zTx] at hk, Sees.nil _ _ _⟩, ⟨rfl, fun i y h => by simp [zTx] at h⟩, ⟨rfl, fun i y h => by simp [zTx] at h⟩, by simp [zRaw, maxLen], by simp [zRaw, maxLen], by simp [zRaw, maxLen]⟩⟩
theorem size_tz : (Tryz.prog.info? 42).map (·.size) = some tzero.length := size_tx
theorem tzero_one : ∀ u ∈ tzero, u.oneCell' = true := tcells_one (s := zRaw) (x := zTx)
end Go.Proofs.YtdgbodljmdcagaaGreatDoor

/-
  Of part SameTx: what is needed here.
-/
namespace Go.Proofs.YtdgbodljmdcagaaGreatDoor
open Go.RowKit
set_option linter.unusedVariables false
set_option maxRecDepth 100000
theorem same_neq64 {t : TypeId} (ht : Tryz.prog.underlying t = some (.array 64 5)) (z : List Int) (hz : z.length = 64) (w : World) :
    (binOp .neq t (.agg (bv z).toArray) (.agg (bv z).toArray)).run Tryz.prog w = .ok (.bool false) w := by
  obtain ⟨i, hi⟩ := infoU8
  rw [run_neq_struct, show (10000 : Nat) = 9999 + 1 from rfl, run_equalIn_array w 9999 _ _ ht hi, cellsOfU8, eqItems_same z w _ (fun i hi => by simp at hi; omega)]
  rfl
set_option maxRecDepth 100000 in
set_option maxHeartbeats 600000 in
theorem same_sigs (A B : Option Addr) (n c d : Nat) (l : List (List Int)) (w : World) (S T : Nat) (hx : SigsIn w S A n l) (hy : SigsIn w T B n l) (hn : n ≤ maxLen) :
    Calls Tryz.prog 58 #[.slice A n c, .slice B n d] w fun e w' => e = .returned (.bool true) ∧ ∃ k, w' = w.drewN k := by
  unfold maxLen at hn
  have HX := Lib.hid hx
  have HY := Lib.hid hy
  clear hx hy
  go_enter Tryz.func58, Tryz.ntmps58
  go_wp2
  go_loopw [5] (fun i wr => ∃ k j : Nat, k ≤ n ∧ i = .int .i64 k ∧ wr = w.drewN j) (fun i _ => n - (intOf i).toNat)
  case atStart => exact ⟨0, 0, Nat.zero_le _, rfl, rfl⟩
  case round =>
    obtain ⟨k, j, hk, rfl, rfl⟩ := hrel
    by_cases hlt : k < n
    · obtain ⟨a, x, rfl, ha, hxl, hxa⟩ := HX.out.get hlt
      obtain ⟨b, y, rfl, hb, hyl, hyb⟩ := HY.out.get hlt
      obtain rfl : x = y := by rw [hxl] at hyl; exact Option.some.inj hyl
      have ca := hxa.cells
      have cb := hyb.cells
      have NQ := fun w => same_neq64 Tryz.underlying104 x hxa.len w
      have HSZ := Lib.hid (show (Tryz.prog.info? 104).map (·.size) = some (bv x).length by rw [size_sig, bv_length, hxa.len])
      have CA := Lib.hid ca
      have CB := Lib.hid cb
      clear ca cb hxl hyl
      generalize bv x = X at *
      go_wp2
      refine wp_region_quiet_lit (by kernel_rfl) (by kernel_rfl) ?_
      repeat (first
        | ((with_reducible show wpQuiet _ _ _ _ ({ dst := some 20, op := Op.load _ _, type := _, pos := _, after := _, guard := _ } :: _) _); go_must (refine quiet_load_at (by kernel_rfl) 104 (.tmp 19) rfl (a.add (k * 64)) X _ Tryz.underlying104 rfl HSZ.out (by rintro _ ⟨nq, rfl⟩; exact CA.out) ?_ ?_; go_simp; go_simp))
        | ((with_reducible show wpQuiet _ _ _ _ ({ dst := some 24, op := Op.load _ _, type := _, pos := _, after := _, guard := _ } :: _) _); go_must (refine quiet_load_at (by kernel_rfl) 104 (.tmp 23) rfl (b.add (k * 64)) X _ Tryz.underlying104 rfl HSZ.out (by rintro _ ⟨nq, rfl⟩; exact CB.out) ?_ ?_; go_simp; go_simp))
        | go_big_quiet_step (fail))
      refine wpQuiet_nil ?_
      intro nq
      go_wp2
      go_roundw
      case rel => exact ⟨k + 1, j + nq, by omega, by go_num, by simp⟩
      case measure => simp [intOf]; omega
    · go_wp2
      go_ret
      exact ⟨rfl, j, rfl⟩
set_option maxRecDepth 100000 in
set_option maxHeartbeats 1000000 in
theorem same_tx (s s' : TRaw) (x : LTx) (B B' : Nat) (w : World) (h : TxIn w B s x) (hB : B ≤ w.heap.size) (h' : TxIn w B' s' x) (hB' : B' ≤ w.heap.size) :
    Calls Tryz.prog 17 #[.agg (s.cells x).toArray, .agg (s'.cells x).toArray] w fun e w' => e = .returned (.bool true) ∧ Below w.heap.size w w' := by
  obtain ⟨SA, sn, sc, q⟩ := s
  obtain ⟨SB, sn', sd, q'⟩ := s'
  obtain rfl : sn' = sn := h'.sigs.len.symm.trans h.sigs.len
  have hr0 := (Row.new w 42 (TRaw.cells ⟨SA, sn', sc, q⟩ x)).alloc (.cells (TRaw.cells ⟨SB, sn', sd, q'⟩ x).toArray 42)
  have hr1 : Row ((w.alloc (.cells (TRaw.cells ⟨SA, sn', sc, q⟩ x).toArray 42)).alloc (.cells (TRaw.cells ⟨SB, sn', sd, q'⟩ x).toArray 42)) (w.heap.size + 1) 42 (TRaw.cells ⟨SB, sn', sd, q'⟩ x) := Row.new' _ _ _ (by simp)
  have hbw := (((Below.refl w.heap.size w).alloc (Nat.le_refl _) (.cells (TRaw.cells ⟨SA, sn', sc, q⟩ x).toArray 42)).alloc (by simp) (.cells (TRaw.cells ⟨SB, sn', sd, q'⟩ x).toArray 42))
  have hw := h.below (hbw.mono hB)
  have hw' := h'.below (hbw.mono hB')
  have HSM := Lib.hid (show (Tryz.prog.info? 40).map (·.size) = some (q.cells x.m).length by rw [size_msg, cells_len h.m.recent])
  have HSM' := Lib.hid (show (Tryz.prog.info? 40).map (·.size) = some (q'.cells x.m).length by rw [size_msg, cells_len h.m.recent])
  have HCM := Lib.hid (tcells_m (s := ⟨SA, sn', sc, q⟩) (x := x))
  have HCM' := Lib.hid (tcells_m (s := ⟨SB, sn', sd, q'⟩) (x := x))
  have c0 : (TRaw.cells ⟨SA, sn', sc, q⟩ x)[0]? = some (.slice SA sn' sc) := rfl
  have d0 : (TRaw.cells ⟨SB, sn', sd, q'⟩ x)[0]? = some (.slice SB sn' sd) := rfl
  have hsc := h.sn
  dsimp only at hsc HCM HCM'
  generalize TRaw.cells ⟨SA, sn', sc, q⟩ x = ca at *
  generalize TRaw.cells ⟨SB, sn', sd, q'⟩ x = cb at *
  have HR0 := Lib.hid hr0
  have HR1 := Lib.hid hr1
  have HB := Lib.hid hbw
  have HW := Lib.hid hw
  have HW' := Lib.hid hw'
  have HSC := Lib.hid hsc
  have a0 := (hr0.cell 0).trans c0
  have b0 := (hr1.cell 0).trans d0
  clear hr0 hr1 hbw hw hw' h h' hsc c0 d0
  go_enter Tryz.func17, Tryz.ntmps17
  go_wp2_with fail
  refine (same_sigs SA SB sn' sc sd x.sigs _ B B' HW.out.sigs HW'.out.sigs (by have := HSC.out; omega)).mono ?_
  rintro e w5 ⟨rfl, k5, hw5⟩
  have hr5 : Row w5 w.heap.size 42 ca := by rw [hw5]; exact HR0.out.drewN k5
  have hr5' : Row w5 (w.heap.size + 1) 42 cb := by rw [hw5]; exact HR1.out.drewN k5
  have hm5 : TxIn w5 B ⟨SA, sn', sc, q⟩ x := by rw [hw5]; exact HW.out.drewN k5
  have hm5' : TxIn w5 B' ⟨SB, sn', sd, q'⟩ x := by rw [hw5]; exact HW'.out.drewN k5
  have hb5 : Below w.heap.size w w5 := by rw [hw5]; exact below_drewN HB.out k5
  have HR5 := Lib.hid hr5
  have HR5' := Lib.hid hr5'
  have HM5 := Lib.hid hm5.m
  have HM5' := Lib.hid hm5'.m
  have HB5 := Lib.hid hb5
  clear hr5 hr5' hm5 hm5' hb5 hw5 a0 b0 HR0 HR1 HB HW HW'
  go_wp2_with (first
    | ((with_reducible show wpList _ _ _ ({ dst := some 12, op := Op.load _ _, type := _, pos := _, after := _, guard := _ } :: _) _ _); go_must (refine wpList_load_atg (by kernel_rfl) 40 (.tmp 11) rfl ⟨w.heap.size, 1, none⟩ (q.cells x.m) _ Tryz.underlying40 rfl HSM.out (fun j u hu => by rw [addr_row, HR5.out.cell, HCM.out]; exact hu) ?_ ?_; go_simp))
    | ((with_reducible show wpList _ _ _ ({ dst := some 14, op := Op.load _ _, type := _, pos := _, after := _, guard := _ } :: _) _ _); go_must (refine wpList_load_atg (by kernel_rfl) 40 (.tmp 13) rfl ⟨w.heap.size + 1, 1, none⟩ (q'.cells x.m) _ Tryz.underlying40 rfl HSM'.out (fun j u hu => by rw [addr_row, HR5'.out.cell, HCM'.out]; exact hu) ?_ ?_; go_simp)))
  refine (same_msg q q' x.m B B' w5 HM5.out (Nat.le_trans hB HB5.out.size) HM5'.out (Nat.le_trans hB' HB5.out.size)).mono ?_
  rintro e w6 ⟨rfl, hb6⟩
  go_wp2_with fail
  go_ret
  exact ⟨rfl, HB5.out.trans (hb6.mono HB5.out.size)⟩
end Go.Proofs.YtdgbodljmdcagaaGreatDoor

/-
  Of part BookS: what is needed here.
-/
namespace Go.Proofs.YtdgbodljmdcagaaGreatDoor
open Go.RowKit
set_option linter.unusedVariables false
set_option maxRecDepth 100000
/-- a signature's mark -/
def sgz (a b l : Int) : List Int := [a, b, l] ++ List.replicate 61 0
theorem sgz_len (a b l : Int) : (sgz a b l).length = 64 := rfl
theorem built_sgz (a b l : Int) : Tryz.prog.built 104 [(0, .int .u8 a), (1, .int .u8 b), (2, .int .u8 l)] = some (bv (sgz a b l)).toArray := by kernel_rfl
theorem built_sheetS (B : Option Addr) (m d : Nat) (z1 z2 : List Int) (h1 : z1.length = 64) (h2 : z2.length = 64) : Tryz.prog.built 164 [(0, .slice B m d), (1, .agg (bv z1).toArray), (2, .agg (bv z2).toArray)] = some (sheetCells (.slice B m d) z1 z2).toArray := by
  obtain ⟨f, rfl⟩ : ∃ f : Fin 64 → Int, z1 = List.ofFn f := ⟨fun i => z1.getD i 0, by
    refine List.ext_getElem (by simpa using h1) fun i h3 h4 => ?_
    rw [List.getElem_ofFn, List.getD_eq_getElem?_getD, List.getElem?_eq_getElem h3]
    rfl⟩
  obtain ⟨g, rfl⟩ : ∃ f : Fin 64 → Int, z2 = List.ofFn f := ⟨fun i => z2.getD i 0, by
    refine List.ext_getElem (by simpa using h2) fun i h3 h4 => ?_
    rw [List.getElem_ofFn, List.getD_eq_getElem?_getD, List.getElem?_eq_getElem h3]
    rfl⟩
  kernel_rfl
set_option maxRecDepth 100000 in
set_option maxHeartbeats 1000000 in
theorem bookSigs (p base : Nat) (A B : Option Addr) (n c m d : Nat) (ps : List Value) (w0 w : World) (h : BookW w0 p base A n c ps w) (hn : n ≤ 1000000) :
    Calls Tryz.prog 63 #[.pointer (some ⟨p, 0, none⟩), .slice B m d] w fun e w' => ∃ z1 z2 A' c', e = .returned (.tuple #[]) ∧ z1.length = 64 ∧ z2.length = 64 ∧
      BookW w0 p base A' (n + 1) c' (ps ++ [.iface 164 (.agg (sheetCells (.slice B m d) z1 z2).toArray)]) w' := by
  obtain ⟨i0, hi, hz0, hz1, hz2⟩ := info_parts info_page
  have c0 : w.cell? ⟨p, 0, none⟩ = some (.slice A n c) := h.row.cell 0
  have f0 := h.row.frozen 0
  have HN := Lib.hid (number_ p A n c w h.row hn)
  have HH := Lib.hid h
  obtain ⟨z1, hzz1⟩ : ∃ z, z = sgz (((n : Int) + 1) % 256) (((n : Int) + 1) / 256 % 256) 1 := ⟨_, rfl⟩
  obtain ⟨z2, hzz2⟩ : ∃ z, z = sgz (((n : Int) + 1) % 256) (((n : Int) + 1) / 256 % 256) 2 := ⟨_, rfl⟩
  have HZ1 := Lib.hid hzz1
  have HZ2 := Lib.hid hzz2
  have hl1 : z1.length = 64 := by rw [hzz1]; exact sgz_len _ _ _
  have hl2 : z2.length = 64 := by rw [hzz2]; exact sgz_len _ _ _
  let q : Value := .iface 164 (.agg (sheetCells (.slice B m d) z1 z2).toArray)
  have hsees := (Row.new w 115 [q]).sees0
  have HH1 := Lib.hid (h.alloc (.cells [q].toArray 115))
  have hown1 := HH1.out.own
  have hone : ∀ u ∈ [q], u.oneCell' = true := by simp [q, Value.oneCell']
  have hbase := HH1.out.lt
  have HL1 := Lib.hid hl1
  have HL2 := Lib.hid hl2
  clear h hzz1 hzz2 hl1 hl2
  go_enter Tryz.func63, Tryz.ntmps63
  go_wp2_with fail
  refine HN.out.mono ?_
  rintro e w1 ⟨rfl, rfl⟩
  go_wp2_with (first
    | ((with_reducible show wpList _ _ _ ({ dst := some 18, op := Op.build _ _, type := _, pos := _, after := _, guard := _ } :: _) _ _); go_must (refine wpList_plain rfl fun K hK => wp_built _ _ _ rfl (by simp only [List.map_toArray, List.map_cons, List.map_nil]; exact built_sgz _ _ _) (hK _ _ ?_); rw [← HZ1.out]))
    | ((with_reducible show wpList _ _ _ ({ dst := some 24, op := Op.build _ _, type := _, pos := _, after := _, guard := _ } :: _) _ _); go_must (refine wpList_plain rfl fun K hK => wp_built _ _ _ rfl (by simp only [List.map_toArray, List.map_cons, List.map_nil]; exact built_sgz _ _ _) (hK _ _ ?_); rw [← HZ2.out]))
    | ((with_reducible show wpList _ _ _ ({ dst := some 25, op := Op.build _ _, type := _, pos := _, after := _, guard := _ } :: _) _ _); go_must (refine wpList_plain rfl fun K hK => wp_built _ _ _ rfl (by simp only [List.map_toArray, List.map_cons, List.map_nil]; exact built_sheetS B m d z1 z2 HL1.out HL2.out) (hK _ _ ?_)))
    | (at_builtin; go_must (refine wpList_append_sees rfl (.tmp 11) (.tmp 27) 58 rfl base 115 i0 _ 16 Tryz.underlying58 hi hz0 hz1 hz2 rfl _ n _ rfl hown1 _ _ 1 _ _ rfl hsees hone (by unfold maxLen; omega) (by omega) hbase ?_); intro v2 w2 hown2 hg2 hat2; have hR2 := HH1.out.row.grown hg2 (own_row_ne HH1.out.own HH1.out.row (by decide)); have c2 : w2.cell? ⟨p, 0, none⟩ = some (.slice A n c) := hR2.cell 0; have f2 := hR2.frozen 0; obtain ⟨A', c', rfl⟩ := own_form hown2; have HR2 := Lib.hid hR2; clear hR2))
  go_end0
  exact ⟨z1, z2, A', c', rfl, HL1.out, HL2.out, HH1.out.last HR2.out hown2 hg2⟩
end Go.Proofs.YtdgbodljmdcagaaGreatDoor

/-
  Of part Great: what is needed here.
-/
namespace Go.Proofs.YtdgbodljmdcagaaGreatDoor
open Go.RowKit
set_option linter.unusedVariables false
set_option maxRecDepth 100000
def inSize (l : List LIn) : Nat := (l.map fun i => i.acc.length + i.dat.length).sum
def lookSize (l : List LLook) : Nat := (l.map fun i => i.wr.length + i.rd.length).sum
/-- how much of it is gone through -/
def total (m : LMsg) : Nat := m.keys.length + m.ins.length + m.looks.length + inSize m.ins + lookSize m.looks
theorem lookSize_succ {l : List LLook} {k : Nat} {x : LLook} (h : l[k]? = some x) : lookSize (l.take (k + 1)) = lookSize (l.take k) + (x.wr.length + x.rd.length) := by
  unfold lookSize
  rw [List.take_add_one, h]
  simp
theorem LooksIn.tabs {w : World} {B n : Nat} {A : Option Addr} {l : List LLook} (h : LooksIn w B A n l) : ∀ x ∈ l, x.tab.length = 32 := by
  intro x hx
  obtain ⟨i, hi, rfl⟩ := List.getElem_of_mem hx
  obtain ⟨a, va, vd, _, _, _, ht, _⟩ := h.at_ i _ (List.getElem?_eq_getElem hi)
  exact ht
theorem size_mem {l : List LIn} {x : LIn} (h : x ∈ l) : x.acc.length + x.dat.length ≤ inSize l := by
  induction l with
  | nil => cases h
  | cons y r ih =>
    simp only [inSize, List.map_cons, List.sum_cons] at ih ⊢
    rcases List.mem_cons.1 h with rfl | h
    · omega
    · have := ih h; omega
theorem lsize_mem {l : List LLook} {x : LLook} (h : x ∈ l) : x.wr.length + x.rd.length ≤ lookSize l := by
  induction l with
  | nil => cases h
  | cons y r ih =>
    simp only [lookSize, List.map_cons, List.sum_cons] at ih ⊢
    rcases List.mem_cons.1 h with rfl | h
    · omega
    · have := ih h; omega
end Go.Proofs.YtdgbodljmdcagaaGreatDoor

/-
  Of part OpenMsg: what is needed here.
-/
namespace Go.Proofs.YtdgbodljmdcagaaGreatDoor
open Go.RowKit
set_option linter.unusedVariables false
set_option maxRecDepth 100000
open Go.ChangeShapes Go.WideShapes Go.RowKit
theorem list_of {α : Type} {p : Nat → α → Prop} : ∀ (n : Nat), (∀ i, i < n → ∃ x, p i x) → ∃ l : List α, l.length = n ∧ ∀ i x, l[i]? = some x → p i x
  | 0, _ => ⟨[], rfl, fun i x h => by simp at h⟩
  | n + 1, h => by
    obtain ⟨l, hl, hp⟩ := list_of n fun i hi => h i (by omega)
    obtain ⟨x, hx⟩ := h n (Nat.lt_succ_self _)
    refine ⟨l ++ [x], by simp [hl], fun i y hy => ?_⟩
    by_cases hi : i < n
    · rw [List.getElem?_append_left (by omega)] at hy
      exact hp i y hy
    · rw [List.getElem?_append_right (by omega)] at hy
      have h1 := (List.getElem?_eq_some_iff.1 hy).1
      simp at h1
      have : i = n := by omega
      subst this
      rw [show i - l.length = 0 by omega] at hy
      simp at hy
      exact hy ▸ hx
theorem KeysIn.of_at {w : World} {B : Nat} {A : Option Addr} {n : Nat} {l : List (List Int)} (hn : l.length = n) (h : ∀ (i : Nat) x, l[i]? = some x → x.length = 32 ∧ ∃ a, A = some a ∧ a.block < B ∧ ∀ j u, (bv x)[j]? = some u → w.cell? (a.add (i * 32 + j)) = some u) : KeysIn w B A n l := by
  have he : ∀ k ∈ l, k.length = 32 := fun k hk => by
    obtain ⟨i, hi, rfl⟩ := List.getElem_of_mem hk
    exact (h i _ (List.getElem?_eq_getElem hi)).1
  have hf : l.flatten.length = n * 32 := by
    rw [← hn]
    clear hn h
    induction l with
    | nil => rfl
    | cons y r ih =>
      have h1 := ih (fun k hk => he k (by simp [hk]))
      have h2 := he y (by simp)
      simp only [List.flatten_cons, List.length_append, List.length_cons, h1, h2]
      omega
  refine ⟨hn, he, ⟨by rw [bv_length]; exact hf, fun i u hu => ?_⟩⟩
  have hi := (List.getElem?_eq_some_iff.1 hu).1
  rw [bv_length, hf] at hi
  have hk : i / 32 < l.length := by omega
  obtain ⟨h1, a, rfl, h2, h3⟩ := h (i / 32) _ (List.getElem?_eq_getElem hk)
  refine ⟨_, rfl, h2, ?_⟩
  have hlt : i % 32 < (bv l[i / 32]).length := by rw [bv_length, h1]; omega
  obtain ⟨u', hu'⟩ : ∃ u', (bv l[i / 32])[i % 32]? = some u' := ⟨_, List.getElem?_eq_getElem hlt⟩
  have h4 := h3 _ _ hu'
  rw [show i / 32 * 32 + i % 32 = i by omega] at h4
  rw [h4]
  rw [bv_getElem?] at hu hu'
  obtain ⟨z', hz', rfl⟩ : ∃ z, (l[i / 32])[i % 32]? = some z ∧ u' = .int .u8 z := by
    cases hq : (l[i / 32])[i % 32]? with
    | none => rw [hq] at hu'; simp at hu'
    | some z => rw [hq] at hu'; exact ⟨z, rfl, by simpa using hu'.symm⟩
  have h5 := flatten_at 32 l (i / 32) _ (fun i y hy => he y (List.mem_of_getElem? hy)) (List.getElem?_eq_getElem hk) (i % 32) z' hz'
  rw [show i / 32 * 32 + i % 32 = i by omega] at h5
  rw [h5] at hu
  exact hu
theorem byte_wf {z : Int} (h : (Lit.int .u8 z).wf = true) : IsByte z := by
  have := bounds_u8 h
  unfold IsByte
  omega
section
variable {H : Type} {enc : TypeId × Value → H}
/-- no list in it is longer than the form's reach -/
def Wt (t : TypeId) (d : DataW H) : Prop := ∀ n ∈ d.weights Tryz.prog t, n ≤ reachBytes
theorem wt_all {e : TypeId} : ∀ {l : List (DataW H)}, (∀ n ∈ DataW.weightsAll Tryz.prog e l, n ≤ reachBytes) → ∀ d ∈ l, Wt e d
  | [], _, d, hd => by simp at hd
  | y :: r, h, d, hd => by
    rcases List.mem_cons.1 hd with rfl | hd
    · exact fun n hn => h n (by simp [DataW.weightsAll, hn])
    · exact wt_all (l := r) (fun n hn => h n (by simp [DataW.weightsAll, hn])) d hd
variable {w : World} {base : Nat} {held : Bool}
theorem open_sl {t e : TypeId} {fuel : Nat} {cs : List Value} {x : DataW H × List MemPlace} (ht : Tryz.prog.underlying t = some (.slice e)) (hc : 0 < Tryz.prog.cellsOf e)
    (h : DataW.trod enc Tryz.prog w base (fun _ => true) held fuel t cs = some x) (hw : Wt t x.1) :
    ∃ A n c, cs = [.slice A n c] ∧ n ≤ c ∧ c ≤ maxLen ∧ n * Tryz.prog.bytesOf e ≤ reachBytes ∧ ∀ i, i < n → ∃ a cs' y m, A = some a ∧ a.block < w.heap.size ∧ cs'.length = Tryz.prog.cellsOf e ∧
      (∀ j u, cs'[j]? = some u → w.cell? (a.add (i * Tryz.prog.cellsOf e + j)) = some u) ∧ DataW.trod enc Tryz.prog w base (fun _ => true) held m e cs' = some y ∧ Wt e y.1 := by
  rcases Go.Deep.open_slice ht h with ⟨rfl, rfl⟩ | ⟨a, len, cap, m, n, D, Pl, rfl, hb, hl, hm, hmm, rfl, hx⟩
  · exact ⟨none, 0, 0, rfl, Nat.le_refl _, Nat.zero_le _, by simp, fun i hi => by omega⟩
  · have hm' : m = cap := by simpa using hmm
    have h1 : ((len + (m - len)) * Tryz.prog.bytesOf e) ≤ reachBytes := by
      refine hw _ ?_
      simp [DataW.weights, ht]
    have h2 : ∀ d ∈ (List.range len).map D, Wt e d := wt_all fun n hn => hw n (by simp only [DataW.weights, ht]; simp [hn])
    refine ⟨some a, len, cap, rfl, hl, hm, Nat.le_trans (Nat.mul_le_mul_right _ (by omega)) h1, fun i hi => ?_⟩
    obtain ⟨cs', hcs, htr⟩ := hx i (by omega)
    have hbl := World.cells?_block hcs hc
    obtain ⟨_, hlen, hat⟩ := World.cells?_some hcs
    refine ⟨a, cs', _, n, rfl, by rwa [addr_block] at hbl, hlen, fun j u hu => ?_, htr, h2 _ (by simp; exact ⟨i, hi, rfl⟩)⟩
    have := hat j (by have := (List.getElem?_eq_some_iff.1 hu).1; omega)
    rw [addr_add] at this
    rw [this, hu]
theorem cellsU8 : Tryz.prog.cellsOf 5 = 1 := by kernel_rfl
theorem cellsKey : Tryz.prog.cellsOf 78 = 32 := by kernel_rfl
theorem bytesKey : Tryz.prog.bytesOf 78 = 32 := by kernel_rfl
theorem reach47 : reachBytes ≤ 140737488355328 := by decide
theorem open_32 {t : TypeId} {fuel : Nat} {cs : List Value} {x : DataW H × List MemPlace} (ht : Tryz.prog.underlying t = some (.array 32 5)) (hc : Tryz.prog.cellsOf t = 32) (h : DataW.trod enc Tryz.prog w base (fun _ => true) held fuel t cs = some x) :
    ∃ l : List Int, cs = bv l ∧ l.length = 32 ∧ AllBytes l := by
  obtain ⟨xs, m, _, _, hl, hxs, hat⟩ := DataW.trod_array ht h
  obtain ⟨l, hll, hp⟩ := list_of (α := Int) (p := fun i z => IsByte z ∧ cs[i]? = some (.int .u8 z)) 32 fun i hi => by
    have h1 := hat i hi
    have hx : xs[i]? = some xs[i] := List.getElem?_eq_getElem (by omega)
    rw [cellsU8, hx] at h1
    obtain ⟨z, hz, _, hwz⟩ := DataW.trod_int Tryz.underlying5 h1
    refine ⟨z, byte_wf hwz, ?_⟩
    have := congrArg List.head? hz
    simpa [List.head?_take] using this
  rw [hc] at hl
  refine ⟨l, List.ext_getElem? fun i => ?_, hll, fun z hz => ?_⟩
  · by_cases hi : i < 32
    · have e := List.getElem?_eq_getElem (l := l) (i := i) (by omega)
      rw [bv_getElem?, e, (hp i _ e).2]
      rfl
    · rw [List.getElem?_eq_none (by omega), List.getElem?_eq_none (by rw [bv_length]; omega)]
  · obtain ⟨i, hi, rfl⟩ := List.getElem_of_mem hz
    exact (hp i _ (List.getElem?_eq_getElem hi)).1
end
open Go.ChangeShapes Go.WideShapes Go.RowKit
section
variable {H : Type} {enc : TypeId × Value → H} {w : World} {base : Nat} {held : Bool}
theorem open_keys {fuel : Nat} {v : Value} {x : DataW H × List MemPlace} (h : DataW.trod enc Tryz.prog w base (fun _ => true) held fuel 34 [v] = some x) (hw : Wt 34 x.1) :
    ∃ A n c l, v = .slice A n c ∧ n ≤ c ∧ c ≤ maxLen ∧ KeysIn w w.heap.size A n l ∧ (∀ k ∈ l, k.length = 32 ∧ AllBytes k) ∧ l.length ≤ 140737488355328 := by
  obtain ⟨A, n, c, hcs, h1, h2, h3, h4⟩ := open_sl Tryz.underlying34 (by rw [cellsKey]; omega) h hw
  obtain rfl : v = .slice A n c := by simpa using hcs
  rw [bytesKey] at h3
  have := reach47
  obtain ⟨l, hl, hp⟩ := list_of (α := List Int) (p := fun i z => (z.length = 32 ∧ AllBytes z) ∧ ∃ a, A = some a ∧ a.block < w.heap.size ∧ ∀ j u, (bv z)[j]? = some u → w.cell? (a.add (i * 32 + j)) = some u) n fun i hi => by
    obtain ⟨a, cs', y, m, e1, e2, e3, e4, e5, _⟩ := h4 i hi
    obtain ⟨z, rfl, hz, hz'⟩ := open_32 Tryz.underlying78 cellsKey e5
    rw [cellsKey] at e4
    exact ⟨z, ⟨hz, hz'⟩, a, e1, e2, e4⟩
  subst hl
  refine ⟨A, l.length, c, l, rfl, h1, h2, KeysIn.of_at rfl fun i x hx => ⟨(hp i x hx).1.1, (hp i x hx).2⟩, fun k hk => ?_, by omega⟩
  obtain ⟨i, hi, rfl⟩ := List.getElem_of_mem hk
  exact (hp i _ (List.getElem?_eq_getElem hi)).1
end
open Go.ChangeShapes Go.WideShapes Go.RowKit
theorem one_of {cs : List Value} (h : cs.length = 1) : ∃ a, cs = [a] := by
  match cs, h with
  | [a], _ => exact ⟨a, rfl⟩
theorem cellsKeys : Tryz.prog.cellsOf 34 = 1 := by kernel_rfl
theorem cut {α : Type} (cs : List α) (a k b : Nat) (h : a + k = b) : cs.drop a = (cs.drop a).take k ++ cs.drop b := by
  subst h
  rw [← List.drop_drop, List.take_append_drop]
end Go.Proofs.YtdgbodljmdcagaaGreatDoor

/-
  Of part OpenTx: what is needed here.
-/
namespace Go.Proofs.YtdgbodljmdcagaaGreatDoor
open Go.ChangeShapes Go.WideShapes Go.RowKit
set_option linter.unusedVariables false
set_option maxRecDepth 100000
theorem SigsIn.of_at {w : World} {B : Nat} {A : Option Addr} {n : Nat} {l : List (List Int)} (hn : l.length = n) (h : ∀ (i : Nat) x, l[i]? = some x → x.length = 64 ∧ ∃ a, A = some a ∧ a.block < B ∧ ∀ j u, (bv x)[j]? = some u → w.cell? (a.add (i * 64 + j)) = some u) : SigsIn w B A n l := by
  have he : ∀ k ∈ l, k.length = 64 := fun k hk => by
    obtain ⟨i, hi, rfl⟩ := List.getElem_of_mem hk
    exact (h i _ (List.getElem?_eq_getElem hi)).1
  have hf : l.flatten.length = n * 64 := by
    rw [← hn]
    clear hn h
    induction l with
    | nil => rfl
    | cons y r ih =>
      have h1 := ih (fun k hk => he k (by simp [hk]))
      have h2 := he y (by simp)
      simp only [List.flatten_cons, List.length_append, List.length_cons, h1, h2]
      omega
  refine ⟨hn, he, ⟨by rw [bv_length]; exact hf, fun i u hu => ?_⟩⟩
  have hi := (List.getElem?_eq_some_iff.1 hu).1
  rw [bv_length, hf] at hi
  have hk : i / 64 < l.length := by omega
  obtain ⟨h1, a, rfl, h2, h3⟩ := h (i / 64) _ (List.getElem?_eq_getElem hk)
  refine ⟨_, rfl, h2, ?_⟩
  have hlt : i % 64 < (bv l[i / 64]).length := by rw [bv_length, h1]; omega
  obtain ⟨u', hu'⟩ : ∃ u', (bv l[i / 64])[i % 64]? = some u' := ⟨_, List.getElem?_eq_getElem hlt⟩
  have h4 := h3 _ _ hu'
  rw [show i / 64 * 64 + i % 64 = i by omega] at h4
  rw [h4]
  rw [bv_getElem?] at hu hu'
  obtain ⟨z', hz', rfl⟩ : ∃ z, (l[i / 64])[i % 64]? = some z ∧ u' = .int .u8 z := by
    cases hq : (l[i / 64])[i % 64]? with
    | none => rw [hq] at hu'; simp at hu'
    | some z => rw [hq] at hu'; exact ⟨z, rfl, by simpa using hu'.symm⟩
  have h5 := flatten_at 64 l (i / 64) _ (fun i y hy => he y (List.mem_of_getElem? hy)) (List.getElem?_eq_getElem hk) (i % 64) z' hz'
  rw [show i / 64 * 64 + i % 64 = i by omega] at h5
  rw [h5] at hu
  exact hu
end Go.Proofs.YtdgbodljmdcagaaGreatDoor

/-
  Of part Rules: what is needed here.
-/
namespace Go.Proofs.YtdgbodljmdcagaaGreatDoor
open Go.RowKit
set_option linter.unusedVariables false
set_option maxRecDepth 100000
/-- a lookup's indices -/
def ixs (l : LLook) : Nat := l.wr.length + l.rd.length
/-- all keys -/
def tot (m : LMsg) : Nat := m.keys.length + lookSize m.looks
/-- an instruction that names a key that there is not -/
def astray (tt : Nat) (a : Int) : Bool := decide ((tt : Int) ≤ a)
def pstray (own : Nat) (p : Int) : Bool := decide (p = 0 ∨ (own : Int) ≤ p)
def stray (own tt : Nat) (i : LIn) : Bool := pstray own i.p || i.acc.any (astray tt)
def noix (l : LLook) : Bool := decide (ixs l = 0)
/-- the rules, broken -/
def b1 (x : LTx) : Bool := decide (x.m.s = 0 ∨ (x.sigs.length : Int) ≠ x.m.s)
def b2 (m : LMsg) : Bool := decide (m.s ≤ m.r ∨ (m.keys.length : Int) < m.s + m.o)
def b3 (m : LMsg) : Bool := m.looks.any noix
def b4 (m : LMsg) : Bool := decide (64 < tot m)
def b5 (m : LMsg) : Bool := m.ins.any (stray m.keys.length (tot m))
def b6 (m : LMsg) : Bool := decide (¬ m.keys.Nodup)
/-- the rule that is broken first -/
def chk (x : LTx) : Int := if b1 x then 6 else if b2 x.m then 7 else if b3 x.m then 10 else if b4 x.m then 3 else if b5 x.m then 8 else if b6 x.m then 9 else 0
/-- of what the rules look at there is not much -/
structure Small (m : LMsg) : Prop where
  keys : m.keys.length ≤ 4000
  ins : m.ins.length ≤ 4000
  looks : m.looks.length ≤ 4000
  sum : lookSize m.looks ≤ 4000
  acc : ∀ i ∈ m.ins, i.acc.length ≤ 4000
theorem Small.of {m : LMsg} (h : total m < 3000) : Small m := by
  unfold total at h
  refine ⟨by omega, by omega, by omega, by omega, fun i hi => ?_⟩
  have := size_mem hi
  omega
theorem Small.wr {m : LMsg} (h : Small m) {l : LLook} (hl : l ∈ m.looks) : l.wr.length ≤ 4000 ∧ l.rd.length ≤ 4000 := by
  have := lsize_mem hl
  have := h.sum
  omega
theorem Small.tot {m : LMsg} (h : Small m) : tot m ≤ 8000 := by
  have := h.keys
  have := h.sum
  unfold Proofs.YtdgbodljmdcagaaGreatDoor.tot
  omega
theorem lookSize_take {l : List LLook} (k : Nat) : lookSize (l.take k) ≤ lookSize l := by
  have e : lookSize l = lookSize (l.take k) + lookSize (l.drop k) := by
    unfold lookSize
    rw [← List.sum_append, ← List.map_append, List.take_append_drop]
  omega
set_option maxRecDepth 100000 in
set_option maxHeartbeats 400000 in
theorem indices_ (x : LLook) (A1 A2 : Option Addr) (c1 c2 : Nat) (w : World) (ht : x.tab.length = 32) (h1 : x.wr.length ≤ 4000) (h2 : x.rd.length ≤ 4000) :
    Calls Tryz.prog 68 #[.agg (bv x.tab ++ [Value.slice A1 x.wr.length c1, Value.slice A2 x.rd.length c2]).toArray] w fun e w' => e = .returned (.int .i64 (ixs x : Nat)) ∧ Below w.heap.size w w' := by
  have hr := Row.new w 124 (bv x.tab ++ [Value.slice A1 x.wr.length c1, Value.slice A2 x.rd.length c2])
  obtain ⟨e32, e33⟩ := look_cells hr ht
  have hb0 := (Below.refl w.heap.size w).alloc (Nat.le_refl _) (.cells (bv x.tab ++ [Value.slice A1 x.wr.length c1, Value.slice A2 x.rd.length c2]).toArray 124)
  have HX : Hid (((x.wr.length : Nat) : Int) + ((x.rd.length : Nat) : Int) = ((ixs x : Nat) : Int)) := Lib.hid (by unfold ixs; omega)
  generalize (bv x.tab ++ [Value.slice A1 x.wr.length c1, Value.slice A2 x.rd.length c2]) = cs at *
  have HB := Lib.hid hb0
  clear hr hb0 ht
  generalize x.wr.length = n1 at *
  generalize x.rd.length = n2 at *
  go_enter Tryz.func68, Tryz.ntmps68
  go_wp2
  go_ret
  exact ⟨by rw [← HX.out]; rfl, HB.out⟩
/-- the tx's cells in a block -/
structure TxRow (w : World) (g : Nat) (s : TRaw) (x : LTx) : Prop where
  c0 : w.cell? ⟨g, 0, none⟩ = some (.slice s.SA s.sn s.sc)
  c2 : w.cell? ⟨g, 2, none⟩ = some (.int .u8 x.m.s)
  c3 : w.cell? ⟨g, 3, none⟩ = some (.int .u8 x.m.r)
  c4 : w.cell? ⟨g, 4, none⟩ = some (.int .u8 x.m.o)
  c5 : w.cell? ⟨g, 5, none⟩ = some (.slice s.q.KA s.q.kn s.q.kc)
  c38 : w.cell? ⟨g, 38, none⟩ = some (.slice s.q.IA s.q.n s.q.ic)
  c39 : w.cell? ⟨g, 39, none⟩ = some (.slice s.q.LA s.q.ln s.q.lc)
theorem TxRow.of {w : World} {g t : Nat} {s : TRaw} {x : LTx} (hr : Row w g t (s.cells x)) (h : x.m.recent.length = 32) : TxRow w g s x :=
  ⟨(hr.cell 0).trans rfl, (hr.cell 2).trans rfl, (hr.cell 3).trans rfl, (hr.cell 4).trans rfl, (hr.cell 5).trans rfl,
    (hr.cell 38).trans ((tcells_m 37).trans (cells_37 h)), (hr.cell 39).trans ((tcells_m 38).trans (cells_38 h))⟩
theorem TxRow.keep {w w' : World} {g B : Nat} {s : TRaw} {x : LTx} (h : TxRow w g s x) (hg : g < B) (hb : Below B w w') : TxRow w' g s x :=
  ⟨(hb.cell (p := ⟨g, 0, none⟩) hg).trans h.c0, (hb.cell (p := ⟨g, 2, none⟩) hg).trans h.c2, (hb.cell (p := ⟨g, 3, none⟩) hg).trans h.c3, (hb.cell (p := ⟨g, 4, none⟩) hg).trans h.c4,
    (hb.cell (p := ⟨g, 5, none⟩) hg).trans h.c5, (hb.cell (p := ⟨g, 38, none⟩) hg).trans h.c38, (hb.cell (p := ⟨g, 39, none⟩) hg).trans h.c39⟩
set_option maxRecDepth 100000 in
set_option maxHeartbeats 1000000 in
theorem total_ (s : TRaw) (x : LTx) (B : Nat) (w : World) (hm : TxIn w B s x) (hB : B ≤ w.heap.size) (hs : Small x.m) :
    Calls Tryz.prog 26 #[.agg (s.cells x).toArray] w fun e w' => e = .returned (.int .i64 (tot x.m : Nat)) ∧ Below w.heap.size w w' := by
  have rb := TxRow.of (Row.new w 42 (s.cells x)) hm.m.recent
  have hb0 := (Below.refl w.heap.size w).alloc (Nat.le_refl _) (.cells (s.cells x).toArray 42)
  generalize s.cells x = cs at *
  obtain ⟨d0, d2, d3, d4, d5, d38, d39⟩ := rb
  obtain ⟨SA, sn, sc, KA, kn, kc, IA, n, ic, LA, ln, lc⟩ := s
  dsimp only at d0 d5 d38 d39
  have lk := hm.m.keys.len
  have ll := hm.m.looks.len
  dsimp only at lk ll
  have k1 := hs.keys
  have k2 := hs.looks
  rw [lk] at k1
  rw [ll] at k2
  have HM := Lib.hid (hm.below (hb0.mono hB))
  have HB0 := Lib.hid hb0
  have HT : Hid (tot x.m = kn + lookSize x.m.looks) := Lib.hid (by unfold tot; rw [lk])
  have HS := Lib.hid hs
  have HLL := Lib.hid ll
  clear d0 d2 d3 d4 d38 hm hb0 lk ll hs
  go_enter Tryz.func26, Tryz.ntmps26
  go_wp2
  generalize (w.alloc (Obj.cells cs.toArray 42)) = W0 at *
  go_loopw [3, 14] (fun nn i wr => ∃ (k s : Nat), k ≤ ln ∧ i = .int .i64 k ∧ nn = .int .i64 s ∧ s = kn + lookSize (x.m.looks.take k) ∧ s ≤ 8000 ∧ Below W0.heap.size W0 wr) (fun nn i _ => ln - (intOf i).toNat)
  case atStart => exact ⟨0, kn, Nat.zero_le _, rfl, rfl, by simp [lookSize], by omega, Below.refl _ _⟩
  case round =>
    obtain ⟨k, s, hk, rfl, rfl, hsum, hs9, hbw⟩ := hrel
    have HSU := Lib.hid hsum
    have HBW := Lib.hid hbw
    clear hsum hbw
    by_cases hlt : k < ln
    · obtain ⟨a, y, va, vd, rfl, hab, hx, hat⟩ := (HM.out.below (HBW.out.mono (Nat.le_trans hB HB0.out.size))).m.looks.get hlt
      have hx2 := HS.out.wr (List.mem_of_getElem? hx)
      have hz := lookSize_succ hx
      have hz2 := lookSize_take (l := x.m.looks) (k + 1)
      have hz3 := HS.out.sum
      obtain ⟨A1, c1, rfl, _, _, _⟩ := hat.wr.is
      obtain ⟨A2, c2, rfl, _, _, _⟩ := hat.rd.is
      have HI := Lib.hid (fun w => indices_ y A1 A2 c1 c2 w hat.len hx2.1 hx2.2)
      have HL := Lib.hid (size_lk hat.len (Value.slice A1 y.wr.length c1) (Value.slice A2 y.rd.length c2))
      have H1 := Lib.hid (lookCells_one (tab := y.tab) hat.wr hat.rd)
      have HSZ := Lib.hid hat.size
      have HAT := Lib.hid hat.cells
      have HZ : Hid (s + ixs y = kn + lookSize (x.m.looks.take (k + 1))) := Lib.hid (by have := HSU.out; unfold ixs; omega)
      have hz4 : s + ixs y ≤ 8000 := by have := HZ.out; omega
      generalize (bv y.tab ++ [Value.slice A1 y.wr.length c1, Value.slice A2 y.rd.length c2]) = lc' at *
      clear hx hat hx2 hz hz2 hz3
      go_wp2_with (first
        | ((with_reducible show wpList _ _ _ ({ dst := some 17, op := Op.load _ _, type := _, pos := _, after := _, guard := _ } :: _) _ _); go_must (refine wpList_load_at rfl 124 (.tmp 16) rfl (a.add (k * 34)) lc' _ Tryz.underlying124 rfl HL.out HAT.out ?_ ?_; go_simp))
        | ((with_reducible show wpList _ _ _ ({ dst := none, op := Op.store 124 _ _, type := _, pos := _, after := _, guard := _ } :: _) _ _); go_must (refine wpList_store_new rfl 124 (.tmp 5) (.tmp 17) rfl lc' HL.out H1.out (by rw [HSZ.out]; rfl) ?_ ?_ ?_; go_simp; go_simp; intro w1 hr1 hb1 hz1; have R1 := Lib.hid hr1; have B1 := Lib.hid hb1; clear hr1 hb1 hz1))
        | ((with_reducible show wpList _ _ _ ({ dst := some 19, op := Op.load _ _, type := _, pos := _, after := _, guard := _ } :: _) _ _); go_must (refine wpList_load_whole rfl 124 (.tmp 5) rfl _ 124 lc' _ Tryz.underlying124 rfl HL.out R1.out ?_ ?_; go_simp)))
      refine (HI.out _).mono ?_
      rintro e w2 ⟨rfl, hb2⟩
      have HB2 := Lib.hid (HBW.out.trans ((B1.out.trans (hb2.mono B1.out.size)).mono HBW.out.size))
      clear hb2 B1 R1
      go_wp2_with fail
      go_roundw
      case rel => exact ⟨k + 1, s + ixs y, by omega, by go_num, by go_num, HZ.out, hz4, HB2.out⟩
      case measure => simp [intOf]; omega
    · have hkn : k = ln := by omega
      have HE : Hid (tot x.m = s) := Lib.hid (by
        have h1 := HSU.out
        rw [hkn, List.take_of_length_le (by rw [HLL.out]; exact Nat.le_refl _)] at h1
        rw [HT.out, h1])
      clear hkn HSU
      go_wp2
      go_ret
      exact ⟨by simp [HE.out], HB0.out.trans (HBW.out.mono HB0.out.size)⟩
end Go.Proofs.YtdgbodljmdcagaaGreatDoor

/-
  Of part KeyEq: what is needed here.
-/
namespace Go.Proofs.YtdgbodljmdcagaaGreatDoor
open Go.RowKit
set_option linter.unusedVariables false
set_option maxRecDepth 100000
def same32 (x y : List Int) (is : List Nat) : Bool := is.all fun i => x.getD i 0 == y.getD i 0
theorem eqItems_any (x y : List Int) (w : World) : ∀ (is : List Nat), (∀ i ∈ is, i < x.length ∧ i < y.length) → (Op.eqItems 9999 5 1 (bv x).toArray (bv y).toArray is).run Tryz.prog w = .ok (same32 x y is) w
  | [], _ => by simp [Op.eqItems, same32]
  | i :: is, h => by
    have hi := h i (by simp)
    have hc : (bv x).toArray[i]? = some (.int .u8 (x.getD i 0)) := by
      rw [List.getElem?_toArray]
      exact bv_at hi.1
    have hd : (bv y).toArray[i]? = some (.int .u8 (y.getD i 0)) := by
      rw [List.getElem?_toArray]
      exact bv_at hi.2
    have p := run_part_plain (P := Tryz.prog) w plainU8 (xs := (bv x).toArray) (off := i) hc
    have p2 := run_part_plain (P := Tryz.prog) w plainU8 (xs := (bv y).toArray) (off := i) hd
    have ih := eqItems_any x y w is fun k hk => h k (by simp [hk])
    simp only [Op.eqItems, Nat.mul_one, Sem.run_bind, p, p2, Result.andThen_ok, run_equalIn_int w 9998 5 .u8 .u8 _ _ Tryz.underlying5]
    cases hb : (x.getD i 0 == y.getD i 0)
    · have : same32 x y (i :: is) = false := by simp only [same32, List.all_cons, hb, Bool.false_and]
      rw [this]
      simp
    · have : same32 x y (i :: is) = same32 x y is := by simp only [same32, List.all_cons, hb, Bool.true_and]
      rw [this]
      simpa using ih
theorem same32_iff {x y : List Int} {n : Nat} (hx : x.length = n) (hy : y.length = n) : same32 x y (List.range n) = decide (x = y) := by
  rw [Bool.eq_iff_iff, decide_eq_true_iff]
  unfold same32
  rw [List.all_eq_true]
  constructor
  · intro h
    refine List.ext_getElem (by omega) fun i h1 h2 => ?_
    have := h i (by simp; omega)
    rw [beq_iff_eq, List.getD_eq_getElem?_getD, List.getD_eq_getElem?_getD, List.getElem?_eq_getElem h1, List.getElem?_eq_getElem h2] at this
    exact this
  · rintro rfl i _
    simp
theorem key_eql {x y : List Int} (hx : x.length = 32) (hy : y.length = 32) (w : World) :
    (binOp .eql 78 (.agg (bv x).toArray) (.agg (bv y).toArray)).run Tryz.prog w = .ok (.bool (decide (x = y))) w := by
  obtain ⟨i, hi⟩ := infoU8
  rw [run_eql_struct, show (10000 : Nat) = 9999 + 1 from rfl, run_equalIn_array w 9999 _ _ Tryz.underlying78 hi, cellsOfU8, eqItems_any x y w _ (fun i hi => by simp at hi; omega), same32_iff hx hy]
  rfl
end Go.Proofs.YtdgbodljmdcagaaGreatDoor
