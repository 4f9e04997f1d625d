/-
  Reading from the front, plainly: what is read, what is left, or what is wrong first.
-/
import Derived.Test.YtolijdbdpnbchaaMsg
import Derived.Test.YtolijdbdpnbchaaGet
namespace Go.Proofs.Ytolijdbdpnbchaa
open Go.RowKit
set_option linter.unusedVariables false

abbrev PR (α : Type) := Except Int (α × List Int)

def pTake (n : Nat) (zs : List Int) : PR (List Int) := if zs.length < n then .error 5 else .ok (zs.take n, zs.drop n)
def pOctet (zs : List Int) : PR Int := match zs with | [] => .error 5 | z :: r => .ok (z, r)
def pShort (zs : List Int) : PR Nat := if (getS zs).2.2 = 0 then .ok ((getS zs).1.toNat, zs.drop (getS zs).2.1.toNat) else .error (getS zs).2.2
def pMany {α : Type} (one : List Int → PR α) : Nat → List Int → PR (List α)
  | 0, zs => .ok ([], zs)
  | n + 1, zs => match pMany one n zs with
    | .error c => .error c
    | .ok (l, r) => match one r with
      | .error c => .error c
      | .ok (x, r') => .ok (l ++ [x], r')
def pList {α : Type} (one : List Int → PR α) (zs : List Int) : PR (List α) := match pShort zs with
  | .error c => .error c
  | .ok (n, r) => pMany one n r
def pBytes (zs : List Int) : PR (List Int) := pList pOctet zs
def pIn (zs : List Int) : PR LIn := match pOctet zs with
  | .error c => .error c
  | .ok (p, r) => match pBytes r with
    | .error c => .error c
    | .ok (a, r) => match pBytes r with
      | .error c => .error c
      | .ok (d, r) => .ok (⟨p, a, d⟩, r)
def pLook (zs : List Int) : PR LLook := match pTake 32 zs with
  | .error c => .error c
  | .ok (t, r) => match pBytes r with
    | .error c => .error c
    | .ok (a, r) => match pBytes r with
      | .error c => .error c
      | .ok (d, r) => .ok (⟨t, a, d⟩, r)
/-- the version and the first of the header's bytes -/
def pFirst (zs : List Int) : PR (Bool × Int) := match pOctet zs with
  | .error c => .error c
  | .ok (f, r) => if 128 < f then .error 4 else if f = 128 then (match pOctet r with
    | .error c => .error c
    | .ok (s, r) => .ok ((true, s), r)) else .ok ((false, f), r)
def pLooks (v0 : Bool) (zs : List Int) : PR (List LLook) := if v0 then pList pLook zs else .ok ([], zs)
def pMsg (zs : List Int) : PR LMsg := match pFirst zs with
  | .error c => .error c
  | .ok ((v0, s), r) => match pOctet r with
    | .error c => .error c
    | .ok (rs, r) => match pOctet r with
      | .error c => .error c
      | .ok (ro, r) => match pList (pTake 32) r with
        | .error c => .error c
        | .ok (ks, r) => match pTake 32 r with
          | .error c => .error c
          | .ok (h, r) => match pList pIn r with
            | .error c => .error c
            | .ok (is, r) => match pLooks v0 r with
              | .error c => .error c
              | .ok (ls, r) => .ok (⟨v0, s, rs, ro, ks, h, is, ls⟩, r)

theorem AllBytes.drop {zs : List Int} (h : AllBytes zs) (k : Nat) : AllBytes (zs.drop k) := fun z hz => h z (List.mem_of_mem_drop hz)
theorem AllBytes.take {zs : List Int} (h : AllBytes zs) (k : Nat) : AllBytes (zs.take k) := fun z hz => h z (List.mem_of_mem_take hz)
theorem AllBytes.bytes {zs : List Int} (h : AllBytes zs) : Bytes zs := by
  intro i
  rw [List.getD_eq_getElem?_getD]
  by_cases hi : i < zs.length
  · rw [List.getElem?_eq_getElem hi]
    exact h _ (List.getElem_mem hi)
  · rw [List.getElem?_eq_none (by omega)]; simp

/-- what GetShort tells of bytes -/
theorem getS_cases (zs : List Int) (h : AllBytes zs) : ((getS zs = (0, 0, 4) ∨ getS zs = (0, 0, 5)) ∨ ∃ n k : Nat, getS zs = ((n : Int), (k : Int), 0) ∧ n ≤ 65535 ∧ 1 ≤ k ∧ k ≤ zs.length) := by
  have hb := h.bytes
  have h0 := hb 0
  have h1 := hb 1
  have h2 := hb 2
  rcases mea_cases zs hb with (hm | hm) | ⟨hm, hl, ha⟩ | ⟨hm, hl, ha, hc, hd⟩ | ⟨hm, hl, ha, hc, hd, he⟩
  · exact .inl (.inl (by simp [getS, hm]))
  · exact .inl (.inr (by simp [getS, hm]))
  · have e : getS zs = (zs.getD 0 0, 1, 0) := by simp [getS, hm]
    exact .inr ⟨(zs.getD 0 0).toNat, 1, by rw [e, Int.toNat_of_nonneg (by omega)]; rfl, by omega, by omega, hl⟩
  · have e : getS zs = (zs.getD 0 0 - 128 + 128 * zs.getD 1 0, 2, 0) := by simp [getS, hm]
    exact .inr ⟨(zs.getD 0 0 - 128 + 128 * zs.getD 1 0).toNat, 2, by rw [e, Int.toNat_of_nonneg (by omega)]; rfl, by omega, by omega, hl⟩
  · have e : getS zs = (zs.getD 0 0 - 128 + 128 * (zs.getD 1 0 - 128) + 16384 * zs.getD 2 0, 3, 0) := by simp [getS, hm]
    exact .inr ⟨(zs.getD 0 0 - 128 + 128 * (zs.getD 1 0 - 128) + 16384 * zs.getD 2 0).toNat, 3, by rw [e, Int.toNat_of_nonneg (by omega)]; rfl, by omega, by omega, hl⟩

/-- what is left is a part of what was there, from its end -/
def Left (zs r : List Int) : Prop := ∃ k, r = zs.drop k
theorem Left.refl (zs : List Int) : Left zs zs := ⟨0, by simp⟩
theorem Left.trans {a b c : List Int} (h : Left a b) (k : Left b c) : Left a c := by
  obtain ⟨i, rfl⟩ := h
  obtain ⟨j, rfl⟩ := k
  exact ⟨i + j, by simp⟩
theorem Left.bytes {a b : List Int} (h : Left a b) (ha : AllBytes a) : AllBytes b := by
  obtain ⟨i, rfl⟩ := h
  exact ha.drop i
theorem Left.le {a b : List Int} (h : Left a b) : b.length ≤ a.length := by
  obtain ⟨i, rfl⟩ := h
  simp

/-- a way of reading that takes from the front alone -/
def FromFront {α : Type} (one : List Int → PR α) : Prop := ∀ zs x r, one zs = .ok (x, r) → Left zs r
theorem front_octet : FromFront pOctet := by
  intro zs x r h
  match zs, h with
  | z :: r', h => cases h; exact ⟨1, rfl⟩
theorem front_take (n : Nat) : FromFront (pTake n) := by
  intro zs x r h
  unfold pTake at h
  split at h
  · cases h
  · cases h; exact ⟨n, rfl⟩
theorem front_short : FromFront pShort := by
  intro zs x r h
  unfold pShort at h
  split at h
  · cases h; exact ⟨_, rfl⟩
  · cases h
theorem front_many {α : Type} {one : List Int → PR α} (h1 : FromFront one) : ∀ n, FromFront (pMany one n)
  | 0, zs, x, r, h => by cases h; exact Left.refl _
  | n + 1, zs, x, r, h => by
    unfold pMany at h
    split at h
    · cases h
    · rename_i l r1 e1
      split at h
      · cases h
      · rename_i y r2 e2
        cases h
        exact (front_many h1 n zs _ _ e1).trans (h1 _ _ _ e2)
theorem front_list {α : Type} {one : List Int → PR α} (h1 : FromFront one) : FromFront (pList one) := by
  intro zs x r h
  unfold pList at h
  split at h
  · cases h
  · rename_i n r1 e1
    exact (front_short _ _ _ e1).trans (front_many h1 n _ _ _ h)
theorem front_bytes : FromFront pBytes := front_list front_octet
theorem front_in : FromFront pIn := by
  intro zs x r h
  unfold pIn at h
  split at h
  · cases h
  · rename_i e1
    split at h
    · cases h
    · rename_i e2
      split at h
      · cases h
      · rename_i e3
        cases h
        exact ((front_octet _ _ _ e1).trans (front_bytes _ _ _ e2)).trans (front_bytes _ _ _ e3)
theorem front_look : FromFront pLook := by
  intro zs x r h
  unfold pLook at h
  split at h
  · cases h
  · rename_i e1
    split at h
    · cases h
    · rename_i e2
      split at h
      · cases h
      · rename_i e3
        cases h
        exact ((front_take 32 _ _ _ e1).trans (front_bytes _ _ _ e2)).trans (front_bytes _ _ _ e3)
end Go.Proofs.Ytolijdbdpnbchaa
