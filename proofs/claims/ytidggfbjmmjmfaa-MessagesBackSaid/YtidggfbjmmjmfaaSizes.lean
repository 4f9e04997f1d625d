/-
  A message that is gone through has not many bytes, and fits but for its kind.
-/
import Derived.Test.YtidggfbjmmjmfaaGreat
import Derived.Test.YtidggfbjmmjmfaaPutMsg
namespace Go.Proofs.Ytidggfbjmmjmfaa
open Go.RowKit
set_option linter.unusedVariables false

theorem encIn_len (i : LIn) : (encIn i).length ≤ 7 + (i.acc.length + i.dat.length) := by
  have h1 := short_len3 i.acc.length
  have h2 := short_len3 i.dat.length
  simp only [encIn, encL, List.length_cons, List.length_append]
  omega
theorem encLook_len (l : LLook) (h : l.tab.length = 32) : (encLook l).length ≤ 38 + (l.wr.length + l.rd.length) := by
  have h1 := short_len3 l.wr.length
  have h2 := short_len3 l.rd.length
  simp only [encLook, encL, List.length_append, h]
  omega
theorem ins_len : ∀ (l : List LIn), (l.flatMap encIn).length ≤ 7 * l.length + inSize l
  | [] => by simp
  | i :: r => by
    have h1 := ins_len r
    have h2 := encIn_len i
    simp only [List.flatMap_cons, List.length_append, List.length_cons, inSize, List.map_cons, List.sum_cons] at h1 ⊢
    omega
theorem looks_len : ∀ (l : List LLook), (∀ x ∈ l, x.tab.length = 32) → (l.flatMap encLook).length ≤ 38 * l.length + lookSize l
  | [], _ => by simp
  | i :: r, h => by
    have h1 := looks_len r (fun x hx => h x (by simp [hx]))
    have h2 := encLook_len i (h i (by simp))
    simp only [List.flatMap_cons, List.length_append, List.length_cons, lookSize, List.map_cons, List.sum_cons] at h1 ⊢
    omega

theorem LooksIn.tabs {w : World} {B n : Nat} {A : Option Addr} {l : List LLook} (h : LooksIn w B A n l) : ∀ x ∈ l, x.tab.length = 32 := by
  intro x hx
  obtain ⟨i, hi, rfl⟩ := List.getElem_of_mem hx
  obtain ⟨a, va, vd, _, _, _, ht, _⟩ := h.at_ i _ (List.getElem?_eq_getElem hi)
  exact ht

theorem enc_le {w : World} {B : Nat} {q : Raw} {m : LMsg} (hm : MsgIn w B q m) (ht : total m < 3000) : (enc m).length ≤ 1000000 := by
  have h1 := enc_parts m
  have h2 := flatten_len m.keys hm.keys.each
  have h3 := ins_len m.ins
  have h4 := looks_len m.looks hm.looks.tabs
  have h5 := hm.recent
  have h6 := short_len3 m.keys.length
  have h7 := short_len3 m.ins.length
  have h8 := short_len3 m.looks.length
  have h9 : (encHead m).length ≤ 4 := by unfold encHead; split <;> simp
  have h10 : (encTail m).length ≤ 3 + (m.looks.flatMap encLook).length := by
    unfold encTail
    split
    · simp only [List.length_append]; omega
    · simp
  unfold total at ht
  omega

theorem size_mem {l : List LIn} {x : LIn} (h : x ∈ l) : x.acc.length + x.dat.length ≤ inSize l := by
  induction l with
  | nil => cases h
  | cons y r ih =>
    simp only [inSize, List.map_cons, List.sum_cons] at ih ⊢
    rcases List.mem_cons.1 h with rfl | h
    · omega
    · have := ih h; omega
theorem lsize_mem {l : List LLook} {x : LLook} (h : x ∈ l) : x.wr.length + x.rd.length ≤ lookSize l := by
  induction l with
  | nil => cases h
  | cons y r ih =>
    simp only [lookSize, List.map_cons, List.sum_cons] at ih ⊢
    rcases List.mem_cons.1 h with rfl | h
    · omega
    · have := ih h; omega

theorem fits_of {m : LMsg} (ht : total m < 3000) : Fits m ↔ (m.v0 = true ∨ (m.looks = [] ∧ m.s < 128)) := by
  unfold total at ht
  refine ⟨fun h => h.1, fun h => ⟨h, by omega, by omega, by omega, fun i hi => ?_, fun l hl => ?_⟩⟩
  · have := size_mem hi
    omega
  · have := lsize_mem hl
    omega
end Go.Proofs.Ytidggfbjmmjmfaa
