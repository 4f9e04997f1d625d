/-
  A taker's steps, put together.
-/
import Derived.Test.YtolijdbdpnbchaaTake
import Derived.Test.YtolijdbdpnbchaaParseBack
namespace Go.Proofs.Ytolijdbdpnbchaa
open Go.RowKit
set_option linter.unusedVariables false

section
variable {α β : Type} {f : List Int → PR α} {g : α → List Int → PR β} {s s1 s' : St} {x : α} {y : β}
theorem Step.bind (h1 : Step f s x s1) (h2 : Step (g x) s1 y s') : Step (pBind f g) s y s' := by
  match s, h1 with
  | .error c, h1 =>
    have h1 : s1 = .error c := h1
    subst h1
    exact h2
  | .ok r, h1 =>
    unfold Step at h1
    unfold Step pBind
    simp only at h1 ⊢
    cases hf : f r with
    | error c =>
      rw [hf] at h1
      simp only at h1 ⊢
      subst h1
      exact h2
    | ok a =>
      obtain ⟨a, r'⟩ := a
      rw [hf] at h1
      simp only at h1 ⊢
      obtain ⟨rfl, rfl⟩ := h1
      exact h2
theorem Step.same {f' : List Int → PR α} (h : Step f s x s') (e : ∀ zs, f zs = f' zs) : Step f' s x s' := by
  rw [show f' = f from funext fun zs => (e zs).symm]
  exact h
theorem Step.pure (x : α) (s : St) : Step (fun r => .ok (x, r)) s x s := by
  cases s with
  | error c => rfl
  | ok r => exact ⟨rfl, rfl⟩
end

section
variable {α : Type} {one : List Int → PR α} {s s1 s2 s' : St} {l : List α} {x : α} {n k : Nat}
theorem Step.many0 (s : St) : Step (pMany one 0) s [] s := by
  cases s with
  | error c => rfl
  | ok r => exact ⟨rfl, rfl⟩
theorem Step.many1 (h : Step (pMany one k) s l s1) (h1 : Step one s1 x s2) : Step (pMany one (k + 1)) s (l ++ [x]) s2 := by
  have h2 : Step (pBind (pMany one k) fun l => pBind one fun x r => .ok (l ++ [x], r)) s (l ++ [x]) s2 := h.bind (h1.bind (Step.pure (l ++ [x]) s2))
  refine h2.same fun zs => ?_
  unfold pBind
  rw [pMany_snoc]
  cases pMany one k zs with
  | error c => rfl
  | ok a =>
    obtain ⟨l, r⟩ := a
    simp only
    cases one r with
    | error c => rfl
    | ok b => rfl
theorem Step.many_fail {c : Int} (h : Step (pMany one k) s l (.error c)) (hk : k ≤ n) (l' : List α) : Step (pMany one n) s l' (.error c) := by
  cases s with
  | error c' => exact h
  | ok r =>
    unfold Step at h ⊢
    simp only at h ⊢
    cases hf : pMany one k r with
    | error c' =>
      rw [hf] at h
      simp only at h
      cases h
      rw [pMany_fail one hf n hk]
    | ok a =>
      rw [hf] at h
      obtain ⟨_, h⟩ := h
      cases h
theorem Step.list (h : Step pShort s n s1) (h1 : Step (pMany one n) s1 l s') : Step (pList one) s l s' := by
  refine (Step.bind (g := fun n => pMany one n) h h1).same fun zs => ?_
  unfold pBind pList
  cases pShort zs with
  | error c => rfl
  | ok a => rfl
end

theorem many_octet : ∀ (n : Nat) (r : List Int), pMany pOctet n r = pTake n r
  | 0, r => by simp [pMany, pTake]
  | n + 1, r => by
    rw [pMany_snoc, many_octet n r]
    unfold pTake
    by_cases h : r.length < n
    · rw [if_pos h, if_pos (by omega)]
    · rw [if_neg h]
      simp only
      cases hd : r.drop n with
      | nil =>
        have : r.length = n := by
          have := congrArg List.length hd
          simp at this
          omega
        rw [if_pos (by omega)]
        rfl
      | cons z t =>
        have hl : n < r.length := by
          have := congrArg List.length hd
          simp at this
          omega
        rw [if_neg (by omega)]
        have e1 : r[n]? = some z := by
          have := congrArg (·[0]?) hd
          simpa using this
        have e2 : r.take (n + 1) = r.take n ++ [z] := by
          rw [List.take_add_one, e1]
          rfl
        have e3 : r.drop (n + 1) = t := by
          rw [← List.drop_drop, hd]
          rfl
        rw [e2, e3]
        rfl
theorem Step.bytes {s s1 s' : St} {n : Nat} {l : List Int} (h : Step pShort s n s1) (h1 : Step (pTake n) s1 l s') : Step pBytes s l s' :=
  Step.list h (h1.same fun zs => (many_octet n zs).symm)
theorem Step.in_ {s s1 s2 s3 : St} {p : Int} {a d : List Int} (h : Step pOctet s p s1) (h1 : Step pBytes s1 a s2) (h2 : Step pBytes s2 d s3) : Step pIn s ⟨p, a, d⟩ s3 := by
  refine (Step.bind (g := fun p => pBind pBytes fun a => pBind pBytes fun d r => .ok (⟨p, a, d⟩, r)) h (h1.bind (h2.bind (Step.pure _ _)))).same fun zs => ?_
  unfold pBind pIn
  repeat' (split <;> simp_all)
theorem Step.look {s s1 s2 s3 : St} {t a d : List Int} (h : Step (pTake 32) s t s1) (h1 : Step pBytes s1 a s2) (h2 : Step pBytes s2 d s3) : Step pLook s ⟨t, a, d⟩ s3 := by
  refine (Step.bind (g := fun t => pBind pBytes fun a => pBind pBytes fun d r => .ok (⟨t, a, d⟩, r)) h (h1.bind (h2.bind (Step.pure _ _)))).same fun zs => ?_
  unfold pBind pLook
  repeat' (split <;> simp_all)
theorem Step.first0 {zs : List Int} {x : Int} {s1 : St} (h : Step pOctet (.ok zs) x s1) (hx : ¬ 128 < x) (hx' : x ≠ 128) : Step pFirst (.ok zs) (false, x) s1 := by
  unfold Step at h ⊢
  unfold pFirst
  simp only at h ⊢
  cases hf : pOctet zs with
  | error c => rw [hf] at h; exact h
  | ok a =>
    obtain ⟨a, r⟩ := a
    rw [hf] at h
    simp only at h ⊢
    obtain ⟨rfl, rfl⟩ := h
    rw [if_neg hx, if_neg hx']
    exact ⟨rfl, rfl⟩
theorem Step.first1 {zs : List Int} {y : Int} {s1 s2 : St} (h : Step pOctet (.ok zs) 128 s1) (h1 : Step pOctet s1 y s2) : Step pFirst (.ok zs) (true, y) s2 := by
  unfold Step at h
  simp only at h
  cases hf : pOctet zs with
  | error c =>
    rw [hf] at h
    simp only at h
    subst h
    have h1 : s2 = .error c := h1
    unfold Step pFirst
    simp only [hf]
    exact h1
  | ok a =>
    obtain ⟨a, r⟩ := a
    rw [hf] at h
    simp only at h
    obtain ⟨rfl, rfl⟩ := h
    unfold Step at h1 ⊢
    unfold pFirst
    simp only [hf]
    rw [if_neg (by omega), if_pos trivial]
    simp only at h1
    cases hg : pOctet r with
    | error c =>
      rw [hg] at h1
      exact h1
    | ok b =>
      obtain ⟨b, r'⟩ := b
      rw [hg] at h1
      simp only at h1 ⊢
      obtain ⟨rfl, rfl⟩ := h1
      exact ⟨rfl, rfl⟩
theorem Step.first_no {zs : List Int} {x : Int} {r : List Int} (h : Step pOctet (.ok zs) x (.ok r)) (hx : 128 < x) : pMsg zs = .error 4 := by
  unfold Step at h
  simp only at h
  unfold pMsg pFirst
  cases hf : pOctet zs with
  | error c => rw [hf] at h; cases h
  | ok a =>
    obtain ⟨a, r⟩ := a
    rw [hf] at h
    simp only at h ⊢
    obtain ⟨rfl, h⟩ := h
    rw [if_pos hx]
theorem Step.msg {zs : List Int} {v0 : Bool} {s1 s2 s3 s4 s5 s6 s7 : St} {s rs ro : Int} {ks : List (List Int)} {h : List Int} {is : List LIn} {ls : List LLook}
    (h1 : Step pFirst (.ok zs) (v0, s) s1) (h2 : Step pOctet s1 rs s2) (h3 : Step pOctet s2 ro s3) (h4 : Step (pList (pTake 32)) s3 ks s4) (h5 : Step (pTake 32) s4 h s5) (h6 : Step (pList pIn) s5 is s6) (h7 : Step (pLooks v0) s6 ls s7) :
    Step pMsg (.ok zs) ⟨v0, s, rs, ro, ks, h, is, ls⟩ s7 := by
  refine (Step.bind (g := fun a => pBind pOctet fun rs => pBind pOctet fun ro => pBind (pList (pTake 32)) fun ks => pBind (pTake 32) fun h => pBind (pList pIn) fun is => pBind (pLooks a.1) fun ls r => .ok (⟨a.1, a.2, rs, ro, ks, h, is, ls⟩, r)) h1 (h2.bind (h3.bind (h4.bind (h5.bind (h6.bind (h7.bind (Step.pure _ _)))))))).same fun zs => ?_
  unfold pBind pMsg
  repeat' (split <;> simp_all)
theorem Step.looks0 (s : St) : Step (pLooks false) s [] s := Step.pure [] s
theorem Step.looks1 {s s' : St} {l : List LLook} (h : Step (pList pLook) s l s') : Step (pLooks true) s l s' := h
/-- what is told in the end -/
theorem Step.done {zs : List Int} {m : LMsg} {r : List Int} (h : Step pMsg (.ok zs) m (.ok r)) : pMsg zs = .ok (m, r) := by
  unfold Step at h
  simp only at h
  cases hf : pMsg zs with
  | error c => rw [hf] at h; cases h
  | ok a =>
    obtain ⟨a, r'⟩ := a
    rw [hf] at h
    simp only at h
    obtain ⟨rfl, h⟩ := h
    cases h
    rfl
theorem Step.fell {zs : List Int} {m : LMsg} {c : Int} (h : Step pMsg (.ok zs) m (.error c)) : pMsg zs = .error c := by
  unfold Step at h
  simp only at h
  cases hf : pMsg zs with
  | error c' => rw [hf] at h; cases h; rfl
  | ok a =>
    rw [hf] at h
    obtain ⟨_, h⟩ := h
    cases h
end Go.Proofs.Ytolijdbdpnbchaa
