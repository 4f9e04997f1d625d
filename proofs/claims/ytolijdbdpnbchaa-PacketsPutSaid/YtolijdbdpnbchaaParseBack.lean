/-
  Reading from the front, plainly: what was put is read; a part cut off is an end too early.
-/
import Derived.Test.YtolijdbdpnbchaaPlain
namespace Go.Proofs.Ytolijdbdpnbchaa
open Go.RowKit
set_option linter.unusedVariables false

theorem getS_put (n : Int) (rest : List Int) (h0 : 0 ≤ n) (h1 : n ≤ 65535) : getS (short n ++ rest) = (n, ((short n).length : Int), 0) := by
  by_cases h : n < 128
  · have e : short n = [n] := by simp [short, h]
    have hm : mea (n :: rest) = (1, 0) := by simp [mea, h]
    simp [e, getS, hm]
  · by_cases h' : n < 16384
    · have e : short n = [n % 128 + 128, n / 128] := by simp [short, h, h']
      have hm : mea ((n % 128 + 128) :: (n / 128) :: rest) = (2, 0) := by
        simp only [mea, List.length_cons, List.getD_cons_zero, List.getD_cons_succ]
        rw [if_neg (by omega), if_neg (by omega), if_neg (by omega), if_neg (by omega), if_pos (by omega)]
      simp [e, getS, hm]
      omega
    · have e : short n = [n % 128 + 128, n / 128 % 128 + 128, n / 16384] := by simp [short, h, h']
      have hm : mea ((n % 128 + 128) :: (n / 128 % 128 + 128) :: (n / 16384) :: rest) = (3, 0) := by
        simp only [mea, List.length_cons, List.getD_cons_zero, List.getD_cons_succ]
        rw [if_neg (by omega), if_neg (by omega), if_neg (by omega), if_neg (by omega), if_neg (by omega), if_neg (by omega), if_neg (by omega)]
      simp [e, getS, hm]
      omega
theorem pShort_put (n : Nat) (r : List Int) (h : n ≤ 65535) : pShort (short n ++ r) = .ok (n, r) := by
  unfold pShort
  rw [getS_put n r (by omega) (by omega)]
  simp

/-- what was put is read -/
def Puts {α : Type} (f : α → List Int) (P : α → Prop) (one : List Int → PR α) : Prop := ∀ x, P x → ∀ r, one (f x ++ r) = .ok (x, r)
theorem puts_octet : Puts (fun z => [z]) (fun _ => True) pOctet := fun x _ r => rfl
theorem puts_take (n : Nat) : Puts (fun l => l) (fun l => l.length = n) (pTake n) := by
  rintro l rfl r
  unfold pTake
  rw [if_neg (by simp)]
  simp
section
variable {α : Type} {f : α → List Int} {P : α → Prop} {one : List Int → PR α}
theorem puts_many (h1 : Puts f P one) : ∀ (n : Nat) (l : List α), l.length = n → (∀ x ∈ l, P x) → ∀ r, pMany one n (l.flatMap f ++ r) = .ok (l, r)
  | 0, l, hl, _, r => by
    obtain rfl := List.length_eq_zero_iff.1 hl
    rfl
  | n + 1, l, hl, hp, r => by
    obtain ⟨l', x, rfl⟩ : ∃ l' x, l = l' ++ [x] := ⟨l.dropLast, l.getLast (by intro h; simp [h] at hl), (List.dropLast_concat_getLast _).symm⟩
    have h2 := puts_many h1 n l' (by simpa using hl) (fun y hy => hp y (by simp [hy])) (f x ++ r)
    have h3 := h1 x (hp x (by simp)) r
    unfold pMany
    rw [List.flatMap_append, List.append_assoc, show [x].flatMap f = f x by simp, h2]
    simp only [h3]
theorem puts_list (h1 : Puts f P one) : Puts (fun l => short l.length ++ l.flatMap f) (fun l => l.length ≤ 65535 ∧ ∀ x ∈ l, P x) (pList one) := by
  rintro l ⟨h2, h3⟩ r
  unfold pList
  rw [List.append_assoc, pShort_put _ _ h2]
  exact puts_many h1 _ l rfl h3 r
end
theorem puts_bytes : Puts encL (fun l => l.length ≤ 65535) pBytes := by
  intro l hl r
  have := puts_list puts_octet l ⟨hl, fun _ _ => trivial⟩ r
  simp only [flatMap_one] at this
  exact this
theorem puts_in : Puts encIn (fun i => i.acc.length ≤ 65535 ∧ i.dat.length ≤ 65535) pIn := by
  rintro ⟨p, a, d⟩ ⟨h1, h2⟩ r
  unfold pIn
  have e1 : pOctet (encIn ⟨p, a, d⟩ ++ r) = .ok (p, encL a ++ (encL d ++ r)) := by simp [encIn, pOctet]
  rw [e1]
  simp only [puts_bytes a h1, puts_bytes d h2]
theorem puts_look : Puts encLook (fun l => l.tab.length = 32 ∧ l.wr.length ≤ 65535 ∧ l.rd.length ≤ 65535) pLook := by
  rintro ⟨t, a, d⟩ ⟨h0, h1, h2⟩ r
  unfold pLook
  have e1 : pTake 32 (encLook ⟨t, a, d⟩ ++ r) = .ok (t, encL a ++ (encL d ++ r)) := by
    have := puts_take 32 t h0 (encL a ++ (encL d ++ r))
    rw [← this]
    simp [encLook]
  rw [e1]
  simp only [puts_bytes a h1, puts_bytes d h2]
theorem puts_keys : Puts (fun l => short l.length ++ l.flatten) (fun l : List (List Int) => l.length ≤ 65535 ∧ ∀ k ∈ l, k.length = 32) (pList (pTake 32)) := by
  rintro l h r
  have := puts_list (puts_take 32) l h r
  simp only [flatMap_id] at this
  exact this

/-- a message that has been put is read -/
theorem pMsg_put {m : LMsg} (hf : Fits m) (hw : m.Wf) (r : List Int) : pMsg (enc m ++ r) = .ok (m, r) := by
  obtain ⟨v0, s, rs, ro, ks, h, is, ls⟩ := m
  obtain ⟨f1, f2, f3, f4, f5, f6⟩ := hf
  have k1 := puts_keys ks ⟨f2, fun k hk => (hw.keys k hk).1⟩
  have k2 := puts_take 32 h hw.recent.1
  have k3 := puts_list puts_in is ⟨f3, f5⟩
  have k4 := puts_list puts_look ls ⟨f4, fun l hl => ⟨(hw.looks l hl).1.1, f6 l hl⟩⟩
  have hs := hw.s
  unfold IsByte at hs
  dsimp only at f1 f2 f3 f4 f5 f6 hs
  simp only [List.append_assoc] at k1 k2 k3 k4
  cases v0
  · obtain ⟨rfl, hs1⟩ : ls = [] ∧ s < 128 := by simpa using f1
    have e : enc ⟨false, s, rs, ro, ks, h, is, []⟩ ++ r = s :: rs :: ro :: (short ks.length ++ (ks.flatten ++ (h ++ (short is.length ++ (is.flatMap encIn ++ r))))) := by
      simp [enc, encHead, encTail]
    rw [e]
    have e1 : pFirst (s :: rs :: ro :: (short ks.length ++ (ks.flatten ++ (h ++ (short is.length ++ (is.flatMap encIn ++ r)))))) = .ok ((false, s), rs :: ro :: (short ks.length ++ (ks.flatten ++ (h ++ (short is.length ++ (is.flatMap encIn ++ r)))))) := by
      unfold pFirst
      simp only [pOctet]
      rw [if_neg (by omega), if_neg (by omega)]
    unfold pMsg
    rw [e1]
    simp only [pOctet, k1, k2, k3, pLooks, Bool.false_eq_true, if_false]
  · have e : enc ⟨true, s, rs, ro, ks, h, is, ls⟩ ++ r = 128 :: s :: rs :: ro :: (short ks.length ++ (ks.flatten ++ (h ++ (short is.length ++ (is.flatMap encIn ++ (short ls.length ++ (ls.flatMap encLook ++ r))))))) := by
      simp [enc, encHead, encTail]
    rw [e]
    have e1 : pFirst (128 :: s :: rs :: ro :: (short ks.length ++ (ks.flatten ++ (h ++ (short is.length ++ (is.flatMap encIn ++ (short ls.length ++ (ls.flatMap encLook ++ r)))))))) = .ok ((true, s), rs :: ro :: (short ks.length ++ (ks.flatten ++ (h ++ (short is.length ++ (is.flatMap encIn ++ (short ls.length ++ (ls.flatMap encLook ++ r)))))))) := by
      unfold pFirst
      simp only [pOctet]
      rw [if_neg (by omega), if_pos trivial]
    unfold pMsg
    rw [e1]
    simp only [pOctet, k1, k2, k3, k4, pLooks, if_true]

/-- more bytes behind change nothing, but where the end came too early -/
def Stable {α : Type} (one : List Int → PR α) : Prop := ∀ zs t, match one zs with
  | .ok (x, r) => one (zs ++ t) = .ok (x, r ++ t)
  | .error c => c = 5 ∨ one (zs ++ t) = .error c
def pBind {α β : Type} (one : List Int → PR α) (k : α → List Int → PR β) (zs : List Int) : PR β := match one zs with
  | .error c => .error c
  | .ok (x, r) => k x r
theorem stable_ret {α : Type} (x : α) : Stable (fun r => .ok (x, r) : List Int → PR α) := fun zs t => rfl
theorem stable_err {α : Type} (c : Int) : Stable (fun _ => .error c : List Int → PR α) := fun zs t => .inr rfl
theorem stable_bind {α β : Type} {one : List Int → PR α} {k : α → List Int → PR β} (h : Stable one) (hk : ∀ x, Stable (k x)) : Stable (pBind one k) := by
  intro zs t
  have h1 := h zs t
  unfold pBind
  cases e : one zs with
  | error c =>
    rw [e] at h1
    rcases h1 with h1 | h1
    · exact .inl h1
    · right
      rw [h1]
  | ok p =>
    obtain ⟨x, r⟩ := p
    rw [e] at h1
    dsimp only at h1 ⊢
    rw [h1]
    exact hk x r t
theorem stable_octet : Stable pOctet := by
  intro zs t
  match zs with
  | [] => exact .inl rfl
  | z :: r => rfl
theorem stable_take (n : Nat) : Stable (pTake n) := by
  intro zs t
  by_cases h : zs.length < n
  · have e : pTake n zs = .error 5 := by unfold pTake; rw [if_pos h]
    rw [e]
    exact .inl rfl
  · have e : pTake n zs = .ok (zs.take n, zs.drop n) := by unfold pTake; rw [if_neg h]
    have e' : pTake n (zs ++ t) = .ok (zs.take n, zs.drop n ++ t) := by
      unfold pTake
      rw [if_neg (by simp; omega), List.take_append_of_le_length (by omega), List.drop_append_of_le_length (by omega)]
    rw [e, e']
theorem mea_more (a b c : Int) (r : List Int) : mea (a :: b :: c :: r) = (if a < 128 then (1, 0) else if b = 0 then (0, 4) else if b < 128 then (2, 0) else if c = 0 ∨ 3 < c then (0, 4) else (3, 0)) := by
  simp only [mea, List.length_cons, List.getD_cons_zero, List.getD_cons_succ]
  rw [if_neg (by omega)]
  split
  · rfl
  · rw [if_neg (by omega)]
    split
    · rfl
    · split
      · rfl
      · rw [if_neg (by omega)]
theorem stable_short : Stable pShort := by
  intro zs t
  match zs with
  | [] => exact .inl rfl
  | [a] =>
    by_cases h : a < 128
    · have e : ∀ r, pShort (a :: r) = .ok (a.toNat, r) := fun r => by
        have hm : mea (a :: r) = (1, 0) := by simp [mea, h]
        simp [pShort, getS, hm]
      rw [e []]
      exact e t
    · have e : pShort [a] = .error 5 := by
        have hm : mea [a] = (0, 5) := by simp [mea, h]
        simp [pShort, getS, hm]
      rw [e]
      exact .inl rfl
  | [a, b] =>
    by_cases h : a < 128
    · have e : ∀ r, pShort (a :: r) = .ok (a.toNat, r) := fun r => by
        have hm : mea (a :: r) = (1, 0) := by simp [mea, h]
        simp [pShort, getS, hm]
      rw [e [b]]
      exact e (b :: t)
    · by_cases h0 : b = 0
      · have e : ∀ r, pShort (a :: b :: r) = .error 4 := fun r => by
          have hm : mea (a :: b :: r) = (0, 4) := by simp [mea, h, h0]
          simp [pShort, getS, hm]
        rw [e []]
        exact .inr (e t)
      · by_cases h1 : b < 128
        · have e : ∀ r, pShort (a :: b :: r) = .ok ((a - 128 + 128 * b).toNat, r) := fun r => by
            have hm : mea (a :: b :: r) = (2, 0) := by simp [mea, h, h0, h1]
            simp [pShort, getS, hm]
          rw [e []]
          exact e t
        · have e : pShort [a, b] = .error 5 := by
            have hm : mea [a, b] = (0, 5) := by simp [mea, h, h0, h1]
            simp [pShort, getS, hm]
          rw [e]
          exact .inl rfl
  | a :: b :: c :: r =>
    have e : mea (a :: b :: c :: (r ++ t)) = mea (a :: b :: c :: r) := by rw [mea_more, mea_more]
    have e2 : getS (a :: b :: c :: (r ++ t)) = getS (a :: b :: c :: r) := by
      unfold getS
      rw [e]
      rfl
    have hk : (getS (a :: b :: c :: r)).2.1.toNat ≤ 3 := by
      unfold getS
      rw [mea_more]
      repeat' split
      all_goals simp_all
    cases h : pShort (a :: b :: c :: r) with
    | ok p =>
      obtain ⟨x, r'⟩ := p
      show pShort (a :: b :: c :: (r ++ t)) = .ok (x, r' ++ t)
      unfold pShort at h ⊢
      rw [e2]
      split at h
      · rename_i h0
        cases h
        rw [if_pos h0]
        congr 2
        rw [show a :: b :: c :: (r ++ t) = (a :: b :: c :: r) ++ t from rfl, List.drop_append_of_le_length (by simp; omega)]
      · cases h
    | error c' =>
      right
      show pShort (a :: b :: c :: (r ++ t)) = .error c'
      unfold pShort at h ⊢
      rw [e2]
      split at h
      · cases h
      · rename_i h0
        cases h
        rw [if_neg h0]

section
variable {α : Type} {one : List Int → PR α}
theorem stable_same {one' : List Int → PR α} (h : Stable one) (e : ∀ zs, one' zs = one zs) : Stable one' := by
  intro zs t
  rw [e zs, e (zs ++ t)]
  exact h zs t
theorem stable_many (h : Stable one) : ∀ n, Stable (pMany one n)
  | 0 => stable_ret []
  | n + 1 => stable_same (stable_bind (stable_many h n) fun l => stable_bind h fun x => stable_ret (l ++ [x])) fun zs => by
    unfold pMany pBind
    rcases pMany one n zs with c | ⟨x0, r0⟩
    · rfl
    dsimp only
    rcases one r0 with c | ⟨x1, r1⟩ <;> rfl
theorem stable_list (h : Stable one) : Stable (pList one) := stable_same (stable_bind stable_short fun n => stable_many h n) fun zs => by
  unfold pList pBind
  rcases pShort zs with c | ⟨x0, r0⟩ <;> rfl
end
theorem stable_bytes : Stable pBytes := stable_list stable_octet
theorem stable_in : Stable pIn := stable_same (stable_bind stable_octet fun p => stable_bind stable_bytes fun a => stable_bind stable_bytes fun d => stable_ret (LIn.mk p a d)) fun zs => by
  unfold pIn pBind
  rcases pOctet zs with c | ⟨x0, r0⟩
  · rfl
  dsimp only
  rcases pBytes r0 with c | ⟨x1, r1⟩
  · rfl
  dsimp only
  rcases pBytes r1 with c | ⟨x2, r2⟩ <;> rfl
theorem stable_look : Stable pLook := stable_same (stable_bind (stable_take 32) fun p => stable_bind stable_bytes fun a => stable_bind stable_bytes fun d => stable_ret (LLook.mk p a d)) fun zs => by
  unfold pLook pBind
  rcases pTake 32 zs with c | ⟨x0, r0⟩
  · rfl
  dsimp only
  rcases pBytes r0 with c | ⟨x1, r1⟩
  · rfl
  dsimp only
  rcases pBytes r1 with c | ⟨x2, r2⟩ <;> rfl
theorem stable_first : Stable pFirst := stable_same (one := pBind pOctet fun f r => if 128 < f then .error 4 else if f = 128 then pBind pOctet (fun s r => .ok ((true, s), r)) r else .ok ((false, f), r))
    (stable_bind stable_octet fun f => by
      by_cases h1 : 128 < f
      · simp only [if_pos h1]
        exact stable_err 4
      · by_cases h2 : f = 128
        · simp only [if_neg h1, if_pos h2]
          exact stable_bind stable_octet fun s => stable_ret (true, s)
        · simp only [if_neg h1, if_neg h2]
          exact stable_ret (false, f)) fun zs => by
  unfold pFirst pBind
  rcases pOctet zs with c | ⟨x0, r0⟩
  · rfl
  dsimp only
  split
  · rfl
  · split
    · rcases pOctet r0 with c | ⟨x1, r1⟩ <;> rfl
    · rfl
theorem stable_looks (b : Bool) : Stable (pLooks b) := by
  cases b
  · exact stable_same (stable_ret []) fun zs => rfl
  · exact stable_same (stable_list stable_look) fun zs => rfl
theorem stable_msg : Stable pMsg :=
  stable_same (stable_bind stable_first fun p => stable_bind stable_octet fun rs => stable_bind stable_octet fun ro => stable_bind (stable_list (stable_take 32)) fun ks => stable_bind (stable_take 32) fun h =>
    stable_bind (stable_list stable_in) fun is => stable_bind (stable_looks p.1) fun ls => stable_ret (LMsg.mk p.1 p.2 rs ro ks h is ls)) fun zs => by
  unfold pMsg pBind
  rcases pFirst zs with c | ⟨⟨v, s⟩, r⟩
  · rfl
  dsimp only
  rcases pOctet r with c | ⟨x0, r0⟩
  · rfl
  dsimp only
  rcases pOctet r0 with c | ⟨x1, r1⟩
  · rfl
  dsimp only
  rcases pList (pTake 32) r1 with c | ⟨x2, r2⟩
  · rfl
  dsimp only
  rcases pTake 32 r2 with c | ⟨x3, r3⟩
  · rfl
  dsimp only
  rcases pList pIn r3 with c | ⟨x4, r4⟩
  · rfl
  dsimp only
  rcases pLooks v r4 with c | ⟨x5, r5⟩ <;> rfl

/-- a part cut off -/
theorem pMsg_cut {m : LMsg} (hf : Fits m) (hw : m.Wf) {k : Nat} (hk : k < (enc m).length) : pMsg ((enc m).take k) = .error 5 := by
  have h1 := stable_msg ((enc m).take k) ((enc m).drop k)
  rw [List.take_append_drop] at h1
  have h2 := pMsg_put hf hw []
  rw [List.append_nil] at h2
  rw [h2] at h1
  cases e : pMsg ((enc m).take k) with
  | ok p =>
    obtain ⟨x, r⟩ := p
    rw [e] at h1
    have h3 : Except.ok (m, []) = (Except.ok (x, r ++ (enc m).drop k) : Except Int (LMsg × List Int)) := h1
    have h4 : ([] : List Int) = r ++ (enc m).drop k := by injection h3 with h3; exact (Prod.mk.inj h3).2
    have h5 := congrArg List.length h4
    simp at h5
    omega
  | error c =>
    rw [e] at h1
    rcases h1 with rfl | h1
    · rfl
    · cases h1
end Go.Proofs.Ytolijdbdpnbchaa
