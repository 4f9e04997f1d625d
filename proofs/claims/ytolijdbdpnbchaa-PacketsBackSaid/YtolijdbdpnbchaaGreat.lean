/-
  ferryhouselaw03.Great.
  A message that is gone through has not many bytes, and fits but for its kind.
-/
import Derived.Test.YtolijdbdpnbchaaLooks
import Derived.Deep.QuietTactic
import Derived.BigQuiet
import Derived.Test.YtolijdbdpnbchaaPutMsg
namespace Go.Proofs.Ytolijdbdpnbchaa
open Go.RowKit
set_option linter.unusedVariables false

/-- no list of it is longer than memory is wide -/
structure Sized (m : LMsg) : Prop where
  keys : m.keys.length ≤ 140737488355328
  ins : m.ins.length ≤ 140737488355328
  looks : m.looks.length ≤ 140737488355328
  inl : ∀ i ∈ m.ins, i.acc.length ≤ 140737488355328 ∧ i.dat.length ≤ 140737488355328
  lol : ∀ l ∈ m.looks, l.wr.length ≤ 140737488355328 ∧ l.rd.length ≤ 140737488355328

def inSize (l : List LIn) : Nat := (l.map fun i => i.acc.length + i.dat.length).sum
def lookSize (l : List LLook) : Nat := (l.map fun i => i.wr.length + i.rd.length).sum
/-- how much of it is gone through -/
def total (m : LMsg) : Nat := m.keys.length + m.ins.length + m.looks.length + inSize m.ins + lookSize m.looks

theorem inSize_succ {l : List LIn} {k : Nat} {x : LIn} (h : l[k]? = some x) : inSize (l.take (k + 1)) = inSize (l.take k) + (x.acc.length + x.dat.length) := by
  unfold inSize
  rw [List.take_add_one, h]
  simp
theorem lookSize_succ {l : List LLook} {k : Nat} {x : LLook} (h : l[k]? = some x) : lookSize (l.take (k + 1)) = lookSize (l.take k) + (x.wr.length + x.rd.length) := by
  unfold lookSize
  rw [List.take_add_one, h]
  simp

/-- what Great tells -/
def GreatDone (w : World) (m : LMsg) (e : Ending) (w' : World) : Prop := (∃ b, e = .returned (.bool b) ∧ (b = false → total m < 3000)) ∧ Below w.heap.size w w'

set_option maxRecDepth 100000 in
set_option maxHeartbeats 1000000 in
theorem great_ (q : Raw) (m : LMsg) (B : Nat) (w : World) (hm : MsgIn w B q m) (hB : B ≤ w.heap.size) (hs : Sized m) :
    Calls Try.prog 26 #[.agg (q.cells m).toArray] w (GreatDone w m) := by
  obtain ⟨KA, kn, kc, IA, n, ic, LA, ln, lc⟩ := q
  have rb := MsgRow.of (Row.new w 31 (Raw.cells ⟨KA, kn, kc, IA, n, ic, LA, ln, lc⟩ m)) hm.recent
  have hb0 := (Below.refl w.heap.size w).alloc (Nat.le_refl _) (.cells (Raw.cells ⟨KA, kn, kc, IA, n, ic, LA, ln, lc⟩ m).toArray 31)
  obtain ⟨cs, hcs⟩ : ∃ cs, cs = Raw.cells ⟨KA, kn, kc, IA, n, ic, LA, ln, lc⟩ m := ⟨_, rfl⟩
  rw [← hcs] at rb hb0 ⊢
  clear hcs
  obtain ⟨d0, d1, d2, d3, d4, d37, d38⟩ := rb
  dsimp only at d4 d37 d38
  have lk := hm.keys.len
  have li := hm.ins.len
  have ll := hm.looks.len
  dsimp only at lk li ll
  have k1 := hs.keys
  have k2 := hs.ins
  have k3 := hs.looks
  rw [lk] at k1
  rw [li] at k2
  rw [ll] at k3
  have HM := Lib.hid (hm.below (hb0.mono hB))
  have HSZ := Lib.hid hs
  have HB0 := Lib.hid hb0
  have HT : Hid (total m = kn + n + ln + inSize m.ins + lookSize m.looks) := Lib.hid (by unfold total; rw [lk, li, ll])
  clear d0 d1 d2 d3 hm hs hb0
  go_enter Try.func26, Try.ntmps26
  go_wp2
  generalize (w.alloc (Obj.cells cs.toArray 31)) = W0 at *
  go_loopw [3, 4] (fun nn i wr => ∃ (k j s : Nat), k ≤ n ∧ i = .int .i64 k ∧ nn = .int .i64 s ∧ wr = W0.drewN j ∧ s = kn + n + ln + inSize (m.ins.take k) ∧ s ≤ 900000000000000) (fun nn i _ => n - (intOf i).toNat)
  case atStart => exact ⟨0, 0, kn + n + ln, Nat.zero_le _, rfl, by simp, rfl, by simp [inSize], by omega⟩
  case round =>
    obtain ⟨k, j, s, hk, rfl, rfl, rfl, hsum, hs9⟩ := hrel
    have HS := Lib.hid hsum
    clear hsum
    by_cases hgo : k < n ∧ s < 3000
    · obtain ⟨hlt, hs3⟩ := hgo
      obtain ⟨a, x, va, vd, rfl, hab, hx, hat⟩ := HM.out.ins.get hlt
      obtain ⟨A1, c1, rfl, _, _, _⟩ := hat.acc.is
      obtain ⟨A2, c2, rfl, _, _, _⟩ := hat.dat.is
      have e1 : W0.cell? ⟨(a.add (k * 3)).block, (a.add (k * 3)).off + 1, none⟩ = some (.slice A1 x.acc.length c1) := hat.cells 1 _ rfl
      have e2 : W0.cell? ⟨(a.add (k * 3)).block, (a.add (k * 3)).off + 2, none⟩ = some (.slice A2 x.dat.length c2) := hat.cells 2 _ rfl
      have l1 := (HSZ.out.inl x (List.mem_of_getElem? hx)).1
      have l2 := (HSZ.out.inl x (List.mem_of_getElem? hx)).2
      have HX := Lib.hid (inSize_succ hx)
      clear hat hx
      go_wp2
      go_quiet (fail)
      go_wp2
      go_roundw
      case rel => exact ⟨k + 1, j + nq, s + x.acc.length + x.dat.length, by omega, by go_num, by go_num, by simp, by have := HS.out; have := HX.out; omega, by omega⟩
      case measure => simp [intOf]; omega
    · have HGO : Hid (3000 ≤ s ∨ s = kn + n + ln + inSize m.ins) := by
        refine Lib.hid ?_
        by_cases h3 : s < 3000
        · right
          have hkn : k = n := by
            have : ¬ k < n := fun h => hgo ⟨h, h3⟩
            omega
          have := HS.out
          rwa [hkn, List.take_of_length_le (by omega)] at this
        · left; omega
      have hdec : (k < n ∧ ¬ s < 3000) ∨ ¬ k < n := by
        by_cases h : k < n
        · exact .inl ⟨h, fun h3 => hgo ⟨h, h3⟩⟩
        · exact .inr h
      clear HS hgo
      rcases hdec with ⟨hd1, hd2⟩ | hd1
      all_goals
        (go_wp2
         go_loopw [3, 5] (fun nn i wr => ∃ (k j s : Nat), k ≤ ln ∧ i = .int .i64 k ∧ nn = .int .i64 s ∧ wr = W0.drewN j ∧ (3000 ≤ s ∨ s = kn + n + ln + inSize m.ins + lookSize (m.looks.take k)) ∧ s ≤ 900000000000000) (fun nn i _ => ln - (intOf i).toNat)
         case atStart => exact ⟨0, j, s, Nat.zero_le _, rfl, rfl, rfl, by simpa [lookSize] using HGO.out, hs9⟩
         case round =>
          clear HGO hd1
          try clear hd2
          clear hs9 hk
          obtain ⟨k, j, s, hk, rfl, rfl, rfl, hsum, hs9⟩ := hrel
          have HS := Lib.hid hsum
          clear hsum
          by_cases hgo : k < ln ∧ s < 3000
          · obtain ⟨hlt, hs3⟩ := hgo
            obtain ⟨a, x, va, vd, rfl, hab, hx, hat⟩ := HM.out.looks.get hlt
            have hc1 : W0.cell? ((a.add (k * 34)).add 32) = some va := hat.cells 32 va (by rw [List.getElem?_append_right (by rw [bv_length, hat.len]; exact Nat.le_refl _), bv_length, hat.len]; rfl)
            have hc2 : W0.cell? ((a.add (k * 34)).add 33) = some vd := hat.cells 33 vd (by rw [List.getElem?_append_right (by rw [bv_length, hat.len]; omega), bv_length, hat.len]; rfl)
            obtain ⟨A1, c1, rfl, _, _, _⟩ := hat.wr.is
            obtain ⟨A2, c2, rfl, _, _, _⟩ := hat.rd.is
            have e1 : W0.cell? ⟨(a.add (k * 34)).block, (a.add (k * 34)).off + 32, none⟩ = some (.slice A1 x.wr.length c1) := hc1
            have e2 : W0.cell? ⟨(a.add (k * 34)).block, (a.add (k * 34)).off + 33, none⟩ = some (.slice A2 x.rd.length c2) := hc2
            have l1 := (HSZ.out.lol x (List.mem_of_getElem? hx)).1
            have l2 := (HSZ.out.lol x (List.mem_of_getElem? hx)).2
            have HX := Lib.hid (lookSize_succ hx)
            clear hat hx hc1 hc2
            go_wp2
            go_quiet (fail)
            go_wp2
            go_roundw
            case rel =>
              refine ⟨k + 1, j + nq, s + x.wr.length + x.rd.length, by omega, by go_num, by go_num, by simp, ?_, by omega⟩
              have h1 := HS.out
              have h2 := HX.out
              omega
            case measure => simp [intOf]; omega
          · have HT2 : Hid (s < 3000 → total m < 3000) := by
              refine Lib.hid fun h3 => ?_
              have hkn : k = ln := by
                have : ¬ k < ln := fun h => hgo ⟨h, h3⟩
                omega
              have h1 := HS.out
              rw [hkn, List.take_of_length_le (by omega)] at h1
              have h2 := HT.out
              omega
            have hdec : (k < ln ∧ ¬ s < 3000) ∨ ¬ k < ln := by
              by_cases h : k < ln
              · exact .inl ⟨h, fun h3 => hgo ⟨h, h3⟩⟩
              · exact .inr h
            clear HS hgo
            rcases hdec with ⟨hd1, hd2⟩ | hd1
            all_goals
              (go_wp2
               go_ret
               exact ⟨⟨_, rfl, fun hb => HT2.out (by first | (simp at hb; done) | (simp at hb; omega))⟩, below_drewN HB0.out j⟩))

theorem encIn_len (i : LIn) : (encIn i).length ≤ 7 + (i.acc.length + i.dat.length) := by
  have h1 := short_len3 i.acc.length
  have h2 := short_len3 i.dat.length
  simp only [encIn, encL, List.length_cons, List.length_append]
  omega
theorem encLook_len (l : LLook) (h : l.tab.length = 32) : (encLook l).length ≤ 38 + (l.wr.length + l.rd.length) := by
  have h1 := short_len3 l.wr.length
  have h2 := short_len3 l.rd.length
  simp only [encLook, encL, List.length_append, h]
  omega
theorem ins_len : ∀ (l : List LIn), (l.flatMap encIn).length ≤ 7 * l.length + inSize l
  | [] => by simp
  | i :: r => by
    have h1 := ins_len r
    have h2 := encIn_len i
    simp only [List.flatMap_cons, List.length_append, List.length_cons, inSize, List.map_cons, List.sum_cons] at h1 ⊢
    omega
theorem looks_len : ∀ (l : List LLook), (∀ x ∈ l, x.tab.length = 32) → (l.flatMap encLook).length ≤ 38 * l.length + lookSize l
  | [], _ => by simp
  | i :: r, h => by
    have h1 := looks_len r (fun x hx => h x (by simp [hx]))
    have h2 := encLook_len i (h i (by simp))
    simp only [List.flatMap_cons, List.length_append, List.length_cons, lookSize, List.map_cons, List.sum_cons] at h1 ⊢
    omega

theorem LooksIn.tabs {w : World} {B n : Nat} {A : Option Addr} {l : List LLook} (h : LooksIn w B A n l) : ∀ x ∈ l, x.tab.length = 32 := by
  intro x hx
  obtain ⟨i, hi, rfl⟩ := List.getElem_of_mem hx
  obtain ⟨a, va, vd, _, _, _, ht, _⟩ := h.at_ i _ (List.getElem?_eq_getElem hi)
  exact ht

theorem enc_le {w : World} {B : Nat} {q : Raw} {m : LMsg} (hm : MsgIn w B q m) (ht : total m < 3000) : (enc m).length ≤ 1000000 := by
  have h1 := enc_parts m
  have h2 := flatten_len m.keys hm.keys.each
  have h3 := ins_len m.ins
  have h4 := looks_len m.looks hm.looks.tabs
  have h5 := hm.recent
  have h6 := short_len3 m.keys.length
  have h7 := short_len3 m.ins.length
  have h8 := short_len3 m.looks.length
  have h9 : (encHead m).length ≤ 4 := by unfold encHead; split <;> simp
  have h10 : (encTail m).length ≤ 3 + (m.looks.flatMap encLook).length := by
    unfold encTail
    split
    · simp only [List.length_append]; omega
    · simp
  unfold total at ht
  omega

theorem size_mem {l : List LIn} {x : LIn} (h : x ∈ l) : x.acc.length + x.dat.length ≤ inSize l := by
  induction l with
  | nil => cases h
  | cons y r ih =>
    simp only [inSize, List.map_cons, List.sum_cons] at ih ⊢
    rcases List.mem_cons.1 h with rfl | h
    · omega
    · have := ih h; omega
theorem lsize_mem {l : List LLook} {x : LLook} (h : x ∈ l) : x.wr.length + x.rd.length ≤ lookSize l := by
  induction l with
  | nil => cases h
  | cons y r ih =>
    simp only [lookSize, List.map_cons, List.sum_cons] at ih ⊢
    rcases List.mem_cons.1 h with rfl | h
    · omega
    · have := ih h; omega

theorem fits_of {m : LMsg} (ht : total m < 3000) : Fits m ↔ (m.v0 = true ∨ (m.looks = [] ∧ m.s < 128)) := by
  unfold total at ht
  refine ⟨fun h => h.1, fun h => ⟨h, by omega, by omega, by omega, fun i hi => ?_, fun l hl => ?_⟩⟩
  · have := size_mem hi
    omega
  · have := lsize_mem hl
    omega
end Go.Proofs.Ytolijdbdpnbchaa
