/-
  messages.list[byte].
-/
import Derived.Test.YtolijdbdpnbchaaRead
namespace Go.Proofs.Ytolijdbdpnbchaa
open Go.RowKit
set_option linter.unusedVariables false

theorem pMany_snoc {α : Type} (one : List Int → PR α) (n : Nat) (zs : List Int) : pMany one (n + 1) zs = match pMany one n zs with
    | .error c => .error c
    | .ok (l, r) => match one r with
      | .error c => .error c
      | .ok (x, r') => .ok (l ++ [x], r') := rfl
/-- where reading some of them fails, reading more fails so too -/
theorem pMany_fail {α : Type} (one : List Int → PR α) {k : Nat} {zs : List Int} {c : Int} (h : pMany one k zs = .error c) : ∀ n, k ≤ n → pMany one n zs = .error c := by
  intro n hn
  induction n with
  | zero =>
    obtain rfl : k = 0 := by omega
    exact h
  | succ n ih =>
    rcases Nat.lt_or_ge k (n + 1) with hk | hk
    · rw [pMany_snoc, ih (by omega)]
    · obtain rfl : k = n + 1 := by omega
      exact h
theorem pMany_len {α : Type} (one : List Int → PR α) : ∀ (k : Nat) (zs : List Int) (l : List α) (r : List Int), pMany one k zs = .ok (l, r) → l.length = k
  | 0, zs, l, r, h => by
    cases h
    rfl
  | k + 1, zs, l, r, h => by
    rw [pMany_snoc] at h
    split at h
    · cases h
    · rename_i l' r' h'
      have := pMany_len one k zs l' r' h'
      split at h
      · cases h
      · cases h
        simp [this]

theorem But.ownB {w w' : World} {p lo : Nat} {v : Value} {xs : List Int} (h : But p w w') (hp : p < lo) (ho : OwnB w lo v xs) : OwnB w' lo v xs := by
  refine ⟨ho.1, ?_⟩
  rcases ho.2 with h2 | ⟨g, cap, cur, hv, hg, hh, r⟩
  · exact .inl h2
  · exact .inr ⟨g, cap, cur, hv, hg, (h.block g (Array.getElem?_eq_some_iff.1 hh).1 (by omega)).trans hh, r⟩
theorem But.grew {w w' : World} {p lo : Nat} {v v' : Value} {xs : List Int} (hg : Grew w w' v v') (ho : OwnB w lo v xs) (hp : p < lo) (b : World) (hb : But p b w) (hlo : b.heap.size ≤ lo) : But p b w' :=
  ⟨hg.grown.os.trans hb.os, hg.grown.tape.trans hb.tape, hg.grown.output.trans hb.output, Nat.le_trans hb.size hg.size, fun k hk hne =>
    (hg.grown.block k (Nat.lt_of_lt_of_le hk hb.size) fun e => by have := (World.ownsRow.lt ho k e.symm).1; omega).trans (hb.block k hk hne)⟩
theorem RdIn.grew {w w' : World} {p B lo : Nat} {v v' : Value} {xs zs : List Int} (h : RdIn w p B zs) (hg : Grew w w' v v') (ho : OwnB w lo v xs) (hp : p < lo) (hB : B ≤ p) (hlo : lo ≤ w.heap.size) : RdIn w' p B zs := by
  obtain ⟨A, c, q1, q2, q3, q4⟩ := h.is
  have hb := hg.belowB ho hlo
  exact ⟨A, c, q1.below hb hp, q2.below (hb.mono (by omega)), q3, q4⟩

theorem run_least {P : Program} (ts : Array TypeId) (t : TypeId) (x y : Nat) (w : World) : (Builtin.min_ ts t #[.int .i64 (x : Int), .int .i64 (y : Int)]).run P w = .ok (.int .i64 ((min x y : Nat) : Int)) w := by
  rw [run_min_int2]
  congr 2
  split <;> omega

/-- the function value 'r.octet' -/
def octetFn (p : Nat) : Value := .func (.func 73) #[.pointer (some ⟨p, 0, none⟩)] #[]

/-- what list leaves -/
def ListB (w : World) (p B : Nat) (zs : List Int) (e : Ending) (w' : World) : Prop :=
  Reads w p B (pBytes zs) (fun w' v l => OwnB w' w.heap.size v l ∧ l.length ≤ 65535) e w'

set_option maxRecDepth 100000 in
set_option maxHeartbeats 1000000 in
theorem list_byte (p B : Nat) (zs : List Int) (w : World) (h : RdIn w p B zs) (hB : B ≤ p) (hz : AllBytes zs) :
    Calls Try.prog 82 #[.pointer (some ⟨p, 0, none⟩), octetFn p] w (ListB w p B zs) := by
  have hp := h.lt
  have HS := Lib.hid (short_ p B zs w h hB hz)
  have HZ := Lib.hid hz
  have hmin := @run_least Try.prog
  obtain ⟨i0, hi, hz0, hz1, hz2⟩ := info_parts info_u8
  unfold octetFn
  clear h hz
  go_enter Try.func82, Try.ntmps82
  go_wp2_with fail
  refine HS.out.mono ?_
  rintro e w1 (⟨n, r, v, hP, rfl, ⟨rfl, hn⟩, hr, hb⟩ | ⟨c, hP, rfl, hb⟩)
  · have HP := Lib.hid hP
    have HR := Lib.hid hr
    have HB := Lib.hid hb
    have hz1' := hb.size
    have hrb : AllBytes r := by
      unfold pShort at hP
      split at hP
      · cases hP; exact HZ.out.drop _
      · cases hP
    have HRB := Lib.hid hrb
    clear hP hr hb hrb HS
    by_cases h0 : n = 0
    · subst h0
      go_wp2_with fail
      go_ret
      refine .inl ⟨[], r, _, ?_, rfl, ⟨OwnB.nil _ _, by simp⟩, HR.out, HB.out⟩
      unfold pBytes pList
      rw [HP.out]
      rfl
    · have h0' : ((n : Int) == 0) = false := by simp; omega
      obtain ⟨A, c, q1, q2, q3, q4⟩ := HR.out.is
      have c0 : w1.cell? ⟨p, 0, none⟩ = some (.slice A r.length c) := q1.cell 0
      have HN0 := Lib.hid h0
      clear q1 q2 h0
      unfold maxLen at q4
      go_wp2_with (first
        | (at_make; go_must (refine wpList_make_own _ rfl (.const (.int .i64 0)) (.tmp 17) 37 rfl w.heap.size 5 i0 _ 1 Try.underlying37 hi hz0 hz1 .i64 .i64 _ (min n r.length) rfl ?_ rfl (by rw [hz2]; omega) (by unfold maxLen; omega) hz1' ?_; go_simp; intro w2 hown hgrow)))
      have HO2 : Hid (OwnB w2 w.heap.size (.slice (some ⟨w1.heap.size, 0, none⟩) 0 (min n r.length)) []) := Lib.hid hown
      have hb2 : Below w1.heap.size w1 w2 := (Below.refl _ _).grown hgrow (Nat.le_refl _) (fun k hk => by cases hk)
      have HR2 := Lib.hid (HR.out.below hb2 hB)
      have HB2 := Lib.hid (HB.out.trans (But.of_below hb2 p))
      clear hown hgrow hb2 c0 hi hz0 hz1 hz2
      go_loopw [6, 20] (fun v i wr => ∃ (k : Nat) (l rest : List Int), k ≤ n ∧ i = .int .i64 k ∧ pMany pOctet k r = .ok (l, rest) ∧ OwnB wr w.heap.size v l ∧ RdIn wr p B rest ∧ But p w wr) (fun v i _ => n - (intOf i).toNat)
      case atStart => exact ⟨0, [], r, Nat.zero_le _, rfl, rfl, HO2.out, HR2.out, HB2.out⟩
      case round =>
        clear HO2 HR2 HB2
        obtain ⟨k, l, rest, hk, rfl, hP2, ho, hr, hb⟩ := hrel
        have HP2 := Lib.hid hP2
        have HO := Lib.hid ho
        have HBR := Lib.hid hb
        have hlk := pMany_len _ _ _ _ _ hP2
        by_cases hlt : k < n
        · have HC := Lib.hid (octet_ p B rest wr hr hB)
          have hzs := hb.size
          clear hP2 ho hr hb
          go_wp2_with fail
          refine HC.out.mono ?_
          rintro e w3 (⟨x, rest', v, hP3, rfl, rfl, hr3, hb3⟩ | ⟨c, hP3, rfl, hb3⟩)
          · have hz3 := hb3.size
            have ho3 := hb3.ownB hp HO.out
            have HP3 := Lib.hid hP3
            have HR3 := Lib.hid hr3
            have HB3 := Lib.hid (HBR.out.trans hb3)
            clear hP3 hr3 hb3
            go_wp2_with (at_builtin; go_must (refine wpList_addLit rfl (.tmp 22) (.tmp 25) 37 rfl w.heap.size Try.underlying37 info_u8 _ l [x] 1 rfl ?_ ho3 ?_ (by omega) (by rw [List.length_append, List.length_singleton]; omega) ?_; go_simp; go_simp; intro v4 w4 ho4 hg4; have HO4 := Lib.hid ho4; have HR4 := Lib.hid (HR3.out.grew hg4 ho3 hp hB (by omega)); have HB4 := Lib.hid (But.grew hg4 ho3 hp w HB3.out (Nat.le_refl _)); clear ho4 hg4))
            go_roundw
            case rel =>
              refine ⟨k + 1, l ++ [x], rest', by omega, by go_num, ?_, HO4.out, HR4.out, HB4.out⟩
              rw [pMany_snoc, HP2.out]
              simp only [HP3.out]
            case measure => simp [intOf]; omega
          · refine ⟨rfl, .inr ⟨c, ?_, rfl, HBR.out.trans hb3⟩⟩
            unfold pBytes pList
            rw [HP.out]
            refine pMany_fail pOctet (k := k + 1) ?_ n (by omega)
            rw [pMany_snoc, HP2.out]
            simp only [hP3]
        · have HKK := Lib.hid (show k = n by omega)
          have HR2 := Lib.hid hr
          clear hP2 ho hr hb
          go_wp2_with fail
          go_ret
          refine .inl ⟨l, rest, _, ?_, rfl, ⟨HO.out, by have := HKK.out; omega⟩, HR2.out, HBR.out⟩
          unfold pBytes pList
          rw [HP.out, ← HKK.out]
          exact HP2.out
  · refine ⟨rfl, .inr ⟨c, ?_, rfl, hb⟩⟩
    unfold pBytes pList
    rw [hP]
end Go.Proofs.Ytolijdbdpnbchaa
