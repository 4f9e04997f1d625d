/-
  ferryhouseref03.list.
  ferryhouseref03.May.
-/
import Derived.Test.YtidggfbjmmjmfaaRefShort
import Derived.Test.YtidggfbjmmjmfaaMany
import Derived.Test.YtidggfbjmmjmfaaLooks
import Derived.Deep.CutBlock
import Derived.Deep.DeepCutAuto
namespace Go.Proofs.Ytidggfbjmmjmfaa
open Go.RowKit
set_option linter.unusedVariables false

theorem refShortB (x : Nat) (w : World) (hx : x ≤ 65535) : Calls Try.prog 30 #[.int .i64 x] w fun e w' => ∃ A c, e = .returned (.slice A (short x).length c) ∧ OwnB w' w.heap.size (.slice A (short x).length c) (short x) ∧ Below w.heap.size w w' := by
  refine (refShort x w (by omega) (by omega)).mono ?_
  rintro e w' ⟨A, c, rfl, ho, hb⟩
  exact ⟨A, c, rfl, ho, hb⟩

set_option maxHeartbeats 400000 in
theorem refList_ (base B : Nat) (v u : Value) (xs l : List Int) (w : World) (hown : OwnB w base v xs) (hbase : base ≤ w.heap.size) (hu : BytesIn w B u l) (hB : B ≤ base) (hx : l.length ≤ 65535) (hn : xs.length ≤ 1099511500000) :
    Calls Try.prog 31 #[v, u] w (Adds w base v (xs ++ encL l)) := by
  obtain ⟨A, c, rfl, hs, _, _⟩ := hu.is
  obtain ⟨A0, c0, rfl⟩ := hown.form
  have HP := fun w => Lib.hid (refShortB l.length w hx)
  have HO := Lib.hid hown
  clear hown hu
  go_enter Try.func31, Try.ntmps31
  go_wp2_with fail
  refine (HP _).out.mono ?_
  rintro e w1 ⟨A1, c1, rfl, hown1, hb1⟩
  have ho1 := HO.out.below hb1
  have hz1 := hb1.size
  have hss := hown1.sees
  have hs1 := hs.below (hb1.mono (Nat.le_trans hB hbase))
  have hl := short_len3 l.length
  have HS := Lib.hid hs1
  clear hown1 hs1
  go_wp2_with (first
    | (at_builtin; with_reducible show wpList _ _ _ ({ dst := some 9, op := _, type := _, pos := _, after := _, guard := _ } :: _) _ _; go_must (refine wpList_addB rfl (.tmp 5) (.tmp 8) 34 rfl base Try.underlying34 info_u8 _ xs ?_ ho1 _ _ _ c1 (short l.length) ?_ hss (by omega) (by simp only [List.length_append]; omega) ?_; go_simp; go_simp; intro v2 w2 ho2 hg2; have hb2 := hg2.belowB ho1 (by omega); have hs2 := HS.out.below (hb2.mono hB); have hz2 := hb2.size; clear hss))
    | (at_builtin; with_reducible show wpList _ _ _ ({ dst := some 11, op := _, type := _, pos := _, after := _, guard := _ } :: _) _ _; go_must (refine wpList_addB rfl (.tmp 9) (.tmp 10) 34 rfl base Try.underlying34 info_u8 v2 _ ?_ ho2 _ _ _ c l ?_ hs2 (by omega) (by simp only [List.length_append]; omega) ?_; go_simp; go_simp; intro v3 w3 ho3 hg3)))
  go_ret
  refine ⟨v3, rfl, ?_, ((Grew.of_below hb1 _).trans hg2).trans hg3⟩
  rw [encL, ← List.append_assoc]
  exact ho3

theorem FitsTo.insStep {m : LMsg} {k : Nat} {x : LIn} {b : Bool} (hx : m.ins[k]? = some x) (h : b = true ↔ FitsTo m (m.ins.take k) []) :
    (b = true ∧ x.acc.length ≤ 65535 ∧ x.dat.length ≤ 65535) ↔ FitsTo m (m.ins.take (k + 1)) [] := by
  have hf := forall_take_succ (p := fun (i : LIn) => i.acc.length ≤ 65535 ∧ i.dat.length ≤ 65535) hx
  rw [h]
  unfold FitsTo
  rw [hf]
  exact ⟨fun ⟨⟨h1, h2, h3⟩, h4⟩ => ⟨h1, ⟨h2, h4⟩, h3⟩, fun ⟨h1, ⟨h2, h4⟩, h3⟩ => ⟨⟨h1, h2, h3⟩, h4⟩⟩
theorem FitsTo.lookStep {m : LMsg} {k : Nat} {x : LLook} {b : Bool} (hx : m.looks[k]? = some x) (h : b = true ↔ FitsTo m m.ins (m.looks.take k)) :
    (b = true ∧ x.wr.length ≤ 65535 ∧ x.rd.length ≤ 65535) ↔ FitsTo m m.ins (m.looks.take (k + 1)) := by
  have hf := forall_take_succ (p := fun (i : LLook) => i.wr.length ≤ 65535 ∧ i.rd.length ≤ 65535) hx
  rw [h]
  unfold FitsTo
  rw [hf]
  exact ⟨fun ⟨⟨h1, h2, h3⟩, h4⟩ => ⟨h1, h2, h3, h4⟩, fun ⟨h1, h2, h3, h4⟩ => ⟨⟨h1, h2, h3⟩, h4⟩⟩

/-- what May leaves -/
def MayDone (m : LMsg) (w : World) (e : Ending) (w' : World) : Prop := (∃ b, e = .returned (.bool b) ∧ (b = true ↔ Fits m)) ∧ Below w.heap.size w w'

set_option maxRecDepth 100000 in
set_option maxHeartbeats 1000000 in
theorem may_ (q : Raw) (m : LMsg) (B : Nat) (w : World) (hm : MsgIn w B q m) (hB : B ≤ w.heap.size) :
    Calls Try.prog 29 #[.agg (q.cells m).toArray] w (MayDone m w) := by
  obtain ⟨KA, kn, kc, IA, n, ic, LA, ln, lc⟩ := q
  have rb := MsgRow.of (Row.new w 30 (Raw.cells ⟨KA, kn, kc, IA, n, ic, LA, ln, lc⟩ m)) hm.recent
  obtain ⟨cs, hcs⟩ : ∃ cs, cs = Raw.cells ⟨KA, kn, kc, IA, n, ic, LA, ln, lc⟩ m := ⟨_, rfl⟩
  rw [← hcs] at rb ⊢
  clear hcs
  obtain ⟨d0, d1, d2, d3, d4, d37, d38⟩ := rb
  dsimp only at d4 d37 d38
  have lk := hm.keys.len
  have li := hm.ins.len
  have ll := hm.looks.len
  have hb0 : Below w.heap.size w (w.alloc (Obj.cells cs.toArray 30)) := (Below.refl _ _).alloc (Nat.le_refl _) _
  have HM := Lib.hid (hm.below (hb0.mono hB))
  have k1 := hm.kn
  have k2 := hm.n
  have k3 := hm.ln
  dsimp only at lk li ll k1 k2 k3
  unfold maxLen at k1 k2 k3
  have HB0 := Lib.hid hb0
  clear hm hb0
  go_enter Try.func29, Try.ntmps29
  have HD := Lib.hid (And.intro d0 (And.intro d1 (And.intro d4 (And.intro d37 d38))))
  generalize hW0 : (w.alloc (Obj.cells cs.toArray 30)) = W0 at *
  clear d2 d3
  go_upto_region 1 with fail
  go_cut [3] from 6 to 21 (fun v wc => wc = W0 ∧ ∃ b, v = .bool b ∧ (b = true ↔ FitsTo m [] []))
  case first =>
    go_wp2_with fail
    all_goals
      (go_meet
       case rel =>
        refine ⟨rfl, _, rfl, ?_⟩
        unfold FitsTo
        simp
        try omega)
  case rest =>
  obtain ⟨rfl, b0, rfl, hb0⟩ := hcut
  have HF0 := Lib.hid hb0
  clear hb0
  go_wp2_with fail
  go_loopw [3, 4] (fun v i wr => ∃ (k : Nat) (b : Bool), k ≤ n ∧ i = .int .i64 k ∧ v = .bool b ∧ (b = true ↔ FitsTo m (m.ins.take k) []) ∧ wr = wc) (fun v i _ => n - (intOf i).toNat)
  case atStart => exact ⟨0, b0, Nat.zero_le _, rfl, rfl, by simpa using HF0.out, rfl⟩
  case round =>
    clear HF0
    obtain ⟨k, b, hk, rfl, rfl, hf, rfl⟩ := hrel
    have HF := Lib.hid hf
    clear hf
    by_cases hlt : k < n
    · obtain ⟨a, x, va, vd, rfl, hab, hx, hat⟩ := HM.out.ins.get hlt
      obtain ⟨A1, c1, rfl, _, _, _⟩ := hat.acc.is
      obtain ⟨A2, c2, rfl, _, _, _⟩ := hat.dat.is
      have l1 := hat.acc.le
      have l2 := hat.dat.le
      unfold maxLen at l1 l2
      have e1 : wr.cell? ⟨(a.add (k * 3)).block, (a.add (k * 3)).off + 1, none⟩ = some (.slice A1 x.acc.length c1) := hat.cells 1 _ rfl
      have e2 : wr.cell? ⟨(a.add (k * 3)).block, (a.add (k * 3)).off + 2, none⟩ = some (.slice A2 x.dat.length c2) := hat.cells 2 _ rfl
      have HX := Lib.hid hx
      clear hat hx
      cases b
      all_goals
        (go_wp2_with fail
         all_goals
          (go_roundw
           case rel =>
            refine ⟨k + 1, _, by omega, by go_num, rfl, ?_, by simp⟩
            refine Iff.trans ?_ (FitsTo.insStep HX.out HF.out)
            simp
            try omega
           case measure => simp [intOf]; omega))
    · obtain rfl : k = n := by omega
      have HF1 : Hid (b = true ↔ FitsTo m m.ins []) := by
        have := HF.out
        rw [List.take_of_length_le (by omega)] at this
        exact Lib.hid this
      clear HF
      go_wp2_with fail
      go_loopw [3, 5] (fun v i w' => ∃ (k : Nat) (b : Bool), k ≤ ln ∧ i = .int .i64 k ∧ v = .bool b ∧ (b = true ↔ FitsTo m m.ins (m.looks.take k)) ∧ w' = wr) (fun v i _ => ln - (intOf i).toNat)
      case atStart => exact ⟨0, b, Nat.zero_le _, rfl, rfl, by simpa using HF1.out, rfl⟩
      case round =>
        clear HF1
        obtain ⟨k2, b2, hk2, rfl, rfl, hf, rfl⟩ := hrel
        have HF := Lib.hid hf
        clear hf
        by_cases hlt2 : k2 < ln
        · obtain ⟨a, x, va, vd, rfl, hab, hx, hat⟩ := HM.out.looks.get hlt2
          obtain ⟨A1, c1, rfl, _, _, _⟩ := hat.wr.is
          obtain ⟨A2, c2, rfl, _, _, _⟩ := hat.rd.is
          have l1 := hat.wr.le
          have l2 := hat.rd.le
          unfold maxLen at l1 l2
          have e1 : wr.cell? ⟨(a.add (k2 * 34)).block, (a.add (k2 * 34)).off + 32, none⟩ = some (.slice A1 x.wr.length c1) := hat.cells 32 _ (by rw [List.getElem?_append_right (by rw [bv_length, hat.len]; omega), bv_length, hat.len]; rfl)
          have e2 : wr.cell? ⟨(a.add (k2 * 34)).block, (a.add (k2 * 34)).off + 33, none⟩ = some (.slice A2 x.rd.length c2) := hat.cells 33 _ (by rw [List.getElem?_append_right (by rw [bv_length, hat.len]; omega), bv_length, hat.len]; rfl)
          have HX := Lib.hid hx
          clear hat hx
          cases b2
          all_goals
            (go_wp2_with fail
             all_goals
              (go_roundw
               case rel =>
                refine ⟨k2 + 1, _, by omega, by go_num, rfl, ?_, by simp⟩
                refine Iff.trans ?_ (FitsTo.lookStep HX.out HF.out)
                simp
                try omega
               case measure => simp [intOf]; omega))
        · obtain rfl : k2 = ln := by omega
          have hf2 : b2 = true ↔ FitsTo m m.ins m.looks := by
            have := HF.out
            rwa [List.take_of_length_le (by omega)] at this
          have HF2 := Lib.hid hf2
          clear HF hf2
          obtain ⟨d0, d1, -, -, d38⟩ := HD.out
          have hfit : (b2 = true ∧ (m.v0 = true ∨ (m.looks = [] ∧ m.s < 128))) ↔ Fits m := by
            rw [HF2.out]
            unfold FitsTo Fits
            exact ⟨fun ⟨⟨⟨h1, h2, h3⟩, h4, h5⟩, h6⟩ => ⟨h6, h1, h2, h3, h4, h5⟩, fun ⟨h6, h1, h2, h3, h4, h5⟩ => ⟨⟨⟨h1, h2, h3⟩, h4, h5⟩, h6⟩⟩
          have hnil : m.looks = [] ↔ k2 = 0 := by rw [← List.length_eq_zero_iff, ll]
          rw [hnil] at hfit
          have HFIT := Lib.hid hfit
          clear hfit hnil
          generalize hv : m.v0 = v0 at *
          cases b2 <;> cases v0
          all_goals
            (go_wp2_with fail
             all_goals
              (go_ret
               refine ⟨⟨_, rfl, ?_⟩, HB0.out⟩
               refine Iff.trans ?_ HFIT.out
               simp
               try omega))
end Go.Proofs.Ytidggfbjmmjmfaa
