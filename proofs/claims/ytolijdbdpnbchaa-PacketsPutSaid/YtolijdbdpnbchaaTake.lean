/-
  ferryhouseref03.taker: bytes, byte, short, key: what is taken, or the error that stays.
  ferryhouseref03.taker: its calls, by one contract each.
  ferryhouseref03.taker.key.
-/
import Derived.Test.YtolijdbdpnbchaaGetMsg
import Derived.Test.YtolijdbdpnbchaaRefGet
import Derived.Deep.QuietTactic
import Derived.BigQuiet
import Derived.Deep.RegionHeld2
namespace Go.Proofs.Ytolijdbdpnbchaa
open Go.RowKit
set_option linter.unusedVariables false

/-- what is left, or what went wrong first -/
abbrev St := Except Int (List Int)

/-- from s to s', by reading one; x is it, if nothing went wrong -/
def Step {α : Type} (one : List Int → PR α) (s : St) (x : α) (s' : St) : Prop :=
  match s with
  | .error c => s' = .error c
  | .ok r => match one r with
    | .error c => s' = .error c
    | .ok (y, r') => x = y ∧ s' = .ok r'

theorem Step.err {α : Type} {one : List Int → PR α} {c : Int} {x : α} : Step one (.error c) x (.error c) := rfl
theorem Step.fail {α : Type} {one : List Int → PR α} {r : List Int} {c : Int} {x : α} (h : one r = .error c) : Step one (.ok r) x (.error c) := by
  unfold Step
  simp only [h]
theorem Step.ok {α : Type} {one : List Int → PR α} {r r' : List Int} {x : α} (h : one r = .ok (x, r')) : Step one (.ok r) x (.ok r') := by
  unfold Step
  simp only [h]
  trivial

/-- a taker at block p, over zs, which lie below block B -/
structure TkIn (w : World) (p B : Nat) (zs : List Int) (s : St) : Prop where
  is : ∃ A c, ∃ k : Nat, ∃ e : Int, Row w p 104 [.slice A zs.length c, .int .i64 k, .int .i64 e] ∧ Sees w B A zs.length (bv zs) ∧ (zs.length ≤ c ∧ (A = none → c = 0)) ∧ c ≤ maxLen ∧ k ≤ zs.length ∧
    ((s = .ok (zs.drop k) ∧ e = 0) ∨ (s = .error e ∧ e ≠ 0))

theorem TkIn.drewN {w : World} {p B : Nat} {zs : List Int} {s : St} (h : TkIn w p B zs s) (n : Nat) : TkIn (w.drewN n) p B zs s := by
  obtain ⟨A, c, k, e, hr, hs, h1⟩ := h.is
  exact ⟨A, c, k, e, hr.drewN n, hs.drewN n, h1⟩
theorem But.drewN {w w' : World} {p : Nat} (h : But p w w') (n : Nat) : But p w (w'.drewN n) := ⟨h.os, h.tape, h.output, h.size, h.block⟩

/-- what a taker's call leaves -/
def Takes {α : Type} (w : World) (p B : Nat) (zs : List Int) (s : St) (one : List Int → PR α) (V : World → Value → α → St → Prop) (e : Ending) (w' : World) : Prop :=
  ∃ x v s', e = .returned v ∧ V w' v x s' ∧ Step one s x s' ∧ TkIn w' p B zs s' ∧ But p w w'

set_option maxHeartbeats 400000 in
theorem tbytes_err (p B n : Nat) (zs : List Int) (c : Int) (w : World) (h : TkIn w p B zs (.error c)) :
    Calls Try.prog 65 #[.pointer (some ⟨p, 0, none⟩), .int .i64 n] w fun e w' => e = .returned (.slice none 0 0) ∧ w = w' := by
  obtain ⟨A, cc, k, e, hr, hs, h1, h2, h3, h4⟩ := h.is
  have he : (e != 0) = true := by
    rcases h4 with ⟨h4, _⟩ | ⟨_, h4⟩
    · cases h4
    · simpa using h4
  have c2 : w.cell? ⟨p, 2, none⟩ = some (.int .i64 e) := hr.cell 2
  clear hr hs h h4
  go_enter Try.func65, Try.ntmps65
  go_wp2
  go_ret
  exact ⟨rfl, rfl⟩

set_option maxHeartbeats 400000 in
theorem tbytes_no (p B n : Nat) (zs r : List Int) (w : World) (h : TkIn w p B zs (.ok r)) (hB : B ≤ p) (hn : r.length < n) (hm : n ≤ 65535) :
    Calls Try.prog 65 #[.pointer (some ⟨p, 0, none⟩), .int .i64 n] w fun e w' => e = .returned (.slice none 0 0) ∧ TkIn w' p B zs (.error 5) ∧ But p w w' := by
  obtain ⟨A, cc, k, e, hr, hs, h1, h2, h3, h4⟩ := h.is
  obtain ⟨rfl, rfl⟩ : r = zs.drop k ∧ e = 0 := by
    rcases h4 with ⟨h4, h5⟩ | ⟨h4, _⟩
    · cases h4; exact ⟨rfl, h5⟩
    · cases h4
  have c0 : w.cell? ⟨p, 0, none⟩ = some (.slice A zs.length cc) := hr.cell 0
  have c1 : w.cell? ⟨p, 1, none⟩ = some (.int .i64 k) := hr.cell 1
  have c2 : w.cell? ⟨p, 2, none⟩ = some (.int .i64 0) := hr.cell 2
  have f2 := hr.frozen 2
  have R := Lib.hid fun q => (hr.drewN q).set_ 2 (.int .i64 5)
  have S := Lib.hid fun q => hs.drewN q
  have T := Lib.hid fun q => turned_setCell (w.drewN q) ⟨p, 2, none⟩ (.int .i64 5)
  rw [List.length_drop] at hn
  unfold maxLen at h2
  have hlt : (zs.length : Int) - k < n := by omega
  clear hr hs h h4
  go_enter Try.func65, Try.ntmps65
  go_wp2
  go_quiet (fail)
  go_wp2
  go_ret
  exact ⟨rfl, ⟨A, cc, k, 5, R.out nq, (S.out nq).below ((T.out nq).below hB), h1, by unfold maxLen; omega, h3, .inr ⟨rfl, by omega⟩⟩, ((But.refl p w).drewN nq).trans (But.of_turned (T.out nq))⟩

set_option maxHeartbeats 800000 in
theorem tbytes_nil (p : Nat) (w : World) (hr : Row w p 104 [.slice none 0 0, .int .i64 0, .int .i64 0]) :
    Calls Try.prog 65 #[.pointer (some ⟨p, 0, none⟩), .int .i64 0] w fun e w' => e = .returned (.slice none 0 0) ∧ But p w w' ∧ Row w' p 104 [.slice none 0 0, .int .i64 0, .int .i64 0] := by
  have c0 : w.cell? ⟨p, 0, none⟩ = some (.slice none 0 0) := hr.cell 0
  have c1 : w.cell? ⟨p, 1, none⟩ = some (.int .i64 0) := hr.cell 1
  have c2 : w.cell? ⟨p, 2, none⟩ = some (.int .i64 0) := hr.cell 2
  have f1 := hr.frozen 1
  have F : Hid (∀ q, Row ((w.drewN q).setCell ⟨p, 1, none⟩ (.int .i64 0)) p 104 [.slice none 0 0, .int .i64 0, .int .i64 0] ∧ But p w ((w.drewN q).setCell ⟨p, 1, none⟩ (.int .i64 0))) := Lib.hid fun q =>
    ⟨(hr.drewN q).set_ 1 (.int .i64 0), ((But.refl p w).drewN q).trans (But.of_turned (turned_setCell (w.drewN q) ⟨p, 1, none⟩ (.int .i64 0)))⟩
  clear hr
  go_enter Try.func65, Try.ntmps65
  go_wp2
  go_quiet (fail)
  go_wp2
  obtain ⟨hr, hb⟩ := F.out nq
  generalize (w.drewN nq).setCell ⟨p, 1, none⟩ (.int .i64 0) = W at *
  have c0 : W.cell? ⟨p, 0, none⟩ = some (.slice none 0 0) := hr.cell 0
  have c1 : W.cell? ⟨p, 1, none⟩ = some (.int .i64 0) := hr.cell 1
  have HR := Lib.hid hr
  have HB := Lib.hid hb
  clear hr hb
  go_quiet (fail)
  go_wp2
  go_ret
  exact ⟨rfl, HB.out.drewN nq, HR.out.drewN nq⟩

set_option maxHeartbeats 800000 in
theorem tbytes_ok (p B n : Nat) (zs r : List Int) (w : World) (h : TkIn w p B zs (.ok r)) (hB : B ≤ p) (hn : n ≤ r.length) (hm : n ≤ 65535) :
    Calls Try.prog 65 #[.pointer (some ⟨p, 0, none⟩), .int .i64 n] w fun e w' => ∃ v, e = .returned v ∧ OwnB w' w.heap.size v (r.take n) ∧ TkIn w' p B zs (.ok (r.drop n)) ∧ But p w w' := by
  obtain ⟨A, cc, k, e, hr, hs, h1, h2, h3, h4⟩ := h.is
  obtain ⟨rfl, rfl⟩ : r = zs.drop k ∧ e = 0 := by
    rcases h4 with ⟨h4, h5⟩ | ⟨h4, _⟩
    · cases h4; exact ⟨rfl, h5⟩
    · cases h4
  have hp := hr.lt
  rcases A with _ | a
  · have hz : zs = [] := by
      rcases zs with _ | ⟨z, r⟩
      · rfl
      · obtain ⟨a, _, e, _⟩ := hs.at_ (k := 0) (by simp)
        cases e
    have hcc : cc = 0 := h1.2 rfl
    subst hz
    subst hcc
    obtain rfl : k = 0 := by simpa using h3
    obtain rfl : n = 0 := by simpa using hn
    refine (tbytes_nil p w hr).mono ?_
    rintro e w' ⟨rfl, hb, hr'⟩
    exact ⟨_, rfl, by simpa using OwnB.nil w' w.heap.size, ⟨none, 0, 0, 0, hr', Sees.nil _ _ _, h1, h2, h3, .inl ⟨rfl, rfl⟩⟩, hb⟩
  have c0 : w.cell? ⟨p, 0, none⟩ = some (.slice (some a) zs.length cc) := hr.cell 0
  have c1 : w.cell? ⟨p, 1, none⟩ = some (.int .i64 k) := hr.cell 1
  have c2 : w.cell? ⟨p, 2, none⟩ = some (.int .i64 0) := hr.cell 2
  have f1 := hr.frozen 1
  rw [List.length_drop] at hn
  have hlt : ¬ ((zs.length : Int) - k < n) := by omega
  have F : ∀ q, TkIn ((w.drewN q).setCell ⟨p, 1, none⟩ (.int .i64 (k + n))) p B zs (.ok ((zs.drop k).drop n)) ∧ But p w ((w.drewN q).setCell ⟨p, 1, none⟩ (.int .i64 (k + n))) := fun q => by
    have T := turned_setCell (w.drewN q) ⟨p, 1, none⟩ (.int .i64 (k + n))
    refine ⟨⟨some a, cc, k + n, 0, ?_, (hs.drewN q).below (T.below hB), h1, h2, by omega, .inl ⟨by rw [List.drop_drop], rfl⟩⟩, ((But.refl p w).drewN q).trans (But.of_turned T)⟩
    have := (hr.drewN q).set_ 1 (.int .i64 (k + n))
    simpa using this
  have HF := Lib.hid F
  have HC : Hid (∀ q, ((w.drewN q).setCell ⟨p, 1, none⟩ (.int .i64 ((k : Int) + n))).cell? ⟨p, 1, none⟩ = some (.int .i64 (k + n))) := Lib.hid fun q => ((hr.drewN q).set_ 1 (.int .i64 ((k : Int) + n))).cell 1
  have HS := Lib.hid hs
  have H2 := Lib.hid h2
  unfold maxLen at h2
  have hk0 : (0 : Int) ≤ k := by omega
  have hk1 : (k : Int) ≤ k + n := by omega
  have hk2 : (k : Int) + n ≤ cc := by omega
  have ek : (k : Int) + n - n = k := by omega
  have hk3 : (0 : Int) ≤ (k : Int) + n := by omega
  have hk4 : ((k : Int) + n).toNat = k + n := by omega
  have HWR : Hid (IntKind.i64.wrap (k : Int) = k) := Lib.hid (by rw [IntKind.wrap_i64]; omega)
  clear hr hs h h4 F
  go_enter Try.func65, Try.ntmps65
  go_wp2_with fail
  go_quiet (fail)
  go_wp2_with fail
  obtain ⟨ht, hb⟩ := HF.out nq
  have d0 : ((w.drewN nq).setCell ⟨p, 1, none⟩ (.int .i64 ((k : Int) + n))).cell? ⟨p, 0, none⟩ = some (.slice (some a) zs.length cc) := by
    obtain ⟨A', cc', k', e', hr, -⟩ := ht.is
    rw [World.cell?_setCell_other _ _ _ _ (by simp)]
    exact c0
  have d1 : ((w.drewN nq).setCell ⟨p, 1, none⟩ (.int .i64 ((k : Int) + n))).cell? ⟨p, 1, none⟩ = some (.int .i64 (k + n)) := HC.out nq
  have hs : Sees ((w.drewN nq).setCell ⟨p, 1, none⟩ (.int .i64 ((k : Int) + n))) B (some a) zs.length (bv zs) := (HS.out.drewN nq).below ((turned_setCell (w.drewN nq) ⟨p, 1, none⟩ (.int .i64 (k + n))).below hB)
  have hb' := hb
  generalize (w.drewN nq).setCell ⟨p, 1, none⟩ (.int .i64 ((k : Int) + n)) = W at *
  have HB := Lib.hid hb
  have HT := Lib.hid ht
  have e1 : W.drew.cell? ⟨p, 0, none⟩ = some (.slice (some a) zs.length cc) := d0
  have e2 : W.drew.cell? ⟨p, 1, none⟩ = some (.int .i64 (k + n)) := d1
  have hsz := hb.size
  have FIN : Hid (∀ v2 w2, w2.ownsRow w.heap.size 5 1 v2 (0 + n) ([] ++ bv ((zs.drop k).take n)) → W.drew.grownBy w2 (Value.slice none 0 0).ownBlock → OwnB w2 w.heap.size v2 ((zs.drop k).take n) ∧ TkIn w2 p B zs (.ok ((zs.drop k).drop n)) ∧ But p w w2) := Lib.hid fun v2 w2 ho hg => by
    have hb2 : Below W.heap.size W w2 := (Below.refl _ _).trans ⟨hg.os, hg.tape, hg.output, hg.size, fun q hq => hg.block q hq (fun e => by cases e)⟩
    refine ⟨?_, ?_, HB.out.trans (But.of_below hb2 p)⟩
    · unfold OwnB
      have hl : ((zs.drop k).take n).length = n := by rw [List.length_take, List.length_drop]; omega
      rw [hl]
      simpa using ho
    · obtain ⟨A', cc', k', e', r1, r2, r3⟩ := HT.out.is
      have hlt := r1.lt
      exact ⟨A', cc', k', e', r1.below hb2 r1.lt, r2.below (hb2.mono (by omega)), r3⟩
  · by_cases hck : cc = k
    · subst hck
      obtain rfl : n = 0 := by omega
      have hnil : Sees W.drew B (some a) 0 (bv ((zs.drop cc).take 0)) := Sees.nil _ _ _
      have hwr := HWR.out
      obtain ⟨i0, hi, hz0, hz1, hz2⟩ := info_parts info_u8
      go_region_held2 (fun w' => w'.cell? ⟨p, 0, none⟩ = some (.slice (some a) zs.length cc) ∧ w'.cell? ⟨p, 1, none⟩ = some (.int .i64 cc)) (go_keep) ((rw [if_pos (by kernel_rfl)]; refine wp_append_sees (.const (.slice none 0 0)) (.tmp 48) rfl Try.underlying37 hi hz0 hz1 hz2 rfl rfl (World.ownsRow_nil _ w.heap.size _ _) rfl hnil (bv_one _) (by unfold maxLen; omega) (by omega) (by simp; omega) ?_; intro v2 w2 hown2 hg2 hat2; have k1 := (World.cell?_of_block (hg2.block p (by simp; omega) (fun e => by cases e))).trans e1; have k2 := (World.cell?_of_block (hg2.block p (by simp; omega) (fun e => by cases e))).trans e2))
      go_wp2
      go_ret
      exact ⟨v2, rfl, FIN.out v2 w2 hown2 hg2⟩
    · have hck' : ¬ (cc : Int) = k := by omega
      have hkk : (k : Int) < cc := by omega
      have hn0 : (0 : Int) ≤ n := by omega
      have hsrc : Sees W B (some (a.add k)) n (bv ((zs.drop k).take n)) := ⟨by rw [bv_length, List.length_take, List.length_drop]; omega, fun i u hu => by
        have hi := (List.getElem?_eq_some_iff.1 hu).1
        rw [bv_length, List.length_take, List.length_drop] at hi
        rw [bv_getElem?, List.getElem?_take_of_lt (by omega), List.getElem?_drop, ← bv_getElem?] at hu
        obtain ⟨a', e, hb, hc⟩ := hs.cell _ u hu
        cases e
        exact ⟨_, rfl, by rw [addr_block]; exact hb, by rw [addr_add]; exact hc⟩⟩
      have hwr := HWR.out
      obtain ⟨i0, hi, hz0, hz1, hz2⟩ := info_parts info_u8
      go_region_held2 (fun w' => w'.cell? ⟨p, 0, none⟩ = some (.slice (some a) zs.length cc) ∧ w'.cell? ⟨p, 1, none⟩ = some (.int .i64 (k + n))) (go_keep) ((rw [if_pos (by kernel_rfl)]; refine wp_append_sees (.const (.slice none 0 0)) (.tmp 48) rfl Try.underlying37 hi hz0 hz1 hz2 rfl rfl (World.ownsRow_nil _ w.heap.size _ _) rfl hsrc.drew (bv_one _) (by unfold maxLen; omega) (by omega) (by simp; omega) ?_; intro v2 w2 hown2 hg2 hat2; have k1 := (World.cell?_of_block (hg2.block p (by simp; omega) (fun e => by cases e))).trans e1; have k2 := (World.cell?_of_block (hg2.block p (by simp; omega) (fun e => by cases e))).trans e2))
      go_wp2
      go_ret
      exact ⟨v2, rfl, FIN.out v2 w2 hown2 hg2⟩

theorem TkIn.lt {w : World} {p B : Nat} {zs : List Int} {s : St} (h : TkIn w p B zs s) : p < w.heap.size := by
  obtain ⟨A, c, k, e, hr, _⟩ := h.is
  exact hr.lt
theorem TkIn.left {w : World} {p B : Nat} {zs r : List Int} (h : TkIn w p B zs (.ok r)) : Left zs r := by
  obtain ⟨A, c, k, e, _, _, _, _, _, h4⟩ := h.is
  rcases h4 with ⟨h4, _⟩ | ⟨h4, _⟩
  · cases h4; exact ⟨k, rfl⟩
  · cases h4
theorem TkIn.below {w w' : World} {p B : Nat} {zs : List Int} {s : St} (h : TkIn w p B zs s) (hb : Below w.heap.size w w') (hB : B ≤ p) : TkIn w' p B zs s := by
  obtain ⟨A, c, k, e, hr, hs, h1⟩ := h.is
  have := hr.lt
  exact ⟨A, c, k, e, hr.below hb hr.lt, hs.below (hb.mono (by omega)), h1⟩
theorem TkIn.turned {w w' : World} {p B g : Nat} {zs : List Int} {s : St} (h : TkIn w p B zs s) (ht : Turned w w' g) (hg : g ≠ p) (hB : B ≤ g) : TkIn w' p B zs s := by
  obtain ⟨A, c, k, e, hr, hs, h1⟩ := h.is
  exact ⟨A, c, k, e, ht.row hr (fun e => hg e.symm), hs.below (ht.below hB), h1⟩
theorem TkIn.grown {w w' : World} {p B : Nat} {zs : List Int} {s : St} {row : Option Nat} (h : TkIn w p B zs s) (hg : w.grownBy w' row) (hp : some p ≠ row) (hB : ∀ k, row = some k → B ≤ k) (hBp : B ≤ p) : TkIn w' p B zs s := by
  obtain ⟨A, c, k, e, hr, hs, h1⟩ := h.is
  have := hr.lt
  exact ⟨A, c, k, e, hr.grown hg hp, hs.below ((Below.refl B w).grown hg (by omega) hB), h1⟩

/-- bytes of the call's own; none behind an error -/
def BytesV (lo : Nat) (w : World) (v : Value) (l : List Int) (s' : St) : Prop := OwnB w lo v l ∧ l.length ≤ 65535 ∧ ∀ c, s' = .error c → l = []
/-- a byte; nought behind an error -/
def ByteV (_ : World) (v : Value) (x : Int) (s' : St) : Prop := v = .int .u8 x ∧ IsByte x ∧ ∀ c, s' = .error c → x = 0
/-- a short number -/
def ShortV (_ : World) (v : Value) (x : Nat) (_ : St) : Prop := v = .int .i64 x ∧ x ≤ 65535
/-- a key -/
def Key3V (_ : World) (v : Value) (x : List Int) (_ : St) : Prop := v = .agg (bv x).toArray ∧ x.length = 32

theorem tbytes_ (p B n : Nat) (zs : List Int) (s : St) (w : World) (h : TkIn w p B zs s) (hB : B ≤ p) (hm : n ≤ 65535) :
    Calls Try.prog 65 #[.pointer (some ⟨p, 0, none⟩), .int .i64 n] w (Takes w p B zs s (pTake n) (BytesV w.heap.size)) := by
  match s, h with
  | .error c, h =>
    refine (tbytes_err p B n zs c w h).mono ?_
    rintro e w' ⟨rfl, rfl⟩
    exact ⟨[], _, _, rfl, ⟨OwnB.nil _ _, by simp, fun _ _ => rfl⟩, Step.err, h, But.refl _ _⟩
  | .ok r, h =>
    by_cases hn : r.length < n
    · refine (tbytes_no p B n zs r w h hB hn hm).mono ?_
      rintro e w' ⟨rfl, h1, h2⟩
      exact ⟨[], _, _, rfl, ⟨OwnB.nil _ _, by simp, fun _ _ => rfl⟩, Step.fail (if_pos hn), h1, h2⟩
    · refine (tbytes_ok p B n zs r w h hB (by omega) hm).mono ?_
      rintro e w' ⟨v, rfl, h0, h1, h2⟩
      exact ⟨_, _, _, rfl, ⟨h0, by rw [List.length_take]; omega, fun c e => by cases e⟩, Step.ok (if_neg hn), h1, h2⟩

/-- one byte, as a list, and as itself -/
theorem step_nil {s s' : St} {l : List Int} (h : Step (pTake 1) s l s') (hl : l = []) : Step pOctet s 0 s' ∧ ∀ r, s' ≠ .ok r := by
  subst hl
  match s, h with
  | .error c, h => exact ⟨h, fun r e => by rw [show s' = .error c from h] at e; cases e⟩
  | .ok [], h =>
    have h' : s' = .error 5 := h
    exact ⟨h', fun r e => by rw [h'] at e; cases e⟩
  | .ok (z :: r), h =>
    have h' : [] = [z] ∧ s' = .ok r := h
    cases h'.1
theorem step_one {s s' : St} {x : Int} {l : List Int} (h : Step (pTake 1) s (x :: l) s') (hs : ∀ c, s' ≠ .error c) : Step pOctet s x s' ∧ ∃ r, s = .ok (x :: r) := by
  match s, h with
  | .error c, h => exact absurd h (hs c)
  | .ok [], h => exact absurd (show s' = .error 5 from h) (hs 5)
  | .ok (z :: r), h =>
    have h' : x :: l = [z] ∧ s' = .ok r := h
    injection h'.1 with h1 h2
    subst h1
    exact ⟨⟨rfl, h'.2⟩, r, rfl⟩

set_option maxHeartbeats 400000 in
theorem tbyte_ (p B : Nat) (zs : List Int) (s : St) (w : World) (h : TkIn w p B zs s) (hB : B ≤ p) (hz : AllBytes zs) :
    Calls Try.prog 62 #[.pointer (some ⟨p, 0, none⟩)] w (Takes w p B zs s pOctet ByteV) := by
  have H := Lib.hid (tbytes_ p B 1 zs s w h hB (by omega))
  have HL : Hid (∀ r, s = .ok r → Left zs r) := Lib.hid fun r e => by subst e; exact h.left
  have hp := h.lt
  clear h
  go_enter Try.func62, Try.ntmps62
  go_wp2_with fail
  refine H.out.mono ?_
  rintro e w1 ⟨l, v, s', rfl, ⟨ho, hl, hne⟩, hs, ht, hb⟩
  have HS := Lib.hid hs
  have HT := Lib.hid ht
  have HB := Lib.hid hb
  obtain ⟨A, c, rfl⟩ := ho.form
  have hsee := ho.sees
  have HO := Lib.hid ho
  have HNE := Lib.hid hne
  obtain ⟨n, hn⟩ : ∃ n, l.length = n := ⟨_, rfl⟩
  have HN := Lib.hid hn
  rw [hn] at hsee ⊢
  clear hs ht hb ho H hn hne
  by_cases h0 : n = 0
  · have h0' : ((n : Int) == 0) = true := by simp [h0]
    have H0 := Lib.hid h0
    clear h0 hsee
    go_wp2_with fail
    go_ret
    have hnil : l = [] := List.length_eq_zero_iff.1 (by rw [HN.out, H0.out])
    exact ⟨0, _, s', rfl, ⟨rfl, by unfold IsByte; omega, fun _ _ => rfl⟩, (step_nil HS.out hnil).1, HT.out, HB.out⟩
  · have h0' : ((n : Int) == 0) = false := by simp; omega
    have hpos : 0 < n := by omega
    obtain ⟨a, rfl, hab, hc⟩ := hsee.byte (k := 0) hpos
    have c0 : w1.cell? a = some (.int .u8 (l.getD 0 0)) := hc
    obtain ⟨x, hx⟩ : ∃ x, l.getD 0 0 = x := ⟨_, rfl⟩
    have HX := Lib.hid hx
    rw [hx] at c0
    clear h0 hsee hc hx
    go_wp2_with fail
    go_ret
    rcases l with _ | ⟨y, l⟩
    · have := HN.out
      simp at this
      omega
    · obtain rfl : y = x := HX.out
      have hok : ∀ c, s' ≠ .error c := fun c e => by cases HNE.out c e
      obtain ⟨h1, r, rfl⟩ := step_one HS.out hok
      exact ⟨y, _, s', rfl, ⟨rfl, ((HL.out _ rfl).bytes hz) y (by simp), fun c e => absurd e (hok c)⟩, h1, HT.out, HB.out⟩

set_option maxHeartbeats 400000 in
theorem tshort_ (p B : Nat) (zs : List Int) (s : St) (w : World) (h : TkIn w p B zs s) (hB : B ≤ p) (hz : AllBytes zs) :
    Calls Try.prog 63 #[.pointer (some ⟨p, 0, none⟩)] w (Takes w p B zs s pShort ShortV) := by
  obtain ⟨A, cc, k, e, hr, hs, ⟨h1, h0⟩, h2, h3, h4⟩ := h.is
  have c0 : w.cell? ⟨p, 0, none⟩ = some (.slice A zs.length cc) := hr.cell 0
  have c1 : w.cell? ⟨p, 1, none⟩ = some (.int .i64 k) := hr.cell 1
  have c2 : w.cell? ⟨p, 2, none⟩ = some (.int .i64 e) := hr.cell 2
  have hp := hr.lt
  rcases h4 with ⟨rfl, rfl⟩ | ⟨rfl, he⟩
  · have hz' := hz.drop k
    have f1 := hr.frozen 1
    have f2 := hr.frozen 2
    -- what GetShort tells, and what is left then
    have F : ∀ W : World, Row W p 104 [.slice A zs.length cc, .int .i64 k, .int .i64 0] → Sees W B A zs.length (bv zs) → But p w W →
        ∀ e : Ending, e = .returned (.int .i64 (getS (zs.drop k)).1) → Takes w p B zs (.ok (zs.drop k)) pShort ShortV e ((W.setCell ⟨p, 2, none⟩ (.int .i64 (getS (zs.drop k)).2.2)).setCell ⟨p, 1, none⟩ (.int .i64 (k + (getS (zs.drop k)).2.1))) := by
      rintro W hr hs hb e rfl
      have T2 := turned_setCell W ⟨p, 2, none⟩ (.int .i64 (getS (zs.drop k)).2.2)
      have T1 := turned_setCell (W.setCell ⟨p, 2, none⟩ (.int .i64 (getS (zs.drop k)).2.2)) ⟨p, 1, none⟩ (.int .i64 (k + (getS (zs.drop k)).2.1))
      have r1 := (hr.set_ 2 (.int .i64 (getS (zs.drop k)).2.2)).set_ 1 (.int .i64 (k + (getS (zs.drop k)).2.1))
      have s1 := (hs.below (T2.below hB)).below (T1.below hB)
      have b1 := (hb.trans (But.of_turned T2)).trans (But.of_turned T1)
      rcases getS_cases _ hz' with (hg | hg) | ⟨n, j, hg, hn, hj1, hj⟩
      · rw [hg] at r1 s1 b1 ⊢
        refine ⟨0, _, .error 4, rfl, ⟨rfl, by omega⟩, Step.fail (by unfold pShort; rw [hg]; rfl), ⟨A, cc, k, 4, by simpa using r1, s1, ⟨h1, h0⟩, h2, h3, .inr ⟨rfl, by omega⟩⟩, b1⟩
      · rw [hg] at r1 s1 b1 ⊢
        refine ⟨0, _, .error 5, rfl, ⟨rfl, by omega⟩, Step.fail (by unfold pShort; rw [hg]; rfl), ⟨A, cc, k, 5, by simpa using r1, s1, ⟨h1, h0⟩, h2, h3, .inr ⟨rfl, by omega⟩⟩, b1⟩
      · rw [hg] at r1 s1 b1 ⊢
        rw [List.length_drop] at hj
        refine ⟨n, _, .ok ((zs.drop k).drop j), rfl, ⟨rfl, hn⟩, Step.ok (by unfold pShort; rw [hg]; exact if_pos rfl), ⟨A, cc, k + j, 0, by simpa using r1, s1, ⟨h1, h0⟩, h2, by omega, .inl ⟨by rw [List.drop_drop], rfl⟩⟩, b1⟩
    have HF := Lib.hid F
    have HR := Lib.hid hr
    have HS := Lib.hid hs
    have HBY := Lib.hid hz'.bytes
    have hkk : (k : Int) ≤ zs.length := by omega
    have hkc : (k : Int) ≤ cc := by omega
    obtain ⟨x1, hx1⟩ : ∃ x, (getS (zs.drop k)).1 = x := ⟨_, rfl⟩
    obtain ⟨x2, hx2⟩ : ∃ x, (getS (zs.drop k)).2.1 = x := ⟨_, rfl⟩
    obtain ⟨x3, hx3⟩ : ∃ x, (getS (zs.drop k)).2.2 = x := ⟨_, rfl⟩
    have hb2 : 0 ≤ x2 ∧ (k : Int) + x2 ≤ cc := by
      rw [← hx2]
      rcases getS_cases _ hz' with (hg | hg) | ⟨n, j, hg, hn, hj1, hj⟩
      · rw [hg]; simp; omega
      · rw [hg]; simp; omega
      · rw [hg]
        rw [List.length_drop] at hj
        simp
        omega
    obtain ⟨hb2, hb3⟩ := hb2
    have HX : Hid ((getS (zs.drop k)).1 = x1 ∧ (getS (zs.drop k)).2.1 = x2 ∧ (getS (zs.drop k)).2.2 = x3) := Lib.hid ⟨hx1, hx2, hx3⟩
    rw [hx1, hx2, hx3] at HF
    clear hr hs h F hx1 hx2 hx3 hz'
    unfold maxLen at h2
    by_cases hck : cc = k
    · have hzl : zs.length - k = 0 := by omega
      have hd : zs.drop k = [] := List.drop_eq_nil_of_le (by omega)
      have HBY' := HBY.out
      have HX' := HX.out
      rw [hd] at HBY' HX'
      have HG : Hid (∀ q, Calls Try.prog 43 #[.slice A 0 0] (w.drewN q) fun e w' => e = .returned (.tuple #[.int .i64 x1, .int .i64 x2, .int .i64 x3]) ∧ w' = w.drewN q) := Lib.hid fun q => by
        refine (refGetShort A 0 0 [] (w.drewN q) B (Sees.nil _ _ _) (by unfold maxLen; omega) HBY').mono ?_
        rintro e w' ⟨rfl, rfl⟩
        exact ⟨by rw [HX'.1, HX'.2.1, HX'.2.2], rfl⟩
      clear HBY' HX' hd
      subst hck
      go_enter Try.func63, Try.ntmps63
      go_wp2_with fail
      go_quiet (first | (go_at_call 43; with_reducible refine Calls.quiet_of_same (HG.out _)))
      go_wp2_with fail
      go_ret
      exact HF.out (w.drewN nq) (HR.out.drewN nq) (HS.out.drewN nq) ((But.refl p w).drewN nq) _ rfl
    · rcases A with _ | a
      · exact absurd (h0 rfl) (by omega)
      have hck' : ¬ (cc : Int) = k := by omega
      have hsee : Sees w B (some (a.add k)) (zs.length - k) (bv (zs.drop k)) := ⟨by rw [bv_length, List.length_drop], fun i u hu => by
        rw [bv_getElem?, List.getElem?_drop, ← bv_getElem?] at hu
        obtain ⟨a', e, hb, hc⟩ := HS.out.cell _ u hu
        cases e
        exact ⟨_, rfl, by rw [addr_block]; exact hb, by rw [addr_add]; exact hc⟩⟩
      have HG : Hid (∀ q, Calls Try.prog 43 #[.slice (some (a.add k)) (zs.length - k) (cc - k)] (w.drewN q) fun e w' => e = .returned (.tuple #[.int .i64 x1, .int .i64 x2, .int .i64 x3]) ∧ w' = w.drewN q) := Lib.hid fun q => by
        refine (refGetShort (some (a.add k)) (zs.length - k) (cc - k) (zs.drop k) (w.drewN q) B (hsee.drewN q) (by unfold maxLen; omega) HBY.out).mono ?_
        rintro e w' ⟨rfl, rfl⟩
        exact ⟨by rw [HX.out.1, HX.out.2.1, HX.out.2.2], rfl⟩
      clear hsee
      go_enter Try.func63, Try.ntmps63
      go_wp2_with fail
      go_quiet (first | (go_at_call 43; with_reducible refine Calls.quiet_of_same (HG.out _)))
      go_wp2_with fail
      go_ret
      exact HF.out (w.drewN nq) (HR.out.drewN nq) (HS.out.drewN nq) ((But.refl p w).drewN nq) _ rfl
  · have he' : (e != 0) = true := by simpa using he
    have H := Lib.hid h
    clear hr hs h he
    go_enter Try.func63, Try.ntmps63
    go_wp2_with fail
    go_ret
    exact ⟨0, _, _, rfl, ⟨rfl, by omega⟩, Step.err, H.out, But.refl _ _⟩

theorem Step.any {α : Type} {one : List Int → PR α} {s : St} {x y : α} {c : Int} (h : Step one s x (.error c)) : Step one s y (.error c) := by
  match s, h with
  | .error c', h => exact h
  | .ok r, h =>
    unfold Step at h ⊢
    simp only at h ⊢
    split at h
    · exact h
    · obtain ⟨_, h⟩ := h
      cases h
theorem step_len {n : Nat} {s s' : St} {l : List Int} (h : Step (pTake n) s l s') : (∃ c, s' = .error c) ∨ l.length = n := by
  match s, h with
  | .error c, h => exact .inl ⟨c, h⟩
  | .ok r, h =>
    unfold Step pTake at h
    by_cases hn : r.length < n
    · simp only [if_pos hn] at h
      exact .inl ⟨_, h⟩
    · simp only [if_neg hn] at h
      right
      rw [h.1, List.length_take]
      omega

/-- the cells of a key into which l has been copied -/
def keyOf (l : List Int) : List Int := if l = [] then zero32 else l
theorem splice_key {l : List Int} (h : l = [] ∨ l.length = 32) : splice (zeros 32) 0 (bv l) = bv (keyOf l) := by
  rcases h with rfl | h
  · rfl
  · unfold splice keyOf
    rw [bv_length, h]
    rw [if_neg (fun e => by rw [e] at h; cases h)]
    simp [zeros]
theorem keyOf_len {l : List Int} (h : l = [] ∨ l.length = 32) : (keyOf l).length = 32 := by
  unfold keyOf
  split
  · rfl
  · rcases h with h | h
    · contradiction
    · exact h

set_option maxRecDepth 100000 in
set_option maxHeartbeats 800000 in
theorem tkey_ (p B : Nat) (zs : List Int) (s : St) (w : World) (h : TkIn w p B zs s) (hB : B ≤ p) :
    Calls Try.prog 64 #[.pointer (some ⟨p, 0, none⟩)] w (Takes w p B zs s (pTake 32) Key3V) := by
  have hp := h.lt
  have HR := Lib.hid h
  clear h
  go_enter Try.func64, Try.ntmps64
  go_wp2_with fail
  rw [zeros32]
  have hb0 : But p w ((w.alloc (.cells (zeros 32).toArray 26)).alloc (.cells (zeros 32).toArray 26)) := ((But.refl p w).alloc _).alloc _
  have ht0 : TkIn ((w.alloc (.cells (zeros 32).toArray 26)).alloc (.cells (zeros 32).toArray 26)) p B zs s := HR.out.below (((Below.refl _ _).alloc (Nat.le_refl _) _).alloc (by simp) _) hB
  have hr0 : Row ((w.alloc (.cells (zeros 32).toArray 26)).alloc (.cells (zeros 32).toArray 26)) w.heap.size 26 (zeros 32) := (Row.new w _ _).alloc _
  have hr1 : Row ((w.alloc (.cells (zeros 32).toArray 26)).alloc (.cells (zeros 32).toArray 26)) (w.heap.size + 1) 26 (zeros 32) := Row.new' _ _ _ (by simp)
  have hz0 : w.heap.size + 2 = ((w.alloc (.cells (zeros 32).toArray 26)).alloc (.cells (zeros 32).toArray 26)).heap.size := by simp
  generalize (w.alloc (.cells (zeros 32).toArray 26)).alloc (.cells (zeros 32).toArray 26) = W at *
  refine wp_region_any (by kernel_rfl) ?_
  try (change wpAny _ _ _ _ _ _ _ (World.drew _))
  refine wpAny_take (i := 0) (v := ?_) rfl (by kernel_rfl) (by kernel_rfl) (by kernel_rfl) (fun _ _ _ h => h) (Or.inl ⟨by rfl, ?_⟩) ?_
  rotate_left
  · intro w
    go_simp
    try with_reducible rfl
  refine wpAny_take (i := 1) (v := ?_) rfl (by kernel_rfl) (by kernel_rfl) (by kernel_rfl) (fun _ _ _ h => h) (Or.inl ⟨by rfl, ?_⟩) ?_
  rotate_left
  · intro w
    go_simp
    try with_reducible rfl
  refine wpAny_ready (rs := [2]) (by kernel_rfl) (by simp) ?_
  refine AllReady.cons rfl (fun K hK => ?_) AllReady.nil
  go_simp
  refine (tbytes_ p B 32 zs s W.drew (ht0.drewN 1) hB (by omega)).mono ?_
  rintro e w1 ⟨l, v, s', rfl, ⟨ho, -, hne⟩, hs, ht, hb⟩
  obtain ⟨A, c, rfl⟩ := ho.form
  have hl : l = [] ∨ l.length = 32 := by
    rcases step_len hs with ⟨c, hc⟩ | hl
    · exact .inl (hne c hc)
    · exact .inr hl
  have hS : Step (pTake 32) s (keyOf l) s' := by
    unfold keyOf
    split
    · rename_i h0
      subst h0
      rcases step_len hs with ⟨c, hc⟩ | hl
      · subst hc; exact hs.any
      · cases hl
    · exact hs
  have hsee := ho.sees
  simp only []
  refine hK _ _ ?_
  have hb1 : But p w w1 := (hb0.drewN 1).trans hb
  have hr10 : Row w1 w.heap.size 26 (zeros 32) := hb.row hr0.drew (Nat.ne_of_gt hp)
  have hr11 : Row w1 (w.heap.size + 1) 26 (zeros 32) := hb.row hr1.drew (by omega)
  have hlt11 := hr11.lt
  clear hK K hb
  refine wpAny_ready (rs := [3]) (by kernel_rfl) (by simp) ?_
  refine AllReady.cons rfl (fun K hK => ?_) AllReady.nil
  refine step_copy_splice rfl (.tmp 4) (.tmp 6) 37 37 rfl 5 Try.underlying37 size_u8 (some ⟨w.heap.size + 1, 0, none⟩) A 32 32 l.length c ?_ ?_ (w.heap.size + 1) 0 (zeros 32) 26 hr11.is (bv l) ?_ ?_ ?_ (bv_one _) (w.heap.size + 1) w1 (Below.refl _ _) (Nat.le_refl _) ?_
  · go_simp
  · go_simp
  · rw [bv_length]; rcases hl with rfl | hl
    · rfl
    · rw [hl]; rfl
  · intro hpos
    rw [bv_length] at hpos
    obtain ⟨a, _, e, _⟩ := hsee.at_ (k := 0) (by omega)
    refine ⟨rfl, a, e, fun j v hv => ?_⟩
    obtain ⟨_, e', _, hc⟩ := hsee.cell j v hv
    rw [e] at e'
    cases e'
    exact hc
  · rw [bv_length]; simp [zeros]; rcases hl with rfl | hl
    · simp
    · omega
  intro w2 h2 hb2
  have hr2 : Row w2 (w.heap.size + 1) 26 (bv (keyOf l)) := ⟨by
    rw [h2.out, splice_key hl]⟩
  refine hK _ _ ?_
  clear hK K
  refine wpAny_done (by kernel_rfl) ?_ _
  have hr20 : Row w2 w.heap.size 26 (zeros 32) := hr10.below hb2 (by omega)
  have hrd2 : TkIn w2 p B zs s' := by
    obtain ⟨A', cc, k, e, q1, q2, q3⟩ := ht.is
    exact ⟨A', cc, k, e, q1.below hb2 (by omega), q2.below (hb2.mono (by omega)), q3⟩
  have hbw2 : But p w w2 := ⟨hb2.os.trans hb1.os, hb2.tape.trans hb1.tape, hb2.output.trans hb1.output, Nat.le_trans hb1.size hb2.size, fun k hk hne => (hb2.block k (by omega)).trans (hb1.block k hk hne)⟩
  have hlk := keyOf_len hl
  have HR2 := Lib.hid hr2
  have HR20 := Lib.hid hr20
  have HRD := Lib.hid hrd2
  have HBW := Lib.hid hbw2
  have hz : (Try.prog.info? 26).map (·.size) = some (bv (keyOf l)).length := by rw [bv_length, hlk]; kernel_rfl
  have HZ := Lib.hid hz
  have HLK := Lib.hid hlk
  have HSS := Lib.hid hS
  clear hr2 hr20 hrd2 hbw2 hb2 h2 hr1 hr0 hr10 hr11 hb1 hz hs ht hlt11 hsee ho hl hlk hS hne hz0 hb0 ht0
  go_wp2_with (first
    | (with_reducible show wpList _ _ _ ({ dst := some 8, op := Op.load _ _, type := _, pos := _, after := _, guard := _ } :: _) _ _; go_must (refine wpList_load_whole rfl 26 (.tmp 3) rfl (w.heap.size + 1) 26 (bv (keyOf l)) _ Try.underlying26 rfl HZ.out HR2.out ?_ ?_; go_simp))
    | (with_reducible show wpList _ _ _ ({ dst := none, op := Op.store 26 _ _, type := _, pos := _, after := _, guard := _ } :: _) _ _; go_must (refine wpList_store_whole rfl 26 (.tmp 2) (.tmp 8) rfl w.heap.size (zeros 32) (bv (keyOf l)) HR20.out HZ.out (by rw [bv_length, HLK.out]; simp [zeros]) (bv_one _) ?_ ?_ ?_; go_simp; go_simp; intro w3 hr3 ht3; have HR3 := Lib.hid hr3; have HT3 := Lib.hid ht3; clear hr3 ht3)))
  refine bodyPost_ret (results_cell_row (h := rfl) _ w3 w.heap.size 26 (bv (keyOf l)).toArray (0, 0) _ (by rfl) HR3.out.is Try.underlying26 rfl (by simpa using HZ.out)) rfl ?_
  refine ⟨keyOf l, _, s', rfl, ⟨rfl, HLK.out⟩, HSS.out, HRD.out.turned HT3.out (by omega) (by omega), HBW.out.turned HT3.out (Nat.le_refl _)⟩
end Go.Proofs.Ytolijdbdpnbchaa
