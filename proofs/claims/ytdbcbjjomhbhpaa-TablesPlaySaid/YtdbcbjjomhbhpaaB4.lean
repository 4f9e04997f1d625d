/-
  Parts joined: Acts Great6 StayWalk RefReg RefPutT RefResT PlayMem.
-/
import Derived.Below
import Derived.Laws.OwnMore
import Derived.Deep.AppendLies
import Derived.Deep.Draws
import Derived.Lib.Hide
import Derived.Laws.MakeOwn
import Derived.Laws.CopyOwn
import Derived.Laws.Rows
import Derived.Laws.BitsAllLaws
import Derived.WalkKit
import Derived.Test.YtdbcbjjomhbhpaaRows
import Derived.WalkSpells
import Derived.WalkLawsBesides
import Derived.IntWalk
import Derived.Maps.AppendAt
import Derived.OwnWalk
import Derived.Deep.MidRow
import Derived.Deep.WholeRow
import Derived.Great.BuildSlice
import Derived.ProofKit
import Derived.OpenShut
import Derived.ShutString
import Derived.ChangeOld
import Derived.Lib.SmallJoins
import Derived.Recover
import Derived.Deep.RegionHeld
import Derived.Deep.QuietTactic
import Derived.BigQuiet
import Derived.Deep.Slices
import Derived.Deep.Strs
import Derived.SizedLaws
import Derived.Maps.OwnSet
import Derived.DeepKeys4
import Derived.WideKeyArr
import Derived.ChangeKeysEq
import Derived.Deep.RegionHeld2
import Derived.Deep.CutBlock
import Derived.Laws.Tables
import Derived.Deep.DeepCutAuto
import Derived.Laws.Slices
import Derived.Laws.EntriesVeiled
import Derived.Deep.RegionHeld3
import Derived.WideKeyEntry
import Derived.Shelf.SlMaps.Clone
import Derived.Test.YtdbcbjjomhbhpaaB1
import Derived.Test.YtdbcbjjomhbhpaaB2
import Derived.Test.YtdbcbjjomhbhpaaB3
/-
  Of part Acts: what is needed here.
-/
namespace Go.Proofs.Ytdbcbjjomhbhpaa
open Go.RowKit
set_option linter.unusedVariables false
/-- an act -/
structure LAct where
  kind : Int
  tab : List Int
  keys : List (List Int)
  looks : List LLook
structure ARaw where
  KA : Option Addr
  kn : Nat
  kc : Nat
  LA : Option Addr
  ln : Nat
  lc : Nat
def ARaw.cells (q : ARaw) (x : LAct) : List Value := .int .u8 x.kind :: (bv x.tab ++ [.slice q.KA q.kn q.kc, .slice q.LA q.ln q.lc])
structure ActIn (w : World) (B : Nat) (q : ARaw) (x : LAct) : Prop where
  tab : x.tab.length = 32
  keys : KeysIn w B q.KA q.kn x.keys
  looks : LooksIn w B q.LA q.ln x.looks
  kn : q.kn ≤ q.kc ∧ q.kc ≤ maxLen
  ln : q.ln ≤ q.lc ∧ q.lc ≤ maxLen
/-- its numbers are bytes; its lists are no longer than memory lets them be -/
structure ActOk (x : LAct) : Prop where
  kind : IsByte x.kind
  tab : KeyOk x.tab
  keys : ∀ k ∈ x.keys, k.length = 32
  looks : ∀ y ∈ x.looks, LkOk y
  kn : x.keys.length ≤ 140737488355328
  ln : x.looks.length ≤ 140737488355328
  sizes : ∀ y ∈ x.looks, y.wr.length ≤ 140737488355328 ∧ y.rd.length ≤ 140737488355328
structure ActsIn (w : World) (B : Nat) (A : Option Addr) (n : Nat) (l : List LAct) : Prop where
  len : l.length = n
  at_ : ∀ i x, l[i]? = some x → ∃ a q, A = some a ∧ a.block < B ∧ (∀ j u, (ARaw.cells q x)[j]? = some u → w.cell? (a.add (i * 35 + j)) = some u) ∧ ActIn w B q x
section
variable {w w' : World} {B : Nat} {q : ARaw} {x : LAct} {A : Option Addr} {n : Nat} {l : List LAct}
theorem ActIn.below (h : ActIn w B q x) (hb : Below B w w') : ActIn w' B q x := ⟨h.tab, h.keys.below hb, h.looks.below hb, h.kn, h.ln⟩
theorem ActsIn.below (h : ActsIn w B A n l) (hb : Below B w w') : ActsIn w' B A n l := ⟨h.len, fun i x hx => by
  obtain ⟨a, q, rfl, hab, hc, hi⟩ := h.at_ i x hx
  exact ⟨a, q, rfl, hab, fun j u hu => (hb.cell (by rw [addr_block]; exact hab)).trans (hc j u hu), hi.below hb⟩⟩
theorem ActsIn.get (h : ActsIn w B A n l) {k : Nat} (hk : k < n) : ∃ a q x, A = some a ∧ a.block < B ∧ l[k]? = some x ∧ (∀ j u, (ARaw.cells q x)[j]? = some u → w.cell? ((a.add (k * 35)).add j) = some u) ∧ ActIn w B q x := by
  obtain ⟨x, hx⟩ : ∃ x, l[k]? = some x := ⟨_, List.getElem?_eq_getElem (by rw [h.len]; exact hk)⟩
  obtain ⟨a, q, rfl, hab, hc, hi⟩ := h.at_ k x hx
  exact ⟨a, q, x, rfl, hab, hx, fun j u hu => by rw [addr_add]; exact hc j u hu, hi⟩
theorem acells_len (h : x.tab.length = 32) : (ARaw.cells q x).length = 35 := by simp [ARaw.cells, bv_length, h]
theorem acells_tab {j : Nat} {u : Value} (h : (bv x.tab)[j]? = some u) : (ARaw.cells q x)[1 + j]? = some u := by
  rw [Nat.add_comm]
  show (bv x.tab ++ _)[j]? = _
  rw [List.getElem?_append_left (List.getElem?_eq_some_iff.1 h).1]
  exact h
theorem acells_33 (h : x.tab.length = 32) : (ARaw.cells q x)[33]? = some (.slice q.KA q.kn q.kc) := by
  show (bv x.tab ++ _)[32]? = _
  rw [List.getElem?_append_right (by rw [bv_length, h]; exact Nat.le_refl _), bv_length, h]
  rfl
theorem acells_34 (h : x.tab.length = 32) : (ARaw.cells q x)[34]? = some (.slice q.LA q.ln q.lc) := by
  show (bv x.tab ++ _)[33]? = _
  rw [List.getElem?_append_right (by rw [bv_length, h]; omega), bv_length, h]
  rfl
theorem acells_one : ∀ u ∈ ARaw.cells q x, u.oneCell' = true := by
  intro u hu
  rcases List.mem_cons.1 hu with rfl | hu
  · rfl
  · simp only [List.mem_append, List.mem_cons, List.not_mem_nil, or_false] at hu
    rcases hu with hu | rfl | rfl
    · exact bv_one _ _ hu
    · rfl
    · rfl
end
theorem cellsAct : Try.prog.cellsOf 36 = 35 := by kernel_rfl
theorem bytesAct : Try.prog.bytesOf 36 = 88 := by kernel_rfl
theorem size_act : (Try.prog.info? 36).map (·.size) = some 35 := by kernel_rfl
theorem four_of {α : Type} {xs : List α} (h : xs.length = 4) : ∃ a b c d, xs = [a, b, c, d] := by
  match xs, h with
  | [a, b, c, d], _ => exact ⟨a, b, c, d, rfl⟩
section
variable {H : Type} {enc : TypeId × Value → H} {w : World} {base b0 : Nat} {held : Bool}
theorem wt_act {y0 y1 y2 y3 : DataW H} (h : Wt 36 (.agg [y0, y1, y2, y3])) : Wt 33 y2 ∧ Wt 34 y3 := by
  refine ⟨fun n hn => h n ?_, fun n hn => h n ?_⟩ <;> simp only [DataW.weights, Try.underlying36] <;> simp [DataW.weightsEach, hn]
theorem open_act_cells {fuel : Nat} {cs : List Value} {x : DataW H × List MemPlace} (hf : DataW.trod enc Try.prog w base (fun _ => true) held fuel 36 cs = some x) (hw : Wt 36 x.1) :
    ∃ q m, cs = ARaw.cells q m ∧ ActIn w w.heap.size q m ∧ ActOk m := by
  obtain ⟨xs, n, _, hx, hl, hlen, ht⟩ := DataW.trod_struct Try.underlying36 hf
  rw [cellsAct] at hl
  obtain ⟨y0, y1, y2, y3, rfl⟩ := four_of hlen
  have hx1 : x.1 = .agg [y0.1, y1.1, y2.1, y3.1] := by simpa using congrArg Prod.fst hx
  rw [hx1] at hw
  obtain ⟨w2, w3⟩ := wt_act hw
  have t0 : DataW.trod enc Try.prog w base (fun _ => true) held n 5 ((cs.drop 0).take 1) = some y0 := by rw [← cellsU8]; exact ht 0 _ rfl
  have t1 : DataW.trod enc Try.prog w base (fun _ => true) held n 32 ((cs.drop 1).take 32) = some y1 := by rw [← cellsKey]; exact ht 1 _ rfl
  have t2 : DataW.trod enc Try.prog w base (fun _ => true) held n 33 ((cs.drop 33).take 1) = some y2 := by rw [← cellsKeys]; exact ht 2 _ rfl
  have t3 : DataW.trod enc Try.prog w base (fun _ => true) held n 34 ((cs.drop 34).take 1) = some y3 := by rw [← cellsLooks]; exact ht 3 _ rfl
  have hsplit : cs = (cs.drop 0).take 1 ++ ((cs.drop 1).take 32 ++ ((cs.drop 33).take 1 ++ (cs.drop 34).take 1)) := by
    have e5 : cs.drop 34 = (cs.drop 34).take 1 := (List.take_of_length_le (by rw [List.length_drop]; omega)).symm
    rw [← e5, ← cut cs 33 1 34 rfl, ← cut cs 1 32 33 rfl, ← cut cs 0 1 1 rfl]
    rfl
  obtain ⟨c0, hc0⟩ := one_of (cs := (cs.drop 0).take 1) (by simp; omega)
  obtain ⟨v2, hv2⟩ := one_of (cs := (cs.drop 33).take 1) (by simp; omega)
  obtain ⟨v3, hv3⟩ := one_of (cs := (cs.drop 34).take 1) (by simp; omega)
  rw [hc0] at t0
  rw [hv2] at t2
  rw [hv3] at t3
  obtain ⟨i0, hi0, _, wi0⟩ := DataW.trod_int Try.underlying5 t0
  obtain rfl : c0 = .int .u8 i0 := by simpa using hi0
  obtain ⟨z, hz, hz1, hz2⟩ := open_32 Try.underlying32 cellsKey t1
  obtain ⟨KA, kn, kc, ks, rfl, k1, k2, k3, k4, k5⟩ := open_keys t2 w2
  obtain ⟨LA, ln, lc, ls, rfl, l1, l2, l3, l4, l5⟩ := open_looks t3 w3
  refine ⟨⟨KA, kn, kc, LA, ln, lc⟩, ⟨i0, z, ks, ls⟩, ?_, ⟨hz1, k3, l3, ⟨k1, k2⟩, ⟨l1, l2⟩⟩, ⟨byte_wf wi0, ⟨hz1, hz2⟩, fun k hk => (k4 k hk).1, fun y hy => (l4 y hy).1, k5, l5, fun y hy => (l4 y hy).2⟩⟩
  rw [hsplit, hc0, hz, hv2, hv3]
  rfl
theorem open_acts {fuel : Nat} {v : Value} {x : DataW H × List MemPlace} (h : DataW.trod enc Try.prog w base (fun _ => true) held fuel 22 [v] = some x) (hw : Wt 22 x.1) :
    ∃ A n c l, v = .slice A n c ∧ n ≤ c ∧ c ≤ maxLen ∧ ActsIn w w.heap.size A n l ∧ (∀ y ∈ l, ActOk y) ∧ l.length ≤ 140737488355328 := by
  obtain ⟨A, n, c, hcs, h1, h2, h3, h4⟩ := open_sl Try.underlying22 (by rw [cellsAct]; omega) h hw
  obtain rfl : v = .slice A n c := by simpa using hcs
  rw [bytesAct] at h3
  have := reach47
  obtain ⟨l, hl, hp⟩ := list_of (α := LAct) (p := fun i z => ActOk z ∧ ∃ a q, A = some a ∧ a.block < w.heap.size ∧ (∀ j u, (ARaw.cells q z)[j]? = some u → w.cell? (a.add (i * 35 + j)) = some u) ∧ ActIn w w.heap.size q z) n fun i hi => by
    obtain ⟨a, cs', y, m, e1, e2, e3, e4, e5, e6⟩ := h4 i hi
    obtain ⟨q, z, rfl, hz, hz'⟩ := open_act_cells e5 e6
    rw [cellsAct] at e4
    exact ⟨z, hz', a, q, e1, e2, e4, hz⟩
  subst hl
  refine ⟨A, l.length, c, l, rfl, h1, h2, ⟨rfl, fun i x hx => (hp i x hx).2⟩, fun k hk => ?_, by omega⟩
  obtain ⟨i, hi, rfl⟩ := List.getElem_of_mem hk
  exact (hp i _ (List.getElem?_eq_getElem hi)).1
theorem open_acts_v {A : Option Addr} {n c : Nat} {d : DataW H} {p : List MemPlace} (h : DataW.Trod enc Try.prog w base (fun _ => true) held 22 (.slice A n c) d p) (hw : Wt 22 d) :
    ∃ l, n ≤ c ∧ c ≤ maxLen ∧ ActsIn w w.heap.size A n l ∧ (∀ y ∈ l, ActOk y) ∧ l.length ≤ 140737488355328 := by
  obtain ⟨fuel, hf⟩ := h
  obtain ⟨A', n', c', l, hv, h1⟩ := open_acts (v := .slice A n c) hf hw
  injection hv with e1 e2 e3
  subst e1 e2 e3
  exact ⟨l, h1⟩
end
end Go.Proofs.Ytdbcbjjomhbhpaa

/-
  Of part Great6: what is needed here.
-/
namespace Go.Proofs.Ytdbcbjjomhbhpaa
open Go.RowKit
set_option linter.unusedVariables false
def LongDone (w : World) (ls : List LLook) (e : Ending) (w' : World) : Prop := (∃ b, e = .returned (.bool b) ∧ (b = false → ls.length + lookSize ls < 2000)) ∧ Below w.heap.size w w'
set_option maxRecDepth 100000 in
set_option maxHeartbeats 1000000 in
theorem long_ (A : Option Addr) (n c B : Nat) (ls : List LLook) (w : World) (hl : LooksIn w B A n ls) (hn : n ≤ 140737488355328) (hs : ∀ y ∈ ls, y.wr.length ≤ 140737488355328 ∧ y.rd.length ≤ 140737488355328) :
    Calls Try.prog 23 #[.slice A n c] w (LongDone w ls) := by
  have ll := hl.len
  have LL := Lib.hid ll
  have HM := Lib.hid hl
  have HSZ := Lib.hid hs
  clear ll hl hs
  go_enter Try.func23, Try.ntmps23
  go_wp2
  obtain ⟨W0, hW0⟩ : ∃ u : World, u = w := ⟨_, rfl⟩
  go_loopw [3, 4] (fun nn i wr => ∃ (k j s : Nat), k ≤ n ∧ i = .int .i64 k ∧ nn = .int .i64 s ∧ wr = w.drewN j ∧ s = n + lookSize (ls.take k) ∧ s ≤ 900000000000000) (fun nn i _ => n - (intOf i).toNat)
  case atStart => exact ⟨0, 0, n, Nat.zero_le _, rfl, rfl, rfl, by simp [lookSize], by omega⟩
  case round =>
    obtain ⟨k, j, s, hk, rfl, rfl, rfl, hsum, hs9⟩ := hrel
    have HS := Lib.hid hsum
    clear hsum
    by_cases hgo : k < n ∧ s < 2000
    · obtain ⟨hlt, hs3⟩ := hgo
      obtain ⟨a, x, va, vd, rfl, hab, hx, hat⟩ := HM.out.get hlt
      have hc1 : w.cell? ((a.add (k * 34)).add 32) = some va := hat.cells 32 va (by rw [List.getElem?_append_right (by rw [bv_length, hat.len]; exact Nat.le_refl _), bv_length, hat.len]; rfl)
      have hc2 : w.cell? ((a.add (k * 34)).add 33) = some vd := hat.cells 33 vd (by rw [List.getElem?_append_right (by rw [bv_length, hat.len]; omega), bv_length, hat.len]; rfl)
      obtain ⟨A1, c1, rfl, _, _, _⟩ := hat.wr.is
      obtain ⟨A2, c2, rfl, _, _, _⟩ := hat.rd.is
      have e1 : w.cell? ⟨(a.add (k * 34)).block, (a.add (k * 34)).off + 32, none⟩ = some (.slice A1 x.wr.length c1) := hc1
      have e2 : w.cell? ⟨(a.add (k * 34)).block, (a.add (k * 34)).off + 33, none⟩ = some (.slice A2 x.rd.length c2) := hc2
      have l1 := (HSZ.out x (List.mem_of_getElem? hx)).1
      have l2 := (HSZ.out x (List.mem_of_getElem? hx)).2
      have HX := Lib.hid (lookSize_succ hx)
      clear hat hx hc1 hc2
      go_wp2
      go_quiet (fail)
      go_wp2
      go_roundw
      case rel => exact ⟨k + 1, j + nq, s + x.wr.length + x.rd.length, by omega, by go_num, by go_num, by simp, by have := HS.out; have := HX.out; omega, by omega⟩
      case measure => simp [intOf]; omega
    · have HT2 : Hid (s < 2000 → ls.length + lookSize ls < 2000) := by
        refine Lib.hid fun h3 => ?_
        have hkn : k = n := by
          have : ¬ k < n := fun h => hgo ⟨h, h3⟩
          omega
        have h1 := HS.out
        rw [hkn, List.take_of_length_le (by rw [LL.out]; omega)] at h1
        have h2 := LL.out
        omega
      have hdec : (k < n ∧ ¬ s < 2000) ∨ ¬ k < n := by
        by_cases h : k < n
        · exact .inl ⟨h, fun h3 => hgo ⟨h, h3⟩⟩
        · exact .inr h
      clear HS hgo
      rcases hdec with ⟨hd1, hd2⟩ | hd1
      all_goals
        (go_wp2
         go_ret
         exact ⟨⟨_, rfl, fun hb => HT2.out (by first | (simp at hb; done) | (simp at hb; omega))⟩, below_drewN (Below.refl _ _) j⟩)
/-- acts that are gone through -/
def SmallActs (l : List LAct) : Prop := l.length ≤ 80 ∧ ∀ x ∈ l, x.keys.length ≤ 400 ∧ x.looks.length ≤ 40 ∧ lookSize x.looks < 2000
def GreatDone6 (w : World) (l : List LAct) (e : Ending) (w' : World) : Prop := (∃ b, e = .returned (.bool b) ∧ (b = false → SmallActs l)) ∧ Below w.heap.size w w'
set_option maxRecDepth 100000 in
set_option maxHeartbeats 2000000 in
theorem great6 (A : Option Addr) (n c B : Nat) (l : List LAct) (w : World) (hl : ActsIn w B A n l) (hB : B ≤ w.heap.size) (hn : n ≤ 140737488355328) (hok : ∀ y ∈ l, ActOk y) :
    Calls Try.prog 8 #[.slice A n c] w (GreatDone6 w l) := by
  have LL := Lib.hid hl.len
  have HM := Lib.hid hl
  have HOK := Lib.hid hok
  clear hl hok
  by_cases h80 : 80 < n
  · go_enter Try.func8, Try.ntmps8
    go_wp2
    go_ret
    exact ⟨⟨_, rfl, fun hb => by cases hb⟩, Below.refl _ _⟩
  · go_enter Try.func8, Try.ntmps8
    go_wp2
    go_loopw [3] (fun i wr => ∃ (k : Nat), k ≤ n ∧ i = .int .i64 k ∧ Below w.heap.size w wr ∧ ∀ x ∈ l.take k, x.keys.length ≤ 400 ∧ x.looks.length ≤ 40 ∧ lookSize x.looks < 2000) (fun i _ => n - (intOf i).toNat)
    case atStart => exact ⟨0, Nat.zero_le _, rfl, Below.refl _ _, by simp⟩
    case round =>
      obtain ⟨k, hk, rfl, hbw, hall⟩ := hrel
      have HBW := Lib.hid hbw
      have HALL := Lib.hid hall
      clear hbw hall
      by_cases hlt : k < n
      · obtain ⟨a, q, x, rfl, hab, hx, hcs, hin⟩ := (HM.out.below (HBW.out.mono hB)).get hlt
        obtain ⟨KA, kn, kc, LA, ln, lc⟩ := q
        have hx0 := HOK.out x (List.mem_of_getElem? hx)
        have e1 : wr.cell? ⟨(a.add (k * 35)).block, (a.add (k * 35)).off + 33, none⟩ = some (.slice KA kn kc) := hcs 33 _ (acells_33 hin.tab)
        have e2 : wr.cell? ⟨(a.add (k * 35)).block, (a.add (k * 35)).off + 34, none⟩ = some (.slice LA ln lc) := hcs 34 _ (acells_34 hin.tab)
        have hq1 : x.keys.length = kn := hin.keys.len
        have hq2 : x.looks.length = ln := hin.looks.len
        have HL1 := Lib.hid hq1
        have HL2 := Lib.hid hq2
        have HX := Lib.hid hx
        have HC := Lib.hid (long_ LA ln lc B x.looks wr hin.looks (by rw [← hq2]; exact hx0.ln) hx0.sizes)
        have hln : ln ≤ 140737488355328 := by rw [← hq2]; exact hx0.ln
        have hkn : kn ≤ 140737488355328 := by rw [← hq1]; exact hx0.kn
        clear hcs hin hx hx0 hq1 hq2
        by_cases h1 : 400 < kn
        · go_wp2
          go_ret
          exact ⟨⟨_, rfl, fun hb => by cases hb⟩, HBW.out⟩
        by_cases h2 : 40 < ln
        · go_wp2
          go_ret
          exact ⟨⟨_, rfl, fun hb => by cases hb⟩, HBW.out⟩
        go_wp2_with fail
        refine HC.out.mono ?_
        rintro e w2 ⟨⟨b, rfl, hb⟩, hbel⟩
        have HB2 := Lib.hid (HBW.out.trans (hbel.mono HBW.out.size))
        have HBB := Lib.hid hb
        clear hb hbel
        cases b with
        | true =>
          go_wp2_with fail
          go_ret
          exact ⟨⟨_, rfl, fun hb => by cases hb⟩, HB2.out⟩
        | false =>
          go_wp2_with fail
          go_roundw
          case rel =>
            refine ⟨k + 1, by omega, by go_num, HB2.out, (forall_take_succ HX.out).2 ⟨HALL.out, ?_⟩⟩
            have := HBB.out (by simp)
            have q1 := HL1.out
            have q2 := HL2.out
            omega
          case measure => simp [intOf]; omega
      · have HA : Hid (SmallActs l) := Lib.hid ⟨by rw [LL.out]; omega, by
          have := HALL.out
          rwa [List.take_of_length_le (by rw [LL.out]; omega)] at this⟩
        go_wp2
        go_ret
        exact ⟨⟨_, rfl, fun _ => HA.out⟩, HBW.out⟩
end Go.Proofs.Ytdbcbjjomhbhpaa

/-
  Of part StayWalk: what is needed here.
-/
namespace Go.Proofs.Ytdbcbjjomhbhpaa
open Go.RowKit
set_option linter.unusedVariables false
theorem KOut.step {w w' : World} {lo hi : Nat} {S : Sl} {l : List (List Int)} (h : KOut w lo hi S l) (hh : hi ≤ w.heap.size) (hb : Below w.heap.size w w') : KOut w' lo w'.heap.size S l :=
  ((h.more (Nat.le_refl _) hh).below hb).more (Nat.le_refl _) hb.size
/-- a map that is older is written -/
theorem KOut.put {w w' : World} {lo hi mb : Nat} {S : Sl} {l : List (List Int)} (h : KOut w lo hi S l) (hh : hi ≤ w.heap.size) (hm : mb < lo) (hg : w.grownBy w' (some mb)) : KOut w' lo w'.heap.size S l := by
  have hk : ∀ g, S.A = some g → w'.heap[g]? = w.heap[g]? := fun g e => by
    have := h.low g e
    exact hg.block g (by omega) (fun e' => by cases e'; omega)
  refine ⟨h.fit.keep hk, ⟨h.keys.len, h.keys.each, h.keys.sees.len, fun i u hu => ?_⟩, h.cap, fun g e => ⟨(h.low g e).1, Nat.lt_of_lt_of_le (h.low g e).2 (Nat.le_trans hh hg.size)⟩⟩
  obtain ⟨a, e, hab, hc⟩ := h.keys.sees.cell i u hu
  refine ⟨a, e, Nat.lt_of_lt_of_le hab (Nat.le_trans hh hg.size), ?_⟩
  obtain ⟨g, hg', rfl⟩ := Option.map_eq_some_iff.1 e
  rw [← hc]
  exact World.cell?_of_block (w := w) (by rw [addr_block]; exact hk g hg')
theorem ActIn.more {w : World} {B B' : Nat} {q : ARaw} {x : LAct} (h : ActIn w B q x) (hB : B ≤ B') : ActIn w B' q x := ⟨h.tab, h.keys.more hB, h.looks.more hB, h.kn, h.ln⟩
end Go.Proofs.Ytdbcbjjomhbhpaa

/-
  Of part RefReg: what is needed here.
-/
namespace Go.Proofs.Ytdbcbjjomhbhpaa
open Go.RowKit
set_option linter.unusedVariables false
/-- a table's cells; its list lies in a block of its own, of which S holds -/
def ET (S : Nat → Prop) (w : World) (B : Nat) (cs : List Value) (t : LTab) : Prop :=
  t.key.length = 32 ∧ ∃ g c rest, cs = bv t.key ++ [.slice (some ⟨g, 0, none⟩) t.keys.length c] ∧ Row w g 32 (bv t.keys.flatten ++ rest) ∧ (t.keys.length ≤ c ∧ c ≤ maxLen) ∧ S g
/-- keys' blocks stay -/
def KeepKeys (w w' : World) : Prop := ∀ g xs, Row w g 32 xs → Row w' g 32 xs
structure RReg (w : World) (pb base : Nat) (v : Value) (ts : List LTab) (S : Nat → Prop) : Prop where
  row : Row w pb 30 [v]
  tabs : ∃ css, w.ownsRow base 67 33 v ts.length css.flatten ∧ Elems 33 (ET S) w 0 ts css
  good : TsOk ts
section
variable {w w' : World} {pb base : Nat} {v : Value} {ts : List LTab} {S S' : Nat → Prop}
theorem KeepKeys.below (hb : Below w.heap.size w w') : KeepKeys w w' := fun g xs hr => hr.below hb hr.lt
theorem ET.keep {B : Nat} {cs : List Value} {t : LTab} (h : ET S w B cs t) (hk : KeepKeys w w') (hS : ∀ g, g < w.heap.size → S g → S' g) : ET S' w' B cs t := by
  obtain ⟨h1, g, c, rest, h2, h3, h4, h5⟩ := h
  exact ⟨h1, g, c, rest, h2, hk g _ h3, h4, hS g h3.lt h5⟩
theorem RReg.keep (h : RReg w pb base v ts S) (hk : KeepKeys w w') (hp : w'.heap[pb]? = w.heap[pb]?) (ho : ∀ g, v.ownBlock = some g → w'.heap[g]? = w.heap[g]?) : RReg w' pb base v ts S := by
  obtain ⟨css, h1, h2⟩ := h.tabs
  exact ⟨⟨hp.trans h.row.is⟩, ⟨css, own_keep h1 ho, h2.map fun cs x hx => ET.keep hx hk fun _ _ hs => hs⟩, h.good⟩
theorem RReg.below (h : RReg w pb base v ts S) (hb : Below w.heap.size w w') : RReg w' pb base v ts S := by
  obtain ⟨css, h1, h2⟩ := h.tabs
  exact h.keep (KeepKeys.below hb) (hb.block pb h.row.lt) fun g e => hb.block g (h1.lt g e).2
theorem Elems.turn {α : Type} {size : Nat} {E E' : World → Nat → List Value → α → Prop} {w w' : World} {B B' : Nat} {l : List α} {css : List (List Value)} (h : Elems size E w B l css) (hm : ∀ cs x, E w B cs x → E' w' B' cs x) : Elems size E' w' B' l css :=
  ⟨h.len, fun i x cs hx hcs => by
    obtain ⟨a, b⟩ := h.at_ i x cs hx hcs
    exact ⟨hm _ _ a, b⟩⟩
theorem RReg.weak (h : RReg w pb base v ts S) (hS : ∀ g, g < w.heap.size → S g → S' g) : RReg w pb base v ts S' := by
  obtain ⟨css, h1, h2⟩ := h.tabs
  exact ⟨h.row, ⟨css, h1, h2.turn fun cs x hx => ET.keep hx (fun _ _ hr => hr) hS⟩, h.good⟩
/-- the list, as it is read -/
theorem RReg.open_ (h : RReg w pb base v ts S) : ∃ A c css, v = .slice A ts.length c ∧ Sees w w.heap.size A (ts.length * 33) css.flatten ∧ Elems 33 (ET S) w 0 ts css ∧ ts.length ≤ c ∧ c ≤ maxLen := by
  obtain ⟨css, h1, h2⟩ := h.tabs
  obtain ⟨A, c, hv, hs, hc, hm, _⟩ := own_form2 h1
  exact ⟨A, c, css, hv, hs, h2, hc, hm⟩
end
theorem findT_append {ts us : List LTab} {x : List Int} {l : List (List Int)} (h : findT ts x = some l) : findT (ts ++ us) x = some l := by
  unfold findT at *
  rw [List.find?_append]
  obtain ⟨t, ht, rfl⟩ := Option.map_eq_some_iff.1 h
  rw [ht]
  rfl
theorem findT_hit {ts : List LTab} {x : List Int} {k : Nat} {t : LTab} (ht : ts[k]? = some t) (h : findT (ts.take k) x = none) (he : t.key = x) : findT ts x = some t.keys := by
  have h1 : findT (ts.take (k + 1)) x = some t.keys := by
    rw [List.take_add_one, ht]
    show findT (ts.take k ++ [t]) x = _
    rw [findT_snoc, h]
    simp [he]
  have := findT_append (us := ts.drop (k + 1)) h1
  rwa [List.take_append_drop] at this
theorem findT_miss {ts : List LTab} {x : List Int} {k : Nat} {t : LTab} (ht : ts[k]? = some t) (h : findT (ts.take k) x = none) (he : t.key ≠ x) : findT (ts.take (k + 1)) x = none := by
  rw [List.take_add_one, ht]
  show findT (ts.take k ++ [t]) x = _
  rw [findT_snoc, h]
  simp [he]
/-- what Find answers -/
def RFDone (w : World) (ts : List LTab) (x : List Int) (e : Ending) (w' : World) : Prop :=
  ∃ A n c, e = .returned (.tuple #[.slice A n c, .int .i64 (fErr ts x)]) ∧ KeysIn w' w'.heap.size A n (fKeys ts x) ∧ n ≤ 256 ∧ Below w.heap.size w w' ∧ ∀ a, A = some a → w.heap.size ≤ a.block
set_option maxRecDepth 100000 in
set_option maxHeartbeats 4000000 in
theorem refFind (pb base : Nat) (v : Value) (ts : List LTab) (S : Nat → Prop) (x : List Int) (w : World) (h : RReg w pb base v ts S) (hx : KeyOk x) (hn : ts.length ≤ 1000) :
    Calls Try.prog 19 #[.pointer (some ⟨pb, 0, none⟩), .agg (bv x).toArray] w (RFDone w ts x) := by
  have hb0 : Below w.heap.size w (w.alloc (.cells (bv x).toArray 32)) := (Below.refl _ _).alloc (Nat.le_refl _) _
  have RX := Lib.hid (Row.new w 32 (bv x))
  have HSZ := Lib.hid (show (Try.prog.info? 32).map (·.size) = some (bv x).length by rw [bv_length, hx.1]; exact size_key)
  have HB0 := Lib.hid hb0
  have hR := h.below hb0
  have HR := Lib.hid hR
  obtain ⟨A, c, css, rfl, hse, hel, hc1, hc2⟩ := hR.open_
  have SE := Lib.hid hse
  have EL' := Lib.hid hel
  have HX := Lib.hid hx
  have HN := Lib.hid (And.intro hc1 hc2)
  have c0 : (w.alloc (.cells (bv x).toArray 32)).cell? ⟨pb, 0, none⟩ = some (.slice A ts.length c) := hR.row.cell 0
  clear h hb0 hR hse hel hx hc1 hc2
  obtain ⟨X, hX⟩ : ∃ X, X = bv x := ⟨_, rfl⟩
  have HXX := Lib.hid hX
  rw [← hX] at RX HSZ HB0 HR SE EL' c0 ⊢
  clear hX
  generalize hWW : w.alloc (.cells X.toArray 32) = W at *
  have HWW := Lib.hid hWW
  clear hWW
  obtain ⟨n, hnn⟩ : ∃ n, n = ts.length := ⟨_, rfl⟩
  have LN := Lib.hid hnn
  rw [← hnn] at SE c0 HN hn
  clear hnn
  go_enter Try.func19, Try.ntmps19
  go_upto_region 1 with fail
  rw [HWW.out]
  go_wp2_with fail
  go_loopw [6] (fun i wr => ∃ k j : Nat, k ≤ n ∧ i = .int .i64 k ∧ findT (ts.take k) x = none ∧ wr = W.drewN j) (fun i _ => n - (intOf i).toNat)
  case atStart => exact ⟨0, 0, Nat.zero_le _, rfl, rfl, rfl⟩
  case round =>
    obtain ⟨k, j, hk, rfl, hnone, rfl⟩ := hrel
    have HNO := Lib.hid hnone
    clear hnone
    by_cases hlt : k < n
    · obtain ⟨a, t, cs, rfl, hab, ht, hcs, ⟨e1, g, gc, rest, e2, e3, ⟨e4, e5⟩, e6⟩, e7, e8, _⟩ := EL'.out.get (by rw [← LN.out]; exact SE.out) (by rw [← LN.out]; exact hlt) (by omega)
      subst e2
      have HT := Lib.hid ht
      have CA : Hid (∀ j u, (bv t.key)[j]? = some u → W.cell? ((a.add (k * 33)).add j) = some u) := Lib.hid fun j u hu => e8 j u (by rw [List.getElem?_append_left (List.getElem?_eq_some_iff.1 hu).1]; exact hu)
      have HSX := Lib.hid (show (Try.prog.info? 32).map (·.size) = some (bv t.key).length by rw [size_key, bv_length, e1])
      have NQ : ∀ w, (binOp .eql 32 (.agg (bv t.key).toArray) (.agg X.toArray)).run Try.prog w = .ok (.bool (decide (t.key = x))) w := fun w => by rw [HXX.out]; exact key_eql e1 HX.out.1 w
      have c32 : W.cell? ⟨(a.add (k * 33)).block, (a.add (k * 33)).off + 32, none⟩ = some (.slice (some ⟨g, 0, none⟩) t.keys.length gc) := e8 32 _ (by rw [List.getElem?_append_right (by rw [bv_length, e1]; exact Nat.le_refl _), bv_length, e1]; rfl)
      have RG := Lib.hid e3
      obtain ⟨h32, h1, h256⟩ := (show (∀ y ∈ t.keys, y.length = 32) ∧ 1 ≤ t.keys.length ∧ t.keys.length ≤ 256 from ⟨(HR.out.good t (List.mem_of_getElem? ht)).keys, (HR.out.good t (List.mem_of_getElem? ht)).one, (HR.out.good t (List.mem_of_getElem? ht)).most⟩)
      have H32 := Lib.hid h32
      have KI := Lib.hid (keys_row RG.out rfl h32 RG.out.lt)
      clear ht hcs e1 e3 e4 e5 e6 e7 e8 hab h32
      generalize bv t.key = Y at *
      by_cases hyy : t.key = x
      · rw [decide_eq_true hyy] at NQ
        have HF := Lib.hid (findT_hit HT.out HNO.out hyy)
        clear hyy
        generalize hm : t.keys.length = m at *
        go_wp2_with fail
        refine wp_region_quiet_lit (by kernel_rfl) (by kernel_rfl) ?_
        repeat (first
          | ((with_reducible show wpQuiet _ _ _ _ ({ dst := some 23, op := Op.load _ _, type := _, pos := _, after := _, guard := _ } :: _) _); go_must (refine quiet_load_at (by kernel_rfl) 32 (.tmp 22) rfl (a.add (k * 33)) Y _ Try.underlying32 rfl HSX.out (by rintro _ ⟨nq, rfl⟩; exact CA.out) ?_ ?_; go_simp; go_simp))
          | ((with_reducible show wpQuiet _ _ _ _ ({ dst := some 24, op := Op.load _ _, type := _, pos := _, after := _, guard := _ } :: _) _); go_must (refine quiet_load_at (by kernel_rfl) 32 (.tmp 3) rfl ⟨w.heap.size, 0, none⟩ X _ Try.underlying32 rfl HSZ.out (by rintro _ ⟨nq, rfl⟩; exact fun j v hv => by rw [addr_row, Nat.zero_add]; exact (RX.out.cell j).trans hv) ?_ ?_; go_simp; go_simp))
          | go_big_quiet_step (fail))
        refine wpQuiet_nil ?_
        intro nq
        have HSG : Hid (Sees (W.drewN (j + nq)) W.heap.size (some ⟨g, 0, none⟩) (m * 32) (bv t.keys.flatten)) := Lib.hid (KI.out.sees.keep fun p hp => rfl)
        have HB2 : Hid (Below w.heap.size w (W.drewN (j + nq))) := Lib.hid (below_drewN HB0.out (j + nq))
        have HE : Hid (fErr ts x = 0) := Lib.hid (by unfold fErr; rw [HF.out]; rfl)
        have HKK : Hid (fKeys ts x = t.keys) := Lib.hid (by unfold fKeys; rw [HF.out]; rfl)
        have HM := Lib.hid hm
        clear hm
        go_wp2_with ((with_reducible show wpList _ _ _ ({ dst := some 34, op := _, type := _, pos := _, after := _, guard := _ } :: _) _ _); go_must (refine wpList_appendN rfl (.const (.slice none 0 0)) (.tmp 33) 33 32 _ 32 32 rfl Try.underlying33 info_key zsz6 (by omega) (.slice none 0 0) 0 [] w.heap.size _ (some ⟨g, 0, none⟩) m gc (bv t.keys.flatten) rfl (World.ownsRow_nil _ _ _ _) ?_ HSG.out (bv_one _) (by unfold maxLen; omega) (by omega) HB2.out.size ?_; go_simp; intro v1 u1 ho1 hg1; rw [Nat.zero_add, List.nil_append] at ho1; obtain ⟨A1, c1, rfl, hs1, _, _, hlo1⟩ := own_form2 ho1; have SE1 := Lib.hid hs1; have GB := Lib.hid (hg1.below (World.ownsRow_nil _ _ 32 32) (Nat.le_refl _)); have LO1 := Lib.hid hlo1; clear ho1 hg1 hs1 hlo1))
        go_ret2
        refine ⟨A1, m, c1, by rw [HE.out]; rfl, ?_, h256, HB2.out.trans (GB.out.mono HB2.out.size), fun a' ha => by subst ha; exact (LO1.out _ rfl).1⟩
        rw [HKK.out]
        exact ⟨HM.out, H32.out, SE1.out⟩
      · rw [decide_eq_false hyy] at NQ
        have HF := Lib.hid (findT_miss HT.out HNO.out hyy)
        clear hyy c32
        go_wp2_with fail
        refine wp_region_quiet_lit (by kernel_rfl) (by kernel_rfl) ?_
        repeat (first
          | ((with_reducible show wpQuiet _ _ _ _ ({ dst := some 23, op := Op.load _ _, type := _, pos := _, after := _, guard := _ } :: _) _); go_must (refine quiet_load_at (by kernel_rfl) 32 (.tmp 22) rfl (a.add (k * 33)) Y _ Try.underlying32 rfl HSX.out (by rintro _ ⟨nq, rfl⟩; exact CA.out) ?_ ?_; go_simp; go_simp))
          | ((with_reducible show wpQuiet _ _ _ _ ({ dst := some 24, op := Op.load _ _, type := _, pos := _, after := _, guard := _ } :: _) _); go_must (refine quiet_load_at (by kernel_rfl) 32 (.tmp 3) rfl ⟨w.heap.size, 0, none⟩ X _ Try.underlying32 rfl HSZ.out (by rintro _ ⟨nq, rfl⟩; exact fun j v hv => by rw [addr_row, Nat.zero_add]; exact (RX.out.cell j).trans hv) ?_ ?_; go_simp; go_simp))
          | go_big_quiet_step (fail))
        refine wpQuiet_nil ?_
        intro nq
        go_wp2_with fail
        go_roundw
        case rel => exact ⟨k + 1, j + nq, by omega, by go_num, HF.out, by simp⟩
        case measure => simp [intOf]; omega
    · have hkn : k = n := by omega
      have HF : Hid (findT ts x = none) := Lib.hid (by have := HNO.out; rwa [hkn, LN.out, List.take_length] at this)
      have HE : Hid (fErr ts x = 11) := Lib.hid (by unfold fErr; rw [HF.out]; rfl)
      have HKK : Hid (fKeys ts x = []) := Lib.hid (by unfold fKeys; rw [HF.out]; rfl)
      clear hkn
      go_wp2_with fail
      go_ret2
      refine ⟨none, 0, 0, by rw [HE.out]; rfl, ?_, by omega, below_drewN HB0.out j, fun a' ha => by cases ha⟩
      rw [HKK.out]
      exact ⟨rfl, by simp, Sees.nil _ _ _⟩
end Go.Proofs.Ytdbcbjjomhbhpaa

/-
  Of part RefPutT: what is needed here.
-/
namespace Go.Proofs.Ytdbcbjjomhbhpaa
open Go.RowKit
set_option linter.unusedVariables false
/-- what stays when the reference puts: all but its block and its list's -/
structure PutKeep (w w' : World) (pb : Nat) (v v' : Value) : Prop where
  os : w'.os = w.os
  tape : w'.tape = w.tape
  output : w'.output = w.output
  size : w.heap.size ≤ w'.heap.size
  block : ∀ g, g < w.heap.size → g ≠ pb → v.ownBlock ≠ some g → w'.heap[g]? = w.heap[g]?
  fresh : ∀ g, v'.ownBlock = some g → v.ownBlock = some g ∨ w.heap.size ≤ g
theorem PutKeep.below {w w' : World} {pb : Nat} {v : Value} (h : Below w.heap.size w w') : PutKeep w w' pb v v := ⟨h.os, h.tape, h.output, h.size, fun g hg _ _ => h.block g hg, fun g e => .inl e⟩
def RPutDone (w : World) (pb base : Nat) (v : Value) (ts : List LTab) (S : Nat → Prop) (x : List Int) (l : List (List Int)) (e : Ending) (w' : World) : Prop :=
  e = .returned (.int .i64 (mayPut ts x l)) ∧ ∃ v', RReg w' pb base v' (putT ts x l) (fun g => S g ∨ w.heap.size ≤ g) ∧ PutKeep w w' pb v v'
/-- nothing is put -/
theorem RPutDone.not {w w' : World} {pb base : Nat} {v : Value} {ts : List LTab} {S : Nat → Prop} {x : List Int} {l : List (List Int)} (h : RReg w pb base v ts S) (hb : Below w.heap.size w w') {c : Int} (hm : mayPut ts x l = c) (hc : c ≠ 0) : RPutDone w pb base v ts S x l (.returned (.int .i64 c)) w' := by
  have e : putT ts x l = ts := by unfold putT; rw [if_neg (by rw [hm]; exact hc)]
  refine ⟨by rw [hm], v, ?_, PutKeep.below hb⟩
  rw [e]
  exact (h.below hb).weak fun g _ hs => .inl hs
theorem info_tab : (Try.prog.info? 67).map (fun i => (i.zero, i.size, i.bytes)) = some (some (.agg (zeros 32 ++ [Value.slice none 0 0]).toArray), 33, 56) := by kernel_rfl
theorem zsz_tab : (Value.agg (zeros 32 ++ [Value.slice none 0 0]).toArray).cells.size = 33 := by kernel_rfl
theorem built_tab (l : List Value) (hl : l.length = 32) (A : Option Addr) (n c : Nat) : Try.prog.built 67 [(0, .agg l.toArray), (1, .slice A n c)] = some (l ++ [Value.slice A n c]).toArray := by
  obtain ⟨f, rfl⟩ : ∃ f : Fin 32 → Value, l = List.ofFn f := ⟨fun i => l.getD i undef, by
    refine List.ext_getElem (by simpa using hl) fun i h1 h2 => ?_
    rw [List.getElem_ofFn, List.getD_eq_getElem?_getD, List.getElem?_eq_getElem h1]
    rfl⟩
  kernel_rfl
/-- a list of the call's own lies in a block -/
theorem own_block {w : World} {base size n : Nat} {e : TypeId} {v : Value} {xs : List Value} (h : w.ownsRow base e size v n xs) (hn : 1 ≤ n) : ∃ g c rest, v = .slice (some ⟨g, 0, none⟩) n c ∧ base ≤ g ∧ Row w g e (xs ++ rest) ∧ n ≤ c ∧ c ≤ maxLen := by
  rcases h.2 with ⟨_, h0⟩ | ⟨g, cap, cur, h1, h2, h3, h4, h5, h6, h7⟩
  · omega
  · refine ⟨g, cap, cur.toList.drop (n * size), h1, h2, ⟨?_⟩, h4, h5⟩
    rw [h3, ← h7, List.take_append_drop]
/-- while the last statement is carried out -/
structure PC (w0 V : World) (pb base bx : Nat) (v : Value) (ts : List LTab) (S : Nat → Prop) (X : List Value) : Prop where
  reg : RReg V pb base v ts S
  key : Row V bx 32 X
  b : Below w0.heap.size w0 V
theorem PC.below {w0 V V' : World} {pb base bx : Nat} {v : Value} {ts : List LTab} {S : Nat → Prop} {X : List Value} (h : PC w0 V pb base bx v ts S X) (hb : Below V.heap.size V V') : PC w0 V' pb base bx v ts S X :=
  ⟨h.reg.below hb, h.key.below hb h.key.lt, h.b.trans (hb.mono h.b.size)⟩
theorem PC.done {w V3 V4 : World} {pb base bx g c : Nat} {v v4 : Value} {ts : List LTab} {S : Nat → Prop} {X rest : List Value} {x : List Int} {l : List (List Int)} {css : List (List Value)}
    (h : PC w V3 pb base bx v ts S X) (he : Elems 33 (ET S) V3 0 ts css) (hx : KeyOk x) (hl : ∀ y ∈ l, y.length = 32) (hm : mayPut ts x l = 0)
    (ho : V4.ownsRow base 67 33 v4 (ts.length + 1) (css.flatten ++ (bv x ++ [Value.slice (some ⟨g, 0, none⟩) l.length c]))) (hg : Grew V3 V4 v v4)
    (hown : V3.ownsRow base 67 33 v ts.length css.flatten)
    (hk : Row V3 g 32 (bv l.flatten ++ rest)) (hgw : w.heap.size ≤ g) (hc : l.length ≤ c ∧ c ≤ maxLen) :
    RPutDone w pb base v ts S x l (.returned (.int .i64 0)) (V4.setCell ⟨pb, 0, none⟩ v4) := by
  have hts : putT ts x l = ts ++ [⟨x, l⟩] := by unfold putT; rw [if_pos hm]
  have hT := turned_setCell V4 ⟨pb, 0, none⟩ v4
  have hrow4 : Row V4 pb 30 [v] := h.reg.row.grown hg.grown (own_row_neN hown h.reg.row (by decide))
  have hkk : KeepKeys V3 (V4.setCell ⟨pb, 0, none⟩ v4) := fun g' xs hr => by
    have h1 : Row V4 g' 32 xs := hr.grown hg.grown (own_row_neN hown hr (by decide))
    exact hT.row h1 (fun e => by
      have e' : g' = pb := e
      subst e'
      have := h1.is.symm.trans hrow4.is
      injection this with this
      injection this with _ this
      revert this
      decide)
  refine ⟨by rw [hm], v4, ⟨?_, ⟨css ++ [bv x ++ [Value.slice (some ⟨g, 0, none⟩) l.length c]], ?_, ?_⟩, ?_⟩, ⟨hg.grown.os.trans h.b.os, hg.grown.tape.trans h.b.tape, hg.grown.output.trans h.b.output, ?_, fun k hk1 hk2 hk3 => ?_, fun k e => ?_⟩⟩
  · exact hrow4.set_ 0 v4
  · rw [hts, List.flatten_append, List.length_append]
    have e : ([bv x ++ [Value.slice (some ⟨g, 0, none⟩) l.length c]] : List (List Value)).flatten = bv x ++ [Value.slice (some ⟨g, 0, none⟩) l.length c] := by simp
    rw [e]
    exact own_turned ho hrow4 (by decide) hT
  · rw [hts]
    have hone : Elems 33 (ET fun g => S g ∨ w.heap.size ≤ g) (V4.setCell ⟨pb, 0, none⟩ v4) 0 [(⟨x, l⟩ : LTab)] [bv x ++ [Value.slice (some ⟨g, 0, none⟩) l.length c]] := ⟨rfl, fun i y cs hy hcs => by
      match i, hy, hcs with
      | 0, hy, hcs =>
        cases hy
        cases hcs
        refine ⟨⟨hx.1, g, c, rest, rfl, hkk _ _ hk, hc, .inr hgw⟩, by simp [bv_length, hx.1], fun u hu => ?_⟩
        rcases List.mem_append.1 hu with hu | hu
        · exact bv_one _ _ hu
        · obtain rfl := List.mem_singleton.1 hu; rfl⟩
    exact (he.turn fun cs y hy => ET.keep (S' := fun g => S g ∨ w.heap.size ≤ g) hy hkk fun _ _ hs => Or.inl hs).app hone
  · exact h.reg.good.put hx hl
  · exact Nat.le_trans (Nat.le_trans h.b.size hg.size) (Nat.le_of_eq hT.size.symm)
  · rw [hT.block k hk2]
    exact (hg.grown.block k (Nat.lt_of_lt_of_le hk1 h.b.size) (fun e => hk3 e.symm)).trans (h.b.block k hk1)
  · rcases hg.fresh k e with h1 | h1
    · exact .inl h1
    · exact .inr (Nat.le_trans h.b.size h1)
set_option maxRecDepth 100000 in
set_option maxHeartbeats 8000000 in
theorem refPut (pb base : Nat) (v : Value) (ts : List LTab) (S : Nat → Prop) (x : List Int) (A : Option Addr) (m c B : Nat) (l : List (List Int)) (w : World) (h : RReg w pb base v ts S) (hx : KeyOk x) (hl : KeysIn w B A m l) (hB : B ≤ w.heap.size) (hn : ts.length ≤ 900) (hm : m ≤ maxLen) (hbase : base ≤ w.heap.size) :
    Calls Try.prog 14 #[.pointer (some ⟨pb, 0, none⟩), .agg (bv x).toArray, .slice A m c] w (RPutDone w pb base v ts S x l) := by
  have hlen := hl.len
  have hb0 : Below w.heap.size w (w.alloc (.cells (bv x).toArray 32)) := (Below.refl _ _).alloc (Nat.le_refl _) _
  have RX := Lib.hid (Row.new w 32 (bv x))
  have HREG := Lib.hid h
  have HSZ := Lib.hid (show (Try.prog.info? 32).map (·.size) = some (bv x).length by rw [bv_length, hx.1]; exact size_key)
  have HXL : Hid ((bv x).length = 32) := Lib.hid (by rw [bv_length, hx.1])
  have HF := Lib.hid (refFind pb base v ts S x _ (h.below hb0) hx (by omega))
  have HP := Lib.hid (show PC w (w.alloc (.cells (bv x).toArray 32)) pb base w.heap.size v ts S (bv x) from ⟨h.below hb0, RX.out, hb0⟩)
  have HKI : Hid (∀ V : World, Below w.heap.size w V → KeysIn V B A m l) := Lib.hid fun V hV => hl.below (hV.mono hB)
  have HX := Lib.hid hx
  have HONE0 : Hid (∀ (g : Nat) (m gc : Nat), ∀ u ∈ bv x ++ [Value.slice (some ⟨g, 0, none⟩) m gc], u.oneCell' = true) := Lib.hid fun g m gc u hu => by
    rcases List.mem_append.1 hu with hu | hu
    · exact bv_one _ _ hu
    · obtain rfl := List.mem_singleton.1 hu; rfl
  have HBASE := Lib.hid hbase
  have HL := Lib.hid hlen
  have HLX := Lib.hid hl.each
  have HDN : Hid (∀ (V3 V4 : World) v4 g c' rest css, PC w V3 pb base w.heap.size v ts S (bv x) → Elems 33 (ET S) V3 0 ts css → mayPut ts x l = 0 → V4.ownsRow base 67 33 v4 (ts.length + 1) (css.flatten ++ (bv x ++ [Value.slice (some ⟨g, 0, none⟩) l.length c'])) → Grew V3 V4 v v4 → V3.ownsRow base 67 33 v ts.length css.flatten → Row V3 g 32 (bv l.flatten ++ rest) → w.heap.size ≤ g → (l.length ≤ c' ∧ c' ≤ maxLen) → RPutDone w pb base v ts S x l (.returned (.int .i64 0)) (V4.setCell ⟨pb, 0, none⟩ v4)) :=
    Lib.hid fun V3 V4 v4 g c' rest css h1 h2 h3 h4 h5 h6 h7 h8 h9 => PC.done h1 h2 hx hl.each h3 h4 h5 h6 h7 h8 h9
  unfold maxLen at hm
  clear hb0 h hx hl hlen
  obtain ⟨X, hX⟩ : ∃ X, X = bv x := ⟨_, rfl⟩
  rw [← hX] at RX HSZ HXL HF HP HDN HONE0 ⊢
  clear hX
  generalize hWW : w.alloc (.cells X.toArray 32) = W at *
  have HWW := Lib.hid hWW
  clear hWW
  rcases mayPut_cases ts x l with ⟨hm1, hc1⟩ | ⟨hm1, hc1, hs1⟩ | ⟨hm1, hc1, hs1⟩
  · have hE : Hid (RPutDone w pb base v ts S x l (.returned (.int .i64 1)) W) := Lib.hid (RPutDone.not HREG.out HP.out.b hm1 (by omega))
    rw [HL.out] at hc1
    clear hm1
    by_cases h0 : m = 0
    · subst h0
      go_enter Try.func14, Try.ntmps14
      go_upto_region 1 with fail
      rw [HWW.out]
      go_wp2_with fail
      go_ret
      exact hE.out
    · have h2 : 256 < m := by omega
      clear hc1
      go_enter Try.func14, Try.ntmps14
      go_upto_region 1 with fail
      rw [HWW.out]
      go_wp2_with fail
      go_ret
      exact hE.out
  · have hE : Hid (∀ V, Below w.heap.size w V → RPutDone w pb base v ts S x l (.returned (.int .i64 12)) V) := Lib.hid fun V hV => RPutDone.not HREG.out hV hm1 (by omega)
    have HFE : Hid (fErr ts x = 0) := Lib.hid (by unfold fErr; rw [if_pos hs1])
    rw [HL.out] at hc1
    have h0 : 1 ≤ m := by omega
    have h2 : m ≤ 256 := by omega
    clear hm1 hc1 hs1
    go_enter Try.func14, Try.ntmps14
    go_upto_region 1 with fail
    rw [HWW.out]
    go_wp2_with ((with_reducible show wpList _ _ _ ({ dst := some 19, op := Op.load _ _, type := _, pos := _, after := _, guard := _ } :: _) _ _); go_must (refine wpList_load_at rfl 32 (.tmp 4) rfl ⟨w.heap.size, 0, none⟩ X _ Try.underlying32 rfl HSZ.out (fun j u hu => by rw [addr_row, Nat.zero_add]; exact (RX.out.cell j).trans hu) ?_ ?_; go_simp))
    refine HF.out.mono ?_
    rintro e w2 ⟨FA, fn, fc, rfl, hk, hn2, hb2, _⟩
    have HB2 := Lib.hid ((HP.out.below hb2).b)
    clear hk hb2
    rw [HFE.out]
    go_wp2_with fail
    go_ret
    exact hE.out _ HB2.out
  · have HM := Lib.hid hm1
    have HFE : Hid (fErr ts x = 11) := Lib.hid (by unfold fErr; rw [hs1]; rfl)
    rw [HL.out] at hc1
    have h0 : 1 ≤ m := by omega
    have h2 : m ≤ 256 := by omega
    clear hm1 hc1 hs1
    go_enter Try.func14, Try.ntmps14
    go_upto_region 1 with fail
    rw [HWW.out]
    go_wp2_with ((with_reducible show wpList _ _ _ ({ dst := some 19, op := Op.load _ _, type := _, pos := _, after := _, guard := _ } :: _) _ _); go_must (refine wpList_load_at rfl 32 (.tmp 4) rfl ⟨w.heap.size, 0, none⟩ X _ Try.underlying32 rfl HSZ.out (fun j u hu => by rw [addr_row, Nat.zero_add]; exact (RX.out.cell j).trans hu) ?_ ?_; go_simp))
    refine HF.out.mono ?_
    rintro e w2 ⟨FA, fn, fc, rfl, hk, hn2, hb2, _⟩
    have P0 := Lib.hid (HP.out.below (hb2.trans ((show Below W.heap.size w2 w2.drew from ⟨rfl, rfl, rfl, Nat.le_refl _, fun _ _ => rfl⟩))))
    clear hk hb2 RX HP HREG HF
    rw [HFE.out]
    go_wp2_with fail
    have HS4 : Hid (∀ (V V' : World) n xs v', PC w V pb base w.heap.size v ts S X → V.ownsRow base 67 33 v n xs → Grew V V' v v' → Row V' w.heap.size 32 X ∧ Row V' pb 30 [v]) := Lib.hid fun V V' n xs v' h1 h2 h3 => ⟨h1.key.grown h3.grown (own_row_neN h2 h1.key (by decide)), h1.reg.row.grown h3.grown (own_row_neN h2 h1.reg.row (by decide))⟩
    have HSS : Hid (∀ V : World, PC w V pb base w.heap.size v ts S X → ∀ j u, X[j]? = some u → V.cell? ((⟨w.heap.size, 0, none⟩ : Addr).add j) = some u) := Lib.hid fun V hV j u hu => by rw [addr_row, Nat.zero_add]; exact (hV.key.cell j).trans hu
    have HONE : Hid (∀ g m gc, ∀ u ∈ X ++ [Value.slice (some ⟨g, 0, none⟩) m gc], u.oneCell' = true) := HONE0
    have S0 := Lib.hid (HSS.out _ P0.out)
    refine wp_region_held_drew (S := fun V => ∀ j u, X[j]? = some u → V.cell? ((⟨w.heap.size, 0, none⟩ : Addr).add j) = some u) (by kernel_rfl) S0.out (fun _ => ?_)
    generalize w2.drew = V0 at *
    obtain ⟨nts, hnts⟩ : ∃ n, n = ts.length := ⟨_, rfl⟩
    have HNT := Lib.hid hnts
    rw [← hnts] at hn
    clear hnts
    refine takeL (i := 0) (v := ?_) rfl (by kernel_rfl) (by kernel_rfl) (by kernel_rfl) (fun _ _ _ h => h) (Or.inl ⟨by rfl, ?_⟩) S0.out ?_
    rotate_left
    · intro w hw
      try dsimp only at hw
      go_simp
      try with_reducible rfl
    try simp only [Act.put, List.setIfInBounds_toArray, List.set_cons_zero, List.set_cons_succ]
    refine takeL (i := 1) (v := ?_) rfl (by kernel_rfl) (by kernel_rfl) (by kernel_rfl) (fun _ _ _ h => h) (Or.inl ⟨by rfl, ?_⟩) S0.out ?_
    rotate_left
    · intro w hw
      try dsimp only at hw
      go_simp
      try with_reducible rfl
    try simp only [Act.put, List.setIfInBounds_toArray, List.set_cons_zero, List.set_cons_succ]
    refine takeL (i := 2) (v := ?_) rfl (by kernel_rfl) (by kernel_rfl) (by kernel_rfl) (fun _ _ _ h => h) (Or.inl ⟨by rfl, ?_⟩) S0.out ?_
    rotate_left
    · intro w hw
      try dsimp only at hw
      go_simp
      try with_reducible rfl
    try simp only [Act.put, List.setIfInBounds_toArray, List.set_cons_zero, List.set_cons_succ]
    refine takeL (i := 3) (v := ?_) rfl (by kernel_rfl) (by kernel_rfl) (by kernel_rfl) (fun _ _ _ h => h) (Or.inl ⟨by rfl, ?_⟩) S0.out ?_
    rotate_left
    · intro w hw
      try dsimp only at hw
      go_simp
      try with_reducible rfl
    try simp only [Act.put, List.setIfInBounds_toArray, List.set_cons_zero, List.set_cons_succ]
    refine takeL (i := 5) (v := .agg X.toArray) rfl (by kernel_rfl) (by kernel_rfl) (by kernel_rfl) (fun _ _ _ h => h) (Or.inl ⟨by rfl, fun wz hwz => exec_load_at wz 32 (.tmp 4) rfl ⟨w.heap.size, 0, none⟩ X _ Try.underlying32 rfl HSZ.out hwz (by go_simp)⟩) S0.out ?_
    try simp only [Act.put, List.setIfInBounds_toArray, List.set_cons_zero, List.set_cons_succ]
    refine takeL (i := 6) (v := ?_) rfl (by kernel_rfl) (by kernel_rfl) (by kernel_rfl) (fun _ _ _ h => h) (Or.inl ⟨by rfl, ?_⟩) S0.out ?_
    rotate_left
    · intro w hw
      try dsimp only at hw
      go_simp
      try with_reducible rfl
    try simp only [Act.put, List.setIfInBounds_toArray, List.set_cons_zero, List.set_cons_succ]
    refine readyL2 (i := 4) (j := 7) rfl rfl (by kernel_rfl) (by kernel_rfl) (by kernel_rfl) (fun K hK => ?_) (fun K hK => ?_)
    · have cl0 : V0.cell? ⟨pb, 0, none⟩ = some v := P0.out.reg.row.cell 0
      go_simp
      clear cl0
      refine hK.out _ _ S0.out ?_
      clear hK K
      try simp only [Act.put, List.setIfInBounds_toArray, List.set_cons_zero, List.set_cons_succ]
      refine readyL (i := 7) rfl (by kernel_rfl) (by kernel_rfl) fun K hK => ?_
      refine wp_appendN (.const (.slice none 0 0)) (.tmp 31) 33 32 _ 32 32 rfl Try.underlying33 info_key zsz6 (by omega) (.slice none 0 0) 0 [] V0.heap.size B A m c (bv l.flatten) rfl (own_nilN _ _ _ _) (by go_simp) (HKI.out V0 P0.out.b).sees (bv_one _) (by unfold maxLen; omega) (by omega) (Nat.le_refl _) ?_
      intro va V1 ho hg
      rw [Nat.zero_add, List.nil_append] at ho
      have hb : Below V0.heap.size V0 V1 := (Below.refl V0.heap.size V0).grown hg.grown (Nat.le_refl _) (fun k hk => by cases hk)
      obtain ⟨g, gc, rest, rfl, hgb, hrk, hgc⟩ := own_block ho h0
      have P1 := Lib.hid (P0.out.below hb)
      have RK1 := Lib.hid hrk
      have HGW := Lib.hid (Nat.le_trans P0.out.b.size hgb)
      have HGC := Lib.hid hgc
      have S1 := Lib.hid (HSS.out _ P1.out)
      clear ho hg hb hgb hrk hgc
      refine hK.out _ _ S1.out ?_
      clear hK K
      try simp only [Act.put, List.setIfInBounds_toArray, List.set_cons_zero, List.set_cons_succ]
      refine takeL (i := 8) (v := .agg (X ++ [Value.slice (some ⟨g, 0, none⟩) m gc]).toArray) rfl (by kernel_rfl) (by kernel_rfl) (by kernel_rfl) (fun _ _ _ h => h) (Or.inl ⟨by rfl, fun wz _ => exec_built wz 67 _ _ rfl (by simp only [List.map_toArray, List.map_cons, List.map_nil]; exact built_tab X HXL.out _ _ _)⟩) S1.out ?_
      try simp only [Act.put, List.setIfInBounds_toArray, List.set_cons_zero, List.set_cons_succ]
      refine readyL (i := 9) rfl (by kernel_rfl) (by kernel_rfl) fun K hK => ?_
      refine wp_buildOne 28 67 (.tmp 33) rfl (X ++ [Value.slice (some ⟨g, 0, none⟩) m gc]) _ 33 56 Try.underlying28 info_tab zsz_tab (by omega) (by omega) (by rw [List.length_append, HXL.out]; rfl) (by go_simp) ?_
      have hb : Below V1.heap.size V1 (V1.alloc (.cells (X ++ [Value.slice (some ⟨g, 0, none⟩) m gc]).toArray 67)) := (Below.refl _ _).alloc (Nat.le_refl _) _
      have P2 := Lib.hid (P1.out.below hb)
      have RK2 := Lib.hid (RK1.out.below hb RK1.out.lt)
      have RB := Lib.hid (Row.new V1 67 (X ++ [Value.slice (some ⟨g, 0, none⟩) m gc]))
      have S2 := Lib.hid (HSS.out _ P2.out)
      clear hb
      obtain ⟨gb, hgb⟩ : ∃ gb, gb = V1.heap.size := ⟨_, rfl⟩
      rw [← hgb] at RB ⊢
      clear hgb
      generalize V1.alloc (.cells (X ++ [Value.slice (some ⟨g, 0, none⟩) m gc]).toArray 67) = V2 at *
      refine hK.out _ _ S2.out ?_
      clear hK K
      try simp only [Act.put, List.setIfInBounds_toArray, List.set_cons_zero, List.set_cons_succ]
      obtain ⟨css, hown, hel⟩ := P2.out.reg.tabs
      have HO := Lib.hid hown
      have HE := Lib.hid hel
      clear hown hel
      refine readyL (i := 10) rfl (by kernel_rfl) (by kernel_rfl) fun K hK => ?_
      refine wp_appendN (.tmp 29) (.tmp 34) 28 67 _ 33 56 rfl Try.underlying28 info_tab zsz_tab (by omega) v ts.length css.flatten base V2.heap.size (some ⟨gb, 0, none⟩) 1 1 (X ++ [Value.slice (some ⟨g, 0, none⟩) m gc]) (by go_simp) HO.out (by go_simp) (by have := RB.out.sees0; rwa [List.length_append, HXL.out] at this) (HONE.out _ _ _) (by unfold maxLen; have := HNT.out; omega) (by have := HNT.out; omega) (Nat.le_trans HBASE.out P2.out.b.size) ?_
      intro v4 V4 ho4 hg4
      obtain ⟨A4, c4, hv4, _⟩ := own_form2 ho4
      subst hv4
      have HO4 := Lib.hid ho4
      have HG4 := Lib.hid hg4
      have S4 := Lib.hid (show ∀ j u, X[j]? = some u → V4.cell? ((⟨w.heap.size, 0, none⟩ : Addr).add j) = some u from fun j u hu => by rw [addr_row, Nat.zero_add]; exact ((HS4.out _ _ _ _ _ P2.out HO.out hg4).1.cell j).trans hu)
      have HR4 := Lib.hid (HS4.out _ _ _ _ _ P2.out HO.out hg4)
      clear ho4 hg4
      refine hK.out _ _ S4.out ?_
      clear hK K
      try simp only [Act.put, List.setIfInBounds_toArray, List.set_cons_zero, List.set_cons_succ]
      refine takeL (i := 11) (v := ?_) rfl (by kernel_rfl) (by kernel_rfl) (by kernel_rfl) (fun _ _ _ h => h) (Or.inl ⟨by rfl, ?_⟩) S4.out ?_
      rotate_left
      · intro w hw
        try dsimp only at hw
        go_simp
        try with_reducible rfl
      try simp only [Act.put, List.setIfInBounds_toArray, List.set_cons_zero, List.set_cons_succ]
      refine takeL (i := 12) (v := ?_) rfl (by kernel_rfl) (by kernel_rfl) (by kernel_rfl) (fun _ _ _ h => h) (Or.inl ⟨by rfl, ?_⟩) S4.out ?_
      rotate_left
      · intro w hw
        try dsimp only at hw
        go_simp
        try with_reducible rfl
      try simp only [Act.put, List.setIfInBounds_toArray, List.set_cons_zero, List.set_cons_succ]
      have ce : V4.cell? ⟨pb, 0, none⟩ = some v := HR4.out.2.cell 0
      have fe := HR4.out.2.frozen 0
      refine readyL (i := 13) rfl (by kernel_rfl) (by kernel_rfl) fun K hK => ?_
      go_simp
      have S5 : Hid (∀ j u, X[j]? = some u → (V4.setCell ⟨pb, 0, none⟩ (.slice A4 (ts.length + 1) c4)).cell? ((⟨w.heap.size, 0, none⟩ : Addr).add j) = some u) := Lib.hid fun j u hu => by
        rw [addr_row, Nat.zero_add]
        refine (((turned_setCell V4 ⟨pb, 0, none⟩ (.slice A4 (ts.length + 1) c4)).row HR4.out.1 (fun e => ?_)).cell j).trans hu
        have e' : w.heap.size = pb := e
        have h1 := HR4.out.1.is
        rw [e', HR4.out.2.is] at h1
        injection h1 with h1
        injection h1 with _ h1
        revert h1
        decide
      clear ce fe
      refine hK.out _ _ S5.out ?_
      clear hK K
      try simp only [Act.put, List.setIfInBounds_toArray, List.set_cons_zero, List.set_cons_succ]
      refine wpAnyH_done (by kernel_rfl) ?_ _
      go_wp2_with fail
      go_ret
      have hon := HO4.out
      have hlm := HL.out
      rw [← hlm] at hon
      exact HDN.out V2 V4 (.slice A4 (ts.length + 1) c4) g gc rest css P2.out HE.out HM.out hon HG4.out HO.out RK2.out HGW.out (by rw [hlm]; exact HGC.out)
    · refine wp_appendN (.const (.slice none 0 0)) (.tmp 31) 33 32 _ 32 32 rfl Try.underlying33 info_key zsz6 (by omega) (.slice none 0 0) 0 [] V0.heap.size B A m c (bv l.flatten) rfl (own_nilN _ _ _ _) (by go_simp) (HKI.out V0 P0.out.b).sees (bv_one _) (by unfold maxLen; omega) (by omega) (Nat.le_refl _) ?_
      intro va V1 ho hg
      rw [Nat.zero_add, List.nil_append] at ho
      have hb : Below V0.heap.size V0 V1 := (Below.refl V0.heap.size V0).grown hg.grown (Nat.le_refl _) (fun k hk => by cases hk)
      obtain ⟨g, gc, rest, rfl, hgb, hrk, hgc⟩ := own_block ho h0
      have P1 := Lib.hid (P0.out.below hb)
      have RK1 := Lib.hid hrk
      have HGW := Lib.hid (Nat.le_trans P0.out.b.size hgb)
      have HGC := Lib.hid hgc
      have S1 := Lib.hid (HSS.out _ P1.out)
      clear ho hg hb hgb hrk hgc
      refine hK.out _ _ S1.out ?_
      clear hK K
      try simp only [Act.put, List.setIfInBounds_toArray, List.set_cons_zero, List.set_cons_succ]
      refine takeL (i := 8) (v := .agg (X ++ [Value.slice (some ⟨g, 0, none⟩) m gc]).toArray) rfl (by kernel_rfl) (by kernel_rfl) (by kernel_rfl) (fun _ _ _ h => h) (Or.inl ⟨by rfl, fun wz _ => exec_built wz 67 _ _ rfl (by simp only [List.map_toArray, List.map_cons, List.map_nil]; exact built_tab X HXL.out _ _ _)⟩) S1.out ?_
      try simp only [Act.put, List.setIfInBounds_toArray, List.set_cons_zero, List.set_cons_succ]
      refine readyL2 (i := 4) (j := 9) rfl rfl (by kernel_rfl) (by kernel_rfl) (by kernel_rfl) (fun K hK => ?_) (fun K hK => ?_)
      · have cl1 : V1.cell? ⟨pb, 0, none⟩ = some v := P1.out.reg.row.cell 0
        go_simp
        clear cl1
        refine hK.out _ _ S1.out ?_
        clear hK K
        try simp only [Act.put, List.setIfInBounds_toArray, List.set_cons_zero, List.set_cons_succ]
        refine readyL (i := 9) rfl (by kernel_rfl) (by kernel_rfl) fun K hK => ?_
        refine wp_buildOne 28 67 (.tmp 33) rfl (X ++ [Value.slice (some ⟨g, 0, none⟩) m gc]) _ 33 56 Try.underlying28 info_tab zsz_tab (by omega) (by omega) (by rw [List.length_append, HXL.out]; rfl) (by go_simp) ?_
        have hb : Below V1.heap.size V1 (V1.alloc (.cells (X ++ [Value.slice (some ⟨g, 0, none⟩) m gc]).toArray 67)) := (Below.refl _ _).alloc (Nat.le_refl _) _
        have P2 := Lib.hid (P1.out.below hb)
        have RK2 := Lib.hid (RK1.out.below hb RK1.out.lt)
        have RB := Lib.hid (Row.new V1 67 (X ++ [Value.slice (some ⟨g, 0, none⟩) m gc]))
        have S2 := Lib.hid (HSS.out _ P2.out)
        clear hb
        obtain ⟨gb, hgb⟩ : ∃ gb, gb = V1.heap.size := ⟨_, rfl⟩
        rw [← hgb] at RB ⊢
        clear hgb
        generalize V1.alloc (.cells (X ++ [Value.slice (some ⟨g, 0, none⟩) m gc]).toArray 67) = V2 at *
        refine hK.out _ _ S2.out ?_
        clear hK K
        try simp only [Act.put, List.setIfInBounds_toArray, List.set_cons_zero, List.set_cons_succ]
        obtain ⟨css, hown, hel⟩ := P2.out.reg.tabs
        have HO := Lib.hid hown
        have HE := Lib.hid hel
        clear hown hel
        refine readyL (i := 10) rfl (by kernel_rfl) (by kernel_rfl) fun K hK => ?_
        refine wp_appendN (.tmp 29) (.tmp 34) 28 67 _ 33 56 rfl Try.underlying28 info_tab zsz_tab (by omega) v ts.length css.flatten base V2.heap.size (some ⟨gb, 0, none⟩) 1 1 (X ++ [Value.slice (some ⟨g, 0, none⟩) m gc]) (by go_simp) HO.out (by go_simp) (by have := RB.out.sees0; rwa [List.length_append, HXL.out] at this) (HONE.out _ _ _) (by unfold maxLen; have := HNT.out; omega) (by have := HNT.out; omega) (Nat.le_trans HBASE.out P2.out.b.size) ?_
        intro v4 V4 ho4 hg4
        obtain ⟨A4, c4, hv4, _⟩ := own_form2 ho4
        subst hv4
        have HO4 := Lib.hid ho4
        have HG4 := Lib.hid hg4
        have S4 := Lib.hid (show ∀ j u, X[j]? = some u → V4.cell? ((⟨w.heap.size, 0, none⟩ : Addr).add j) = some u from fun j u hu => by rw [addr_row, Nat.zero_add]; exact ((HS4.out _ _ _ _ _ P2.out HO.out hg4).1.cell j).trans hu)
        have HR4 := Lib.hid (HS4.out _ _ _ _ _ P2.out HO.out hg4)
        clear ho4 hg4
        refine hK.out _ _ S4.out ?_
        clear hK K
        try simp only [Act.put, List.setIfInBounds_toArray, List.set_cons_zero, List.set_cons_succ]
        refine takeL (i := 11) (v := ?_) rfl (by kernel_rfl) (by kernel_rfl) (by kernel_rfl) (fun _ _ _ h => h) (Or.inl ⟨by rfl, ?_⟩) S4.out ?_
        rotate_left
        · intro w hw
          try dsimp only at hw
          go_simp
          try with_reducible rfl
        try simp only [Act.put, List.setIfInBounds_toArray, List.set_cons_zero, List.set_cons_succ]
        refine takeL (i := 12) (v := ?_) rfl (by kernel_rfl) (by kernel_rfl) (by kernel_rfl) (fun _ _ _ h => h) (Or.inl ⟨by rfl, ?_⟩) S4.out ?_
        rotate_left
        · intro w hw
          try dsimp only at hw
          go_simp
          try with_reducible rfl
        try simp only [Act.put, List.setIfInBounds_toArray, List.set_cons_zero, List.set_cons_succ]
        have ce : V4.cell? ⟨pb, 0, none⟩ = some v := HR4.out.2.cell 0
        have fe := HR4.out.2.frozen 0
        refine readyL (i := 13) rfl (by kernel_rfl) (by kernel_rfl) fun K hK => ?_
        go_simp
        have S5 : Hid (∀ j u, X[j]? = some u → (V4.setCell ⟨pb, 0, none⟩ (.slice A4 (ts.length + 1) c4)).cell? ((⟨w.heap.size, 0, none⟩ : Addr).add j) = some u) := Lib.hid fun j u hu => by
          rw [addr_row, Nat.zero_add]
          refine (((turned_setCell V4 ⟨pb, 0, none⟩ (.slice A4 (ts.length + 1) c4)).row HR4.out.1 (fun e => ?_)).cell j).trans hu
          have e' : w.heap.size = pb := e
          have h1 := HR4.out.1.is
          rw [e', HR4.out.2.is] at h1
          injection h1 with h1
          injection h1 with _ h1
          revert h1
          decide
        clear ce fe
        refine hK.out _ _ S5.out ?_
        clear hK K
        try simp only [Act.put, List.setIfInBounds_toArray, List.set_cons_zero, List.set_cons_succ]
        refine wpAnyH_done (by kernel_rfl) ?_ _
        go_wp2_with fail
        go_ret
        have hon := HO4.out
        have hlm := HL.out
        rw [← hlm] at hon
        exact HDN.out V2 V4 (.slice A4 (ts.length + 1) c4) g gc rest css P2.out HE.out HM.out hon HG4.out HO.out RK2.out HGW.out (by rw [hlm]; exact HGC.out)
      · refine wp_buildOne 28 67 (.tmp 33) rfl (X ++ [Value.slice (some ⟨g, 0, none⟩) m gc]) _ 33 56 Try.underlying28 info_tab zsz_tab (by omega) (by omega) (by rw [List.length_append, HXL.out]; rfl) (by go_simp) ?_
        have hb : Below V1.heap.size V1 (V1.alloc (.cells (X ++ [Value.slice (some ⟨g, 0, none⟩) m gc]).toArray 67)) := (Below.refl _ _).alloc (Nat.le_refl _) _
        have P2 := Lib.hid (P1.out.below hb)
        have RK2 := Lib.hid (RK1.out.below hb RK1.out.lt)
        have RB := Lib.hid (Row.new V1 67 (X ++ [Value.slice (some ⟨g, 0, none⟩) m gc]))
        have S2 := Lib.hid (HSS.out _ P2.out)
        clear hb
        obtain ⟨gb, hgb⟩ : ∃ gb, gb = V1.heap.size := ⟨_, rfl⟩
        rw [← hgb] at RB ⊢
        clear hgb
        generalize V1.alloc (.cells (X ++ [Value.slice (some ⟨g, 0, none⟩) m gc]).toArray 67) = V2 at *
        refine hK.out _ _ S2.out ?_
        clear hK K
        try simp only [Act.put, List.setIfInBounds_toArray, List.set_cons_zero, List.set_cons_succ]
        refine readyL (i := 4) rfl (by kernel_rfl) (by kernel_rfl) fun K hK => ?_
        have cl2 : V2.cell? ⟨pb, 0, none⟩ = some v := P2.out.reg.row.cell 0
        go_simp
        clear cl2
        refine hK.out _ _ S2.out ?_
        clear hK K
        try simp only [Act.put, List.setIfInBounds_toArray, List.set_cons_zero, List.set_cons_succ]
        obtain ⟨css, hown, hel⟩ := P2.out.reg.tabs
        have HO := Lib.hid hown
        have HE := Lib.hid hel
        clear hown hel
        refine readyL (i := 10) rfl (by kernel_rfl) (by kernel_rfl) fun K hK => ?_
        refine wp_appendN (.tmp 29) (.tmp 34) 28 67 _ 33 56 rfl Try.underlying28 info_tab zsz_tab (by omega) v ts.length css.flatten base V2.heap.size (some ⟨gb, 0, none⟩) 1 1 (X ++ [Value.slice (some ⟨g, 0, none⟩) m gc]) (by go_simp) HO.out (by go_simp) (by have := RB.out.sees0; rwa [List.length_append, HXL.out] at this) (HONE.out _ _ _) (by unfold maxLen; have := HNT.out; omega) (by have := HNT.out; omega) (Nat.le_trans HBASE.out P2.out.b.size) ?_
        intro v4 V4 ho4 hg4
        obtain ⟨A4, c4, hv4, _⟩ := own_form2 ho4
        subst hv4
        have HO4 := Lib.hid ho4
        have HG4 := Lib.hid hg4
        have S4 := Lib.hid (show ∀ j u, X[j]? = some u → V4.cell? ((⟨w.heap.size, 0, none⟩ : Addr).add j) = some u from fun j u hu => by rw [addr_row, Nat.zero_add]; exact ((HS4.out _ _ _ _ _ P2.out HO.out hg4).1.cell j).trans hu)
        have HR4 := Lib.hid (HS4.out _ _ _ _ _ P2.out HO.out hg4)
        clear ho4 hg4
        refine hK.out _ _ S4.out ?_
        clear hK K
        try simp only [Act.put, List.setIfInBounds_toArray, List.set_cons_zero, List.set_cons_succ]
        refine takeL (i := 11) (v := ?_) rfl (by kernel_rfl) (by kernel_rfl) (by kernel_rfl) (fun _ _ _ h => h) (Or.inl ⟨by rfl, ?_⟩) S4.out ?_
        rotate_left
        · intro w hw
          try dsimp only at hw
          go_simp
          try with_reducible rfl
        try simp only [Act.put, List.setIfInBounds_toArray, List.set_cons_zero, List.set_cons_succ]
        refine takeL (i := 12) (v := ?_) rfl (by kernel_rfl) (by kernel_rfl) (by kernel_rfl) (fun _ _ _ h => h) (Or.inl ⟨by rfl, ?_⟩) S4.out ?_
        rotate_left
        · intro w hw
          try dsimp only at hw
          go_simp
          try with_reducible rfl
        try simp only [Act.put, List.setIfInBounds_toArray, List.set_cons_zero, List.set_cons_succ]
        have ce : V4.cell? ⟨pb, 0, none⟩ = some v := HR4.out.2.cell 0
        have fe := HR4.out.2.frozen 0
        refine readyL (i := 13) rfl (by kernel_rfl) (by kernel_rfl) fun K hK => ?_
        go_simp
        have S5 : Hid (∀ j u, X[j]? = some u → (V4.setCell ⟨pb, 0, none⟩ (.slice A4 (ts.length + 1) c4)).cell? ((⟨w.heap.size, 0, none⟩ : Addr).add j) = some u) := Lib.hid fun j u hu => by
          rw [addr_row, Nat.zero_add]
          refine (((turned_setCell V4 ⟨pb, 0, none⟩ (.slice A4 (ts.length + 1) c4)).row HR4.out.1 (fun e => ?_)).cell j).trans hu
          have e' : w.heap.size = pb := e
          have h1 := HR4.out.1.is
          rw [e', HR4.out.2.is] at h1
          injection h1 with h1
          injection h1 with _ h1
          revert h1
          decide
        clear ce fe
        refine hK.out _ _ S5.out ?_
        clear hK K
        try simp only [Act.put, List.setIfInBounds_toArray, List.set_cons_zero, List.set_cons_succ]
        refine wpAnyH_done (by kernel_rfl) ?_ _
        go_wp2_with fail
        go_ret
        have hon := HO4.out
        have hlm := HL.out
        rw [← hlm] at hon
        exact HDN.out V2 V4 (.slice A4 (ts.length + 1) c4) g gc rest css P2.out HE.out HM.out hon HG4.out HO.out RK2.out HGW.out (by rw [hlm]; exact HGC.out)
end Go.Proofs.Ytdbcbjjomhbhpaa

/-
  Of part RefResT: what is needed here.
-/
namespace Go.Proofs.Ytdbcbjjomhbhpaa
open Go.RowKit
set_option linter.unusedVariables false
theorem errL_w {ts : List LTab} {x : LLook} {l : List (List Int)} (hf : findT ts x.tab = some l) (h : x.wr.any (out6 l.length) = true) : errL ts x = 8 := by
  unfold errL; rw [hf]; simp [h]
theorem errL_r {ts : List LTab} {x : LLook} {l : List (List Int)} (hf : findT ts x.tab = some l) (h : x.rd.any (out6 l.length) = true) : errL ts x = 8 := by
  unfold errL; rw [hf]; simp [h]
theorem errL_0 {ts : List LTab} {x : LLook} {l : List (List Int)} (hf : findT ts x.tab = some l) (h1 : x.wr.any (out6 l.length) = false) (h2 : x.rd.any (out6 l.length) = false) : errL ts x = 0 := by
  unfold errL; rw [hf]; simp [h1, h2]
/-- two lists of the call's own, and the keys that were found, apart from them -/
structure RL (w V : World) (u v : Value) (a b : List (List Int)) (FA : Option Addr) (fn : Nat) (l : List (List Int)) : Prop where
  two : Two w u v a b V
  keys : KeysIn V V.heap.size FA fn l
  nu : ∀ ad, FA = some ad → u.ownBlock ≠ some ad.block
  nv : ∀ ad, FA = some ad → v.ownBlock ≠ some ad.block
section
variable {w V V' : World} {u v u' v' : Value} {a b a' : List (List Int)} {FA : Option Addr} {fn : Nat} {l : List (List Int)}
theorem KeysIn.grew (h : KeysIn V V.heap.size FA fn l) (hg : Grew V V' u u') (hn : ∀ ad, FA = some ad → u.ownBlock ≠ some ad.block) : KeysIn V' V'.heap.size FA fn l :=
  ⟨h.len, h.each, ⟨h.sees.len, fun i x hx => by
    obtain ⟨ad, e, hab, hc⟩ := h.sees.cell i x hx
    refine ⟨ad, e, Nat.lt_of_lt_of_le hab hg.size, ?_⟩
    rw [← hc]
    exact World.cell?_of_block (w := V) (by rw [addr_block]; exact hg.grown.block _ hab fun e' => hn ad e e'.symm)⟩⟩
theorem KeysIn.old (h : KeysIn V V.heap.size FA fn l) (hl : 1 ≤ fn) {ad : Addr} (e : FA = some ad) : ad.block < V.heap.size := by
  obtain ⟨a', u, e', hab, _⟩ := h.sees.at_ (k := 0) (by omega)
  rw [e] at e'
  cases e'
  exact hab
theorem RL.pickU (h : RL w V u v a b FA fn l) (hl : 1 ≤ fn) (hg : Grew V V' u u') (ho : V'.ownsRow w.heap.size 32 32 u' a'.length (bv a'.flatten)) : RL w V' u' v a' b FA fn l :=
  ⟨h.two.pickU hg ho, h.keys.grew hg h.nu, fun ad e e' => by
    rcases hg.fresh _ e' with h1 | h1
    · exact h.nu ad e h1
    · have := h.keys.old hl e; omega, h.nv⟩
theorem RL.pickV (h : RL w V u v a b FA fn l) (hl : 1 ≤ fn) (hg : Grew V V' v v') (ho : V'.ownsRow w.heap.size 32 32 v' a'.length (bv a'.flatten)) : RL w V' u v' a a' FA fn l :=
  ⟨h.two.pickV hg ho, h.keys.grew hg h.nv, h.nu, fun ad e e' => by
    rcases hg.fresh _ e' with h1 | h1
    · exact h.nv ad e h1
    · have := h.keys.old hl e; omega⟩
theorem RL.start (h : Two w u v a b V) (hb : Below V.heap.size V V') (hk : KeysIn V' V'.heap.size FA fn l) (hf : ∀ ad, FA = some ad → V.heap.size ≤ ad.block) : RL w V' u v a b FA fn l :=
  ⟨h.below hb, hk, fun ad e e' => by have := (h.ou.lt _ e').2; have := hf ad e; omega, fun ad e e' => by have := (h.ov.lt _ e').2; have := hf ad e; omega⟩
end
/-- what Resolve answers -/
def RResDone (w : World) (ts : List LTab) (ls : List LLook) (e : Ending) (w' : World) : Prop :=
  ∃ A1 n1 c1 A2 n2 c2, e = .returned (.tuple #[.slice A1 n1 c1, .slice A2 n2 c2, .int .i64 (resErr ts ls)]) ∧ KeysIn w' w'.heap.size A1 n1 (resW ts ls) ∧ KeysIn w' w'.heap.size A2 n2 (resR ts ls) ∧ Below w.heap.size w w'
theorem RResDone.not {w w' : World} {ts : List LTab} {ls : List LLook} {c : Int} (hc : resErr ts ls = c) (h0 : c ≠ 0) (hb : Below w.heap.size w w') : RResDone w ts ls (.returned (.tuple #[.slice none 0 0, .slice none 0 0, .int .i64 c])) w' := by
  have h1 : resErr ts ls ≠ 0 := by rw [hc]; exact h0
  refine ⟨none, 0, 0, none, 0, 0, by rw [hc], ?_, ?_, hb⟩
  · rw [resW, if_neg h1]; exact ⟨rfl, by simp, Sees.nil _ _ _⟩
  · rw [resR, if_neg h1]; exact ⟨rfl, by simp, Sees.nil _ _ _⟩
set_option maxRecDepth 100000 in
set_option maxHeartbeats 8000000 in
theorem refResolve (pb base : Nat) (v : Value) (ts : List LTab) (S : Nat → Prop) (A : Option Addr) (m c B : Nat) (ls : List LLook) (w : World) (h : RReg w pb base v ts S) (hl : LooksIn w B A m ls) (hB : B ≤ w.heap.size) (hok : ∀ x ∈ ls, LkOk x) (hm : m ≤ 4000) (hs : lookSize ls ≤ 4000) (hn : ts.length ≤ 1000) :
    Calls Try.prog 22 #[.pointer (some ⟨pb, 0, none⟩), .slice A m c] w (RResDone w ts ls) := by
  have HREG := Lib.hid h
  have HL := Lib.hid hl
  have HLN := Lib.hid hl.len
  have HOK := Lib.hid hok
  have HS := Lib.hid hs
  have HN := Lib.hid hn
  have HBW := Lib.hid hB
  clear h hl hok hs hn hB
  go_enter Try.func22, Try.ntmps22
  go_wp2_with fail
  go_loopw [7, 8, 9] (fun u y i wr => ∃ (k : Nat) (uo yo : Value), k ≤ m ∧ i = .int .i64 k ∧ uo = u ∧ yo = y ∧ resErr ts (ls.take k) = 0 ∧ Two w uo yo ((ls.take k).flatMap (wrL ts)) ((ls.take k).flatMap (rdL ts)) wr) (fun u y i _ => m - (intOf i).toNat)
  case atStart => exact ⟨0, _, _, Nat.zero_le _, rfl, rfl, rfl, rfl, ⟨World.ownsRow_nil _ _ _ _, World.ownsRow_nil _ _ _ _, fun g e => (by cases e), Below.refl _ _⟩⟩
  case round =>
    obtain ⟨k, uo, yo, hk, rfl, rfl, rfl, hr0, htwo⟩ := hrel
    have HR0 := Lib.hid hr0
    have H2 := Lib.hid htwo
    clear hr0 htwo
    obtain ⟨wo, rfl⟩ : ∃ wo : World, wo = wr := ⟨_, rfl⟩
    by_cases hlt : k < m
    · obtain ⟨a, x, va, vd, rfl, hab, hx, hat⟩ := HL.out.get hlt
      obtain ⟨⟨hkey, hwb, hrb⟩, hmem⟩ := And.intro (HOK.out x (List.mem_of_getElem? hx)) (List.mem_of_getElem? hx)
      have hsz := lsize_mem hmem
      obtain ⟨A1, c1, rfl, hs1, hn1, hc1⟩ := hat.wr.is
      obtain ⟨A2, c2, rfl, hs2, hn2, hc2⟩ := hat.rd.is
      have HX := Lib.hid hx
      have HWB := Lib.hid (And.intro hwb hrb)
      have HSX := Lib.hid (show (Try.prog.info? 32).map (·.size) = some (bv x.tab).length by rw [bv_length, hat.len]; exact size_key)
      have HF := Lib.hid (refFind pb base v ts S x.tab wo (HREG.out.below H2.out.b) hkey HN.out)
      have CK : Hid (∀ j u, (bv x.tab)[j]? = some u → wo.cell? ((a.add (k * 34)).add j) = some u) := Lib.hid fun j u hu => ((H2.out.b.mono HBW.out).cell (by rw [addr_block, addr_block]; exact hab)).trans <| hat.cells j u (by rw [List.getElem?_append_left (List.getElem?_eq_some_iff.1 hu).1]; exact hu)
      have HAB := Lib.hid hab
      have hc32 : w.cell? ((a.add (k * 34)).add 32) = some (.slice A1 x.wr.length c1) := hat.cells 32 _ (by rw [List.getElem?_append_right (by rw [bv_length, hat.len]; exact Nat.le_refl _), bv_length, hat.len]; rfl)
      have hc33 : w.cell? ((a.add (k * 34)).add 33) = some (.slice A2 x.rd.length c2) := hat.cells 33 _ (by rw [List.getElem?_append_right (by rw [bv_length, hat.len]; omega), bv_length, hat.len]; rfl)
      obtain ⟨n1, hw1⟩ : ∃ n1, n1 = x.wr.length := ⟨_, rfl⟩
      obtain ⟨n2, hw2⟩ : ∃ n2, n2 = x.rd.length := ⟨_, rfl⟩
      rw [← hw1] at hc32 hs1
      rw [← hw2] at hc33 hs2
      have HC : Hid (∀ V : World, Below w.heap.size w V → V.cell? ⟨(a.add (k * 34)).block, (a.add (k * 34)).off + 32, none⟩ = some (.slice A1 n1 c1) ∧ V.cell? ⟨(a.add (k * 34)).block, (a.add (k * 34)).off + 33, none⟩ = some (.slice A2 n2 c2) ∧ Sees V B A1 n1 (bv x.wr) ∧ Sees V B A2 n2 (bv x.rd)) := Lib.hid fun V hV0 => have hV : Below B w V := hV0.mono HBW.out
        ⟨(hV.cell (p := (a.add (k * 34)).add 32) (by rw [addr_block, addr_block]; exact hab)).trans hc32, (hV.cell (p := (a.add (k * 34)).add 33) (by rw [addr_block, addr_block]; exact hab)).trans hc33, hs1.below hV, hs2.below hV⟩
      have HN1 := Lib.hid hw1
      have HN2 := Lib.hid hw2
      have HSN : Hid (n1 ≤ 4000 ∧ n2 ≤ 4000) := Lib.hid (by have := HS.out; omega)
      have hlen := wrs_le ts (ls.take k)
      have hlk2 := lookSize_take (l := ls) k
      have HSUM : Hid (((ls.take k).flatMap (wrL ts)).length + n1 ≤ 1000000 ∧ ((ls.take k).flatMap (rdL ts)).length + n2 ≤ 1000000) := Lib.hid (by have := HS.out; have := HSN.out; omega)
      clear hkey hwb hrb hmem hsz hs1 hs2 hn1 hn2 hc1 hc2 hat hx hc32 hc33 hw1 hw2 hlen hlk2 hab
      cases hf : findT ts x.tab with
      | none =>
        have HE : Hid (resErr ts ls = 11) := Lib.hid (resErr_hit HX.out HR0.out (by unfold errL; rw [hf]) (by omega))
        have HFE : Hid (fErr ts x.tab = 11) := Lib.hid (by unfold fErr; rw [hf]; rfl)
        clear hf
        generalize bv x.tab = X at *
        go_wp2_with ((with_reducible show wpList _ _ _ ({ dst := some 26, op := Op.load _ _, type := _, pos := _, after := _, guard := _ } :: _) _ _); go_must (refine wpList_load_at rfl 32 (.tmp 25) rfl (a.add (k * 34)) X _ Try.underlying32 rfl HSX.out CK.out ?_ ?_; go_simp))
        refine HF.out.mono ?_
        rintro e w2 ⟨FA, fn, fc, rfl, hk2, hn2, hb2, hfr⟩
        have HB2 := Lib.hid (H2.out.b.trans (hb2.mono H2.out.b.size))
        clear hk2 hb2 hfr hn2
        rw [HFE.out]
        go_wp2_with fail
        go_ret3
        exact RResDone.not HE.out (by omega) HB2.out
      | some l =>
        have HFD := Lib.hid hf
        have HFE : Hid (fErr ts x.tab = 0) := Lib.hid (by unfold fErr; rw [hf]; rfl)
        have HFK : Hid (fKeys ts x.tab = l) := Lib.hid (by unfold fKeys; rw [hf]; rfl)
        obtain ⟨h32, hl1, hl2⟩ := HREG.out.good.find hf
        have HG32 := Lib.hid h32
        clear hf h32
        generalize bv x.tab = X at *
        go_wp2_with ((with_reducible show wpList _ _ _ ({ dst := some 26, op := Op.load _ _, type := _, pos := _, after := _, guard := _ } :: _) _ _); go_must (refine wpList_load_at rfl 32 (.tmp 25) rfl (a.add (k * 34)) X _ Try.underlying32 rfl HSX.out CK.out ?_ ?_; go_simp))
        refine HF.out.mono ?_
        rintro e w2 ⟨FA, fn, fc, rfl, hk2, hn2, hb2, hfr⟩
        rw [HFK.out] at hk2
        have hfn : fn = l.length := hk2.len.symm
        have H3 := Lib.hid (RL.start H2.out hb2 hk2 hfr)
        have HFN := Lib.hid hfn
        rw [← hfn] at hl1 hl2
        clear hk2 hb2 hfr hfn hn2 CK HF HSX
        rw [HFE.out]
        go_wp2_with fail
        go_loopw [7, 12] (fun z j wr => ∃ (q : Nat) (zo : Value), q ≤ n1 ∧ j = .int .i64 q ∧ zo = z ∧ (x.wr.take q).any (out6 l.length) = false ∧ RL w wr zo yo ((ls.take k).flatMap (wrL ts) ++ pickK l (x.wr.take q)) ((ls.take k).flatMap (rdL ts)) FA fn l) (fun z j _ => n1 - (intOf j).toNat)
        case atStart => exact ⟨0, _, Nat.zero_le _, rfl, rfl, rfl, by simpa [pickK] using H3.out⟩
        case round =>
          obtain ⟨q, z1, hq, rfl, rfl, hany, hrl⟩ := hrel
          have hn4 := HSN.out.1
          have HA := Lib.hid hany
          have RU := Lib.hid hrl
          obtain ⟨e32, e33, s1, s2⟩ := HC.out wr hrl.two.b
          have HZW : Hid (w.heap.size ≤ wr.heap.size) := Lib.hid hrl.two.b.size
          by_cases hlq : q < n1
          · obtain ⟨ia, ei, hib, hci⟩ := s1.byte hlq
            have hxz := getD_at (l := x.wr) (k := q) (by rw [← HN1.out]; exact hlq)
            have hz := HWB.out.1 _ (List.mem_of_getElem? hxz)
            have HXZ := Lib.hid hxz
            clear hany hrl hxz s1 s2
            generalize x.wr.getD q 0 = z at *
            obtain ⟨z0, z1⟩ := hz
            obtain ⟨zz, rfl⟩ : ∃ zz : Nat, z = zz := ⟨z.toNat, by omega⟩
            subst ei
            by_cases hout : fn ≤ zz
            · have HE : Hid (resErr ts ls = 8) := Lib.hid (resErr_hit HX.out HR0.out (errL_w HFD.out (any_hit HXZ.out (by rw [← HFN.out]; simp [out6]; omega))) (by omega))
              go_wp2_with fail
              go_ret3
              exact RResDone.not HE.out (by omega) RU.out.two.b
            · have hlt2 : zz < fn := by omega
              clear hout
              obtain ⟨ka, ky, ek, hkb, hky, hkat⟩ := RU.out.keys.get hlt2
              subst ek
              have HCS := Lib.hid (show (bv ky).length = 32 by rw [bv_length, hkat.len])
              have HSK := Lib.hid (show (Try.prog.info? 32).map (·.size) = some (bv ky).length by rw [bv_length, hkat.len]; exact size_key)
              have CA : Hid (∀ j u, (bv ky)[j]? = some u → wr.cell? ((ka.add (zz * 32)).add j) = some u) := Lib.hid hkat.cells
              have H1 := Lib.hid (bv_one ky)
              have hst : out6 l.length ((zz : Nat) : Int) = false := by rw [← HFN.out]; simp [out6]; omega
              have HNA : Hid ((x.wr.take (q + 1)).any (out6 l.length) = false) := Lib.hid (by rw [any_take_succ HXZ.out, HA.out, hst]; rfl)
              have HNX : Hid ((ls.take k).flatMap (wrL ts) ++ pickK l (x.wr.take (q + 1)) = ((ls.take k).flatMap (wrL ts) ++ pickK l (x.wr.take q)) ++ [ky]) := Lib.hid (by
                rw [pickK_take HXZ.out, show l.getD ((zz : Nat) : Int).toNat [] = ky by rw [List.getD_eq_getElem?_getD, show ((zz : Nat) : Int).toNat = zz from rfl, hky]; rfl, List.append_assoc])
              have HLQ : Hid (((ls.take k).flatMap (wrL ts) ++ pickK l (x.wr.take q)).length ≤ 1000000) := Lib.hid (by
                rw [List.length_append, pickK_length, List.length_take]
                have := HSUM.out.1
                omega)
              clear hky hkat hkb hst hib z0 z1
              have OU := Lib.hid RU.out.two.ou
              generalize hY : bv ky = Y at *
              have HYY := Lib.hid hY
              clear hY
              generalize hZZ : (ls.take k).flatMap (wrL ts) ++ pickK l (x.wr.take q) = Z at *
              clear hZZ
              go_wp2_with (first
                | ((with_reducible show wpList _ _ _ ({ dst := some 66, op := Op.load _ _, type := _, pos := _, after := _, guard := _ } :: _) _ _); go_must (refine wpList_load_at rfl 32 (.tmp 65) rfl (ka.add (zz * 32)) Y _ Try.underlying32 rfl HSK.out CA.out ?_ ?_; go_simp))
                | ((with_reducible show wpList _ _ _ ({ dst := some 67, op := Op.buildSlice _ _ _, type := _, pos := _, after := _, guard := _ } :: _) _ _); go_must (refine wpList_buildOne rfl 33 32 (.tmp 66) rfl Y _ 32 32 Try.underlying33 info_key zsz6 (by omega) (by omega) HCS.out ?_ ?_; go_simp))
                | ((with_reducible show wpList _ _ _ ({ dst := some 68, op := _, type := _, pos := _, after := _, guard := _ } :: _) _ _); go_must (refine wpList_addRow rfl (.tmp 55) (.tmp 67) 33 rfl w.heap.size 32 _ 32 32 Try.underlying33 info_key zsz6 (by omega) _ Z.length (bv Z.flatten) Y 1 HCS.out H1.out rfl ?_ OU.out ?_ HZW.out (by unfold maxLen; have := HLQ.out; omega) (by have := HLQ.out; omega) ?_; go_simp; go_simp; intro v4 w4 ho4 hg4; have HO4 := Lib.hid ho4; have HG4 := Lib.hid hg4; clear ho4 hg4)))
              go_roundw
              case rel =>
                refine ⟨q + 1, _, by omega, by go_num, rfl, HNA.out, ?_⟩
                rw [HNX.out]
                refine RU.out.pickU hl1 HG4.out ?_
                have := HO4.out
                rw [← HYY.out] at this
                rw [List.length_append, List.flatten_append, bv_append]
                simpa using this
              case measure => simp [intOf]; omega
          · have hqn : q = n1 := by omega
            have HTK : Hid (x.wr.take q = x.wr) := Lib.hid (List.take_of_length_le (by rw [← HN1.out]; omega))
            have HPU : Hid (x.wr.any (out6 l.length) = false) := Lib.hid (by have := HA.out; rwa [HTK.out] at this)
            rw [HTK.out] at hrl
            have RU2 := Lib.hid hrl
            clear hany hrl hqn RU s1 s2 HA HTK
            obtain ⟨wU, rfl⟩ : ∃ wv : World, wv = wr := ⟨_, rfl⟩
            go_wp2_with fail
            go_loopw [8, 13] (fun z j wr => ∃ (qq : Nat) (zo : Value), qq ≤ n2 ∧ j = .int .i64 qq ∧ zo = z ∧ (x.rd.take qq).any (out6 l.length) = false ∧ RL w wr z1 zo ((ls.take k).flatMap (wrL ts) ++ pickK l x.wr) ((ls.take k).flatMap (rdL ts) ++ pickK l (x.rd.take qq)) FA fn l) (fun z j _ => n2 - (intOf j).toNat)
            case atStart => exact ⟨0, _, Nat.zero_le _, rfl, rfl, rfl, by simpa [pickK] using RU2.out⟩
            case round =>
              obtain ⟨qq, z2, hq2, rfl, rfl, hany, hrl⟩ := hrel
              have hn4 := HSN.out.2
              have HA := Lib.hid hany
              have RV := Lib.hid hrl
              obtain ⟨e32, e33, s1, s2⟩ := HC.out wr hrl.two.b
              have HZW : Hid (w.heap.size ≤ wr.heap.size) := Lib.hid hrl.two.b.size
              by_cases hlq2 : qq < n2
              · obtain ⟨ia, ei, hib, hci⟩ := s2.byte hlq2
                have hxz := getD_at (l := x.rd) (k := qq) (by rw [← HN2.out]; exact hlq2)
                have hz := HWB.out.2 _ (List.mem_of_getElem? hxz)
                have HXZ := Lib.hid hxz
                clear hany hrl hxz s1 s2
                generalize x.rd.getD qq 0 = z at *
                obtain ⟨z0, z1⟩ := hz
                obtain ⟨zz, rfl⟩ : ∃ zz : Nat, z = zz := ⟨z.toNat, by omega⟩
                subst ei
                by_cases hout : fn ≤ zz
                · have HE : Hid (resErr ts ls = 8) := Lib.hid (resErr_hit HX.out HR0.out (errL_r HFD.out (any_hit HXZ.out (by rw [← HFN.out]; simp [out6]; omega))) (by omega))
                  go_wp2_with fail
                  go_ret3
                  exact RResDone.not HE.out (by omega) RV.out.two.b
                · have hlt2 : zz < fn := by omega
                  clear hout
                  obtain ⟨ka, ky, ek, hkb, hky, hkat⟩ := RV.out.keys.get hlt2
                  subst ek
                  have HCS := Lib.hid (show (bv ky).length = 32 by rw [bv_length, hkat.len])
                  have HSK := Lib.hid (show (Try.prog.info? 32).map (·.size) = some (bv ky).length by rw [bv_length, hkat.len]; exact size_key)
                  have CA : Hid (∀ j u, (bv ky)[j]? = some u → wr.cell? ((ka.add (zz * 32)).add j) = some u) := Lib.hid hkat.cells
                  have H1 := Lib.hid (bv_one ky)
                  have hst : out6 l.length ((zz : Nat) : Int) = false := by rw [← HFN.out]; simp [out6]; omega
                  have HNA : Hid ((x.rd.take (qq + 1)).any (out6 l.length) = false) := Lib.hid (by rw [any_take_succ HXZ.out, HA.out, hst]; rfl)
                  have HNX : Hid ((ls.take k).flatMap (rdL ts) ++ pickK l (x.rd.take (qq + 1)) = ((ls.take k).flatMap (rdL ts) ++ pickK l (x.rd.take qq)) ++ [ky]) := Lib.hid (by
                    rw [pickK_take HXZ.out, show l.getD ((zz : Nat) : Int).toNat [] = ky by rw [List.getD_eq_getElem?_getD, show ((zz : Nat) : Int).toNat = zz from rfl, hky]; rfl, List.append_assoc])
                  have HLQ : Hid (((ls.take k).flatMap (rdL ts) ++ pickK l (x.rd.take qq)).length ≤ 1000000) := Lib.hid (by
                    rw [List.length_append, pickK_length, List.length_take]
                    have := HSUM.out.2
                    omega)
                  clear hky hkat hkb hst hib z0 z1
                  have OU := Lib.hid RV.out.two.ov
                  generalize hY : bv ky = Y at *
                  have HYY := Lib.hid hY
                  clear hY
                  generalize hZZ : (ls.take k).flatMap (rdL ts) ++ pickK l (x.rd.take qq) = Z at *
                  clear hZZ
                  go_wp2_with (first
                    | ((with_reducible show wpList _ _ _ ({ dst := some 102, op := Op.load _ _, type := _, pos := _, after := _, guard := _ } :: _) _ _); go_must (refine wpList_load_at rfl 32 (.tmp 101) rfl (ka.add (zz * 32)) Y _ Try.underlying32 rfl HSK.out CA.out ?_ ?_; go_simp))
                    | ((with_reducible show wpList _ _ _ ({ dst := some 103, op := Op.buildSlice _ _ _, type := _, pos := _, after := _, guard := _ } :: _) _ _); go_must (refine wpList_buildOne rfl 33 32 (.tmp 102) rfl Y _ 32 32 Try.underlying33 info_key zsz6 (by omega) (by omega) HCS.out ?_ ?_; go_simp))
                    | ((with_reducible show wpList _ _ _ ({ dst := some 104, op := _, type := _, pos := _, after := _, guard := _ } :: _) _ _); go_must (refine wpList_addRow rfl (.tmp 91) (.tmp 103) 33 rfl w.heap.size 32 _ 32 32 Try.underlying33 info_key zsz6 (by omega) _ Z.length (bv Z.flatten) Y 1 HCS.out H1.out rfl ?_ OU.out ?_ HZW.out (by unfold maxLen; have := HLQ.out; omega) (by have := HLQ.out; omega) ?_; go_simp; go_simp; intro v4 w4 ho4 hg4; have HO4 := Lib.hid ho4; have HG4 := Lib.hid hg4; clear ho4 hg4)))
                  go_roundw
                  case rel =>
                    refine ⟨qq + 1, _, by omega, by go_num, rfl, HNA.out, ?_⟩
                    rw [HNX.out]
                    refine RV.out.pickV hl1 HG4.out ?_
                    have := HO4.out
                    rw [← HYY.out] at this
                    rw [List.length_append, List.flatten_append, bv_append]
                    simpa using this
                  case measure => simp [intOf]; omega
              · have hqn2 : qq = n2 := by omega
                have HTK : Hid (x.rd.take qq = x.rd) := Lib.hid (List.take_of_length_le (by rw [← HN2.out]; omega))
                have HPV : Hid (x.rd.any (out6 l.length) = false) := Lib.hid (by have := HA.out; rwa [HTK.out] at this)
                rw [HTK.out] at hrl
                have RV2 := Lib.hid hrl
                clear hany hrl hqn2 RV s1 s2 HA HTK
                obtain ⟨wV, rfl⟩ : ∃ wv : World, wv = wr := ⟨_, rfl⟩
                have HNR : Hid (resErr ts (ls.take (k + 1)) = 0) := Lib.hid (by rw [resErr_succ HX.out HR0.out]; exact errL_0 HFD.out HPU.out HPV.out)
                have HNW : Hid ((ls.take (k + 1)).flatMap (wrL ts) = (ls.take k).flatMap (wrL ts) ++ pickK l x.wr ∧ (ls.take (k + 1)).flatMap (rdL ts) = (ls.take k).flatMap (rdL ts) ++ pickK l x.rd) := Lib.hid (by
                  rw [flatMap_succ _ HX.out, flatMap_succ _ HX.out]
                  unfold wrL rdL
                  rw [HFK.out]
                  exact ⟨rfl, rfl⟩)
                go_wp2_with fail
                go_roundw
                case rel =>
                  refine ⟨k + 1, _, _, by omega, by go_num, rfl, rfl, HNR.out, ?_⟩
                  rw [HNW.out.1, HNW.out.2]
                  exact RV2.out.two
                case measure => simp [intOf]; omega
    · have hkm : k = m := by omega
      have HTK : Hid (ls.take k = ls) := Lib.hid (List.take_of_length_le (by rw [HLN.out]; omega))
      have HE : Hid (resErr ts ls = 0) := Lib.hid (by have := HR0.out; rwa [HTK.out] at this)
      have HT := H2.out
      rw [HTK.out] at HT
      have HF := Lib.hid HT
      obtain ⟨h32a, h32b⟩ := all32 HREG.out.good ls HOK.out HE.out
      obtain ⟨A1, c1, rfl, hs1, _, _, _⟩ := own_form2 HT.ou
      obtain ⟨A2, c2, rfl, hs2, _, _, _⟩ := own_form2 HT.ov
      have HDONE : Hid (RResDone w ts ls (.returned (.tuple #[.slice A1 (ls.flatMap (wrL ts)).length c1, .slice A2 (ls.flatMap (rdL ts)).length c2, .int .i64 0])) wo) := Lib.hid
        ⟨A1, _, c1, A2, _, c2, by rw [HE.out], by rw [resW, if_pos HE.out]; exact ⟨rfl, h32a, hs1⟩, by rw [resR, if_pos HE.out]; exact ⟨rfl, h32b, hs2⟩, HT.b⟩
      clear HT hs1 hs2 h32a h32b hkm H2 HF
      go_wp2_with fail
      go_ret3
      exact HDONE.out
end Go.Proofs.Ytdbcbjjomhbhpaa

/-
  Of part PlayMem: what is needed here.
-/
namespace Go.Proofs.Ytdbcbjjomhbhpaa
open Go.RowKit
set_option linter.unusedVariables false
theorem row_ne_map {w : World} {g t mb cl : Nat} {es : Array MapEntry} {xs : List Value} (hr : Row w g t xs) (hm : w.heap[mb]? = some (.map es cl)) : g ≠ mb := by
  rintro rfl
  rw [hr.is] at hm
  cases hm
theorem own_ne_map {w : World} {base size n mb cl : Nat} {e : TypeId} {es : Array MapEntry} {v : Value} {xs : List Value} (h : w.ownsRow base e size v n xs) (hm : w.heap[mb]? = some (.map es cl)) : v.ownBlock ≠ some mb := fun e => by
  obtain ⟨cur, hc⟩ := own_is h e
  rw [hc] at hm
  cases hm
section
variable {w w' : World} {pb qb base base' rb mb hi n tb : Nat} {v v' u : Value} {ts us : List LTab} {S S' : Nat → Prop}
/-- a map is written -/
theorem RReg.map (h : RReg w pb base v ts S) {es : Array MapEntry} {cl : Nat} (hg : w.grownBy w' (some mb)) (hm : w.heap[mb]? = some (.map es cl)) : RReg w' pb base v ts S := by
  obtain ⟨css, h1, h2⟩ := h.tabs
  exact h.keep (fun g xs hr => hr.grown hg (fun e => row_ne_map hr hm (Option.some.inj e))) (hg.block pb h.row.lt (fun e => row_ne_map h.row hm (Option.some.inj e))) fun g e => hg.block g (h1.lt g e).2 fun e' => own_ne_map h1 hm (e.trans e')
/-- another reference puts -/
theorem RReg.other (h : RReg w qb base u us S) (h' : RReg w pb base' v ts S') (hk : PutKeep w w' pb v v') (hne : qb ≠ pb) (hd : ∀ g, v.ownBlock = some g → u.ownBlock ≠ some g) : RReg w' qb base u us S := by
  obtain ⟨css, h1, h2⟩ := h.tabs
  obtain ⟨css', h1', h2'⟩ := h'.tabs
  refine h.keep (fun g xs hr => ⟨(hk.block g hr.lt ?_ ?_).trans hr.is⟩) (hk.block qb h.row.lt hne ?_) fun g e => hk.block g (h1.lt g e).2 ?_ fun e' => hd g e' e
  · exact row_ne hr h'.row (by decide)
  · exact fun e => own_row_neN h1' hr (by decide) e.symm
  · exact fun e => own_row_neN h1' h.row (by decide) e.symm
  · rintro rfl
    exact own_row_neN h1 h'.row (by decide) e.symm
theorem PutKeep.row {g t : Nat} {xs : List Value} (hk : PutKeep w w' pb v v') (h' : RReg w pb base v ts S) (hr : Row w g t xs) (h1 : t ≠ 30) (h2 : 67 ≠ t) : Row w' g t xs := by
  obtain ⟨css', h1', h2'⟩ := h'.tabs
  exact ⟨(hk.block g hr.lt (row_ne hr h'.row h1) (fun e => own_row_neN h1' hr h2 e.symm)).trans hr.is⟩
theorem PutKeep.keepReg (hk : PutKeep w w' pb v v') (h' : RReg w pb base v ts S) : KeepReg w w' tb := by
  refine ⟨hk.size, fun k es cl _ hm => ?_, fun k t xs _ ht hr => hk.row h' hr ?_ ?_⟩
  · obtain ⟨css', h1', h2'⟩ := h'.tabs
    exact hk.block k (Array.getElem?_eq_some_iff.1 hm).1 (fun e => row_ne_map h'.row hm e.symm) (own_ne_map h1' hm)
  · rcases ht with rfl | rfl <;> decide
  · rcases ht with rfl | rfl <;> decide
/-- a list of keys is written that is none of the reference's -/
theorem RReg.touch (h : RReg w pb base v ts S) {xs : List Value} (hr : Row w tb 32 xs) (hg : w.grownBy w' (some tb)) (hS : ∀ g, S g → g ≠ tb) : RReg w' pb base v ts S := by
  obtain ⟨css, h1, h2⟩ := h.tabs
  refine ⟨h.row.grown hg (fun e => row_ne h.row hr (by decide) (Option.some.inj e)), ⟨css, own_keep h1 fun g e => hg.block g (h1.lt g e).2 (fun e' => own_row_neN h1 hr (by decide) (e'.symm.trans e.symm)), h2.turn fun cs x hx => ?_⟩, h.good⟩
  obtain ⟨a1, g, c, rest, a2, a3, a4, a5⟩ := hx
  exact ⟨a1, g, c, rest, a2, a3.grown hg (fun e => hS g a5 (Option.some.inj e)), a4, a5⟩
theorem RReg.bnd (h : RReg w pb base v ts S) : RReg w pb base v ts (fun g => g < w.heap.size) := h.weak fun g hg _ => hg
end
/-- a registry and the reference; a copy of each -/
structure PSt (w V : World) (rb mb ob omb pb qb : Nat) (v u : Value) (ts us : List LTab) (k : Nat) : Prop where
  b : Below w.heap.size w V
  r : ∃ n, n ≤ k ∧ Reg V rb mb V.heap.size n ts
  o : ∃ n, n ≤ k ∧ Reg V ob omb V.heap.size n us
  m : RReg V pb w.heap.size v ts (fun g => g < V.heap.size)
  p : RReg V qb w.heap.size u us (fun g => g < V.heap.size)
  len : ts.length ≤ k ∧ us.length ≤ k
  ne : mb ≠ omb ∧ qb ≠ pb ∧ ∀ g, v.ownBlock = some g → u.ownBlock ≠ some g
  low : w.heap.size ≤ mb ∧ w.heap.size ≤ pb
section
variable {w V V' : World} {rb mb ob omb pb qb k : Nat} {v u : Value} {ts us : List LTab}
theorem PSt.below (h : PSt w V rb mb ob omb pb qb v u ts us k) (hb : Below V.heap.size V V') : PSt w V' rb mb ob omb pb qb v u ts us k := by
  obtain ⟨n, h1, h2⟩ := h.r
  obtain ⟨n', h1', h2'⟩ := h.o
  exact ⟨h.b.trans (hb.mono h.b.size), ⟨n, h1, (h2.below hb).more hb.size (Nat.le_refl _)⟩, ⟨n', h1', (h2'.below hb).more hb.size (Nat.le_refl _)⟩, (h.m.below hb).bnd, (h.p.below hb).bnd, h.len, h.ne, h.low⟩
theorem PSt.up (h : PSt w V rb mb ob omb pb qb v u ts us k) : PSt w V rb mb ob omb pb qb v u ts us (k + 1) := by
  obtain ⟨n, h1, h2⟩ := h.r
  obtain ⟨n', h1', h2'⟩ := h.o
  have := h.len
  exact ⟨h.b, ⟨n, by omega, h2⟩, ⟨n', by omega, h2'⟩, h.m, h.p, ⟨by omega, by omega⟩, h.ne, h.low⟩
/-- behind the copies -/
theorem PSt.copy {ob' omb' qb' : Nat} {u' : Value} (h : PSt w V rb mb ob omb pb qb v u ts us k) (hb : Below V.heap.size V V') {n : Nat} (hn : n ≤ k) (ho : Reg V' ob' omb' V'.heap.size n ts) (hom : V.heap.size ≤ omb') (hp : RReg V' qb' w.heap.size u' ts (fun g => g < V'.heap.size)) (hqb : V.heap.size ≤ qb') (hu : ∀ g, u'.ownBlock = some g → V.heap.size ≤ g) : PSt w V' rb mb ob' omb' pb qb' v u' ts ts k := by
  have h' := h.below hb
  obtain ⟨css, h1, h2⟩ := h.m.tabs
  obtain ⟨_, _, hr⟩ := h.r
  refine ⟨h'.b, h'.r, ⟨n, hn, ho⟩, h'.m, hp, ⟨h.len.1, h.len.1⟩, ⟨?_, ?_, fun g e e' => ?_⟩, h.low⟩
  · have := hr.lt.2.1; omega
  · have := h.m.row.lt; omega
  · have := (h1.lt g e).2
    have := hu g e'
    omega
/-- behind the first Put -/
structure PMid (w V w1 : World) (rb mb ob omb pb qb tb : Nat) (v u : Value) (ts ts' us : List LTab) (k : Nat) (T : List Value) : Prop where
  b : Below w.heap.size w w1
  sz : V.heap.size ≤ w1.heap.size
  keep : ∀ w'', KeepReg w1 w'' tb → ∃ n, n ≤ k + 1 ∧ Reg w'' rb mb w''.heap.size n ts'
  o : ∃ n, n ≤ k ∧ Reg w1 ob omb V.heap.size n us
  m : RReg w1 pb w.heap.size v ts (fun g => g < V.heap.size)
  p : RReg w1 qb w.heap.size u us (fun g => g < V.heap.size)
  t : Row w1 tb 32 T
  tlt : V.heap.size ≤ tb
theorem PSt.mid {Vt w1 : World} {tb n : Nat} {T : List Value} {x : List Int} {l : List (List Int)} {e : Ending} (h : PSt w V rb mb ob omb pb qb v u ts us k) (hb : Below V.heap.size V Vt) (hn : n ≤ k) (hr : Reg Vt rb mb V.heap.size n ts) (ht : Row Vt tb 32 T) (htl : V.heap.size ≤ tb)
    (hd : PutTDone2 Vt rb mb V.heap.size n ts x l e w1) : PMid w V w1 rb mb ob omb pb qb tb v u ts (putT ts x l) us k T := by
  obtain ⟨⟨_, hreg, hgr⟩, hkeep⟩ := hd
  obtain ⟨es, cl, hm⟩ := hr.is_map
  have hbt := h.b.trans (hb.mono h.b.size)
  obtain ⟨n', h1', h2'⟩ := h.o
  refine ⟨hbt.grown hgr hbt.size (fun k hk => by cases hk; exact h.low.1), Nat.le_trans hb.size hgr.size, fun w'' hw => ⟨n + 1, by omega, hkeep tb htl ht.lt w'' hw⟩, ⟨n', h1', ?_⟩, (h.m.below hb).map hgr hm, (h.p.below hb).map hgr hm, ht.grown hgr (fun e => row_ne_map ht hm (Option.some.inj e)), htl⟩
  exact (h2'.below hb).kept hgr (fun k e => by cases e; exact ⟨h.ne.1, es, cl, hm⟩)
/-- behind both -/
structure PEnd (w V w2 : World) (rb mb ob omb pb qb tb : Nat) (v u : Value) (ts us : List LTab) (k : Nat) (T : List Value) : Prop where
  b : Below w.heap.size w w2
  keep : ∀ w'', KeepReg w2 w'' tb → ∃ n, n ≤ k + 1 ∧ Reg w'' rb mb w''.heap.size n ts
  o : ∃ n, n ≤ k ∧ Reg w2 ob omb V.heap.size n us
  m : RReg w2 pb w.heap.size v ts (fun g => g ≠ tb)
  p : RReg w2 qb w.heap.size u us (fun g => g ≠ tb)
  t : Row w2 tb 32 T
  tlt : V.heap.size ≤ tb
  ne : mb ≠ omb ∧ qb ≠ pb ∧ ∀ g, v.ownBlock = some g → u.ownBlock ≠ some g
  low : w.heap.size ≤ mb ∧ w.heap.size ≤ pb
  len : ts.length ≤ k + 1 ∧ us.length ≤ k
theorem PMid.end_ {w1 w2 : World} {tb : Nat} {T : List Value} {x : List Int} {l : List (List Int)} {e : Ending} (h0 : PSt w V rb mb ob omb pb qb v u ts us k) (h : PMid w V w1 rb mb ob omb pb qb tb v u ts (putT ts x l) us k T)
    (hd : RPutDone w1 pb w.heap.size v ts (fun g => g < V.heap.size) x l e w2) : ∃ v', PEnd w V w2 rb mb ob omb pb qb tb v' u (putT ts x l) us k T ∧ PutKeep w1 w2 pb v v' := by
  obtain ⟨_, v', hrr, hpk⟩ := hd
  obtain ⟨css, h1, h2⟩ := h.m.tabs
  obtain ⟨css', h1', h2'⟩ := h.p.tabs
  obtain ⟨n', h3, h4⟩ := h.o
  have htl := h.t.lt
  have htv := h.tlt
  refine ⟨v', ⟨⟨hpk.os.trans h.b.os, hpk.tape.trans h.b.tape, hpk.output.trans h.b.output, Nat.le_trans h.b.size hpk.size, fun k hk => ?_⟩, fun w'' hw => h.keep w'' ((hpk.keepReg h.m).trans hw), ⟨n', h3, ?_⟩, hrr.weak fun g _ hs => ?_, (h.p.other h.m hpk h0.ne.2.1 h0.ne.2.2).weak fun g _ hs => ?_, hpk.row h.m h.t (by decide) (by decide), h.tlt, ⟨h0.ne.1, h0.ne.2.1, fun g e e' => ?_⟩, h0.low, ⟨?_, h0.len.2⟩⟩, hpk⟩
  · refine (hpk.block k (Nat.lt_of_lt_of_le hk h.b.size) (fun e => ?_) fun e => ?_).trans (h.b.block k hk)
    · have := h0.low.2; omega
    · have := (h1.lt k e).1; omega
  · have h5 : Reg w2 ob omb V.heap.size n' us := by
      have hk : KeepReg w1 w2 V.heap.size := hpk.keepReg h.m
      have h6 := h4.keepReg hk (Nat.le_refl _)
      have h7 : Below V.heap.size w1 w1 := Below.refl _ _
      obtain ⟨blk, hmap, hrows⟩ := h4.map
      obtain ⟨D, ⟨es, clock, hm, hr⟩, hdd⟩ := hmap
      have hl := h4.lt
      refine ⟨hk.row _ _ _ (by omega) (.inr rfl) h4.row, ⟨blk, ⟨D, ⟨es, clock, (hk.map omb es clock (by omega) hm).trans hm, hr⟩, hdd⟩, fun x l hx => ?_⟩, ⟨hl.1, hl.2.1, Nat.le_trans hl.2.2 hk.size⟩, h4.good⟩
      obtain ⟨a, b⟩ := hrows x l hx
      exact ⟨hk.row _ _ _ (by omega) (.inl rfl) a, b⟩
    exact h5
  · show g ≠ tb
    rcases hs with hs | hs <;> omega
  · show g ≠ tb
    omega
  · rcases hpk.fresh g e with h6 | h6
    · exact h0.ne.2.2 g h6 e'
    · have := (h1'.lt g e').2; omega
  · have := putT_len ts x l
    have := h0.len.1
    omega
/-- behind the book: only t's list has been written -/
theorem PEnd.done {w2 w4 : World} {tb : Nat} {T : List Value} (h : PEnd w V w2 rb mb ob omb pb qb tb v u ts us k T) (hg : w2.grownBy w4 (some tb)) (hV : w.heap.size ≤ V.heap.size) : PSt w w4 rb mb ob omb pb qb v u ts us (k + 1) := by
  obtain ⟨n', h3, h4⟩ := h.o
  have := h.len
  refine ⟨h.b.grown hg h.b.size (fun k hk => by cases hk; have := h.tlt; omega), h.keep w4 (KeepReg.grown hg), ⟨n', by omega, h4.keepReg (KeepReg.grown hg) h.tlt⟩, (h.m.touch h.t hg fun g hs => hs).bnd, (h.p.touch h.t hg fun g hs => hs).bnd, ⟨by omega, by omega⟩, h.ne, h.low⟩
end
end Go.Proofs.Ytdbcbjjomhbhpaa
