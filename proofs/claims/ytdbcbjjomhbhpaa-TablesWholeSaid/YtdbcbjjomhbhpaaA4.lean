/-
  Parts joined: StayWalk WholeWalk.
-/
import Derived.Below
import Derived.Laws.OwnMore
import Derived.Deep.AppendLies
import Derived.Deep.Draws
import Derived.Lib.Hide
import Derived.Laws.MakeOwn
import Derived.Laws.CopyOwn
import Derived.Laws.Rows
import Derived.Laws.BitsAllLaws
import Derived.WalkKit
import Derived.Test.YtdbcbjjomhbhpaaRows
import Derived.WalkSpells
import Derived.WalkLawsBesides
import Derived.IntWalk
import Derived.Maps.AppendAt
import Derived.OwnWalk
import Derived.Deep.MidRow
import Derived.Deep.WholeRow
import Derived.Great.BuildSlice
import Derived.ProofKit
import Derived.OpenShut
import Derived.ShutString
import Derived.ChangeOld
import Derived.Lib.SmallJoins
import Derived.Recover
import Derived.Deep.RegionHeld
import Derived.Deep.QuietTactic
import Derived.BigQuiet
import Derived.Deep.Slices
import Derived.Deep.Strs
import Derived.SizedLaws
import Derived.Maps.OwnSet
import Derived.DeepKeys4
import Derived.WideKeyArr
import Derived.ChangeKeysEq
import Derived.Deep.RegionHeld2
import Derived.Deep.CutBlock
import Derived.Laws.Tables
import Derived.Deep.DeepCutAuto
import Derived.Laws.Slices
import Derived.Laws.EntriesVeiled
import Derived.Deep.RegionHeld3
import Derived.WideKeyEntry
import Derived.Shelf.SlMaps.Clone
import Derived.Test.YtdbcbjjomhbhpaaA1
import Derived.Test.YtdbcbjjomhbhpaaA2
import Derived.Test.YtdbcbjjomhbhpaaA3
/-
  Of part StayWalk: what is needed here.
-/
namespace Go.Proofs.Ytdbcbjjomhbhpaa
open Go.RowKit
set_option linter.unusedVariables false
theorem KOut.step {w w' : World} {lo hi : Nat} {S : Sl} {l : List (List Int)} (h : KOut w lo hi S l) (hh : hi ≤ w.heap.size) (hb : Below w.heap.size w w') : KOut w' lo w'.heap.size S l :=
  ((h.more (Nat.le_refl _) hh).below hb).more (Nat.le_refl _) hb.size
/-- a map that is older is written -/
theorem KOut.put {w w' : World} {lo hi mb : Nat} {S : Sl} {l : List (List Int)} (h : KOut w lo hi S l) (hh : hi ≤ w.heap.size) (hm : mb < lo) (hg : w.grownBy w' (some mb)) : KOut w' lo w'.heap.size S l := by
  have hk : ∀ g, S.A = some g → w'.heap[g]? = w.heap[g]? := fun g e => by
    have := h.low g e
    exact hg.block g (by omega) (fun e' => by cases e'; omega)
  refine ⟨h.fit.keep hk, ⟨h.keys.len, h.keys.each, h.keys.sees.len, fun i u hu => ?_⟩, h.cap, fun g e => ⟨(h.low g e).1, Nat.lt_of_lt_of_le (h.low g e).2 (Nat.le_trans hh hg.size)⟩⟩
  obtain ⟨a, e, hab, hc⟩ := h.keys.sees.cell i u hu
  refine ⟨a, e, Nat.lt_of_lt_of_le hab (Nat.le_trans hh hg.size), ?_⟩
  obtain ⟨g, hg', rfl⟩ := Option.map_eq_some_iff.1 e
  rw [← hc]
  exact World.cell?_of_block (w := w) (by rw [addr_block]; exact hk g hg')
theorem ActIn.more {w : World} {B B' : Nat} {q : ARaw} {x : LAct} (h : ActIn w B q x) (hB : B ≤ B') : ActIn w B' q x := ⟨h.tab, h.keys.more hB, h.looks.more hB, h.kn, h.ln⟩
/-- one act in memory -/
theorem acts_one {w : World} {B g t : Nat} {q : ARaw} {x : LAct} (hr : Row w g t (ARaw.cells q x)) (hx : ActIn w B q x) (hB : B ≤ w.heap.size) : ActsIn w w.heap.size (some ⟨g, 0, none⟩) 1 [x] :=
  ⟨rfl, fun i y hy => by
    match i, hy with
    | 0, hy =>
      cases hy
      exact ⟨_, q, rfl, hr.lt, fun j u hu => by rw [addr_row]; simp only [Nat.zero_mul, Nat.zero_add]; exact (hr.cell j).trans hu, hx.more hB⟩⟩
theorem info_act : (Try.prog.info? 36).map (fun i => (i.zero, i.size, i.bytes)) = some (some (.agg (zeros 33 ++ [Value.slice none 0 0, .slice none 0 0]).toArray), 35, 88) := by kernel_rfl
theorem zsz_act : (Value.agg (zeros 33 ++ [Value.slice none 0 0, .slice none 0 0]).toArray).cells.size = 35 := by kernel_rfl
theorem wpList_buildOneG {P : Program} {ops : Array Oper} {rest : List Oper} {o : Oper} {a : Act} {w : World} {Q : Exit → Act → World → Prop} (hg : Region.wanted o (yielded ops a.tmps) = true) (t e : TypeId) (y : Operand) (ho : o.op = .buildSlice t 1 #[(0, y)])
    (cs : List Value) (z : Value) (size bytes : Nat) (hu : P.underlying t = some (.slice e)) (hi : (P.info? e).map (fun i => (i.zero, i.size, i.bytes)) = some (some z, size, bytes)) (hzs : z.cells.size = size) (hs0 : 0 < size) (hs1 : size ≤ 1000)
    (hcs : cs.length = size) (hy : a.eval y = .agg cs.toArray)
    (h : wpList P ops Q rest (a.put o.dst (.slice (some ⟨w.heap.size, 0, none⟩) 1 1)) (w.alloc (.cells cs.toArray e))) : wpList P ops Q (o :: rest) a w := by
  obtain ⟨ie, hie, h1, h2, _⟩ := info_parts hi
  subst h2
  refine BigFrame.wpList_want hg fun K hK => wp_buildSlice t e 1 _ ho cs.toArray ie z hu hie h1 (by omega) (by omega) ?_ (hK _ _ h)
  have := Go.Great.fill_whole (s := ie.size) hs0 [Value.agg cs.toArray] ((Array.range (1 * ie.size)).map (z.cells[· % z.cells.size]!)) (by simp [Value.cells, hcs]) (by simp)
  simpa [hy, Value.cells] using this
/-- what is found stays found -/
theorem findT_put {ts : List LTab} {k y : List Int} {l m : List (List Int)} (h : findT ts y = some m) : findT (putT ts k l) y = some m := by
  unfold putT
  split
  · rw [findT_snoc, h]
  · exact h
theorem findT_put_same {ts : List LTab} {k : List Int} {l : List (List Int)} (h : mayPut ts k l = 0) (hn : findT ts k = none) : findT (putT ts k l) k = some l := by
  unfold putT
  rw [if_pos h, findT_snoc, hn]
  simp
theorem errL_put {ts : List LTab} {k : List Int} {l : List (List Int)} {x : LLook} (h : errL ts x = 0) : errL (putT ts k l) x = 0 ∧ wrL (putT ts k l) x = wrL ts x ∧ rdL (putT ts k l) x = rdL ts x := by
  unfold errL at h
  cases hf : findT ts x.tab with
  | none => rw [hf] at h; cases h
  | some m =>
    rw [hf] at h
    have h2 := findT_put (k := k) (l := l) hf
    refine ⟨by unfold errL; rw [h2]; exact h, ?_, ?_⟩
    · unfold wrL fKeys; rw [hf, h2]
    · unfold rdL fKeys; rw [hf, h2]
theorem res_put {ts : List LTab} {k : List Int} {l : List (List Int)} : ∀ (ls : List LLook), resErr ts ls = 0 → resErr (putT ts k l) ls = 0 ∧ ls.flatMap (wrL (putT ts k l)) = ls.flatMap (wrL ts) ∧ ls.flatMap (rdL (putT ts k l)) = ls.flatMap (rdL ts)
  | [], _ => ⟨rfl, rfl, rfl⟩
  | x :: r, h => by
    obtain ⟨h1, h2⟩ : errL ts x = 0 ∧ resErr ts r = 0 := by
      unfold resErr at h
      split at h
      · exact ⟨‹_›, h⟩
      · exact absurd h ‹_›
    obtain ⟨a1, a2, a3⟩ := errL_put (k := k) (l := l) h1
    obtain ⟨b1, b2, b3⟩ := res_put r h2
    refine ⟨?_, ?_, ?_⟩
    · unfold resErr; rw [if_pos a1]; exact b1
    · rw [List.flatMap_cons, List.flatMap_cons, a2, b2]
    · rw [List.flatMap_cons, List.flatMap_cons, a3, b3]
theorem resW_put {ts : List LTab} {k : List Int} {l : List (List Int)} {ls : List LLook} (h : resErr ts ls = 0) : resErr (putT ts k l) ls = 0 ∧ resW (putT ts k l) ls = resW ts ls ∧ resR (putT ts k l) ls = resR ts ls := by
  obtain ⟨a, b, c⟩ := res_put (k := k) (l := l) ls h
  refine ⟨a, ?_, ?_⟩
  · unfold resW; rw [if_pos a, if_pos h, b]
  · unfold resR; rw [if_pos a, if_pos h, c]
theorem fErr_cases (ts : List LTab) (k : List Int) : (fErr ts k = 0 ∧ (findT ts k).isSome = true) ∨ (fErr ts k = 11 ∧ findT ts k = none) := by
  unfold fErr
  cases findT ts k with
  | none => exact .inr ⟨rfl, rfl⟩
  | some l => exact .inl ⟨rfl, rfl⟩
theorem stay_cases (ts : List LTab) (k : List Int) (l : List (List Int)) :
    (mayPut ts k l = 1 ∧ (l.length = 0 ∨ 256 < l.length) ∧ putT ts k l = ts ∧ (fErr ts k = 0 ∨ fErr ts k = 11)) ∨
    (mayPut ts k l = 12 ∧ 1 ≤ l.length ∧ l.length ≤ 256 ∧ putT ts k l = ts ∧ fErr ts k = 0) ∨
    (mayPut ts k l = 0 ∧ 1 ≤ l.length ∧ l.length ≤ 256 ∧ fErr ts k = 11 ∧ fErr (putT ts k l) k = 0 ∧ fKeys (putT ts k l) k = l) := by
  rcases mayPut_cases ts k l with ⟨h, h1⟩ | ⟨h, h1, h2⟩ | ⟨h, h1, h2⟩
  · exact .inl ⟨h, h1, by unfold putT; rw [if_neg (by rw [h]; omega)], by rcases fErr_cases ts k with ⟨e, _⟩ | ⟨e, _⟩ <;> simp [e]⟩
  · refine .inr (.inl ⟨h, by omega, by omega, by unfold putT; rw [if_neg (by rw [h]; omega)], by unfold fErr; rw [if_pos h2]⟩)
  · have h3 := findT_put_same h h2
    exact .inr (.inr ⟨h, by omega, by omega, by unfold fErr; rw [h2]; rfl, by unfold fErr; rw [h3]; rfl, by unfold fKeys; rw [h3]; rfl⟩)
/-- what stays: the act -/
structure SIn (w0 V : World) (bx : Nat) (cs : List Value) : Prop where
  x : Row V bx 36 cs
  b : Below w0.heap.size w0 V
theorem SIn.below {w0 V V' : World} {bx : Nat} {cs : List Value} (h : SIn w0 V bx cs) (hb : Below V.heap.size V V') : SIn w0 V' bx cs := ⟨h.x.below hb h.x.lt, h.b.trans (hb.mono h.b.size)⟩
theorem SIn.put {w0 V V' : World} {bx mb : Nat} {cs : List Value} (h : SIn w0 V bx cs) (hg : V.grownBy V' (some mb)) (hne : bx ≠ mb) (hm : w0.heap.size ≤ mb) : SIn w0 V' bx cs :=
  ⟨h.x.grown hg (fun e => hne (Option.some.inj e)), h.b.grown hg h.b.size (fun k hk => by cases hk; exact hm)⟩
set_option maxRecDepth 100000 in
set_option maxHeartbeats 16000000 in
theorem stay_walk (A : Option Addr) (n c : Nat) (l : List LAct) (q : ARaw) (x : LAct) (w : World)
    (hl : ActsIn w w.heap.size A n l) (hok : ∀ y ∈ l, ActOk y) (hn : l.length ≤ 140737488355328) (hx : ActIn w w.heap.size q x) (okx : ActOk x) :
    Calls Try.prog 6 #[.slice A n c, .agg (ARaw.cells q x).toArray] w fun e w' => e = .returned (.bool true) ∧ Below w.heap.size w w' := by
  obtain ⟨KA, kn, kc, LA, ln, lc⟩ := q
  have htab := hx.tab
  have hnl := hl.len
  have h33 := acells_33 (q := ⟨KA, kn, kc, LA, ln, lc⟩) htab
  have h34 := acells_34 (q := ⟨KA, kn, kc, LA, ln, lc⟩) htab
  have htb : ∀ j u, (bv x.tab)[j]? = some u → (ARaw.cells ⟨KA, kn, kc, LA, ln, lc⟩ x)[1 + j]? = some u := fun j u h => acells_tab h
  have HSX := Lib.hid (show (Try.prog.info? 32).map (·.size) = some (bv x.tab).length by rw [bv_length, htab]; exact size_key)
  have HSC := Lib.hid (show (Try.prog.info? 36).map (·.size) = some (ARaw.cells ⟨KA, kn, kc, LA, ln, lc⟩ x).length by rw [acells_len htab]; exact size_act)
  have HCL := Lib.hid (acells_len (q := ⟨KA, kn, kc, LA, ln, lc⟩) htab)
  have HIN := Lib.hid hx
  have HOX := Lib.hid okx
  have HL := Lib.hid hl
  have HK := Lib.hid hok
  have LN := Lib.hid hnl
  have HG : Hid (∀ V : World, Below w.heap.size w V → Calls Try.prog 8 #[.slice A n c] V (GreatDone6 V l)) := Lib.hid fun V hV => great6 A n c _ l V (hl.below hV) hV.size (by rw [← hnl]; exact hn) hok
  have HG2 : Hid (∀ (V : World) g, Row V g 36 (ARaw.cells ⟨KA, kn, kc, LA, ln, lc⟩ x) → Below w.heap.size w V → Calls Try.prog 8 #[.slice (some ⟨g, 0, none⟩) 1 1] V (GreatDone6 V [x])) := Lib.hid fun V g hr hV =>
    great6 _ 1 1 _ [x] V (acts_one hr (hx.below hV) hV.size) (Nat.le_refl _) (by omega) (fun y hy => by obtain rfl := List.mem_singleton.1 hy; exact okx)
  obtain ⟨cs, hcs⟩ : ∃ cs, cs = ARaw.cells ⟨KA, kn, kc, LA, ln, lc⟩ x := ⟨_, rfl⟩
  have I0 : Hid (SIn w (w.alloc (.cells cs.toArray 36)) w.heap.size cs) := Lib.hid ⟨Row.new w 36 cs, (Below.refl w.heap.size w).alloc (Nat.le_refl _) _⟩
  rw [← hcs] at h33 h34 htb HSC HCL HG2
  have hgoal : ∀ Q, Calls Try.prog 6 #[.slice A n c, .agg cs.toArray] w Q → Calls Try.prog 6 #[.slice A n c, .agg (ARaw.cells ⟨KA, kn, kc, LA, ln, lc⟩ x).toArray] w Q := fun Q h => by rw [← hcs]; exact h
  refine hgoal _ ?_
  have HSS : Hid (∀ (V : World) bx, SIn w V bx cs → (∀ j u, (bv x.tab)[j]? = some u → V.cell? ((⟨bx, 1, none⟩ : Addr).add j) = some u) ∧ V.cell? ⟨bx, 33, none⟩ = some (.slice KA kn kc) ∧ V.cell? ⟨bx, 34, none⟩ = some (.slice LA ln lc)) := Lib.hid fun V bx hV =>
    ⟨fun j u hu => by rw [addr_row, hV.x.cell]; exact htb j u hu, (hV.x.cell 33).trans h33, (hV.x.cell 34).trans h34⟩
  clear hgoal hcs h33 h34 htb htab hx hl hok hn hnl okx
  go_enter Try.func6, Try.ntmps6
  go_wp2_with fail
  obtain ⟨bx, hbx⟩ : ∃ bx, bx = w.heap.size := ⟨_, rfl⟩
  have HBX := Lib.hid hbx
  rw [← hbx] at I0 ⊢
  clear hbx
  generalize w.alloc (.cells cs.toArray 36) = W0 at *
  refine (HG.out W0 I0.out.b).mono ?_
  rintro e w1 ⟨⟨b, rfl, hb⟩, hbel⟩
  have I1 := Lib.hid (I0.out.below hbel)
  have SM := Lib.hid hb
  clear hb hbel HG I0
  cases b with
  | true =>
    go_wp2_with fail
    refine (lives6 _).mono ?_
    rintro e w' ⟨rfl, hb⟩
    have HBB := Lib.hid (I1.out.b.trans (hb.mono I1.out.b.size))
    clear hb
    go_wp2_with fail
    go_ret
    exact ⟨rfl, HBB.out⟩
  | false =>
    have SA := Lib.hid (SM.out rfl)
    clear SM
    have CX : Hid (∀ j u, cs[j]? = some u → w1.cell? ((⟨bx, 0, none⟩ : Addr).add j) = some u) := Lib.hid fun j u hu => by rw [addr_row, Nat.zero_add, I1.out.x.cell]; exact hu
    go_wp2_with (first
      | ((with_reducible show wpList _ _ _ ({ dst := some 21, op := Op.load _ _, type := _, pos := _, after := _, guard := _ } :: _) _ _); go_must (refine wpList_load_atg (by kernel_rfl) 36 (.tmp 3) rfl ⟨bx, 0, none⟩ cs _ Try.underlying36 rfl HSC.out CX.out ?_ ?_; go_simp))
      | ((with_reducible show wpList _ _ _ ({ dst := some 22, op := _, type := _, pos := _, after := _, guard := _ } :: _) _ _); go_must (refine wpList_buildOneG (by kernel_rfl) 22 36 (.tmp 21) rfl cs _ 35 88 Try.underlying22 info_act zsz_act (by omega) (by omega) HCL.out ?_ ?_; go_simp)))
    have hba : Below w1.heap.size w1 (w1.alloc (.cells cs.toArray 36)) := (Below.refl _ _).alloc (Nat.le_refl _) _
    have RN := Lib.hid (Row.new w1 36 cs)
    have I2 := Lib.hid (I1.out.below hba)
    clear hba CX I1
    generalize w1.alloc (.cells cs.toArray 36) = W1 at *
    refine (HG2.out W1 _ RN.out I2.out.b).mono ?_
    rintro e w2 ⟨⟨b, rfl, hb⟩, hbel⟩
    have I3 := Lib.hid (I2.out.below hbel)
    have SM := Lib.hid hb
    clear hb hbel HG2 I2 RN
    cases b with
    | true =>
      go_wp2_with fail
      refine (lives6 _).mono ?_
      rintro e w' ⟨rfl, hb⟩
      have HBB := Lib.hid (I3.out.b.trans (hb.mono I3.out.b.size))
      clear hb
      go_wp2_with fail
      go_ret
      exact ⟨rfl, HBB.out⟩
    | false =>
      have SX := Lib.hid ((SM.out rfl).2 x (by simp))
      clear SM
      have HM := Lib.hid (made_ A n c _ l w2 (HL.out.below I3.out.b) I3.out.b.size (by rw [← LN.out]; exact SA.out.1) HK.out)
      clear HL
      go_wp2_with fail
      refine HM.out.mono ?_
      rintro e w3 ⟨rb, mb, rfl, hreg, hrb, hmb, hbel⟩
      have I4 := Lib.hid (I3.out.below hbel)
      have R4 := Lib.hid hreg
      have HMB := Lib.hid (Nat.le_trans I3.out.b.size hmb)
      have HMX : Hid (bx ≠ mb) := Lib.hid (hreg.map_ne I4.out.x)
      clear HM hreg hrb hmb hbel I3
      have HLL : Hid (l.length ≤ 80) := Lib.hid SA.out.1
      generalize madeT l = ts at *
      generalize l.length = k at *
      have HRES : Hid (∀ (V : World) hi j ts, Reg V rb mb hi j ts → Below w.heap.size w V → Calls Try.prog 21 #[.pointer (some ⟨rb, 0, none⟩), .slice LA ln lc] V (ResDone V ts x.looks)) := Lib.hid fun V hi j ts h hb =>
        resolveReg rb mb _ _ ts LA ln lc _ x.looks V h (HIN.out.looks.below hb) hb.size HOX.out.looks (by have := HIN.out.looks.len; have : ARaw.ln ⟨KA, kn, kc, LA, ln, lc⟩ = ln := rfl; have := SX.out.2.1; omega) (by have := SX.out.2.2; omega)
      have HFND : Hid (∀ (V : World) hi j ts, Reg V rb mb hi j ts → Calls Try.prog 18 #[.pointer (some ⟨rb, 0, none⟩), .agg (bv x.tab).toArray] V (FindDone V ts x.tab)) := Lib.hid fun V hi j ts h =>
        findReg rb mb _ _ ts x.tab V h HOX.out.tab
      have HPUT : Hid (∀ (V : World) hi j ts, Reg V rb mb hi j ts → j ≤ 1000000 → Below w.heap.size w V → Calls Try.prog 13 #[.pointer (some ⟨rb, 0, none⟩), .agg (bv x.tab).toArray, .slice KA kn kc] V (PutTDone V rb mb j ts x.tab x.keys)) := Lib.hid fun V hi j ts h hj hb =>
        putReg rb mb hi j ts x.tab KA kn kc _ x.keys V h HOX.out.tab (HIN.out.keys.below hb) hb.size hj (Nat.le_trans HIN.out.kn.1 HIN.out.kn.2)
      have HKN : Hid (x.keys.length = kn) := Lib.hid HIN.out.keys.len
      have HKI : Hid (∀ V : World, Below w.heap.size w V → KeysIn V w.heap.size KA kn x.keys) := Lib.hid fun V hb => HIN.out.keys.below hb
      have HK4 : Hid (kn ≤ 400) := Lib.hid (by have := SX.out.1; have := HKN.out; omega)
      generalize bv x.tab = X at *
      generalize x.looks = lk at *
      generalize x.keys = xk at *
      generalize x.tab = xt at *
      obtain ⟨kx, c33, c34⟩ := HSS.out w3 bx I4.out
      have KX := Lib.hid kx
      clear kx
      go_wp2_with fail
      refine (HRES.out w3 _ _ ts R4.out I4.out.b).mono ?_
      rintro e w4 ⟨P, Q, rfl, hP, hQ, hd, hbel⟩
      clear KX c33 c34
      have I5 := Lib.hid (I4.out.below hbel)
      have R5 := Lib.hid (R4.out.below (hbel.mono R4.out.lt.2.2))
      have KP := Lib.hid hP
      have KQ := Lib.hid hQ
      have HLO : Hid (mb < w3.heap.size ∧ w3.heap.size ≤ w4.heap.size) := Lib.hid ⟨Nat.lt_of_lt_of_le R4.out.lt.2.1 R4.out.lt.2.2, hbel.size⟩
      clear hP hQ hd hbel I4 R4
      unfold Sl.val
      obtain ⟨kx, c33, c34⟩ := HSS.out w4 bx I5.out
      have KX := Lib.hid kx
      clear kx
      go_wp2_with (first
        | ((with_reducible show wpList _ _ _ ({ dst := some 39, op := Op.load _ _, type := _, pos := _, after := _, guard := _ } :: _) _ _); go_must (refine wpList_load_at rfl 32 (.tmp 38) rfl ⟨bx, 1, none⟩ X _ Try.underlying32 rfl HSX.out KX.out ?_ ?_; go_simp)))
      refine (HFND.out w4 _ _ ts R5.out).mono ?_
      rintro e w5 ⟨S, rfl, hS, hbel⟩
      clear KX c33 c34
      have I6 := Lib.hid (I5.out.below hbel)
      have R6 := Lib.hid (R5.out.below (hbel.mono R5.out.lt.2.2))
      have KP2 := Lib.hid (KP.out.step (Nat.le_refl _) hbel)
      have KQ2 := Lib.hid (KQ.out.step (Nat.le_refl _) hbel)
      have KS := Lib.hid hS
      have HLO2 : Hid (mb < w4.heap.size) := Lib.hid (Nat.lt_of_lt_of_le HLO.out.1 HLO.out.2)
      clear hS hbel I5 R5 KP KQ
      unfold Sl.val
      obtain ⟨kx, c33, c34⟩ := HSS.out w5 bx I6.out
      have KX := Lib.hid kx
      clear kx
      go_wp2_with (first
        | ((with_reducible show wpList _ _ _ ({ dst := some 45, op := Op.load _ _, type := _, pos := _, after := _, guard := _ } :: _) _ _); go_must (refine wpList_load_at rfl 32 (.tmp 44) rfl ⟨bx, 1, none⟩ X _ Try.underlying32 rfl HSX.out KX.out ?_ ?_; go_simp)))
      refine (HPUT.out w5 _ _ ts R6.out (by have := HLL.out; omega) I6.out.b).mono ?_
      rintro e w6 ⟨rfl, hreg, hgr⟩
      clear KX c33 c34
      have I7 := Lib.hid (I6.out.put hgr HMX.out HMB.out)
      have R7 := Lib.hid hreg
      have KP3 := Lib.hid (KP2.out.put (Nat.le_refl _) HLO.out.1 hgr)
      have KQ3 := Lib.hid (KQ2.out.put (Nat.le_refl _) HLO.out.1 hgr)
      have KS2 := Lib.hid (KS.out.put (Nat.le_refl _) HLO2.out hgr)
      clear hreg hgr I6 R6 KP2 KQ2 KS
      obtain ⟨kx, c33, c34⟩ := HSS.out w6 bx I7.out
      have KX := Lib.hid kx
      clear kx
      go_wp2_with (first
        | ((with_reducible show wpList _ _ _ ({ dst := some 52, op := Op.load _ _, type := _, pos := _, after := _, guard := _ } :: _) _ _); go_must (refine wpList_load_at rfl 32 (.tmp 51) rfl ⟨bx, 1, none⟩ X _ Try.underlying32 rfl HSX.out KX.out ?_ ?_; go_simp)))
      refine (HFND.out w6 _ _ _ R7.out).mono ?_
      rintro e w7 ⟨T, rfl, hT, hbel⟩
      clear KX c33 c34
      have I8 := Lib.hid (I7.out.below hbel)
      have R8 := Lib.hid (R7.out.below (hbel.mono R7.out.lt.2.2))
      have KP := Lib.hid (KP3.out.step (Nat.le_refl _) hbel)
      have KQ := Lib.hid (KQ3.out.step (Nat.le_refl _) hbel)
      have KS := Lib.hid (KS2.out.step (Nat.le_refl _) hbel)
      have KT := Lib.hid hT
      clear hT hbel I7 R7 KP3 KQ3 KS2
      unfold Sl.val
      obtain ⟨PA, pn, pc⟩ := P
      obtain ⟨QA, qn, qc⟩ := Q
      obtain ⟨SA', sn, sc⟩ := S
      obtain ⟨TA, tn, tc⟩ := T
      dsimp only
      obtain ⟨kx, c33, c34⟩ := HSS.out w7 bx I8.out
      have KX := Lib.hid kx
      clear kx
      have RP : Hid (resErr ts lk = 0 → resErr (putT ts xt xk) lk = 0 ∧ resW (putT ts xt xk) lk = resW ts lk ∧ resR (putT ts xt xk) lk = resR ts lk) := Lib.hid fun h => resW_put h
      rcases stay_cases ts xt xk with ⟨hm, hz, hp, hf⟩ | ⟨hm, hz, hz2, hp, hf⟩ | ⟨hm, hz, hz2, hf, hf2, hp⟩
      · rcases hz with hz | hz
        · rcases hf with hf | hf
          · have hz : kn = 0 := by rw [← HKN.out]; exact hz
            subst hz
            obtain rfl : sn = tn := by
              have h1 := KS.out.keys.len
              have h2 := KT.out.keys.len
              rw [hp] at h2
              exact h1.symm.trans h2
            have KT2 := KT.out.keys
            rw [hp] at KT2
            have HT2 := Lib.hid KT2
            rw [hf, hm, hp, hf]
            clear KT2 hp hf hm KT
            go_wp2_with fail
            refine (sameKeys _ _ sn _ _ _ w7 _ _ KS.out.keys HT2.out (Nat.le_trans KS.out.cap.1 KS.out.cap.2)).mono ?_
            rintro e w8 ⟨rfl, k8, hw8⟩
            have hb8 : Below w7.heap.size w7 w8 := by rw [hw8]; exact below_drewN (Below.refl _ _) k8
            have I9 := Lib.hid (I8.out.below hb8)
            have R9 := Lib.hid (R8.out.below (hb8.mono R8.out.lt.2.2))
            have KP' := Lib.hid (KP.out.step (Nat.le_refl _) hb8)
            have KQ' := Lib.hid (KQ.out.step (Nat.le_refl _) hb8)
            clear KP KQ hb8 hw8 c33 c34 KX
            have KP := KP'
            have KQ := KQ'
            clear KP' KQ'
            obtain ⟨kx, c33, c34⟩ := HSS.out w8 bx I9.out
            have KX := Lib.hid kx
            clear kx
            go_wp2_with fail
            refine (HRES.out w8 _ _ _ R9.out I9.out.b).mono ?_
            rintro e wu ⟨U, V', rfl, hU, hV, hd, hbel⟩
            have IU := Lib.hid (I9.out.below hbel)
            have GP := Lib.hid (KP.out.step (Nat.le_refl _) hbel)
            have GQ := Lib.hid (KQ.out.step (Nat.le_refl _) hbel)
            have KU := Lib.hid hU
            have KV := Lib.hid hV
            clear hU hV hd hbel c33 c34 KX
            obtain ⟨UA, un, uc⟩ := U
            obtain ⟨VA, vn, vc⟩ := V'
            unfold Sl.val
            dsimp only
            rcases resErr_cases ts lk with e1 | e1 | e1
            · obtain ⟨r1, r2, r3⟩ := RP.out e1
              have KU2 := KU.out
              have KV2 := KV.out
              rw [r2] at KU2
              rw [r3] at KV2
              obtain rfl : pn = un := GP.out.keys.len.symm.trans KU2.keys.len
              obtain rfl : qn = vn := GQ.out.keys.len.symm.trans KV2.keys.len
              have HU := Lib.hid KU2.keys
              have HV := Lib.hid KV2.keys
              have HPQ : Hid (pn ≤ 4000 ∧ qn ≤ 4000) := Lib.hid (by
                have := resW_len ts lk
                have h3 : (resW ts lk).length = pn := GP.out.keys.len
                have h4 : (resR ts lk).length = qn := GQ.out.keys.len
                have := SX.out.2.2
                omega)
              rw [r1, e1]
              clear r1 r2 r3 KU2 KV2 KU KV e1 RP
              go_wp2_with fail
              refine (sameKeys _ _ pn _ _ _ wu _ _ HU.out GP.out.keys (by unfold maxLen; have := HPQ.out; omega)).mono ?_
              rintro e wv ⟨rfl, kv, hwv⟩
              have BV : Hid (Below wu.heap.size wu wv) := Lib.hid (by rw [hwv]; exact below_drewN (Below.refl _ _) kv)
              clear hwv
              go_wp2_with fail
              refine (sameKeys _ _ qn _ _ _ wv _ _ (HV.out.below BV.out) (GQ.out.keys.below BV.out) (by unfold maxLen; have := HPQ.out; omega)).mono ?_
              rintro e wx ⟨rfl, kx, hwx⟩
              have BX : Hid (Below w.heap.size w wx) := Lib.hid (IU.out.b.trans ((show Below wu.heap.size wu wx by rw [hwx]; exact below_drewN BV.out kx).mono IU.out.b.size))
              clear hwx BV
              go_wp2_with fail
              refine (lives6 _).mono ?_
              rintro e w' ⟨rfl, hb⟩
              have HBB := Lib.hid (BX.out.trans (hb.mono BX.out.size))
              clear hb
              go_wp2_with fail
              go_ret
              exact ⟨rfl, HBB.out⟩
            · rw [e1]
              clear KU KV GP GQ RP e1
              go_wp2_with fail
              refine (lives6 _).mono ?_
              rintro e w' ⟨rfl, hb⟩
              have HBB := Lib.hid (IU.out.b.trans (hb.mono IU.out.b.size))
              clear hb
              go_wp2_with fail
              go_ret
              exact ⟨rfl, HBB.out⟩
            · rw [e1]
              clear KU KV GP GQ RP e1
              go_wp2_with fail
              refine (lives6 _).mono ?_
              rintro e w' ⟨rfl, hb⟩
              have HBB := Lib.hid (IU.out.b.trans (hb.mono IU.out.b.size))
              clear hb
              go_wp2_with fail
              go_ret
              exact ⟨rfl, HBB.out⟩
          · have hz : kn = 0 := by rw [← HKN.out]; exact hz
            subst hz
            rw [hf, hm, hp, hf]
            clear hf hm hp KT KS
            go_wp2_with fail
            refine (HRES.out w7 _ _ _ R8.out I8.out.b).mono ?_
            rintro e wu ⟨U, V', rfl, hU, hV, hd, hbel⟩
            have IU := Lib.hid (I8.out.below hbel)
            have GP := Lib.hid (KP.out.step (Nat.le_refl _) hbel)
            have GQ := Lib.hid (KQ.out.step (Nat.le_refl _) hbel)
            have KU := Lib.hid hU
            have KV := Lib.hid hV
            clear hU hV hd hbel c33 c34 KX
            obtain ⟨UA, un, uc⟩ := U
            obtain ⟨VA, vn, vc⟩ := V'
            unfold Sl.val
            dsimp only
            rcases resErr_cases ts lk with e1 | e1 | e1
            · obtain ⟨r1, r2, r3⟩ := RP.out e1
              have KU2 := KU.out
              have KV2 := KV.out
              rw [r2] at KU2
              rw [r3] at KV2
              obtain rfl : pn = un := GP.out.keys.len.symm.trans KU2.keys.len
              obtain rfl : qn = vn := GQ.out.keys.len.symm.trans KV2.keys.len
              have HU := Lib.hid KU2.keys
              have HV := Lib.hid KV2.keys
              have HPQ : Hid (pn ≤ 4000 ∧ qn ≤ 4000) := Lib.hid (by
                have := resW_len ts lk
                have h3 : (resW ts lk).length = pn := GP.out.keys.len
                have h4 : (resR ts lk).length = qn := GQ.out.keys.len
                have := SX.out.2.2
                omega)
              rw [r1, e1]
              clear r1 r2 r3 KU2 KV2 KU KV e1 RP
              go_wp2_with fail
              refine (sameKeys _ _ pn _ _ _ wu _ _ HU.out GP.out.keys (by unfold maxLen; have := HPQ.out; omega)).mono ?_
              rintro e wv ⟨rfl, kv, hwv⟩
              have BV : Hid (Below wu.heap.size wu wv) := Lib.hid (by rw [hwv]; exact below_drewN (Below.refl _ _) kv)
              clear hwv
              go_wp2_with fail
              refine (sameKeys _ _ qn _ _ _ wv _ _ (HV.out.below BV.out) (GQ.out.keys.below BV.out) (by unfold maxLen; have := HPQ.out; omega)).mono ?_
              rintro e wx ⟨rfl, kx, hwx⟩
              have BX : Hid (Below w.heap.size w wx) := Lib.hid (IU.out.b.trans ((show Below wu.heap.size wu wx by rw [hwx]; exact below_drewN BV.out kx).mono IU.out.b.size))
              clear hwx BV
              go_wp2_with fail
              refine (lives6 _).mono ?_
              rintro e w' ⟨rfl, hb⟩
              have HBB := Lib.hid (BX.out.trans (hb.mono BX.out.size))
              clear hb
              go_wp2_with fail
              go_ret
              exact ⟨rfl, HBB.out⟩
            · rw [e1]
              clear KU KV GP GQ RP e1
              go_wp2_with fail
              refine (lives6 _).mono ?_
              rintro e w' ⟨rfl, hb⟩
              have HBB := Lib.hid (IU.out.b.trans (hb.mono IU.out.b.size))
              clear hb
              go_wp2_with fail
              go_ret
              exact ⟨rfl, HBB.out⟩
            · rw [e1]
              clear KU KV GP GQ RP e1
              go_wp2_with fail
              refine (lives6 _).mono ?_
              rintro e w' ⟨rfl, hb⟩
              have HBB := Lib.hid (IU.out.b.trans (hb.mono IU.out.b.size))
              clear hb
              go_wp2_with fail
              go_ret
              exact ⟨rfl, HBB.out⟩
        · rcases hf with hf | hf
          · have hk : 256 < kn := by rw [← HKN.out]; exact hz
            obtain rfl : sn = tn := by
              have h1 := KS.out.keys.len
              have h2 := KT.out.keys.len
              rw [hp] at h2
              exact h1.symm.trans h2
            have KT2 := KT.out.keys
            rw [hp] at KT2
            have HT2 := Lib.hid KT2
            rw [hf, hm, hp, hf]
            clear KT2 hp hf hm KT
            go_wp2_with fail
            refine (sameKeys _ _ sn _ _ _ w7 _ _ KS.out.keys HT2.out (Nat.le_trans KS.out.cap.1 KS.out.cap.2)).mono ?_
            rintro e w8 ⟨rfl, k8, hw8⟩
            have hb8 : Below w7.heap.size w7 w8 := by rw [hw8]; exact below_drewN (Below.refl _ _) k8
            have I9 := Lib.hid (I8.out.below hb8)
            have R9 := Lib.hid (R8.out.below (hb8.mono R8.out.lt.2.2))
            have KP' := Lib.hid (KP.out.step (Nat.le_refl _) hb8)
            have KQ' := Lib.hid (KQ.out.step (Nat.le_refl _) hb8)
            clear KP KQ hb8 hw8 c33 c34 KX
            have KP := KP'
            have KQ := KQ'
            clear KP' KQ'
            obtain ⟨kx, c33, c34⟩ := HSS.out w8 bx I9.out
            have KX := Lib.hid kx
            clear kx
            go_wp2_with fail
            refine (HRES.out w8 _ _ _ R9.out I9.out.b).mono ?_
            rintro e wu ⟨U, V', rfl, hU, hV, hd, hbel⟩
            have IU := Lib.hid (I9.out.below hbel)
            have GP := Lib.hid (KP.out.step (Nat.le_refl _) hbel)
            have GQ := Lib.hid (KQ.out.step (Nat.le_refl _) hbel)
            have KU := Lib.hid hU
            have KV := Lib.hid hV
            clear hU hV hd hbel c33 c34 KX
            obtain ⟨UA, un, uc⟩ := U
            obtain ⟨VA, vn, vc⟩ := V'
            unfold Sl.val
            dsimp only
            rcases resErr_cases ts lk with e1 | e1 | e1
            · obtain ⟨r1, r2, r3⟩ := RP.out e1
              have KU2 := KU.out
              have KV2 := KV.out
              rw [r2] at KU2
              rw [r3] at KV2
              obtain rfl : pn = un := GP.out.keys.len.symm.trans KU2.keys.len
              obtain rfl : qn = vn := GQ.out.keys.len.symm.trans KV2.keys.len
              have HU := Lib.hid KU2.keys
              have HV := Lib.hid KV2.keys
              have HPQ : Hid (pn ≤ 4000 ∧ qn ≤ 4000) := Lib.hid (by
                have := resW_len ts lk
                have h3 : (resW ts lk).length = pn := GP.out.keys.len
                have h4 : (resR ts lk).length = qn := GQ.out.keys.len
                have := SX.out.2.2
                omega)
              rw [r1, e1]
              clear r1 r2 r3 KU2 KV2 KU KV e1 RP
              go_wp2_with fail
              refine (sameKeys _ _ pn _ _ _ wu _ _ HU.out GP.out.keys (by unfold maxLen; have := HPQ.out; omega)).mono ?_
              rintro e wv ⟨rfl, kv, hwv⟩
              have BV : Hid (Below wu.heap.size wu wv) := Lib.hid (by rw [hwv]; exact below_drewN (Below.refl _ _) kv)
              clear hwv
              go_wp2_with fail
              refine (sameKeys _ _ qn _ _ _ wv _ _ (HV.out.below BV.out) (GQ.out.keys.below BV.out) (by unfold maxLen; have := HPQ.out; omega)).mono ?_
              rintro e wx ⟨rfl, kx, hwx⟩
              have BX : Hid (Below w.heap.size w wx) := Lib.hid (IU.out.b.trans ((show Below wu.heap.size wu wx by rw [hwx]; exact below_drewN BV.out kx).mono IU.out.b.size))
              clear hwx BV
              go_wp2_with fail
              refine (lives6 _).mono ?_
              rintro e w' ⟨rfl, hb⟩
              have HBB := Lib.hid (BX.out.trans (hb.mono BX.out.size))
              clear hb
              go_wp2_with fail
              go_ret
              exact ⟨rfl, HBB.out⟩
            · rw [e1]
              clear KU KV GP GQ RP e1
              go_wp2_with fail
              refine (lives6 _).mono ?_
              rintro e w' ⟨rfl, hb⟩
              have HBB := Lib.hid (IU.out.b.trans (hb.mono IU.out.b.size))
              clear hb
              go_wp2_with fail
              go_ret
              exact ⟨rfl, HBB.out⟩
            · rw [e1]
              clear KU KV GP GQ RP e1
              go_wp2_with fail
              refine (lives6 _).mono ?_
              rintro e w' ⟨rfl, hb⟩
              have HBB := Lib.hid (IU.out.b.trans (hb.mono IU.out.b.size))
              clear hb
              go_wp2_with fail
              go_ret
              exact ⟨rfl, HBB.out⟩
          · have hk : 256 < kn := by rw [← HKN.out]; exact hz
            rw [hf, hm, hp, hf]
            clear hf hm hp KT KS
            go_wp2_with fail
            refine (HRES.out w7 _ _ _ R8.out I8.out.b).mono ?_
            rintro e wu ⟨U, V', rfl, hU, hV, hd, hbel⟩
            have IU := Lib.hid (I8.out.below hbel)
            have GP := Lib.hid (KP.out.step (Nat.le_refl _) hbel)
            have GQ := Lib.hid (KQ.out.step (Nat.le_refl _) hbel)
            have KU := Lib.hid hU
            have KV := Lib.hid hV
            clear hU hV hd hbel c33 c34 KX
            obtain ⟨UA, un, uc⟩ := U
            obtain ⟨VA, vn, vc⟩ := V'
            unfold Sl.val
            dsimp only
            rcases resErr_cases ts lk with e1 | e1 | e1
            · obtain ⟨r1, r2, r3⟩ := RP.out e1
              have KU2 := KU.out
              have KV2 := KV.out
              rw [r2] at KU2
              rw [r3] at KV2
              obtain rfl : pn = un := GP.out.keys.len.symm.trans KU2.keys.len
              obtain rfl : qn = vn := GQ.out.keys.len.symm.trans KV2.keys.len
              have HU := Lib.hid KU2.keys
              have HV := Lib.hid KV2.keys
              have HPQ : Hid (pn ≤ 4000 ∧ qn ≤ 4000) := Lib.hid (by
                have := resW_len ts lk
                have h3 : (resW ts lk).length = pn := GP.out.keys.len
                have h4 : (resR ts lk).length = qn := GQ.out.keys.len
                have := SX.out.2.2
                omega)
              rw [r1, e1]
              clear r1 r2 r3 KU2 KV2 KU KV e1 RP
              go_wp2_with fail
              refine (sameKeys _ _ pn _ _ _ wu _ _ HU.out GP.out.keys (by unfold maxLen; have := HPQ.out; omega)).mono ?_
              rintro e wv ⟨rfl, kv, hwv⟩
              have BV : Hid (Below wu.heap.size wu wv) := Lib.hid (by rw [hwv]; exact below_drewN (Below.refl _ _) kv)
              clear hwv
              go_wp2_with fail
              refine (sameKeys _ _ qn _ _ _ wv _ _ (HV.out.below BV.out) (GQ.out.keys.below BV.out) (by unfold maxLen; have := HPQ.out; omega)).mono ?_
              rintro e wx ⟨rfl, kx, hwx⟩
              have BX : Hid (Below w.heap.size w wx) := Lib.hid (IU.out.b.trans ((show Below wu.heap.size wu wx by rw [hwx]; exact below_drewN BV.out kx).mono IU.out.b.size))
              clear hwx BV
              go_wp2_with fail
              refine (lives6 _).mono ?_
              rintro e w' ⟨rfl, hb⟩
              have HBB := Lib.hid (BX.out.trans (hb.mono BX.out.size))
              clear hb
              go_wp2_with fail
              go_ret
              exact ⟨rfl, HBB.out⟩
            · rw [e1]
              clear KU KV GP GQ RP e1
              go_wp2_with fail
              refine (lives6 _).mono ?_
              rintro e w' ⟨rfl, hb⟩
              have HBB := Lib.hid (IU.out.b.trans (hb.mono IU.out.b.size))
              clear hb
              go_wp2_with fail
              go_ret
              exact ⟨rfl, HBB.out⟩
            · rw [e1]
              clear KU KV GP GQ RP e1
              go_wp2_with fail
              refine (lives6 _).mono ?_
              rintro e w' ⟨rfl, hb⟩
              have HBB := Lib.hid (IU.out.b.trans (hb.mono IU.out.b.size))
              clear hb
              go_wp2_with fail
              go_ret
              exact ⟨rfl, HBB.out⟩
      · have hk1 : 1 ≤ kn := by rw [← HKN.out]; exact hz
        have hk2 : kn ≤ 256 := by rw [← HKN.out]; exact hz2
        obtain rfl : sn = tn := by
          have h1 := KS.out.keys.len
          have h2 := KT.out.keys.len
          rw [hp] at h2
          exact h1.symm.trans h2
        have KT2 := KT.out.keys
        rw [hp] at KT2
        have HT2 := Lib.hid KT2
        rw [hf, hm, hp, hf]
        clear KT2 hp hf hm KT
        go_wp2_with fail
        refine (sameKeys _ _ sn _ _ _ w7 _ _ KS.out.keys HT2.out (Nat.le_trans KS.out.cap.1 KS.out.cap.2)).mono ?_
        rintro e w8 ⟨rfl, k8, hw8⟩
        have hb8 : Below w7.heap.size w7 w8 := by rw [hw8]; exact below_drewN (Below.refl _ _) k8
        have I9 := Lib.hid (I8.out.below hb8)
        have R9 := Lib.hid (R8.out.below (hb8.mono R8.out.lt.2.2))
        have KP' := Lib.hid (KP.out.step (Nat.le_refl _) hb8)
        have KQ' := Lib.hid (KQ.out.step (Nat.le_refl _) hb8)
        clear KP KQ hb8 hw8 c33 c34 KX
        have KP := KP'
        have KQ := KQ'
        clear KP' KQ'
        obtain ⟨kx, c33, c34⟩ := HSS.out w8 bx I9.out
        have KX := Lib.hid kx
        clear kx
        go_wp2_with fail
        refine (HRES.out w8 _ _ _ R9.out I9.out.b).mono ?_
        rintro e wu ⟨U, V', rfl, hU, hV, hd, hbel⟩
        have IU := Lib.hid (I9.out.below hbel)
        have GP := Lib.hid (KP.out.step (Nat.le_refl _) hbel)
        have GQ := Lib.hid (KQ.out.step (Nat.le_refl _) hbel)
        have KU := Lib.hid hU
        have KV := Lib.hid hV
        clear hU hV hd hbel c33 c34 KX
        obtain ⟨UA, un, uc⟩ := U
        obtain ⟨VA, vn, vc⟩ := V'
        unfold Sl.val
        dsimp only
        rcases resErr_cases ts lk with e1 | e1 | e1
        · obtain ⟨r1, r2, r3⟩ := RP.out e1
          have KU2 := KU.out
          have KV2 := KV.out
          rw [r2] at KU2
          rw [r3] at KV2
          obtain rfl : pn = un := GP.out.keys.len.symm.trans KU2.keys.len
          obtain rfl : qn = vn := GQ.out.keys.len.symm.trans KV2.keys.len
          have HU := Lib.hid KU2.keys
          have HV := Lib.hid KV2.keys
          have HPQ : Hid (pn ≤ 4000 ∧ qn ≤ 4000) := Lib.hid (by
            have := resW_len ts lk
            have h3 : (resW ts lk).length = pn := GP.out.keys.len
            have h4 : (resR ts lk).length = qn := GQ.out.keys.len
            have := SX.out.2.2
            omega)
          rw [r1, e1]
          clear r1 r2 r3 KU2 KV2 KU KV e1 RP
          go_wp2_with fail
          refine (sameKeys _ _ pn _ _ _ wu _ _ HU.out GP.out.keys (by unfold maxLen; have := HPQ.out; omega)).mono ?_
          rintro e wv ⟨rfl, kv, hwv⟩
          have BV : Hid (Below wu.heap.size wu wv) := Lib.hid (by rw [hwv]; exact below_drewN (Below.refl _ _) kv)
          clear hwv
          go_wp2_with fail
          refine (sameKeys _ _ qn _ _ _ wv _ _ (HV.out.below BV.out) (GQ.out.keys.below BV.out) (by unfold maxLen; have := HPQ.out; omega)).mono ?_
          rintro e wx ⟨rfl, kx, hwx⟩
          have BX : Hid (Below w.heap.size w wx) := Lib.hid (IU.out.b.trans ((show Below wu.heap.size wu wx by rw [hwx]; exact below_drewN BV.out kx).mono IU.out.b.size))
          clear hwx BV
          go_wp2_with fail
          refine (lives6 _).mono ?_
          rintro e w' ⟨rfl, hb⟩
          have HBB := Lib.hid (BX.out.trans (hb.mono BX.out.size))
          clear hb
          go_wp2_with fail
          go_ret
          exact ⟨rfl, HBB.out⟩
        · rw [e1]
          clear KU KV GP GQ RP e1
          go_wp2_with fail
          refine (lives6 _).mono ?_
          rintro e w' ⟨rfl, hb⟩
          have HBB := Lib.hid (IU.out.b.trans (hb.mono IU.out.b.size))
          clear hb
          go_wp2_with fail
          go_ret
          exact ⟨rfl, HBB.out⟩
        · rw [e1]
          clear KU KV GP GQ RP e1
          go_wp2_with fail
          refine (lives6 _).mono ?_
          rintro e w' ⟨rfl, hb⟩
          have HBB := Lib.hid (IU.out.b.trans (hb.mono IU.out.b.size))
          clear hb
          go_wp2_with fail
          go_ret
          exact ⟨rfl, HBB.out⟩
      · have hk1 : 1 ≤ kn := by rw [← HKN.out]; exact hz
        have hk2 : kn ≤ 256 := by rw [← HKN.out]; exact hz2
        obtain rfl : kn = tn := by
          have h2 := KT.out.keys.len
          rw [hp] at h2
          exact HKN.out.symm.trans h2
        have KT2 := KT.out.keys
        rw [hp] at KT2
        have HT2 := Lib.hid KT2
        rw [hf, hm, hf2]
        clear KT2 hp hf hm hf2 KT
        go_wp2_with fail
        refine (sameKeys _ _ kn _ _ _ w7 _ _ HT2.out (HKI.out w7 I8.out.b) (by unfold maxLen; omega)).mono ?_
        rintro e w8 ⟨rfl, k8, hw8⟩
        have hb8 : Below w7.heap.size w7 w8 := by rw [hw8]; exact below_drewN (Below.refl _ _) k8
        have I9 := Lib.hid (I8.out.below hb8)
        have R9 := Lib.hid (R8.out.below (hb8.mono R8.out.lt.2.2))
        have KP' := Lib.hid (KP.out.step (Nat.le_refl _) hb8)
        have KQ' := Lib.hid (KQ.out.step (Nat.le_refl _) hb8)
        clear KP KQ hb8 hw8 c33 c34 KX
        have KP := KP'
        have KQ := KQ'
        clear KP' KQ'
        obtain ⟨kx, c33, c34⟩ := HSS.out w8 bx I9.out
        have KX := Lib.hid kx
        clear kx
        go_wp2_with fail
        refine (HRES.out w8 _ _ _ R9.out I9.out.b).mono ?_
        rintro e wu ⟨U, V', rfl, hU, hV, hd, hbel⟩
        have IU := Lib.hid (I9.out.below hbel)
        have GP := Lib.hid (KP.out.step (Nat.le_refl _) hbel)
        have GQ := Lib.hid (KQ.out.step (Nat.le_refl _) hbel)
        have KU := Lib.hid hU
        have KV := Lib.hid hV
        clear hU hV hd hbel c33 c34 KX
        obtain ⟨UA, un, uc⟩ := U
        obtain ⟨VA, vn, vc⟩ := V'
        unfold Sl.val
        dsimp only
        rcases resErr_cases ts lk with e1 | e1 | e1
        · obtain ⟨r1, r2, r3⟩ := RP.out e1
          have KU2 := KU.out
          have KV2 := KV.out
          rw [r2] at KU2
          rw [r3] at KV2
          obtain rfl : pn = un := GP.out.keys.len.symm.trans KU2.keys.len
          obtain rfl : qn = vn := GQ.out.keys.len.symm.trans KV2.keys.len
          have HU := Lib.hid KU2.keys
          have HV := Lib.hid KV2.keys
          have HPQ : Hid (pn ≤ 4000 ∧ qn ≤ 4000) := Lib.hid (by
            have := resW_len ts lk
            have h3 : (resW ts lk).length = pn := GP.out.keys.len
            have h4 : (resR ts lk).length = qn := GQ.out.keys.len
            have := SX.out.2.2
            omega)
          rw [r1, e1]
          clear r1 r2 r3 KU2 KV2 KU KV e1 RP
          go_wp2_with fail
          refine (sameKeys _ _ pn _ _ _ wu _ _ HU.out GP.out.keys (by unfold maxLen; have := HPQ.out; omega)).mono ?_
          rintro e wv ⟨rfl, kv, hwv⟩
          have BV : Hid (Below wu.heap.size wu wv) := Lib.hid (by rw [hwv]; exact below_drewN (Below.refl _ _) kv)
          clear hwv
          go_wp2_with fail
          refine (sameKeys _ _ qn _ _ _ wv _ _ (HV.out.below BV.out) (GQ.out.keys.below BV.out) (by unfold maxLen; have := HPQ.out; omega)).mono ?_
          rintro e wx ⟨rfl, kx, hwx⟩
          have BX : Hid (Below w.heap.size w wx) := Lib.hid (IU.out.b.trans ((show Below wu.heap.size wu wx by rw [hwx]; exact below_drewN BV.out kx).mono IU.out.b.size))
          clear hwx BV
          go_wp2_with fail
          refine (lives6 _).mono ?_
          rintro e w' ⟨rfl, hb⟩
          have HBB := Lib.hid (BX.out.trans (hb.mono BX.out.size))
          clear hb
          go_wp2_with fail
          go_ret
          exact ⟨rfl, HBB.out⟩
        · rw [e1]
          clear KU KV GP GQ RP e1
          go_wp2_with fail
          refine (lives6 _).mono ?_
          rintro e w' ⟨rfl, hb⟩
          have HBB := Lib.hid (IU.out.b.trans (hb.mono IU.out.b.size))
          clear hb
          go_wp2_with fail
          go_ret
          exact ⟨rfl, HBB.out⟩
        · rw [e1]
          clear KU KV GP GQ RP e1
          go_wp2_with fail
          refine (lives6 _).mono ?_
          rintro e w' ⟨rfl, hb⟩
          have HBB := Lib.hid (IU.out.b.trans (hb.mono IU.out.b.size))
          clear hb
          go_wp2_with fail
          go_ret
          exact ⟨rfl, HBB.out⟩
end Go.Proofs.Ytdbcbjjomhbhpaa

/-
  Of part WholeWalk: what is needed here.
-/
namespace Go.Proofs.Ytdbcbjjomhbhpaa
open Go.RowKit
set_option linter.unusedVariables false
/-- the numbers from 0 on -/
def allI (n : Nat) : List Int := (List.range n).map Int.ofNat
theorem allI_succ (n : Nat) : allI (n + 1) = allI n ++ [(n : Int)] := by unfold allI; rw [List.range_succ, List.map_append]; rfl
theorem allI_len (n : Nat) : (allI n).length = n := by simp [allI]
theorem allI_bytes {n : Nat} (h : n ≤ 256) : AllBytes (allI n) := by
  intro z hz
  unfold allI at hz
  obtain ⟨k, hk, rfl⟩ := List.mem_map.1 hz
  have := List.mem_range.1 hk
  show 0 ≤ (k : Int) ∧ (k : Int) < 256
  omega
theorem allI_any (n : Nat) : (allI n).any (out6 n) = false := by
  rw [List.any_eq_false]
  intro z hz
  unfold allI at hz
  obtain ⟨k, hk, rfl⟩ := List.mem_map.1 hz
  have := List.mem_range.1 hk
  simp only [out6, decide_eq_true_eq]
  show ¬ (n : Int) ≤ (k : Int)
  omega
theorem pick_all (l : List (List Int)) : pickK l (allI l.length) = l := by
  unfold pickK allI
  refine List.ext_getElem (by simp) fun i h1 h2 => ?_
  simp [h2]
theorem res_whole {ts : List LTab} {t : List Int} {l : List (List Int)} (h : findT ts t = some l) : resErr ts [⟨t, allI l.length, []⟩, ⟨t, [], allI l.length⟩] = 0 ∧ resW ts [⟨t, allI l.length, []⟩, ⟨t, [], allI l.length⟩] = l ∧ resR ts [⟨t, allI l.length, []⟩, ⟨t, [], allI l.length⟩] = l := by
  have h1 : errL ts ⟨t, allI l.length, []⟩ = 0 := by unfold errL; simp only [h, allI_any]; rfl
  have h2 : errL ts ⟨t, [], allI l.length⟩ = 0 := by unfold errL; simp only [h, allI_any]; rfl
  have hk : fKeys ts t = l := by unfold fKeys; rw [h]; rfl
  have h3 : resErr ts [⟨t, allI l.length, []⟩, ⟨t, [], allI l.length⟩] = 0 := by simp only [resErr, h1, h2, if_true]
  refine ⟨h3, ?_, ?_⟩
  · unfold resW; rw [if_pos h3]
    simp only [List.flatMap_cons, List.flatMap_nil, List.append_nil]
    unfold wrL
    rw [hk, pick_all]
    simp [pickK]
  · unfold resR; rw [if_pos h3]
    simp only [List.flatMap_cons, List.flatMap_nil, List.append_nil]
    unfold rdL
    rw [hk, pick_all]
    simp [pickK]
theorem res_beyond {ts : List LTab} {t : List Int} {l : List (List Int)} (h : findT ts t = some l) : resErr ts [⟨t, [(l.length : Int)], []⟩] = 8 := by
  have h1 : errL ts ⟨t, [(l.length : Int)], []⟩ = 8 := by unfold errL; simp [h, out6]
  simp [resErr, h1]
theorem res_none {ts : List LTab} {t : List Int} (h : findT ts t = none) : resErr ts [⟨t, [], []⟩] = 11 := by
  have h1 : errL ts ⟨t, [], []⟩ = 11 := by unfold errL; simp [h]
  simp [resErr, h1]
theorem built_look0 (l : List Value) (hl : l.length = 32) : Try.prog.built 60 [(0, .agg l.toArray)] = some (l ++ [Value.slice none 0 0, .slice none 0 0]).toArray := by
  obtain ⟨f, rfl⟩ : ∃ f : Fin 32 → Value, l = List.ofFn f := ⟨fun i => l.getD i undef, by
    refine List.ext_getElem (by simpa using hl) fun i h1 h2 => ?_
    rw [List.getElem_ofFn, List.getD_eq_getElem?_getD, List.getElem?_eq_getElem h1]
    rfl⟩
  kernel_rfl
theorem built_look1 (l : List Value) (hl : l.length = 32) (A2 : Option Addr) (n2 c2 : Nat) : Try.prog.built 60 [(0, .agg l.toArray), (1, .slice A2 n2 c2)] = some (l ++ [Value.slice A2 n2 c2, .slice none 0 0]).toArray := by
  obtain ⟨f, rfl⟩ : ∃ f : Fin 32 → Value, l = List.ofFn f := ⟨fun i => l.getD i undef, by
    refine List.ext_getElem (by simpa using hl) fun i h1 h2 => ?_
    rw [List.getElem_ofFn, List.getD_eq_getElem?_getD, List.getElem?_eq_getElem h1]
    rfl⟩
  kernel_rfl
theorem look_two {w : World} {gl : Nat} {tl : TypeId} {tab wr rd wr' rd' : List Int} {v1 v2 v3 v4 : Value} (hl : Row w gl tl ((bv tab ++ [v1, v2]) ++ (bv tab ++ [v3, v4]))) (ht : tab.length = 32) (h1 : BytesIn w w.heap.size v1 wr) (h2 : BytesIn w w.heap.size v2 rd) (h3 : BytesIn w w.heap.size v3 wr') (h4 : BytesIn w w.heap.size v4 rd') : LooksIn w w.heap.size (some ⟨gl, 0, none⟩) 2 [⟨tab, wr, rd⟩, ⟨tab, wr', rd'⟩] :=
  have hlen : (bv tab ++ [v1, v2]).length = 34 := by simp [bv_length, ht]
  ⟨rfl, fun i x hx => by
    match i, hx with
    | 0, hx =>
      cases hx
      refine ⟨_, v1, v2, rfl, hl.lt, fun j u hu => ?_, ht, h1, h2⟩
      rw [addr_row]
      simp only [Nat.zero_mul, Nat.zero_add]
      rw [hl.cell, List.getElem?_append_left (List.getElem?_eq_some_iff.1 hu).1]
      exact hu
    | 1, hx =>
      cases hx
      refine ⟨_, v3, v4, rfl, hl.lt, fun j u hu => ?_, ht, h3, h4⟩
      rw [addr_row]
      simp only [Nat.one_mul, Nat.zero_add]
      rw [hl.cell, List.getElem?_append_right (by omega), hlen, Nat.add_sub_cancel_left]
      exact hu⟩
theorem bytes_own {w : World} {base : Nat} {v : Value} {xs : List Int} (h : OwnB w base v xs) : BytesIn w w.heap.size v xs := by
  obtain ⟨A, c, rfl, h1, h2, h3, _⟩ := own_form2 h
  exact ⟨A, c, rfl, by rw [Nat.mul_one] at h1; exact h1, h2, h3⟩
/-- what stays: the key -/
structure TIn (w0 V : World) (bt : Nat) (X : List Value) : Prop where
  x : Row V bt 32 X
  b : Below w0.heap.size w0 V
theorem TIn.below {w0 V V' : World} {bx : Nat} {cs : List Value} (h : TIn w0 V bx cs) (hb : Below V.heap.size V V') : TIn w0 V' bx cs := ⟨h.x.below hb h.x.lt, h.b.trans (hb.mono h.b.size)⟩
set_option maxRecDepth 100000 in
set_option maxHeartbeats 16000000 in
theorem whole_walk (A : Option Addr) (n c : Nat) (l : List LAct) (z : Int) (w : World)
    (hl : ActsIn w w.heap.size A n l) (hok : ∀ y ∈ l, ActOk y) (hn : l.length ≤ 140737488355328) (hnc : n ≤ c ∧ c ≤ maxLen) (hz : (Lit.int IntKind.u8 z).wf = true) :
    Calls Try.prog 7 #[.slice A n c, .int .u8 z] w fun e w' => e = .returned (.bool true) ∧ Below w.heap.size w w' := by
  have hnl := hl.len
  have HL := Lib.hid hl
  have HK := Lib.hid hok
  have LN := Lib.hid hnl
  obtain ⟨z0, z1⟩ : 0 ≤ z ∧ z < 256 := byte_wf hz
  have HG := Lib.hid (great6 A n c _ l w hl (Nat.le_refl _) (by rw [← hnl]; exact hn) hok)
  have HNC := Lib.hid hnc
  clear hl hok hn hnl hnc hz
  go_enter Try.func7, Try.ntmps7
  go_wp2_with fail
  refine HG.out.mono ?_
  rintro e w1 ⟨⟨b, rfl, hb⟩, hbel⟩
  have B1 := Lib.hid hbel
  have SM := Lib.hid hb
  clear hb hbel HG
  cases b with
  | true =>
    go_wp2_with fail
    refine (lives6 _).mono ?_
    rintro e w' ⟨rfl, hb⟩
    have HBB := Lib.hid (B1.out.trans (hb.mono B1.out.size))
    clear hb
    go_wp2_with fail
    go_ret
    exact ⟨rfl, HBB.out⟩
  | false =>
    have SA := Lib.hid (SM.out rfl)
    clear SM
    by_cases h0 : n = 0
    · subst h0
      go_wp2_with fail
      refine (lives6 _).mono ?_
      rintro e w' ⟨rfl, hb⟩
      have HBB := Lib.hid (B1.out.trans (hb.mono B1.out.size))
      clear hb
      go_wp2_with fail
      go_ret
      exact ⟨rfl, HBB.out⟩
    have hn1 : 1 ≤ n := by omega
    have hne : ((n : Int) == 0) = false := by simp; omega
    have hne2 : ¬ ((n : Int) = 0) := by omega
    have hn80 : n ≤ 80 := by rw [← LN.out]; exact SA.out.1
    have HM := Lib.hid (made_ A n c _ l w1 (HL.out.below B1.out) B1.out.size hn80 HK.out)
    go_wp2_with fail
    refine HM.out.mono ?_
    rintro e w2 ⟨rb, mb, rfl, hreg, hrb, hmb, hbel⟩
    have B2 := Lib.hid (B1.out.trans (hbel.mono B1.out.size))
    have R2 := Lib.hid hreg
    clear HM hreg hrb hmb hbel B1
    obtain ⟨k, hk⟩ : ∃ k : Nat, z.tmod (n : Int) = (k : Int) := ⟨(z.tmod (n : Int)).toNat, by
      have := Int.tmod_nonneg (n : Int) z0
      omega⟩
    have hkn : k < n := by
      have := Int.tmod_lt_of_pos z (b := (n : Int)) (by omega)
      omega
    obtain ⟨a, q, x, rfl, hab, hx, hcs, hin⟩ := (HL.out.below B2.out).get hkn
    have hx0 := HK.out x (List.mem_of_getElem? hx)
    have HSX := Lib.hid (show (Try.prog.info? 32).map (·.size) = some (bv x.tab).length by rw [bv_length, hin.tab]; exact size_key)
    have HXL : Hid ((bv x.tab).length = 32) := Lib.hid (by rw [bv_length, hin.tab])
    have KX : Hid (∀ j u, (bv x.tab)[j]? = some u → w2.cell? ((⟨(a.add (k * 35)).block, (a.add (k * 35)).off + 1, none⟩ : Addr).add j) = some u) := Lib.hid fun j u hu => by
      have := hcs (1 + j) u (acells_tab hu)
      rw [← addr_add] at this
      rwa [show ((a.add (k * 35)).add 1).add j = (⟨(a.add (k * 35)).block, (a.add (k * 35)).off + 1, none⟩ : Addr).add j from rfl] at this
    have HXO := Lib.hid (bv_one x.tab)
    have HKY := Lib.hid hx0.tab
    have HTB : Hid (x.tab.length = 32) := Lib.hid hin.tab
    clear hx hcs hin hx0 HL HK
    generalize madeT l = ts at *
    generalize l.length = nts at *
    have HFND : Hid (∀ (V : World) hi j, Reg V rb mb hi j ts → Calls Try.prog 18 #[.pointer (some ⟨rb, 0, none⟩), .agg (bv x.tab).toArray] V (FindDone V ts x.tab)) := Lib.hid fun V hi j h =>
      findReg rb mb _ _ ts x.tab V h HKY.out
    have HRES : Hid (∀ (V : World) hi j g m cc ls, Reg V rb mb hi j ts → LooksIn V V.heap.size (some ⟨g, 0, none⟩) m ls → (∀ y ∈ ls, y.tab = x.tab ∧ AllBytes y.wr ∧ AllBytes y.rd) → m ≤ 4000 → lookSize ls ≤ 4000 → Calls Try.prog 21 #[.pointer (some ⟨rb, 0, none⟩), .slice (some ⟨g, 0, none⟩) m cc] V (ResDone V ts ls)) := Lib.hid fun V hi j g m cc ls h hl ho hm hs =>
      resolveReg rb mb hi j ts _ m cc _ ls V h hl (Nat.le_refl _) (fun y hy => by obtain ⟨e1, e2, e3⟩ := ho y hy; exact ⟨by rw [e1]; exact HKY.out, e2, e3⟩) hm hs
    have HLK : Hid (∀ {V : World} {gl : Nat} {tl : TypeId} {wr rd : List Int} {v1 v2 : Value}, Row V gl tl (bv x.tab ++ [v1, v2]) → BytesIn V V.heap.size v1 wr → BytesIn V V.heap.size v2 rd → LooksIn V V.heap.size (some ⟨gl, 0, none⟩) 1 [⟨x.tab, wr, rd⟩]) := Lib.hid fun hr h1 h2 => look_lone hr HTB.out h1 h2
    have HLK2 : Hid (∀ {V : World} {gl : Nat} {tl : TypeId} {wr rd wr' rd' : List Int} {v1 v2 v3 v4 : Value}, Row V gl tl ((bv x.tab ++ [v1, v2]) ++ (bv x.tab ++ [v3, v4])) → BytesIn V V.heap.size v1 wr → BytesIn V V.heap.size v2 rd → BytesIn V V.heap.size v3 wr' → BytesIn V V.heap.size v4 rd' → LooksIn V V.heap.size (some ⟨gl, 0, none⟩) 2 [⟨x.tab, wr, rd⟩, ⟨x.tab, wr', rd'⟩]) := Lib.hid fun hr h1 h2 h3 h4 => look_two hr HTB.out h1 h2 h3 h4
    clear HKY HTB
    generalize bv x.tab = X at *
    generalize x.tab = xt at *
    have hkc : k < c := by have := HNC.out.1; omega
    have ZZ := Lib.hid hab
    clear hab
    go_wp2_with (first
      | ((with_reducible show wpList _ _ _ ({ dst := some 38, op := Op.load _ _, type := _, pos := _, after := _, guard := _ } :: _) _ _); go_must (refine wpList_load_at rfl 32 (.tmp 37) rfl ⟨(a.add (k * 35)).block, (a.add (k * 35)).off + 1, none⟩ X _ Try.underlying32 rfl HSX.out KX.out ?_ ?_; go_simp))
      | (with_reducible show wpList _ _ _ ({ dst := none, op := Op.store 32 _ _, type := _, pos := _, after := _, guard := _ } :: _) _ _; go_must (refine wpList_store_new rfl 32 (.tmp 6) (.tmp 38) rfl X HSX.out HXO.out (by rw [HXL.out]; kernel_rfl) ?_ ?_ ?_; go_simp; go_simp; intro w3 hr3 hb3 hz3; have RX3 := Lib.hid hr3; have BX3 := Lib.hid hb3; clear hr3 hb3 hz3))
      | ((with_reducible show wpList _ _ _ ({ dst := some 41, op := Op.load _ _, type := _, pos := _, after := _, guard := _ } :: _) _ _); go_must (refine wpList_load_whole rfl 32 (.tmp 6) rfl _ 32 X _ Try.underlying32 rfl HSX.out RX3.out ?_ ?_; go_simp)))
    have T3 : Hid (TIn w w3 w2.heap.size X) := Lib.hid ⟨RX3.out, B2.out.trans (BX3.out.mono B2.out.size)⟩
    have R3 := Lib.hid (R2.out.below (BX3.out.mono R2.out.lt.2.2))
    clear RX3 BX3 R2 B2 KX ZZ hk hkn hkc
    generalize w2.heap.size = bt at *
    refine (HFND.out w3 _ _ R3.out).mono ?_
    rintro e w4 ⟨S, rfl, hS, hbel⟩
    have T4 := Lib.hid (T3.out.below hbel)
    have R4 := Lib.hid (R3.out.below (hbel.mono R3.out.lt.2.2))
    have KS := Lib.hid hS
    clear hS hbel T3 R3 HFND
    obtain ⟨SA', sn, sc⟩ := S
    unfold Sl.val
    dsimp only
    cases hf : findT ts xt with
    | none =>
      have hfe : fErr ts xt = 11 := by unfold fErr; rw [hf]; rfl
      rw [hfe]
      clear hfe
      go_wp2_with (first
        | ((with_reducible show wpList _ _ _ ({ dst := some 49, op := Op.load _ _, type := _, pos := _, after := _, guard := _ } :: _) _ _); go_must (refine wpList_load_whole rfl 32 (.tmp 6) rfl _ 32 X _ Try.underlying32 rfl HSX.out T4.out.x ?_ ?_; go_simp))
        | ((with_reducible show wpList _ _ _ ({ dst := some 50, op := Op.build _ _, type := _, pos := _, after := _, guard := _ } :: _) _ _); go_must (refine wpList_plain rfl fun K hK => wp_built _ _ _ rfl (by simp only [List.map_toArray, List.map_cons, List.map_nil]; exact built_look0 X HXL.out) (hK _ _ ?_)))
        | ((with_reducible show wpList _ _ _ ({ dst := some 51, op := Op.buildSlice _ _ _, type := _, pos := _, after := _, guard := _ } :: _) _ _); go_must (refine wpList_buildOne rfl 34 60 (.tmp 50) rfl (X ++ [Value.slice none 0 0, .slice none 0 0]) _ 34 80 Try.underlying34 info_look6 zsz_look6 (by omega) (by omega) (by rw [List.length_append, HXL.out]; rfl) ?_ ?_; go_simp)))
      have hr5 := Row.new w4 60 (X ++ [Value.slice none 0 0, .slice none 0 0])
      have hb5 : Below w4.heap.size w4 (w4.alloc (.cells (X ++ [Value.slice none 0 0, .slice none 0 0]).toArray 60)) := (Below.refl _ _).alloc (Nat.le_refl _) _
      have T5 := Lib.hid (T4.out.below hb5)
      have R5 := Lib.hid (R4.out.below (hb5.mono R4.out.lt.2.2))
      have RL := Lib.hid hr5
      clear hr5 hb5
      generalize w4.alloc (.cells (X ++ [Value.slice none 0 0, .slice none 0 0]).toArray 60) = W5 at *
      generalize w4.heap.size = g5 at *
      refine (HRES.out W5 _ _ g5 1 _ [⟨xt, [], []⟩] R5.out (HLK.out RL.out (bytes_none _) (bytes_none _)) (fun y hy => by obtain rfl := List.mem_singleton.1 hy; exact ⟨rfl, fun _ h => (by cases h), fun _ h => (by cases h)⟩) (by omega) (by simp [lookSize])).mono ?_
      rintro e w6 ⟨P, Q, rfl, hP, hQ, hd, hbel⟩
      have T6 := Lib.hid (T5.out.below hbel)
      clear hP hQ hd hbel
      rw [res_none hf]
      unfold Sl.val
      go_wp2_with fail
      refine (lives6 _).mono ?_
      rintro e w' ⟨rfl, hb⟩
      have HBB := Lib.hid (T6.out.b.trans (hb.mono T6.out.b.size))
      clear hb
      go_wp2_with fail
      go_ret
      exact ⟨rfl, HBB.out⟩
    | some L =>
      have hfe : fErr ts xt = 0 := by unfold fErr; rw [hf]; rfl
      have hfk : fKeys ts xt = L := by unfold fKeys; rw [hf]; rfl
      rw [hfe]
      rw [hfk] at KS
      obtain ⟨_, hL1, hL2⟩ := R4.out.good.find hf
      obtain rfl : L.length = sn := KS.out.keys.len
      have HRW := Lib.hid (res_whole hf)
      have HRB := Lib.hid (res_beyond hf)
      clear hfe hfk hf
      have KSK := Lib.hid KS.out.keys
      generalize hsn : L.length = sn at *
      clear hsn KS
      go_wp2_with fail
      go_loopw [12, 13] (fun u i wr => ∃ j : Nat, j ≤ sn ∧ i = .int .i64 j ∧ OwnB wr w4.heap.size u (allI j) ∧ Below w4.heap.size w4 wr) (fun u i _ => sn - (intOf i).toNat)
      case atStart => exact ⟨0, Nat.zero_le _, rfl, OwnB.nil _ _, Below.refl _ _⟩
      case round =>
        obtain ⟨j, hj, rfl, hown, hbw⟩ := hrel
        have HO := Lib.hid hown
        have HB := Lib.hid hbw
        clear hown hbw
        by_cases hlt : j < sn
        · have HZ := Lib.hid HB.out.size
          have HON : Hid (wr.ownsRow w4.heap.size 5 1 u12 j (bv (allI j))) := Lib.hid (by have := HO.out; unfold OwnB at this; rwa [allI_len] at this)
          go_wp2_with ((with_reducible show wpList _ _ _ ({ dst := some 71, op := _, type := _, pos := _, after := _, guard := _ } :: _) _ _); go_must (refine wpList_appendN rfl (.tmp 67) (.tmp 70) 58 5 (.int .u8 0) 1 1 rfl Try.underlying58 info_u8 rfl (by omega) u12 j (bv (allI j)) w4.heap.size (wr.heap.size + 1) (some ⟨wr.heap.size, 0, none⟩) 1 1 [.int .u8 j] ?_ (World.ownsRow.alloc HON.out _) ?_ ((Row.new wr 5 [.int .u8 j]).sees0.more (by simp)) (by intro v hv; obtain rfl := List.mem_singleton.1 hv; rfl) (by unfold maxLen; omega) (by omega) (by have := HZ.out; simp; omega) ?_; go_simp; go_simp; intro v2 u2 ho2 hg2; have HO2 := Lib.hid ho2; have HB2 := Lib.hid (((HB.out.alloc HZ.out _).trans (hg2.below (World.ownsRow.alloc HON.out _) (by have := HZ.out; simp; omega)))); clear ho2 hg2))
          go_roundw
          case rel => exact ⟨j + 1, by omega, by go_num, by unfold OwnB; rw [allI_len, allI_succ, bv_append]; exact HO2.out, HB2.out⟩
          case measure => simp [intOf]; omega
        · have hjn : j = sn := by omega
          subst hjn
          have TR := Lib.hid (T4.out.below HB.out)
          have RR := Lib.hid (R4.out.below (HB.out.mono R4.out.lt.2.2))
          have KR := Lib.hid (KSK.out.below HB.out)
          have KB := Lib.hid HB.out.size
          have BY := Lib.hid (bytes_own HO.out)
          obtain ⟨AA, ac, rfl⟩ := HO.out.form
          rw [allI_len] at BY HO ⊢
          clear HO HB T4 R4 KSK hj hlt
          generalize w4.heap.size = hi4 at *
          go_wp2_with (first
            | ((with_reducible show wpList _ _ _ ({ dst := some 74, op := Op.load _ _, type := _, pos := _, after := _, guard := _ } :: _) _ _); go_must (refine wpList_load_whole rfl 32 (.tmp 6) rfl _ 32 X _ Try.underlying32 rfl HSX.out TR.out.x ?_ ?_; go_simp))
            | ((with_reducible show wpList _ _ _ ({ dst := some 77, op := Op.load _ _, type := _, pos := _, after := _, guard := _ } :: _) _ _); go_must (refine wpList_load_whole rfl 32 (.tmp 6) rfl _ 32 X _ Try.underlying32 rfl HSX.out TR.out.x ?_ ?_; go_simp))
            | ((with_reducible show wpList _ _ _ ({ dst := some 76, op := Op.build _ _, type := _, pos := _, after := _, guard := _ } :: _) _ _); go_must (refine wpList_plain rfl fun K hK => wp_built _ _ _ rfl (by simp only [List.map_toArray, List.map_cons, List.map_nil]; exact built_look1 X HXL.out _ _ _) (hK _ _ ?_)))
            | ((with_reducible show wpList _ _ _ ({ dst := some 79, op := Op.build _ _, type := _, pos := _, after := _, guard := _ } :: _) _ _); go_must (refine wpList_plain rfl fun K hK => wp_built _ _ _ rfl (by simp only [List.map_toArray, List.map_cons, List.map_nil]; exact built_look6 X HXL.out _ _ _) (hK _ _ ?_)))
            | ((with_reducible show wpList _ _ _ ({ dst := some 80, op := Op.buildSlice _ _ _, type := _, pos := _, after := _, guard := _ } :: _) _ _); go_must (refine wpList_buildTwo rfl 34 60 (.tmp 76) (.tmp 79) rfl (X ++ [Value.slice AA j ac, .slice none 0 0]) (X ++ [Value.slice none 0 0, .slice AA j ac]) _ 34 80 Try.underlying34 info_look6 zsz_look6 (by omega) (by omega) (by rw [List.length_append, HXL.out]; rfl) (by rw [List.length_append, HXL.out]; rfl) ?_ ?_ ?_; go_simp; go_simp)))
          obtain ⟨C5, hC5⟩ : ∃ C5, C5 = (X ++ [Value.slice AA j ac, .slice none 0 0]) ++ (X ++ [Value.slice none 0 0, .slice AA j ac]) := ⟨_, rfl⟩
          rw [show X ++ Value.slice AA j ac :: Value.slice none 0 0 :: (X ++ [Value.slice none 0 0, Value.slice AA j ac]) = C5 by rw [hC5]; simp]
          have hr5 := Row.new wr 60 C5
          have hb5 : Below wr.heap.size wr (wr.alloc (.cells C5.toArray 60)) := (Below.refl _ _).alloc (Nat.le_refl _) _
          have T5 := Lib.hid (TR.out.below hb5)
          have R5 := Lib.hid (RR.out.below (hb5.mono RR.out.lt.2.2))
          have K5 := Lib.hid ((KR.out.more (Nat.le_refl _)).below (hb5.mono (KB.out)))
          have RL := Lib.hid hr5
          have BY5 := Lib.hid ((BY.out.below hb5).more hb5.size)
          have HZ5 := Lib.hid (Nat.le_trans KB.out hb5.size)
          clear hr5 hb5 TR RR KR BY
          generalize wr.alloc (.cells C5.toArray 60) = W5 at *
          rw [hC5] at RL
          clear hC5
          generalize wr.heap.size = g5 at *
          refine (HRES.out W5 _ _ g5 2 _ [⟨xt, allI j, []⟩, ⟨xt, [], allI j⟩] R5.out (HLK2.out RL.out BY5.out (bytes_none _) (bytes_none _) BY5.out) (fun y hy => by
            rcases List.mem_cons.1 hy with rfl | hy
            · exact ⟨rfl, allI_bytes hL2, fun _ h => (by cases h)⟩
            · obtain rfl := List.mem_singleton.1 hy
              exact ⟨rfl, fun _ h => (by cases h), allI_bytes hL2⟩) (by omega) (by simp [lookSize, allI_len]; omega)).mono ?_
          rintro e w6 ⟨P, Q, rfl, hP, hQ, hd, hbel⟩
          have T6 := Lib.hid (T5.out.below hbel)
          have R6 := Lib.hid (R5.out.below (hbel.mono R5.out.lt.2.2))
          have K6 := Lib.hid (K5.out.below (hbel.mono HZ5.out))
          have K6B := Lib.hid (Nat.le_trans HZ5.out hbel.size)
          obtain ⟨r1, r2, r3⟩ := HRW.out
          rw [r2] at hP
          rw [r3] at hQ
          rw [r1]
          obtain ⟨PA, pn, pc⟩ := P
          obtain ⟨QA, qn, qc⟩ := Q
          obtain rfl : j = pn := K6.out.len.symm.trans hP.keys.len
          obtain rfl : j = qn := K6.out.len.symm.trans hQ.keys.len
          have KP := Lib.hid hP.keys
          have KQ := Lib.hid hQ.keys
          clear hP hQ hd hbel r1 r2 r3 T5 R5 K5 RL BY5 HRW
          unfold Sl.val
          dsimp only
          go_wp2_with fail
          refine (sameKeys _ _ j _ _ _ w6 _ _ KP.out K6.out (by unfold maxLen; omega)).mono ?_
          rintro e w7 ⟨rfl, k7, hw7⟩
          have B7 : Hid (Below w6.heap.size w6 w7) := Lib.hid (by rw [hw7]; exact below_drewN (Below.refl _ _) k7)
          clear hw7
          go_wp2_with fail
          refine (sameKeys _ _ j _ _ _ w7 _ _ (KQ.out.below B7.out) (K6.out.below (B7.out.mono K6B.out)) (by unfold maxLen; omega)).mono ?_
          rintro e w8 ⟨rfl, k8, hw8⟩
          have hb8 : Below w6.heap.size w6 w8 := by rw [hw8]; exact below_drewN B7.out k8
          have T8 := Lib.hid (T6.out.below hb8)
          have R8 := Lib.hid (R6.out.below (hb8.mono R6.out.lt.2.2))
          clear hb8 hw8 B7 KP KQ K6 T6 R6
          by_cases h256 : j = 256
          · subst h256
            go_wp2_with fail
            refine (lives6 _).mono ?_
            rintro e w' ⟨rfl, hb⟩
            have HBB := Lib.hid (T8.out.b.trans (hb.mono T8.out.b.size))
            clear hb
            go_wp2_with fail
            go_ret
            exact ⟨rfl, HBB.out⟩
          · have hq : ((j : Int) == 256) = false := by simp; omega
            have hq2 : j < 256 := by omega
            go_wp2_with (first
              | ((with_reducible show wpList _ _ _ ({ dst := some 105, op := Op.load _ _, type := _, pos := _, after := _, guard := _ } :: _) _ _); go_must (refine wpList_load_whole rfl 32 (.tmp 6) rfl _ 32 X _ Try.underlying32 rfl HSX.out T8.out.x ?_ ?_; go_simp))
              | ((with_reducible show wpList _ _ _ ({ dst := some 110, op := Op.build _ _, type := _, pos := _, after := _, guard := _ } :: _) _ _); go_must (refine wpList_plain rfl fun K hK => wp_built _ _ _ rfl (by simp only [List.map_toArray, List.map_cons, List.map_nil]; exact built_look1 X HXL.out _ _ _) (hK _ _ ?_)))
              | ((with_reducible show wpList _ _ _ ({ dst := some 111, op := Op.buildSlice _ _ _, type := _, pos := _, after := _, guard := _ } :: _) _ _); go_must (refine wpList_buildOne rfl 34 60 (.tmp 110) rfl (X ++ [Value.slice (some ⟨w8.heap.size, 0, none⟩) 1 1, .slice none 0 0]) _ 34 80 Try.underlying34 info_look6 zsz_look6 (by omega) (by omega) (by rw [List.length_append, HXL.out]; rfl) ?_ ?_; go_simp)))
            have hr9 := (Row.new w8 5 (bv [(j : Int)])).alloc (.cells (X ++ [Value.slice (some ⟨w8.heap.size, 0, none⟩) 1 1, .slice none 0 0]).toArray 60)
            have hl9 := Row.new' (w8.alloc (.cells (bv [(j : Int)]).toArray 5)) 60 (X ++ [Value.slice (some ⟨w8.heap.size, 0, none⟩) 1 1, .slice none 0 0]) (g := w8.heap.size + 1) (by simp)
            have hb9 := ((Below.refl w8.heap.size w8).alloc (Nat.le_refl _) (.cells (bv [(j : Int)]).toArray 5)).alloc (by simp) (.cells (X ++ [Value.slice (some ⟨w8.heap.size, 0, none⟩) 1 1, .slice none 0 0]).toArray 60)
            obtain ⟨W9, hW9⟩ : ∃ W9, W9 = (w8.alloc (.cells (bv [(j : Int)]).toArray 5)).alloc (.cells (X ++ [Value.slice (some ⟨w8.heap.size, 0, none⟩) 1 1, .slice none 0 0]).toArray 60) := ⟨_, rfl⟩
            rw [← hW9] at hr9 hl9 hb9
            have hgoal : ∀ v u Q, Calls Try.prog 21 #[v, u] W9 Q → Calls Try.prog 21 #[v, u] ((w8.alloc (.cells (bv [(j : Int)]).toArray 5)).alloc (.cells (X ++ [Value.slice (some ⟨w8.heap.size, 0, none⟩) 1 1, .slice none 0 0]).toArray 60)) Q := fun v u Q h => by rw [← hW9]; exact h
            refine hgoal _ _ _ ?_
            clear hgoal hW9
            have T9 := Lib.hid (T8.out.below hb9)
            have R9 := Lib.hid (R8.out.below (hb9.mono R8.out.lt.2.2))
            refine (HRES.out W9 _ _ _ 1 _ [⟨xt, [(j : Int)], []⟩] R9.out (HLK.out hl9 (bytes_row hr9 (by simp)) (bytes_none _)) (fun y hy => by obtain rfl := List.mem_singleton.1 hy; exact ⟨rfl, fun v hv => (by obtain rfl := List.mem_singleton.1 hv; show 0 ≤ (j : Int) ∧ (j : Int) < 256; omega), fun _ h => (by cases h)⟩) (by omega) (by simp [lookSize])).mono ?_
            rintro e w10 ⟨P, Q, rfl, hP, hQ, hd, hbel⟩
            have T10 := Lib.hid (T9.out.below hbel)
            clear hP hQ hd hbel hr9 hl9 hb9
            rw [HRB.out]
            unfold Sl.val
            go_wp2_with fail
            refine (lives6 _).mono ?_
            rintro e w' ⟨rfl, hb⟩
            have HBB := Lib.hid (T10.out.b.trans (hb.mono T10.out.b.size))
            clear hb
            go_wp2_with fail
            go_ret
            exact ⟨rfl, HBB.out⟩
end Go.Proofs.Ytdbcbjjomhbhpaa
