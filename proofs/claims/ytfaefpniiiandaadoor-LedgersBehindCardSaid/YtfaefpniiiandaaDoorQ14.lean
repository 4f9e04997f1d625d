/-
  Parts joined: BehindWalk16.
-/
import Derived.Below
import Derived.Laws.OwnMore
import Derived.Deep.AppendLies
import Derived.Deep.Draws
import Derived.Lib.Hide
import Derived.Laws.MakeOwn
import Derived.Laws.CopyOwn
import Derived.Laws.Rows
import Derived.Maps.AppendAt
import Derived.OwnWalk
import Derived.Laws.BitsAllLaws
import Derived.WalkKit
import Derived.Test.YtfaefpniiiandaaDoorRows
import Derived.WalkSpells
import Derived.WalkLawsBesides
import Derived.IntWalk
import Derived.Deep.MidRow
import Derived.Deep.WholeRow
import Derived.Great.BuildSlice
import Derived.Recover
import Derived.Deep.RegionHeld
import Derived.Deep.QuietTactic
import Derived.BigQuiet
import Derived.ChangeKeysEq
import Derived.Deep.RegionHeld2
import Derived.Deep.CutBlock
import Derived.Laws.Tables
import Derived.ProofKit
import Derived.OpenShut
import Derived.ShutString
import Derived.ChangeOld
import Derived.Lib.SmallJoins
import Derived.Deep.Slices
import Derived.Deep.Strs
import Derived.SizedLaws
import Derived.Laws.StructEq
import Derived.Laws.Slices
import Derived.Deep.DeepCutAuto
import Derived.Maps.OwnSet
import Derived.DeepKeys4
import Derived.WideKeyArr
import Derived.Laws.EntriesVeiled
import Derived.Deep.RegionHeld3
import Derived.WideKeyEntry
import Derived.WalkMore
import Derived.Maps.RangeWalk
import Derived.Shelf.SlMaps.Clone
import Derived.Laws.Append
import Derived.Laws.AppendOwn
import Derived.LaidMore
import Derived.Maps.OwnOps
import Derived.Laws.BytesArg
import Derived.Laws.Strings
import Derived.Lib.Strings
import Derived.Great.Walk
import Derived.Laws.Bits64b
import Derived.Laws.Externs
import Derived.LaidHandle
import Derived.LaidLaws
import Derived.RangeFuncOwn
import Derived.LaidEql
import Derived.Stop.Asserts
import Derived.RowKitTokens
import Derived.RangeFuncNested
import Derived.RangeFuncBound
import Derived.RangeFuncCalls
import Derived.RangeFuncLeaves
import Derived.Shelf.Abstract
import Derived.Shelf.RegionOpen
import Derived.OwnWalkIn
import Derived.TacticsInMore
import Derived.LoopNIn
import Derived.LoopIn
import Derived.Lib.Mul64
import Derived.Lib.BitFns
import Derived.Laws.NewBlocks
import Derived.Shelf.Small.Bits
import Derived.Scope
import Derived.Test.YtfaefpniiiandaaDoorQ1
import Derived.Test.YtfaefpniiiandaaDoorQ2
import Derived.Test.YtfaefpniiiandaaDoorQ3
import Derived.Test.YtfaefpniiiandaaDoorQ4
import Derived.Test.YtfaefpniiiandaaDoorQ5
import Derived.Test.YtfaefpniiiandaaDoorQ6
import Derived.Test.YtfaefpniiiandaaDoorQ7
import Derived.Test.YtfaefpniiiandaaDoorQ8
import Derived.Test.YtfaefpniiiandaaDoorQ9
import Derived.Test.YtfaefpniiiandaaDoorQ10
import Derived.Test.YtfaefpniiiandaaDoorQ11
import Derived.Test.YtfaefpniiiandaaDoorQ12
import Derived.Test.YtfaefpniiiandaaDoorQ13
/-
  Of part BehindWalk16: what is needed here.
-/
namespace Go.Proofs.YtfaefpniiiandaaDoor
open Go.RowKit
set_option linter.unusedVariables false
set_option maxRecDepth 100000
theorem roles_sum16 (l : List (YRaw × LReady)) : ((l.map (·.2)).map fun x => x.roles.length).sum ≤ sum16 l := by
  induction l with
  | nil => simp [sum16]
  | cons p r ih =>
    have e : sum16 (p :: r) = (p.2.roles.length + p.2.tx.m.ins.length) + sum16 r := by simp [sum16]
    rw [e]
    simp only [List.map_cons, List.sum_cons]
    omega
theorem sum_app16 (a b : List (YRaw × LReady)) : sum16 (a ++ b) = sum16 a + sum16 b := by simp [sum16]
theorem sum_part16 (l : List (YRaw × LReady)) (k : Nat) : sum16 (l.take k) ≤ sum16 l ∧ sum16 (l.drop k) ≤ sum16 l := by
  have := sum_app16 (l.take k) (l.drop k)
  rw [List.take_append_drop] at this
  omega
theorem hlen16 {L : List LHold} {l : List (YRaw × LReady)} (hs : Sto L) (hp : ∀ (k : Nat) (p : YRaw × LReady), l[k]? = some p → RdP16 p.1 p.2) (hL : L.length ≤ 1000) (h : sum16 l ≤ 800) : (∀ (k : Nat) (p : YRaw × LReady), l[k]? = some p → (sto16 L l k).length + p.1.rn ≤ 5000) ∧ (fold16 (l.map (·.2)) ⟨[], 0, 0, L⟩).L.length ≤ L.length + sum16 l := by
  have hf : ∀ x ∈ l.map (·.2), RdF16 x := fun x hx => by
    obtain ⟨q, hq, rfl⟩ := List.mem_map.1 hx
    obtain ⟨i, hi, rfl⟩ := List.getElem_of_mem hq
    exact (hp i _ (List.getElem?_eq_getElem hi)).f
  refine ⟨fun k p hk => ?_, ?_⟩
  · have h1 := fold_len2_16 ((l.take k).map (·.2)) ⟨[], 0, 0, L⟩ (fun x hx => hf x (by
      obtain ⟨q, hq, rfl⟩ := List.mem_map.1 hx
      exact List.mem_map.2 ⟨q, List.mem_of_mem_take hq, rfl⟩)) hs
    have h2 := roles_sum16 (l.take k)
    have h3 := (sum_part16 l k).1
    have h4 := (hp k p hk).rn
    have h5 : (sto16 L l k).length ≤ L.length + (((l.take k).map (·.2)).map fun x => x.roles.length).sum := h1
    omega
  · have h1 := fold_len2_16 (l.map (·.2)) ⟨[], 0, 0, L⟩ hf hs
    have h2 := roles_sum16 l
    have h3 : (fold16 (l.map (·.2)) ⟨[], 0, 0, L⟩).L.length ≤ L.length + ((l.map (·.2)).map fun x => x.roles.length).sum := h1
    omega
theorem osC_app16 (a b : List (LOut × Option Addr)) : osC16 (a ++ b) = osC16 a ++ osC16 b := by simp [osC16]
theorem osC_one16 (os : List (LOut × Option Addr)) : ∀ u ∈ osC16 os, u.oneCell' = true := fun u hu => by
  obtain ⟨l, hl, hu⟩ := List.mem_flatten.1 hu
  obtain ⟨p, _, rfl⟩ := List.mem_map.1 hl
  exact oC_one16 p u hu
theorem outs_own16 {w : World} {base c n : Nat} {A : Option Addr} {os : List (LOut × Option Addr)} (h : w.ownsRow base 54 6 (.slice A n c) n (osC16 os)) (hn : os.length = n) (hh : ∀ p ∈ os, CsIn 66 w w.heap.size p.2 p.1.ch.length (p.1.ch.map LHold.cells)) : OutsIn16 w w.heap.size A n os :=
  ⟨csIn_own h (by rw [List.length_map, hn]) (fun k hk => by obtain ⟨p, _, rfl⟩ := List.mem_map.1 hk; rfl) (by omega), hh⟩
theorem fold_ch16 : ∀ (r : List LReady) (S : F16), (∀ x ∈ r, RdF16 x) → Sto S.L → (∀ x ∈ r, x.roles.length ≤ 100000) → (∀ o ∈ S.outs, o.ch.length ≤ 100000) → ∀ o ∈ (fold16 r S).outs, o.ch.length ≤ 100000
  | [], S, _, _, _, h => h
  | x :: r, S, hx, hs, hn, h => by
    rw [fold_cons16]
    by_cases h0 : (apply16 S.L x).1.2 = 0
    · rw [if_pos h0]
      obtain ⟨_, _, h3, _, h5⟩ := apply_ch16 hs (hx x (by simp)) h0
      refine fold_ch16 r _ (fun y hy => hx y (by simp [hy])) (apply_sto16 hs (hx x (by simp))).1 (fun y hy => hn y (by simp [hy])) fun o ho => ?_
      rcases List.mem_append.1 ho with ho | ho
      · exact h o ho
      · rw [List.mem_singleton.1 ho, h3]
        exact Nat.le_trans h5.len (hn x (by simp))
    · rw [if_neg h0]
      exact h
/-- in two parts -/
theorem behind16 {L : List LHold} {l : List (YRaw × LReady)} (k : Nat) (hs : Sto L) (hf : ∀ x ∈ l.map (·.2), RdF16 x) :
    ((fold16 ((l.take k).map (·.2)) ⟨[], 0, 0, L⟩).e ≠ 0 → fold16 (l.map (·.2)) ⟨[], 0, 0, L⟩ = fold16 ((l.take k).map (·.2)) ⟨[], 0, 0, L⟩) ∧
    ((fold16 ((l.take k).map (·.2)) ⟨[], 0, 0, L⟩).e = 0 → fold16 (l.map (·.2)) ⟨[], 0, 0, L⟩ = ⟨(fold16 ((l.take k).map (·.2)) ⟨[], 0, 0, L⟩).outs ++ (fold16 ((l.drop k).map (·.2)) ⟨[], 0, 0, (fold16 ((l.take k).map (·.2)) ⟨[], 0, 0, L⟩).L⟩).outs, sat16 ((fold16 ((l.take k).map (·.2)) ⟨[], 0, 0, L⟩).fees + (fold16 ((l.drop k).map (·.2)) ⟨[], 0, 0, (fold16 ((l.take k).map (·.2)) ⟨[], 0, 0, L⟩).L⟩).fees), (fold16 ((l.drop k).map (·.2)) ⟨[], 0, 0, (fold16 ((l.take k).map (·.2)) ⟨[], 0, 0, L⟩).L⟩).e, (fold16 ((l.drop k).map (·.2)) ⟨[], 0, 0, (fold16 ((l.take k).map (·.2)) ⟨[], 0, 0, L⟩).L⟩).L⟩) := by
  have he : l.map (·.2) = (l.take k).map (·.2) ++ (l.drop k).map (·.2) := by rw [← List.map_append, List.take_append_drop]
  have h1 : ∀ x ∈ (l.take k).map (·.2), RdF16 x := fun x hx => hf x (by rw [he]; exact List.mem_append.2 (.inl hx))
  have h2 : ∀ x ∈ (l.drop k).map (·.2), RdF16 x := fun x hx => hf x (by rw [he]; exact List.mem_append.2 (.inr hx))
  have hi := fold_in16 ((l.take k).map (·.2)) ⟨[], 0, 0, L⟩ h1 hs (show (0 : Int) ≤ 0 ∧ (0 : Int) < 18446744073709551616 by decide)
  refine ⟨fun h => ?_, fun h => ?_⟩
  · rw [he, fold_app16 _ _ _ rfl, if_neg h]
  · rw [he, fold_app16 _ _ _ rfl, if_pos h]
    exact fold_from16 _ _ h h2 hi.1 hi.2
theorem wp_app16a {o : Oper} {a : Act} {w : World} {K : Act → World → Prop} {Q : Exit → Act → World → Prop} (x : Operand) (ho : o.op = .call { callee := .builtin .append, args := #[.const (.slice none 0 0), x], argTypes := #[76, 76] }) (A : Option Addr) (os : List (LOut × Option Addr)) (hx : a.eval x = .slice A os.length os.length) (h : OutsIn16 w w.heap.size A os.length os) (hn : os.length ≤ 100000)
    (k : ∀ A' c' w', w'.ownsRow w.heap.size 54 6 (.slice A' os.length c') os.length (osC16 os) → Below w.heap.size w w' → K (a.put o.dst (.slice A' os.length c')) w') : o.wp Tryd.prog a w K Q := by
  refine wp_appendN (.const (.slice none 0 0)) x 76 54 _ 6 64 ho Tryd.underlying76 info_out16 zsz_out16 (by omega) (.slice none 0 0) 0 [] w.heap.size w.heap.size A os.length os.length (osC16 os) rfl (own_nilN _ _ _ _) hx h.cs.sees (osC_one16 os) (by unfold maxLen; omega) (by omega) (Nat.le_refl _) ?_
  intro v w' hown hg
  rw [Nat.zero_add, List.nil_append] at hown
  obtain ⟨A', c', rfl, _, _, _, _⟩ := own_form2 hown
  exact k A' c' w' hown (hg.below (own_nilN w w.heap.size 54 6) (Nat.le_refl _))
theorem wp_app16b {o : Oper} {a : Act} {w : World} {K : Act → World → Prop} {Q : Exit → Act → World → Prop} (s x : Operand) (ho : o.op = .call { callee := .builtin .append, args := #[s, x], argTypes := #[76, 76] }) (A1 A : Option Addr) (n1 c1 base : Nat) (xs : List Value) (os : List (LOut × Option Addr)) (hs : a.eval s = .slice A1 n1 c1) (hown : w.ownsRow base 54 6 (.slice A1 n1 c1) n1 xs) (hx : a.eval x = .slice A os.length os.length) (h : OutsIn16 w w.heap.size A os.length os) (hn : n1 + os.length ≤ 100000) (hbase : base ≤ w.heap.size)
    (k : ∀ A' c' w', w'.ownsRow base 54 6 (.slice A' (n1 + os.length) c') (n1 + os.length) (xs ++ osC16 os) → Below base w w' → K (a.put o.dst (.slice A' (n1 + os.length) c')) w') : o.wp Tryd.prog a w K Q := by
  refine wp_appendN s x 76 54 _ 6 64 ho Tryd.underlying76 info_out16 zsz_out16 (by omega) (.slice A1 n1 c1) n1 xs base w.heap.size A os.length os.length (osC16 os) hs hown hx h.cs.sees (osC_one16 os) (by unfold maxLen; omega) (by omega) hbase ?_
  intro v w' ho' hg
  obtain ⟨A', c', rfl, _, _, _, _⟩ := own_form2 ho'
  exact k A' c' w' ho' (hg.below hown hbase)
set_option maxHeartbeats 16000000 in
theorem behindWalk16 (A : Option Addr) (n c : Nat) (l : List LHold) (LA : Option Addr) (ln lc : Nat) (rs : List (YRaw × LReady)) (at_ : Int) (w : World) (hl : HolsIn16 w w.heap.size A n l) (hnc : n ≤ c ∧ c ≤ maxLen) (hr : RdsIn w w.heap.size LA ln rs) (hlc : ln ≤ lc ∧ lc ≤ maxLen) (hok : ∀ p ∈ rs, RdOk p.2) (hat : IsByte at_) (htw : TypAt w) :
    Calls Tryd.prog 6 #[.slice A n c, .slice LA ln lc, .int .u8 at_] w fun e w' => e = .returned (.bool true) ∧ Below w.heap.size w w' := by
  have HL := Lib.hid hl
  have HR := Lib.hid hr
  have HOK := Lib.hid hok
  have HT := Lib.hid htw
  have HLC := Lib.hid hlc
  have HGR := Lib.hid (great16 A LA n c ln lc w.heap.size rs w hr (Nat.le_refl _) (fun p hp => rd_wide15 (hok p hp)) hnc hlc)
  obtain ⟨kN, hkN⟩ : ∃ kN : Nat, kN = at_.toNat % (ln + 1) := ⟨_, rfl⟩
  have HKN : Hid (kN ≤ ln) := Lib.hid (by have := Nat.mod_lt at_.toNat (show 0 < ln + 1 by omega); omega)
  have HAT : Hid (0 ≤ at_ ∧ at_ < 256) := Lib.hid hat
  have HRM : Hid (at_.tmod ((ln : Int) + 1) = (kN : Int)) := Lib.hid (by
    have h0 : at_ = (at_.toNat : Int) := by have := hat.1; omega
    rw [h0, hkN]
    exact_mod_cast rfl)
  clear hl hr hok htw hkN
  go_enter Tryd.func6, Tryd.ntmps6
  go_wp2_with fail
  refine HGR.out.mono ?_
  rintro e w2 ⟨⟨b, rfl, hfew⟩, hb2⟩
  have B2 := Lib.hid hb2
  have HFW := Lib.hid hfew
  clear hb2 hfew HGR
  cases b with
  | true =>
    go_wp2_with fail
    refine (lives16 _ (HT.out.below B2.out HT.out.pos)).mono ?_
    rintro e wl ⟨rfl, hbl⟩
    have BL := Lib.hid (B2.out.trans (hbl.mono B2.out.size))
    clear hbl
    go_wp2_with fail
    go_ret
    exact ⟨rfl, BL.out⟩
  | false =>
  have hfw := HFW.out rfl
  have HN : Hid (n ≤ 200 ∧ ln ≤ 40) := Lib.hid ⟨hfw.hn, by have h1 := hfw.hl; have h2 := HR.out.len; omega⟩
  have HSM : Hid (sum16 rs ≤ 800) := Lib.hid hfw.s
  have HP : Hid (∀ (k : Nat) (p : YRaw × LReady), rs[k]? = some p → RdP16 p.1 p.2) := Lib.hid fun k p hp => rd_p16 (HOK.out p (List.mem_of_getElem? hp)) (HR.out.each k p hp) (hfw.f p (List.mem_of_getElem? hp))
  have HRF : Hid (∀ x ∈ rs.map (·.2), RdF16 x) := Lib.hid fun x hx => by
    obtain ⟨q, hq, rfl⟩ := List.mem_map.1 hx
    obtain ⟨i, hi, rfl⟩ := List.getElem_of_mem hq
    exact (HP.out i _ (List.getElem?_eq_getElem hi)).f
  clear hfw HFW HOK
  go_wp2_with fail
  refine (stores16 A n c w.heap.size l w2 ⟨HL.out.cs.below B2.out, HL.out.ok⟩ B2.out.size HN.out.1).mono ?_
  rintro e w3 ⟨sb, mb, pb, rfl, hs3, hsl, hml, hb3⟩
  have HLL : Hid ((commit16 [] l).length ≤ 200) := Lib.hid (by have h1 := puts_len16 l; have h2 := HL.out.len; have h3 := HN.out; omega)
  generalize commit16 [] l = L at *
  have S3 := Lib.hid hs3
  have B3 := Lib.hid (B2.out.trans (hb3.mono B2.out.size))
  have HMB : Hid (w.heap.size ≤ mb) := Lib.hid (Nat.le_trans B2.out.size hml)
  clear hs3 hsl hml hb3 B2
  go_wp2_with fail
  refine (copy13 sb mb L w3 S3.out (by have := HLL.out; omega)).mono ?_
  rintro e w4 ⟨sc, mc, rfl, hs4, hsl, hml, hb4⟩
  have S4 := Lib.hid (S3.out.below hb4)
  have C4 := Lib.hid hs4
  have HNE : Hid (sc ≠ mb ∧ mc ≠ mb ∧ sb ≠ mc ∧ mb ≠ mc ∧ w.heap.size ≤ mc) := Lib.hid (by have h1 := S3.out.lt; have h2 := B3.out.size; omega)
  have B4 := Lib.hid (B3.out.trans (hb4.mono B3.out.size))
  clear hs4 hsl hml hb4 B3 S3
  have HSO := Lib.hid S4.out.sto
  have HLE := Lib.hid (hlen16 HSO.out HP.out (by have := HLL.out; omega) HSM.out)
  have HLE1 := Lib.hid (hlen16 (l := rs.take kN) HSO.out (fun k p hp => by
    obtain ⟨hk1, hk2⟩ := List.getElem?_eq_some_iff.1 hp
    rw [List.length_take] at hk1
    rw [List.getElem?_take_of_lt (by omega)] at hp
    exact HP.out k p hp) (by have := HLL.out; omega) (Nat.le_trans (sum_part16 rs kN).1 HSM.out))
  have HBH := Lib.hid (behind16 kN HSO.out HRF.out)
  have hn40 := HN.out.2
  have ha0 := HAT.out.1
  have ha1 := HAT.out.2
  have hrm := HRM.out
  go_wp2_with fail
  refine (foldC sb mb L rs LA ln lc w.heap.size w4 S4.out (HR.out.below B4.out) B4.out.size HP.out HLC.out.1 (by omega) (HT.out.below B4.out HT.out.pos) HLE.out.1).mono ?_
  rintro e w5 ⟨os, A6, c6, rfl, hos, ho5, hh5, hs5, hg5⟩
  have HOK5 : Hid (∀ p ∈ os, ∀ x ∈ p.1.ch, HoldOk x) := Lib.hid fun p hp => fold_ok16 _ ⟨[], 0, 0, L⟩ HRF.out HSO.out (fun o ho => by cases ho) p.1 (by rw [← hos]; exact List.mem_map.2 ⟨p, hp, rfl⟩)
  have O5 := Lib.hid (outs_of16 ho5 hh5 HOK5.out)
  have HOS := Lib.hid hos
  have HCH5 : Hid (∀ p ∈ os, p.1.ch.length ≤ 100000) := Lib.hid fun p hp => fold_ch16 _ ⟨[], 0, 0, L⟩ HRF.out HSO.out (fun x hx => by
    obtain ⟨q, hq, rfl⟩ := List.mem_map.1 hx
    obtain ⟨i, hi, rfl⟩ := List.getElem_of_mem hq
    have h1 := (HP.out i _ (List.getElem?_eq_getElem hi)).rn
    have h2 := (HR.out.each i _ (List.getElem?_eq_getElem hi)).rs.len
    omega) (fun o ho => by cases ho) p.1 (by rw [← hos]; exact List.mem_map.2 ⟨p, hp, rfl⟩)
  have HON : Hid (os.length ≤ 100000) := Lib.hid (by
    have h1 := fold_len16 (rs.map (·.2)) ⟨[], 0, 0, L⟩
    rw [← hos, List.length_map, List.length_map] at h1
    have h2 := HR.out.len
    have h3 : ([] : List LOut).length + rs.length = rs.length := by simp
    have h4 : os.length ≤ ([] : List LOut).length + rs.length := h1
    omega)
  have S5 := Lib.hid hs5
  have C5 := Lib.hid (C4.out.keep (hg5.block _ C4.out.lt.1 (fun e => HNE.out.1 (Option.some.inj e))) (hg5.block _ C4.out.lt.2 (fun e => HNE.out.2.1 (Option.some.inj e))))
  have B5 := Lib.hid (B4.out.trans (gb_below16 (B := w.heap.size) hg5 HMB.out B4.out.size))
  clear hos ho5 hh5 hs5 hg5 S4 C4 B4
  generalize hF : fold16 (rs.map (·.2)) ⟨[], 0, 0, L⟩ = F at *
  clear hF
  have hk1 : (kN : Int) ≤ lc := by have h1 := HKN.out; have h2 := HLC.out.1; omega
  have hk0 : (0 : Int) ≤ kN := by omega
  have HKC : Hid (kN ≤ lc) := Lib.hid (by have h1 := HKN.out; have h2 := HLC.out.1; omega)
  have hlm : lc ≤ 9223372036854775807 := HLC.out.2
  go_wp2_with fail
  refine (foldC sc mc L (rs.take kN) LA kN lc w.heap.size w5 C5.out ((HR.out.below B5.out).take16 HKN.out) B5.out.size (fun k p hp => by
    obtain ⟨hk1, hk2⟩ := List.getElem?_eq_some_iff.1 hp
    rw [List.length_take] at hk1
    rw [List.getElem?_take_of_lt (by omega)] at hp
    exact HP.out k p hp) HKC.out (by have := HKN.out; omega) (HT.out.below B5.out HT.out.pos) HLE1.out.1).mono ?_
  rintro e w6 ⟨os1, A7, c7, rfl, hos1, ho6, hh6, hs6, hg6⟩
  have HRF1 : Hid (∀ x ∈ (rs.take kN).map (·.2), RdF16 x) := Lib.hid fun x hx => by
    obtain ⟨q, hq, rfl⟩ := List.mem_map.1 hx
    exact HRF.out _ (List.mem_map.2 ⟨q, List.mem_of_mem_take hq, rfl⟩)
  have HOK6 : Hid (∀ p ∈ os1, ∀ x ∈ p.1.ch, HoldOk x) := Lib.hid fun p hp => fold_ok16 _ ⟨[], 0, 0, L⟩ HRF1.out HSO.out (fun o ho => by cases ho) p.1 (by rw [← hos1]; exact List.mem_map.2 ⟨p, hp, rfl⟩)
  have HIN := Lib.hid (fold_in16 _ ⟨[], 0, 0, L⟩ HRF1.out HSO.out (show (0 : Int) ≤ 0 ∧ (0 : Int) < 18446744073709551616 by decide))
  have P6 := Lib.hid (outs_of16 ho6 hh6 HOK6.out)
  have HOS1 := Lib.hid hos1
  have C6 := Lib.hid hs6
  have O6 := Lib.hid (O5.out.keep (keep16 C5.out C6.out hg6 (Nat.le_refl _)) |>.more hg6.size)
  have S6 := Lib.hid (S5.out.keep (hg6.block _ S5.out.lt.1 (fun e => HNE.out.2.2.1 (Option.some.inj e))) (hg6.block _ S5.out.lt.2 (fun e => HNE.out.2.2.2.1 (Option.some.inj e))))
  have B6 := Lib.hid (B5.out.trans (gb_below16 (B := w.heap.size) hg6 HNE.out.2.2.2.2 B5.out.size))
  clear hos1 ho6 hh6 hs6 hg6 S5 C5 B5 O5
  generalize hF1 : fold16 ((rs.take kN).map (·.2)) ⟨[], 0, 0, L⟩ = F1 at *
  clear hF1
  clear hk0 hk1
  by_cases he1 : F1.e = 0
  rotate_left
  · have hFE := HBH.out.1 he1
    have HLB : Hid (F1.L.length ≤ 1000) := Lib.hid (by have h1 := HLE1.out.2; have h2 := HLL.out; have h3 := (sum_part16 rs kN).1; have h4 := HSM.out; omega)
    subst hFE
    have HOE : Hid (os.map (·.1) = os1.map (·.1)) := Lib.hid (by rw [HOS.out, HOS1.out])
    have hlen : os1.length = os.length := by have := congrArg List.length HOE.out; rw [List.length_map, List.length_map] at this; exact this.symm
    rw [hlen]
    have P6' : Hid (OutsIn16 w6 w6.heap.size A7 os.length os1) := Lib.hid (by rw [← hlen]; exact P6.out)
    have he2 : decide (F.e = 0) = false := decide_eq_false he1
    clear hlen P6 HBH HIN
    generalize F.e = fe at *
    generalize F.fees = ff at *
    go_wp2_with fail
    refine (sameOuts16 os os1 A6 A7 os.length os.length os.length w6 O6.out P6'.out HOE.out HOK5.out HCH5.out HON.out).mono ?_
    rintro e w7 ⟨rfl, hbw7⟩
    have Bw7 := Lib.hid (B6.out.trans (hbw7.mono B6.out.size))
    have Sw7 := Lib.hid (S6.out.below hbw7)
    have Cw7 := Lib.hid (C6.out.below hbw7)
    clear hbw7
    go_wp2_with fail
    refine (same13 sb mb sc mc _ _ w7 Sw7.out Cw7.out (by have h1 := HLB.out; omega) (by have h1 := HLB.out; omega)).mono ?_
    rintro e w8 ⟨rfl, hbw8⟩
    rw [decide_eq_true rfl]
    have Bw8 := Lib.hid (Bw7.out.trans (hbw8.mono Bw7.out.size))
    clear hbw8
    go_wp2_with fail
    refine (lives16 _ (HT.out.below Bw8.out HT.out.pos)).mono ?_
    rintro e wl ⟨rfl, hbl⟩
    have BL := Lib.hid (Bw8.out.trans (hbl.mono Bw8.out.size))
    clear hbl
    go_wp2_with fail
    go_ret
    exact ⟨rfl, BL.out⟩
  have HFE := Lib.hid (HBH.out.2 he1)
  rw [he1]
  have HLB1 : Hid (F1.L.length ≤ 1000) := Lib.hid (by have h1 := HLE1.out.2; have h2 := HLL.out; have h3 := (sum_part16 rs kN).1; have h4 := HSM.out; omega)
  have HPD : Hid (∀ (k : Nat) (p : YRaw × LReady), (rs.drop kN)[k]? = some p → RdP16 p.1 p.2) := Lib.hid fun k p hp => by
    rw [List.getElem?_drop] at hp
    exact HP.out _ p hp
  have HLE2 := Lib.hid (hlen16 (l := rs.drop kN) HIN.out.1 HPD.out HLB1.out (Nat.le_trans (sum_part16 rs kN).2 HSM.out))
  have hkl := HKN.out
  go_wp2_with (first
    | ((with_reducible show wpList _ _ _ ({ dst := some 81, op := Op.slice _ _ _ _ _, type := _, pos := _, after := _, guard := _ } :: _) _ _); go_must (refine wpList_tail16 rfl (.tmp 79) (.tmp 80) rfl LA ln lc kN ?_ ?_ HKN.out HLC.out.1 HLC.out.2 ?_; go_simp; go_simp))
    | fail)
  refine (foldC sc mc F1.L (rs.drop kN) (tail16 LA lc kN) (ln - kN) (lc - kN) w.heap.size w6 C6.out ((HR.out.below B6.out).drop16 HLC.out.1 HKN.out) B6.out.size HPD.out (by have := HLC.out.1; omega) (by omega) (HT.out.below B6.out HT.out.pos) HLE2.out.1).mono ?_
  rintro e w7 ⟨os2, A8, c8, rfl, hos2, ho7, hh7, hs7, hg7⟩
  have HRF2 : Hid (∀ x ∈ (rs.drop kN).map (·.2), RdF16 x) := Lib.hid fun x hx => by
    obtain ⟨q, hq, rfl⟩ := List.mem_map.1 hx
    exact HRF.out _ (List.mem_map.2 ⟨q, List.mem_of_mem_drop hq, rfl⟩)
  have HOK7 : Hid (∀ p ∈ os2, ∀ x ∈ p.1.ch, HoldOk x) := Lib.hid fun p hp => fold_ok16 _ ⟨[], 0, 0, F1.L⟩ HRF2.out HIN.out.1 (fun o ho => by cases ho) p.1 (by rw [← hos2]; exact List.mem_map.2 ⟨p, hp, rfl⟩)
  have HIN2 := Lib.hid (fold_in16 _ ⟨[], 0, 0, F1.L⟩ HRF2.out HIN.out.1 (show (0 : Int) ≤ 0 ∧ (0 : Int) < 18446744073709551616 by decide))
  have Q7 := Lib.hid (outs_of16 ho7 hh7 HOK7.out)
  have HOS2 := Lib.hid hos2
  have C7 := Lib.hid hs7
  have O7 := Lib.hid (O6.out.keep (keep16 C6.out C7.out hg7 (Nat.le_refl _)) |>.more hg7.size)
  have P7 := Lib.hid (P6.out.keep (keep16 C6.out C7.out hg7 (Nat.le_refl _)) |>.more hg7.size)
  have S7 := Lib.hid (S6.out.keep (hg7.block _ S6.out.lt.1 (fun e => HNE.out.2.2.1 (Option.some.inj e))) (hg7.block _ S6.out.lt.2 (fun e => HNE.out.2.2.2.1 (Option.some.inj e))))
  have B7 := Lib.hid (B6.out.trans (gb_below16 (B := w.heap.size) hg7 HNE.out.2.2.2.2 B6.out.size))
  have HLB : Hid ((fold16 ((rs.drop kN).map (·.2)) ⟨[], 0, 0, F1.L⟩).L.length ≤ 2000) := Lib.hid (by have h1 := HLE2.out.2; have h2 := HLB1.out; have h3 := (sum_part16 rs kN).2; have h4 := HSM.out; omega)
  clear hos2 ho7 hh7 hs7 hg7 S6 C6 B6 O6 P6 HBH HLE HLE1 HLE2
  generalize hF2 : fold16 ((rs.drop kN).map (·.2)) ⟨[], 0, 0, F1.L⟩ = F2 at *
  clear hF2
  have hFE := HFE.out
  clear HFE
  subst hFE
  have HOE : Hid (os.map (·.1) = (os1 ++ os2).map (·.1)) := Lib.hid (by rw [HOS.out, List.map_append, HOS1.out, HOS2.out])
  have HON12 : Hid (os1.length + os2.length = os.length) := Lib.hid (by have := congrArg List.length HOE.out; rw [List.length_map, List.length_map, List.length_append] at this; exact this.symm)
  have HN1 : Hid (os1.length ≤ 100000 ∧ os1.length + os2.length ≤ 100000) := Lib.hid (by have h1 := HON12.out; have h2 := HON.out; omega)
  have HFB := Lib.hid (And.intro HIN.out.2 HIN2.out.2)
  clear HIN HIN2
  generalize F1.fees = f1 at *
  generalize F2.fees = f2 at *
  generalize F2.e = e2 at *
  have hfb := HFB.out
  by_cases hov : f1 + f2 < 18446744073709551616
  · have hw : IntKind.u64.wrap (f1 + f2) = f1 + f2 := IntWalk.u64_in _ (by omega)
    have hl1 : decide (f1 + f2 < f1) = false := decide_eq_false (by omega)
    have hl2 : ¬ (f1 + f2 < f1) := by omega
    have hsat : sat16 (f1 + f2) = f1 + f2 := sat_of16 hov
    rw [hsat]
    clear hsat
    go_wp2_with (first
      | ((with_reducible show wpList _ _ _ ({ dst := some 103, op := _, type := _, pos := _, after := _, guard := _ } :: _) _ _); go_must (refine BigFrame.wpList_want (by kernel_rfl) fun K hK => wp_app16a (.tmp 102) rfl A7 os1 (by go_simp) P7.out (by have := HN1.out; omega) ?_; intro A9 c9 w9 ho9 hb9; refine hK _ _ ?_))
      | ((with_reducible show wpList _ _ _ ({ dst := some 105, op := _, type := _, pos := _, after := _, guard := _ } :: _) _ _); go_must (refine BigFrame.wpList_want (by kernel_rfl) fun K hK => wp_app16b (.tmp 103) (.tmp 104) rfl A9 A8 os1.length c9 w7.heap.size (osC16 os1) os2 (by go_simp) ho9 (by go_simp) ((Q7.out.below hb9).more hb9.size) (by have := HN1.out; omega) hb9.size ?_; intro A10 c10 w10 ho10 hb10; have hb10 : Below w7.heap.size w7 w10 := hb9.trans hb10; refine hK _ _ ?_))
      | fail)
    have hn12 : os1.length + os2.length = os.length := HON12.out
    rw [← osC_app16] at ho10
    have P10 := Lib.hid (outs_own16 ho10 (List.length_append ..) (fun p hp => by
      rcases List.mem_append.1 hp with hp | hp
      · exact ((P7.out.below hb10).more hb10.size).hol p hp
      · exact ((Q7.out.below hb10).more hb10.size).hol p hp))
    have O10 := Lib.hid ((O7.out.below hb10).more hb10.size)
    have S10 := Lib.hid (S7.out.below hb10)
    have C10 := Lib.hid (C7.out.below hb10)
    have B10 := Lib.hid (B7.out.trans (hb10.mono B7.out.size))
    rw [hn12] at P10 ⊢
    clear ho9 hb9 ho10 hb10 P7 Q7 O7 S7 C7 B7
    refine (sameOuts16 os (os1 ++ os2) A6 A10 os.length _ _ w10 O10.out P10.out HOE.out HOK5.out HCH5.out HON.out).mono ?_
    rintro e w11 ⟨rfl, hbw11⟩
    have Bw11 := Lib.hid (B10.out.trans (hbw11.mono B10.out.size))
    have Sw11 := Lib.hid (S10.out.below hbw11)
    have Cw11 := Lib.hid (C10.out.below hbw11)
    clear hbw11
    go_wp2_with fail
    refine (same13 sb mb sc mc _ _ w11 Sw11.out Cw11.out (by have h1 := HLB.out; omega) (by have h1 := HLB.out; omega)).mono ?_
    rintro e w12 ⟨rfl, hbw12⟩
    rw [decide_eq_true rfl]
    have Bw12 := Lib.hid (Bw11.out.trans (hbw12.mono Bw11.out.size))
    clear hbw12
    go_wp2_with fail
    refine (lives16 _ (HT.out.below Bw12.out HT.out.pos)).mono ?_
    rintro e wl ⟨rfl, hbl⟩
    have BL := Lib.hid (Bw12.out.trans (hbl.mono Bw12.out.size))
    clear hbl
    go_wp2_with fail
    go_ret
    exact ⟨rfl, BL.out⟩
  · have hw : IntKind.u64.wrap (f1 + f2) = f1 + f2 - 18446744073709551616 := by rw [IntKind.wrap_u64]; omega
    have hl1 : decide (f1 + f2 - 18446744073709551616 < f1) = true := decide_eq_true (by omega)
    have hl2 : f1 + f2 - 18446744073709551616 < f1 := by omega
    have hsat : sat16 (f1 + f2) = 18446744073709551615 := by unfold sat16; rw [if_neg (by omega)]
    rw [hsat]
    clear hsat
    go_wp2_with (first
      | ((with_reducible show wpList _ _ _ ({ dst := some 103, op := _, type := _, pos := _, after := _, guard := _ } :: _) _ _); go_must (refine BigFrame.wpList_want (by kernel_rfl) fun K hK => wp_app16a (.tmp 102) rfl A7 os1 (by go_simp) P7.out (by have := HN1.out; omega) ?_; intro A9 c9 w9 ho9 hb9; refine hK _ _ ?_))
      | ((with_reducible show wpList _ _ _ ({ dst := some 105, op := _, type := _, pos := _, after := _, guard := _ } :: _) _ _); go_must (refine BigFrame.wpList_want (by kernel_rfl) fun K hK => wp_app16b (.tmp 103) (.tmp 104) rfl A9 A8 os1.length c9 w7.heap.size (osC16 os1) os2 (by go_simp) ho9 (by go_simp) ((Q7.out.below hb9).more hb9.size) (by have := HN1.out; omega) hb9.size ?_; intro A10 c10 w10 ho10 hb10; have hb10 : Below w7.heap.size w7 w10 := hb9.trans hb10; refine hK _ _ ?_))
      | fail)
    have hn12 : os1.length + os2.length = os.length := HON12.out
    rw [← osC_app16] at ho10
    have P10 := Lib.hid (outs_own16 ho10 (List.length_append ..) (fun p hp => by
      rcases List.mem_append.1 hp with hp | hp
      · exact ((P7.out.below hb10).more hb10.size).hol p hp
      · exact ((Q7.out.below hb10).more hb10.size).hol p hp))
    have O10 := Lib.hid ((O7.out.below hb10).more hb10.size)
    have S10 := Lib.hid (S7.out.below hb10)
    have C10 := Lib.hid (C7.out.below hb10)
    have B10 := Lib.hid (B7.out.trans (hb10.mono B7.out.size))
    rw [hn12] at P10 ⊢
    clear ho9 hb9 ho10 hb10 P7 Q7 O7 S7 C7 B7
    refine (sameOuts16 os (os1 ++ os2) A6 A10 os.length _ _ w10 O10.out P10.out HOE.out HOK5.out HCH5.out HON.out).mono ?_
    rintro e w11 ⟨rfl, hbw11⟩
    have Bw11 := Lib.hid (B10.out.trans (hbw11.mono B10.out.size))
    have Sw11 := Lib.hid (S10.out.below hbw11)
    have Cw11 := Lib.hid (C10.out.below hbw11)
    clear hbw11
    go_wp2_with fail
    refine (same13 sb mb sc mc _ _ w11 Sw11.out Cw11.out (by have h1 := HLB.out; omega) (by have h1 := HLB.out; omega)).mono ?_
    rintro e w12 ⟨rfl, hbw12⟩
    rw [decide_eq_true rfl]
    have Bw12 := Lib.hid (Bw11.out.trans (hbw12.mono Bw11.out.size))
    clear hbw12
    go_wp2_with fail
    refine (lives16 _ (HT.out.below Bw12.out HT.out.pos)).mono ?_
    rintro e wl ⟨rfl, hbl⟩
    have BL := Lib.hid (Bw12.out.trans (hbl.mono Bw12.out.size))
    clear hbl
    go_wp2_with fail
    go_ret
    exact ⟨rfl, BL.out⟩
end Go.Proofs.YtfaefpniiiandaaDoor
