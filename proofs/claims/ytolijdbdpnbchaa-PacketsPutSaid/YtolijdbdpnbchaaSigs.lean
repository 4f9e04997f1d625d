/-
  packets.reader.signatures.
-/
import Derived.Test.YtolijdbdpnbchaaTx
import Derived.Test.YtolijdbdpnbchaaTail
import Derived.Test.YtolijdbdpnbchaaTwinK
import Derived.Test.YtolijdbdpnbchaaPutTx
import Derived.Deep.RegionHeld2
import Derived.Test.YtolijdbdpnbchaaRefAt
namespace Go.Proofs.Ytolijdbdpnbchaa
open Go.RowKit
set_option linter.unusedVariables false

/-- a reader's cells: its transaction's list of signatures, its message, what is left -/
def rcells (sg : Value) (ms : List Value) (rest : Value) : List Value := sg :: (ms ++ [rest])
theorem rcells_40 {sg : Value} {ms : List Value} {rest : Value} (h : ms.length = 39) : (rcells sg ms rest)[40]? = some rest := by
  unfold rcells
  rw [List.getElem?_cons_succ, List.getElem?_append_right (by omega), h]
  rfl
theorem rcells_set40 {sg v : Value} {ms : List Value} {rest : Value} (h : ms.length = 39) : (rcells sg ms rest).set 40 v = rcells sg ms v := by
  unfold rcells
  rw [List.set_cons_succ, List.set_append_right _ _ (by omega), h]
  rfl
theorem rcells_set0 {sg v : Value} {ms : List Value} {rest : Value} : (rcells sg ms rest).set 0 v = rcells v ms rest := rfl
theorem mzero_len : mzero.length = 39 := mlen zero32_len

/-- a packets' reader at block p, with zs left, which lie below block B -/
structure RdT (w : World) (p B : Nat) (sg : Value) (ms : List Value) (zs : List Int) : Prop where
  is : ∃ A c, Row w p 79 (rcells sg ms (.slice A zs.length c)) ∧ Sees w B A zs.length (bv zs) ∧ zs.length ≤ c ∧ c ≤ maxLen

/-- a list of signatures of the call's own, its block from lo to hi -/
structure SigsV (w : World) (lo hi : Nat) (v : Value) (l : List (List Int)) : Prop where
  own : w.ownsRow lo 62 64 v l.length (bv l.flatten)
  lt : ∀ g, v.ownBlock = some g → g < hi
  each : ∀ y ∈ l, y.length = 64

theorem wp_copy_splice {P : Program} {o : Oper} {a : Act} {w : World} {K : Act → World → Prop} {Q : Exit → Act → World → Prop} (hgd : o.guard = none) (d s : Operand) (dT sT : TypeId)
    (ho : o.op = .call { callee := .builtin .copy, args := #[d, s], argTypes := #[dT, sT] }) (elem : TypeId) (hu : P.underlying dT = some (.slice elem)) (hsz : (P.info? elem).map (·.size) = some 1)
    (dp sp : Option Addr) (dLen dCap sLen sCap : Nat) (hd : a.eval d = .slice dp dLen dCap) (hs : a.eval s = .slice sp sLen sCap)
    (g off : Nat) (cur : List Value) (t : TypeId) (hg : w.heap[g]? = some (.cells cur.toArray t (0, 0))) (cs : List Value) (hn : cs.length = Nat.min sLen dLen)
    (hpos : 0 < cs.length → dp = some ⟨g, off, none⟩ ∧ ∃ ad, sp = some ad ∧ ∀ j v, cs[j]? = some v → w.cell? (ad.add j) = some v)
    (hfit : off + cs.length ≤ cur.length) (h1 : ∀ v ∈ cs, v.oneCell' = true) (B : Nat) (w0 : World) (hb : Below B w0 w) (hBg : B ≤ g)
    (h : ∀ w', Hid (w'.heap[g]? = some (.cells (splice cur off cs).toArray t (0, 0))) → Below B w0 w' → K (a.put o.dst (goInt cs.length)) w') : Oper.wp P o a w K Q := by
  have := step_copy_splice (P := P) (ops := #[]) (E := True) (Q := Q) hgd d s dT sT ho elem hu hsz dp sp dLen dCap sLen sCap hd hs g off cur t hg cs hn hpos hfit h1 B w0 hb hBg h
  rwa [if_pos (by simp [Region.wanted, hgd])] at this

/-- what signatures leaves -/
def SigsRead (w : World) (p B : Nat) (zs : List Int) (e : Ending) (w' : World) : Prop :=
  (∃ l r v, pSigs zs = .ok (l, r) ∧ e = .returned (.int .i64 0) ∧ SigsV w' w.heap.size w'.heap.size v l ∧ RdT w' p B v mzero r ∧ But p w w') ∨
  (∃ c, pSigs zs = .error c ∧ e = .returned (.int .i64 c) ∧ But p w w')

theorem info_sig : (Try.prog.info? 62).map (fun i => (i.zero, i.size, i.bytes)) = some (some (.agg (zeros 64).toArray), 64, 64) := by kernel_rfl

set_option maxRecDepth 100000 in
set_option maxHeartbeats 2000000 in
theorem signatures_ (p B : Nat) (zs : List Int) (w : World) (h : RdT w p B (.slice none 0 0) mzero zs) (hB : B ≤ p) (hz : AllBytes zs) :
    Calls Try.prog 41 #[.pointer (some ⟨p, 0, none⟩)] w (SigsRead w p B zs) := by
  obtain ⟨A, c, hr, hs, hnc, hc⟩ := h
  have c40 : w.cell? ⟨p, 40, none⟩ = some (.slice A zs.length c) := (hr.cell 40).trans (rcells_40 mzero_len)
  have f40 := hr.frozen 40
  have G := Lib.hid (getShort A zs.length c zs w B hs (by omega) hz.bytes)
  have R := Lib.hid hr
  have S := Lib.hid hs
  have hmx := hc
  unfold maxLen at hmx
  have HC := Lib.hid (And.intro hnc hc)
  have hplt := hr.lt
  clear hr hs
  rcases getS_cases zs hz with (he | he) | ⟨n, k, he, hn, hk1, hk2⟩
  · have HP : Hid (pSigs zs = .error 4) := Lib.hid (by unfold pSigs pList pShort; rw [he]; rfl)
    rw [he] at G
    go_enter Try.func41, Try.ntmps41
    go_wp2_with fail
    refine G.out.mono ?_
    rintro e w1 ⟨rfl, rfl⟩
    go_wp2_with fail
    go_ret
    exact .inr ⟨4, HP.out, rfl, But.refl _ _⟩
  · have HP : Hid (pSigs zs = .error 5) := Lib.hid (by unfold pSigs pList pShort; rw [he]; rfl)
    rw [he] at G
    go_enter Try.func41, Try.ntmps41
    go_wp2_with fail
    refine G.out.mono ?_
    rintro e w1 ⟨rfl, rfl⟩
    go_wp2_with fail
    go_ret
    exact .inr ⟨5, HP.out, rfl, But.refl _ _⟩
  · have HP : Hid (pSigs zs = pMany (pTake 64) n (zs.drop k)) := Lib.hid (by unfold pSigs pList pShort; rw [he]; simp)
    rw [he] at G
    have HT := Lib.hid (S.out.tail hk2 hnc)
    obtain ⟨r, hr⟩ : ∃ r, r = zs.drop k := ⟨_, rfl⟩
    have hrl : zs.length - k = r.length := by rw [hr, List.length_drop]
    have HRB := Lib.hid (show AllBytes r by rw [hr]; exact hz.drop k)
    have e1 : (bv zs).drop k = bv r := by rw [hr]; simp [bv, cv]
    rw [e1, hrl] at HT
    rw [← hr] at HP
    have hc2 : r.length ≤ c - k := by omega
    obtain ⟨A1, hA1⟩ : ∃ A1, A1 = tailAt A c k := ⟨_, rfl⟩
    obtain ⟨c1, hc1⟩ : ∃ c1, c1 = c - k := ⟨_, rfl⟩
    have hc3 : c1 ≤ 9223372036854775807 := by omega
    rw [← hA1] at HT
    rw [← hc1] at hc2
    have HA1 := Lib.hid hA1
    have HC1 := Lib.hid hc1
    have HRL := Lib.hid hrl
    clear hr e1 hA1 hc1 hrl he
    have hk0 : (0 : Int) ≤ k := by omega
    have hk2' : (k : Int) ≤ zs.length := by omega
    go_enter Try.func41, Try.ntmps41
    go_wp2_with fail
    refine G.out.mono ?_
    rintro e w1 ⟨rfl, rfl⟩
    clear G
    have hr2 : Row (w.setCell ⟨p, 40, none⟩ (.slice A1 r.length c1)) p 79 (rcells (.slice none 0 0) mzero (.slice A1 r.length c1)) := by
      have := R.out.set_ 40 (.slice A1 r.length c1)
      rwa [rcells_set40 mzero_len] at this
    have HR2 := Lib.hid hr2
    have HB2 := Lib.hid (But.of_turned (turned_setCell w ⟨p, 40, none⟩ (.slice A1 r.length c1)))
    have HS2 := Lib.hid (HT.out.below ((turned_setCell w ⟨p, 40, none⟩ (.slice A1 r.length c1)).below (show B ≤ p from hB)))
    clear hr2
    go_upto_region 5 with ((with_reducible show wpList _ _ _ ({ dst := some 25, op := Op.slice _ _ _ _ _, type := _, pos := _, after := _, guard := _ } :: _) _ _); go_must (refine wpList_tail rfl 37 5 (.tmp 23) (.tmp 24) rfl Try.underlying37 size_u8 A zs.length c k ?_ ?_ hk2 HC.out.1 HC.out.2 ?_; go_simp; go_simp; rw [HRL.out, ← HA1.out, ← HC1.out]))
    generalize (w.setCell ⟨p, 40, none⟩ (.slice A1 r.length c1)) = W at *
    have d40 : W.cell? ⟨p, 40, none⟩ = some (.slice A1 r.length c1) := (HR2.out.cell 40).trans (rcells_40 mzero_len)
    have d0 : W.cell? ⟨p, 0, none⟩ = some (.slice none 0 0) := HR2.out.cell 0
    have g0 := HR2.out.frozen 0
    clear c40 f40
    by_cases hsh : r.length < n * 64
    · have HE := Lib.hid (many_short n hsh)
      have hsh' : (r.length : Int) < n * 64 := by omega
      go_wp2_with fail
      go_ret
      exact .inr ⟨5, HP.out.trans HE.out, rfl, HB2.out⟩
    · obtain ⟨l, hl1, hl2, hl3, hl4⟩ := many_long n (by omega : n * 64 ≤ r.length)
      have HL := Lib.hid (And.intro hl1 (And.intro hl2 (And.intro hl3 hl4)))
      have hsh' : ¬ (r.length : Int) < n * 64 := by omega
      clear hl1 hl2 hl3 hl4
      by_cases hn0 : n = 0
      · subst hn0
        go_wp2_with fail
        go_loopw [50] (fun i wr => i = .int .i64 0 ∧ wr = W) (fun i _ => 0)
        case atStart => exact ⟨rfl, rfl⟩
        case round =>
          obtain ⟨rfl, rfl⟩ := hrel
          go_wp2_with fail
          go_ret
          obtain ⟨h1, h2, h3, h4⟩ := HL.out
          obtain rfl : l = [] := List.length_eq_zero_iff.1 h2
          refine .inl ⟨[], r, .slice none 0 0, by rw [HP.out, h1]; simp, rfl, ⟨World.ownsRow_nil _ _ _ _, fun g hg => (by cases hg), (by simp)⟩, ⟨A1, c1, HR2.out, HS2.out, hc2, by unfold maxLen; omega⟩, HB2.out⟩
      · have hz1' := HB2.out.size
        have hn1 : (0 : Int) < n := by omega
        have hWp := HR2.out.lt
        obtain ⟨i0, hi, hz0, hz1, hz2⟩ := info_parts info_sig
        go_upto_region 9 with (first
          | (at_make; go_must (refine wpList_make_full _ rfl (.tmp 39) (.tmp 39) 22 rfl W.heap.size 62 i0 _ 64 Try.underlying22 hi hz0 hz1 .i64 .i64 _ _ n ?_ ?_ rfl rfl (by rw [hz2]; omega) (by unfold maxLen; omega) (Nat.le_refl _) ?_; go_simp; go_simp; intro w1 hown hgrow; have hrow := Row.of_ownN hown; have hb1 := (Below.refl W.heap.size W).grown hgrow (Nat.le_refl _) (fun k hk => by cases hk); have f0 : w1.cell? ⟨p, 0, none⟩ = some (.slice none 0 0) := hb1.cell hWp |>.trans d0; have h0 := (HR2.out.below hb1 hWp).frozen 0)))
        have hlen := made_len (.agg (zeros 64).toArray) (n * 64)
        generalize (madeCells (Value.agg (zeros 64).toArray).cells (n * 64)).toList = cs at *
        have hr3 : Row (w1.setCell ⟨p, 0, none⟩ (.slice (some ⟨W.heap.size, 0, none⟩) n n)) p 79 (rcells (.slice (some ⟨W.heap.size, 0, none⟩) n n) mzero (.slice A1 r.length c1)) := by
          have := (HR2.out.below hb1 hWp).set_ 0 (.slice (some ⟨W.heap.size, 0, none⟩) n n)
          rwa [rcells_set0] at this
        have ht3 := turned_setCell w1 ⟨p, 0, none⟩ (.slice (some ⟨W.heap.size, 0, none⟩) n n)
        have HG3 := Lib.hid (ht3.row hrow (show W.heap.size ≠ p by omega))
        have HS3 := Lib.hid ((HS2.out.below (hb1.mono (by omega))).below (ht3.below (show B ≤ p from hB)))
        have HB3 := Lib.hid ((HB2.out.trans (But.of_below hb1 p)).trans (But.of_turned ht3))
        have HR3 := Lib.hid hr3
        have HLN := Lib.hid hlen
        have HZW : Hid (W.heap.size < (w1.setCell ⟨p, 0, none⟩ (.slice (some ⟨W.heap.size, 0, none⟩) n n)).heap.size) := Lib.hid (by have := hrow.lt; have := ht3.size; omega)
        clear hr3 ht3 hrow hown hgrow hb1 f0 h0 HS2 HR2 hlen hi hz0 hz1 hz2 i0 d0 g0 d40 R S HT
        generalize (w1.setCell ⟨p, 0, none⟩ (.slice (some ⟨W.heap.size, 0, none⟩) n n)) = w3 at *
        have a0 : w3.cell? ⟨p, 0, none⟩ = some (.slice (some ⟨W.heap.size, 0, none⟩) n n) := HR3.out.cell 0
        go_wp2_with fail
        clear a0
        go_loopw [50] (fun i wr => ∃ j : Nat, j ≤ n ∧ i = .int .i64 j ∧ RdT wr p B (.slice (some ⟨W.heap.size, 0, none⟩) n n) mzero (r.drop (j * 64)) ∧ Row wr W.heap.size 62 (bv (r.take (j * 64)) ++ cs.drop (j * 64)) ∧ But p w wr) (fun i _ => n - (intOf i).toNat)
        case atStart => exact ⟨0, Nat.zero_le _, rfl, by simpa using ⟨A1, c1, HR3.out, HS3.out, hc2, by unfold maxLen; omega⟩, by simpa [bv, cv] using HG3.out, HB3.out⟩
        case round =>
          clear HR3 HS3 HG3 HB3 HB2 HZW
          obtain ⟨j, hj, rfl, hrd, hg, hb⟩ := hrel
          by_cases hlt : j < n
          · obtain ⟨A2, c2, hrv, hsv, hnc2, hmc2⟩ := hrd
            obtain ⟨R0, hR0⟩ : ∃ R0, R0 = r.drop (j * 64) := ⟨_, rfl⟩
            rw [← hR0] at hrv hsv hnc2
            obtain ⟨N, hN⟩ : ∃ N, N = R0.length := ⟨_, rfl⟩
            rw [← hN] at hrv hsv hnc2
            have hNr : N = r.length - j * 64 := by rw [hN, hR0, List.length_drop]
            have hN64 : 64 ≤ N := by omega
            have HL64 : Hid ((bv (R0.take 64)).length = 64) := Lib.hid (by rw [bv_length, List.length_take, ← hN]; omega)
            have htl : (r.take (j * 64)).length = j * 64 := by rw [List.length_take]; omega
            have htake : r.take ((j + 1) * 64) = r.take (j * 64) ++ R0.take 64 := by rw [hR0, show (j + 1) * 64 = j * 64 + 64 by omega, List.take_add]
            have hdrop : R0.drop 64 = r.drop ((j + 1) * 64) := by rw [hR0, List.drop_drop, show j * 64 + 64 = (j + 1) * 64 by omega]
            obtain ⟨V, hV⟩ : ∃ V, V = wr.drew := ⟨_, rfl⟩
            have HRV : Hid (Row V p 79 (rcells (.slice (some ⟨W.heap.size, 0, none⟩) n n) mzero (.slice A2 N c2))) := Lib.hid (by rw [hV]; exact hrv.drew)
            have HGV : Hid (Row V W.heap.size 62 (bv (r.take (j * 64)) ++ cs.drop (j * 64))) := Lib.hid (by rw [hV]; exact hg.drew)
            have HSV : Hid (Sees V B A2 N (bv R0)) := Lib.hid (by rw [hV]; exact hsv.drew)
            have HBV : Hid (But p w V) := Lib.hid (by rw [hV]; exact hb.drew)
            have HPW := Lib.hid hWp
            have HBW := Lib.hid (show B ≤ W.heap.size by omega)
            have HC2 := Lib.hid (And.intro hN64 (And.intro hnc2 hmc2))
            have HSP : Hid (splice (bv (r.take (j * 64)) ++ cs.drop (j * 64)) (j * 64) (bv (R0.take 64)) = bv (r.take ((j + 1) * 64)) ++ cs.drop ((j + 1) * 64)) := Lib.hid (by
              have e1 : (bv (r.take (j * 64))).length = j * 64 := by rw [bv_length, htl]
              unfold splice
              rw [HL64.out, htake, bv_append, List.take_left' e1, show j * 64 + 64 = (bv (r.take (j * 64))).length + 64 by rw [e1], List.drop_length_add_append, List.drop_drop, show j * 64 + 64 = (j + 1) * 64 by omega, List.append_assoc])
            have HCP : Hid ((bv (R0.take 64)).length = Nat.min N 64 ∧ (0 < (bv (R0.take 64)).length → (some (⟨W.heap.size, j * 64, none⟩ : Addr)) = some ⟨W.heap.size, j * 64, none⟩ ∧ ∃ ad, A2 = some ad ∧ ∀ j v, (bv (R0.take 64))[j]? = some v → V.cell? (ad.add j) = some v) ∧ j * 64 + (bv (R0.take 64)).length ≤ (bv (r.take (j * 64)) ++ cs.drop (j * 64)).length) := Lib.hid ⟨by rw [HL64.out]; show 64 = min N 64; omega, fun _ => ⟨rfl, by
                obtain ⟨ad, u, e, _, _, _⟩ := HSV.out.at_ (k := 0) (by omega)
                refine ⟨ad, e, fun i v hv => ?_⟩
                have hi := (List.getElem?_eq_some_iff.1 hv).1
                rw [HL64.out] at hi
                have hv' : (bv R0)[i]? = some v := by
                  rw [bv_getElem?] at hv ⊢
                  rwa [List.getElem?_take_of_lt hi] at hv
                obtain ⟨ad', e', _, hc'⟩ := HSV.out.cell i v hv'
                rw [e] at e'
                obtain rfl := Option.some.inj e'
                exact hc'⟩, by
              have := HLN.out
              rw [HL64.out, List.length_append, bv_length, htl, List.length_drop, this]
              omega⟩
            have HFIN : Hid (∀ w' : World, Row w' p 79 (rcells (.slice (some ⟨W.heap.size, 0, none⟩) n n) mzero (.slice (tailAt A2 c2 64) (N - 64) (c2 - 64))) → Sees w' B A2 N (bv R0) → RdT w' p B (.slice (some ⟨W.heap.size, 0, none⟩) n n) mzero (r.drop ((j + 1) * 64))) := Lib.hid fun w' h1 h2 => by
              have h3 := h2.tail (k := 64) hN64 hnc2
              have e1 : (bv R0).drop 64 = bv (r.drop ((j + 1) * 64)) := by rw [← hdrop]; simp [bv, cv]
              have e2 : (r.drop ((j + 1) * 64)).length = N - 64 := by rw [← hdrop, List.length_drop, ← hN]
              rw [e1] at h3
              exact ⟨tailAt A2 c2 64, c2 - 64, by rw [e2]; exact h1, by rw [e2]; exact h3, by rw [e2]; omega, by omega⟩
            have HS : Hid (V.cell? ⟨p, 0, none⟩ = some (.slice (some ⟨W.heap.size, 0, none⟩) n n)) := Lib.hid (HRV.out.cell 0)
            unfold maxLen at hmc2
            clear hrv hsv hg hb hR0 hN hNr htl htake hdrop
            go_upto_region 12 with fail
            refine wp_region_held_drew (S := fun V => V.cell? ⟨p, 0, none⟩ = some (.slice (some ⟨W.heap.size, 0, none⟩) n n)) (by kernel_rfl) (by rw [← hV]; exact HS.out) (fun _ => ?_)
            rw [← hV]
            clear hV
            refine takeL (i := 0) (v := ?_) rfl (by kernel_rfl) (by kernel_rfl) (by kernel_rfl) (fun _ _ _ h => h) (Or.inl ⟨by rfl, ?_⟩) HS.out ?_
            rotate_left
            · intro w hw
              try dsimp only at hw
              go_simp
              try with_reducible rfl
            try simp only [Act.put, List.setIfInBounds_toArray, List.set_cons_zero, List.set_cons_succ]
            refine takeL (i := 1) (v := ?_) rfl (by kernel_rfl) (by kernel_rfl) (by kernel_rfl) (fun _ _ _ h => h) (Or.inl ⟨by rfl, ?_⟩) HS.out ?_
            rotate_left
            · intro w hw
              try dsimp only at hw
              go_simp
              try with_reducible rfl
            try simp only [Act.put, List.setIfInBounds_toArray, List.set_cons_zero, List.set_cons_succ]
            refine takeL (i := 2) (v := ?_) rfl (by kernel_rfl) (by kernel_rfl) (by kernel_rfl) (fun _ _ _ h => h) (Or.inl ⟨by rfl, ?_⟩) HS.out ?_
            rotate_left
            · intro w hw
              try dsimp only at hw
              go_simp
              try with_reducible rfl
            try simp only [Act.put, List.setIfInBounds_toArray, List.set_cons_zero, List.set_cons_succ]
            refine takeL (i := 3) (v := ?_) rfl (by kernel_rfl) (by kernel_rfl) (by kernel_rfl) (fun _ _ _ h => h) (Or.inl ⟨by rfl, ?_⟩) HS.out ?_
            rotate_left
            · intro w hw
              try dsimp only at hw
              go_simp
              try with_reducible rfl
            try simp only [Act.put, List.setIfInBounds_toArray, List.set_cons_zero, List.set_cons_succ]
            refine takeL (i := 5) (v := ?_) rfl (by kernel_rfl) (by kernel_rfl) (by kernel_rfl) (fun _ _ _ h => h) (Or.inl ⟨by rfl, ?_⟩) HS.out ?_
            rotate_left
            · intro w hw
              try dsimp only at hw
              go_simp
              try with_reducible rfl
            try simp only [Act.put, List.setIfInBounds_toArray, List.set_cons_zero, List.set_cons_succ]
            refine takeL (i := 6) (v := ?_) rfl (by kernel_rfl) (by kernel_rfl) (by kernel_rfl) (fun _ _ _ h => h) (Or.inl ⟨by rfl, ?_⟩) HS.out ?_
            rotate_left
            · intro w hw
              try dsimp only at hw
              go_simp
              try with_reducible rfl
            try simp only [Act.put, List.setIfInBounds_toArray, List.set_cons_zero, List.set_cons_succ]
            refine takeL (i := 7) (v := ?_) rfl (by kernel_rfl) (by kernel_rfl) (by kernel_rfl) (fun _ _ _ h => h) (Or.inl ⟨by rfl, ?_⟩) HS.out ?_
            rotate_left
            · intro w hw
              try dsimp only at hw
              go_simp
              try with_reducible rfl
            try simp only [Act.put, List.setIfInBounds_toArray, List.set_cons_zero, List.set_cons_succ]
            refine takeL (i := 8) (v := ?_) rfl (by kernel_rfl) (by kernel_rfl) (by kernel_rfl) (fun _ _ _ h => h) (Or.inl ⟨by rfl, ?_⟩) HS.out ?_
            rotate_left
            · intro w hw
              try dsimp only at hw
              go_simp
              try with_reducible rfl
            try simp only [Act.put, List.setIfInBounds_toArray, List.set_cons_zero, List.set_cons_succ]
            refine takeL (i := 9) (v := ?_) rfl (by kernel_rfl) (by kernel_rfl) (by kernel_rfl) (fun _ _ _ h => h) (Or.inl ⟨by rfl, ?_⟩) HS.out ?_
            rotate_left
            · intro w hw
              try dsimp only at hw
              go_simp
              try with_reducible rfl
            try simp only [Act.put, List.setIfInBounds_toArray, List.set_cons_zero, List.set_cons_succ]
            refine takeL (i := 10) (v := ?_) rfl (by kernel_rfl) (by kernel_rfl) (by kernel_rfl) (fun _ _ _ h => h) (Or.inl ⟨by rfl, ?_⟩) HS.out ?_
            rotate_left
            · intro w hw
              try dsimp only at hw
              go_simp
              try with_reducible rfl
            try simp only [Act.put, List.setIfInBounds_toArray, List.set_cons_zero, List.set_cons_succ]
            refine takeL (i := 11) (v := ?_) rfl (by kernel_rfl) (by kernel_rfl) (by kernel_rfl) (fun _ _ _ h => h) (Or.inl ⟨by rfl, ?_⟩) HS.out ?_
            rotate_left
            · intro w hw
              try dsimp only at hw
              go_simp
              try with_reducible rfl
            try simp only [Act.put, List.setIfInBounds_toArray, List.set_cons_zero, List.set_cons_succ]
            refine takeL (i := 12) (v := ?_) rfl (by kernel_rfl) (by kernel_rfl) (by kernel_rfl) (fun _ _ _ h => h) (Or.inl ⟨by rfl, ?_⟩) HS.out ?_
            rotate_left
            · intro w hw
              try dsimp only at hw
              go_simp
              try with_reducible rfl
            try simp only [Act.put, List.setIfInBounds_toArray, List.set_cons_zero, List.set_cons_succ]
            refine takeL (i := 13) (v := ?_) rfl (by kernel_rfl) (by kernel_rfl) (by kernel_rfl) (fun _ _ _ h => h) (Or.inl ⟨by rfl, ?_⟩) HS.out ?_
            rotate_left
            · intro w hw
              try dsimp only at hw
              go_simp
              try with_reducible rfl
            try simp only [Act.put, List.setIfInBounds_toArray, List.set_cons_zero, List.set_cons_succ]
            refine takeL (i := 14) (v := ?_) rfl (by kernel_rfl) (by kernel_rfl) (by kernel_rfl) (fun _ _ _ h => h) (Or.inl ⟨by rfl, ?_⟩) HS.out ?_
            rotate_left
            · intro w hw
              try dsimp only at hw
              go_simp
              try with_reducible rfl
            try simp only [Act.put, List.setIfInBounds_toArray, List.set_cons_zero, List.set_cons_succ]
            refine takeL (i := 15) (v := ?_) rfl (by kernel_rfl) (by kernel_rfl) (by kernel_rfl) (fun _ _ _ h => h) (Or.inl ⟨by rfl, ?_⟩) HS.out ?_
            rotate_left
            · intro w hw
              try dsimp only at hw
              go_simp
              try with_reducible rfl
            try simp only [Act.put, List.setIfInBounds_toArray, List.set_cons_zero, List.set_cons_succ]
            refine readyL2 (i := 4) (j := 16) rfl rfl (by kernel_rfl) (by kernel_rfl) (by kernel_rfl) (fun K hK => ?_) (fun K hK => ?_)
            · have q40 : V.cell? ⟨p, 40, none⟩ = some (.slice A2 N c2) := (HRV.out.cell 40).trans (rcells_40 mzero_len)
              go_simp
              refine hK.out _ _ HS.out ?_
              clear hK K
              try simp only [Act.put, List.setIfInBounds_toArray, List.set_cons_zero, List.set_cons_succ]
              clear q40
              refine readyL (i := 16) rfl (by kernel_rfl) (by kernel_rfl) fun K hK => ?_
              have q40 : V.cell? ⟨p, 40, none⟩ = some (.slice A2 N c2) := (HRV.out.cell 40).trans (rcells_40 mzero_len)
              go_simp
              refine hK.out _ _ HS.out ?_
              clear hK K
              try simp only [Act.put, List.setIfInBounds_toArray, List.set_cons_zero, List.set_cons_succ]
              clear q40
              refine readyL (i := 17) rfl (by kernel_rfl) (by kernel_rfl) fun K hK => ?_
              refine wp_copy_splice rfl (.tmp 65) (.tmp 69) 37 37 rfl 5 Try.underlying37 size_u8 (some ⟨W.heap.size, j * 64, none⟩) A2 64 64 N c2 ?_ ?_ W.heap.size (j * 64) (bv (r.take (j * 64)) ++ cs.drop (j * 64)) 62 HGV.out.is (bv (R0.take 64)) ?_ ?_ ?_ (bv_one _) W.heap.size V (Below.refl _ _) (Nat.le_refl _) ?_
              · go_simp
              · go_simp
              · exact HCP.out.1
              · exact HCP.out.2.1
              · exact HCP.out.2.2
              intro V2 hg2 hb2
              have HRV2 := Lib.hid (HRV.out.below hb2 HPW.out)
              have HGV2 : Hid (Row V2 W.heap.size 62 (bv (r.take ((j + 1) * 64)) ++ cs.drop ((j + 1) * 64))) := Lib.hid ⟨by rw [hg2.out, HSP.out]⟩
              have HSV2 := Lib.hid (HSV.out.below (hb2.mono HBW.out))
              have HBV2 : Hid (But p w V2) := Lib.hid ⟨hb2.os.trans HBV.out.os, hb2.tape.trans HBV.out.tape, hb2.output.trans HBV.out.output, Nat.le_trans HBV.out.size hb2.size, fun k hk hne => (hb2.block k (by omega)).trans (HBV.out.block k hk hne)⟩
              have HS2 : Hid (V2.cell? ⟨p, 0, none⟩ = some (.slice (some ⟨W.heap.size, 0, none⟩) n n)) := Lib.hid (HRV2.out.cell 0)
              have hl64 : goInt (bv (R0.take 64)).length = .int .i64 64 := by rw [HL64.out]; rfl
              simp only [hl64]
              clear hg2 hb2 hl64
              refine hK.out _ _ HS2.out ?_
              clear hK K
              try simp only [Act.put, List.setIfInBounds_toArray, List.set_cons_zero, List.set_cons_succ]
              refine takeL (i := 18) (v := .slice (tailAt A2 c2 64) (N - 64) (c2 - 64)) rfl (by kernel_rfl) (by kernel_rfl) (by kernel_rfl) (fun _ _ _ h => h) (Or.inl ⟨by rfl, fun w hw => ?_⟩) HS2.out ?_
              · exact run_tail 37 5 (.tmp 57) (.tmp 70) rfl Try.underlying37 size_u8 A2 N c2 64 (by go_simp) (by go_simp) HC2.out.1 HC2.out.2.1 HC2.out.2.2
              try simp only [Act.put, List.setIfInBounds_toArray, List.set_cons_zero, List.set_cons_succ]
              refine takeL (i := 19) (v := ?_) rfl (by kernel_rfl) (by kernel_rfl) (by kernel_rfl) (fun _ _ _ h => h) (Or.inl ⟨by rfl, ?_⟩) HS2.out ?_
              rotate_left
              · intro w hw
                try dsimp only at hw
                go_simp
                try with_reducible rfl
              try simp only [Act.put, List.setIfInBounds_toArray, List.set_cons_zero, List.set_cons_succ]
              refine takeL (i := 20) (v := ?_) rfl (by kernel_rfl) (by kernel_rfl) (by kernel_rfl) (fun _ _ _ h => h) (Or.inl ⟨by rfl, ?_⟩) HS2.out ?_
              rotate_left
              · intro w hw
                try dsimp only at hw
                go_simp
                try with_reducible rfl
              try simp only [Act.put, List.setIfInBounds_toArray, List.set_cons_zero, List.set_cons_succ]
              have q40 : V2.cell? ⟨p, 40, none⟩ = some (.slice A2 N c2) := (HRV2.out.cell 40).trans (rcells_40 mzero_len)
              have r40 := HRV2.out.frozen 40
              refine readyL (i := 21) rfl (by kernel_rfl) (by kernel_rfl) fun K hK => ?_
              go_simp
              refine hK.out _ _ (by exact (HRV2.out.set_ 40 (.slice (tailAt A2 c2 64) (N - 64) (c2 - 64))).cell 0) ?_
              clear hK K
              try simp only [Act.put, List.setIfInBounds_toArray, List.set_cons_zero, List.set_cons_succ]
              clear q40 r40
              refine wpAnyH_done (by kernel_rfl) ?_ _
              go_wp2_with fail
              go_roundw
              case rel =>
                have ht := turned_setCell V2 ⟨p, 40, none⟩ (.slice (tailAt A2 c2 64) (N - 64) (c2 - 64))
                have hr := HRV2.out.set_ 40 (.slice (tailAt A2 c2 64) (N - 64) (c2 - 64))
                rw [rcells_set40 mzero_len] at hr
                exact ⟨j + 1, by omega, by go_num, HFIN.out _ hr (HSV2.out.below (ht.below (show B ≤ p from hB))), ht.row HGV2.out (show W.heap.size ≠ p by have := HPW.out; omega), HBV2.out.trans (But.of_turned ht)⟩
              case measure => simp [intOf]; omega
            · have q40 : V.cell? ⟨p, 40, none⟩ = some (.slice A2 N c2) := (HRV.out.cell 40).trans (rcells_40 mzero_len)
              go_simp
              refine hK.out _ _ HS.out ?_
              clear hK K
              try simp only [Act.put, List.setIfInBounds_toArray, List.set_cons_zero, List.set_cons_succ]
              clear q40
              refine readyL2 (i := 4) (j := 17) rfl rfl (by kernel_rfl) (by kernel_rfl) (by kernel_rfl) (fun K hK => ?_) (fun K hK => ?_)
              · have q40 : V.cell? ⟨p, 40, none⟩ = some (.slice A2 N c2) := (HRV.out.cell 40).trans (rcells_40 mzero_len)
                go_simp
                refine hK.out _ _ HS.out ?_
                clear hK K
                try simp only [Act.put, List.setIfInBounds_toArray, List.set_cons_zero, List.set_cons_succ]
                clear q40
                refine readyL (i := 17) rfl (by kernel_rfl) (by kernel_rfl) fun K hK => ?_
                refine wp_copy_splice rfl (.tmp 65) (.tmp 69) 37 37 rfl 5 Try.underlying37 size_u8 (some ⟨W.heap.size, j * 64, none⟩) A2 64 64 N c2 ?_ ?_ W.heap.size (j * 64) (bv (r.take (j * 64)) ++ cs.drop (j * 64)) 62 HGV.out.is (bv (R0.take 64)) ?_ ?_ ?_ (bv_one _) W.heap.size V (Below.refl _ _) (Nat.le_refl _) ?_
                · go_simp
                · go_simp
                · exact HCP.out.1
                · exact HCP.out.2.1
                · exact HCP.out.2.2
                intro V2 hg2 hb2
                have HRV2 := Lib.hid (HRV.out.below hb2 HPW.out)
                have HGV2 : Hid (Row V2 W.heap.size 62 (bv (r.take ((j + 1) * 64)) ++ cs.drop ((j + 1) * 64))) := Lib.hid ⟨by rw [hg2.out, HSP.out]⟩
                have HSV2 := Lib.hid (HSV.out.below (hb2.mono HBW.out))
                have HBV2 : Hid (But p w V2) := Lib.hid ⟨hb2.os.trans HBV.out.os, hb2.tape.trans HBV.out.tape, hb2.output.trans HBV.out.output, Nat.le_trans HBV.out.size hb2.size, fun k hk hne => (hb2.block k (by omega)).trans (HBV.out.block k hk hne)⟩
                have HS2 : Hid (V2.cell? ⟨p, 0, none⟩ = some (.slice (some ⟨W.heap.size, 0, none⟩) n n)) := Lib.hid (HRV2.out.cell 0)
                have hl64 : goInt (bv (R0.take 64)).length = .int .i64 64 := by rw [HL64.out]; rfl
                simp only [hl64]
                clear hg2 hb2 hl64
                refine hK.out _ _ HS2.out ?_
                clear hK K
                try simp only [Act.put, List.setIfInBounds_toArray, List.set_cons_zero, List.set_cons_succ]
                refine takeL (i := 18) (v := .slice (tailAt A2 c2 64) (N - 64) (c2 - 64)) rfl (by kernel_rfl) (by kernel_rfl) (by kernel_rfl) (fun _ _ _ h => h) (Or.inl ⟨by rfl, fun w hw => ?_⟩) HS2.out ?_
                · exact run_tail 37 5 (.tmp 57) (.tmp 70) rfl Try.underlying37 size_u8 A2 N c2 64 (by go_simp) (by go_simp) HC2.out.1 HC2.out.2.1 HC2.out.2.2
                try simp only [Act.put, List.setIfInBounds_toArray, List.set_cons_zero, List.set_cons_succ]
                refine takeL (i := 19) (v := ?_) rfl (by kernel_rfl) (by kernel_rfl) (by kernel_rfl) (fun _ _ _ h => h) (Or.inl ⟨by rfl, ?_⟩) HS2.out ?_
                rotate_left
                · intro w hw
                  try dsimp only at hw
                  go_simp
                  try with_reducible rfl
                try simp only [Act.put, List.setIfInBounds_toArray, List.set_cons_zero, List.set_cons_succ]
                refine takeL (i := 20) (v := ?_) rfl (by kernel_rfl) (by kernel_rfl) (by kernel_rfl) (fun _ _ _ h => h) (Or.inl ⟨by rfl, ?_⟩) HS2.out ?_
                rotate_left
                · intro w hw
                  try dsimp only at hw
                  go_simp
                  try with_reducible rfl
                try simp only [Act.put, List.setIfInBounds_toArray, List.set_cons_zero, List.set_cons_succ]
                have q40 : V2.cell? ⟨p, 40, none⟩ = some (.slice A2 N c2) := (HRV2.out.cell 40).trans (rcells_40 mzero_len)
                have r40 := HRV2.out.frozen 40
                refine readyL (i := 21) rfl (by kernel_rfl) (by kernel_rfl) fun K hK => ?_
                go_simp
                refine hK.out _ _ (by exact (HRV2.out.set_ 40 (.slice (tailAt A2 c2 64) (N - 64) (c2 - 64))).cell 0) ?_
                clear hK K
                try simp only [Act.put, List.setIfInBounds_toArray, List.set_cons_zero, List.set_cons_succ]
                clear q40 r40
                refine wpAnyH_done (by kernel_rfl) ?_ _
                go_wp2_with fail
                go_roundw
                case rel =>
                  have ht := turned_setCell V2 ⟨p, 40, none⟩ (.slice (tailAt A2 c2 64) (N - 64) (c2 - 64))
                  have hr := HRV2.out.set_ 40 (.slice (tailAt A2 c2 64) (N - 64) (c2 - 64))
                  rw [rcells_set40 mzero_len] at hr
                  exact ⟨j + 1, by omega, by go_num, HFIN.out _ hr (HSV2.out.below (ht.below (show B ≤ p from hB))), ht.row HGV2.out (show W.heap.size ≠ p by have := HPW.out; omega), HBV2.out.trans (But.of_turned ht)⟩
                case measure => simp [intOf]; omega
              · refine wp_copy_splice rfl (.tmp 65) (.tmp 69) 37 37 rfl 5 Try.underlying37 size_u8 (some ⟨W.heap.size, j * 64, none⟩) A2 64 64 N c2 ?_ ?_ W.heap.size (j * 64) (bv (r.take (j * 64)) ++ cs.drop (j * 64)) 62 HGV.out.is (bv (R0.take 64)) ?_ ?_ ?_ (bv_one _) W.heap.size V (Below.refl _ _) (Nat.le_refl _) ?_
                · go_simp
                · go_simp
                · exact HCP.out.1
                · exact HCP.out.2.1
                · exact HCP.out.2.2
                intro V2 hg2 hb2
                have HRV2 := Lib.hid (HRV.out.below hb2 HPW.out)
                have HGV2 : Hid (Row V2 W.heap.size 62 (bv (r.take ((j + 1) * 64)) ++ cs.drop ((j + 1) * 64))) := Lib.hid ⟨by rw [hg2.out, HSP.out]⟩
                have HSV2 := Lib.hid (HSV.out.below (hb2.mono HBW.out))
                have HBV2 : Hid (But p w V2) := Lib.hid ⟨hb2.os.trans HBV.out.os, hb2.tape.trans HBV.out.tape, hb2.output.trans HBV.out.output, Nat.le_trans HBV.out.size hb2.size, fun k hk hne => (hb2.block k (by omega)).trans (HBV.out.block k hk hne)⟩
                have HS2 : Hid (V2.cell? ⟨p, 0, none⟩ = some (.slice (some ⟨W.heap.size, 0, none⟩) n n)) := Lib.hid (HRV2.out.cell 0)
                have hl64 : goInt (bv (R0.take 64)).length = .int .i64 64 := by rw [HL64.out]; rfl
                simp only [hl64]
                clear hg2 hb2 hl64
                refine hK.out _ _ HS2.out ?_
                clear hK K
                try simp only [Act.put, List.setIfInBounds_toArray, List.set_cons_zero, List.set_cons_succ]
                refine readyL (i := 4) rfl (by kernel_rfl) (by kernel_rfl) fun K hK => ?_
                have q40 : V2.cell? ⟨p, 40, none⟩ = some (.slice A2 N c2) := (HRV2.out.cell 40).trans (rcells_40 mzero_len)
                go_simp
                refine hK.out _ _ HS2.out ?_
                clear hK K
                try simp only [Act.put, List.setIfInBounds_toArray, List.set_cons_zero, List.set_cons_succ]
                clear q40
                refine takeL (i := 18) (v := .slice (tailAt A2 c2 64) (N - 64) (c2 - 64)) rfl (by kernel_rfl) (by kernel_rfl) (by kernel_rfl) (fun _ _ _ h => h) (Or.inl ⟨by rfl, fun w hw => ?_⟩) HS2.out ?_
                · exact run_tail 37 5 (.tmp 57) (.tmp 70) rfl Try.underlying37 size_u8 A2 N c2 64 (by go_simp) (by go_simp) HC2.out.1 HC2.out.2.1 HC2.out.2.2
                try simp only [Act.put, List.setIfInBounds_toArray, List.set_cons_zero, List.set_cons_succ]
                refine takeL (i := 19) (v := ?_) rfl (by kernel_rfl) (by kernel_rfl) (by kernel_rfl) (fun _ _ _ h => h) (Or.inl ⟨by rfl, ?_⟩) HS2.out ?_
                rotate_left
                · intro w hw
                  try dsimp only at hw
                  go_simp
                  try with_reducible rfl
                try simp only [Act.put, List.setIfInBounds_toArray, List.set_cons_zero, List.set_cons_succ]
                refine takeL (i := 20) (v := ?_) rfl (by kernel_rfl) (by kernel_rfl) (by kernel_rfl) (fun _ _ _ h => h) (Or.inl ⟨by rfl, ?_⟩) HS2.out ?_
                rotate_left
                · intro w hw
                  try dsimp only at hw
                  go_simp
                  try with_reducible rfl
                try simp only [Act.put, List.setIfInBounds_toArray, List.set_cons_zero, List.set_cons_succ]
                have q40 : V2.cell? ⟨p, 40, none⟩ = some (.slice A2 N c2) := (HRV2.out.cell 40).trans (rcells_40 mzero_len)
                have r40 := HRV2.out.frozen 40
                refine readyL (i := 21) rfl (by kernel_rfl) (by kernel_rfl) fun K hK => ?_
                go_simp
                refine hK.out _ _ (by exact (HRV2.out.set_ 40 (.slice (tailAt A2 c2 64) (N - 64) (c2 - 64))).cell 0) ?_
                clear hK K
                try simp only [Act.put, List.setIfInBounds_toArray, List.set_cons_zero, List.set_cons_succ]
                clear q40 r40
                refine wpAnyH_done (by kernel_rfl) ?_ _
                go_wp2_with fail
                go_roundw
                case rel =>
                  have ht := turned_setCell V2 ⟨p, 40, none⟩ (.slice (tailAt A2 c2 64) (N - 64) (c2 - 64))
                  have hr := HRV2.out.set_ 40 (.slice (tailAt A2 c2 64) (N - 64) (c2 - 64))
                  rw [rcells_set40 mzero_len] at hr
                  exact ⟨j + 1, by omega, by go_num, HFIN.out _ hr (HSV2.out.below (ht.below (show B ≤ p from hB))), ht.row HGV2.out (show W.heap.size ≠ p by have := HPW.out; omega), HBV2.out.trans (But.of_turned ht)⟩
                case measure => simp [intOf]; omega
          · obtain rfl : j = n := by omega
            go_wp2_with fail
            go_ret
            obtain ⟨h1, h2, h3, h4⟩ := HL.out
            have h5 : cs.drop (j * 64) = [] := List.drop_of_length_le (by rw [HLN.out]; exact Nat.le_refl _)
            rw [h5, List.append_nil, ← h4] at hg
            have h6 : (bv l.flatten).length = j * 64 := by rw [bv_length, flat64_len l h3, h2]
            refine .inl ⟨l, r.drop (j * 64), .slice (some ⟨W.heap.size, 0, none⟩) j j, by rw [HP.out, h1], rfl, ⟨⟨by rw [h6, h2], .inr ⟨W.heap.size, j, (bv l.flatten).toArray, by rw [h2], hz1', hg.is, by omega, by unfold maxLen; omega, by rw [List.size_toArray, h6], by rw [List.take_of_length_le (by simp [h6, h2])]⟩⟩, fun g hgg => ?_, h3⟩, hrd, hb⟩
            cases hgg
            exact hg.lt
end Go.Proofs.Ytolijdbdpnbchaa
