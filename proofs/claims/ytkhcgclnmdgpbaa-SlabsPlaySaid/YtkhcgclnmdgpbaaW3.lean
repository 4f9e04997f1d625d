/-
  Parts joined: Same17 Lives17 FillWalk17 Acts13 PlayMem17 PlayWalk17.
-/
import Derived.Below
import Derived.Laws.OwnMore
import Derived.Deep.AppendLies
import Derived.Deep.Draws
import Derived.Lib.Hide
import Derived.Laws.BitsAllLaws
import Derived.WalkSmall
import Derived.Laws.MakeOwn
import Derived.Laws.CopyOwn
import Derived.Laws.Rows
import Derived.Maps.AppendAt
import Derived.OwnWalk
import Derived.WalkKit
import Derived.Test.YtkhcgclnmdgpbaaRows
import Derived.WalkSpells
import Derived.WalkLawsBesides
import Derived.IntWalk
import Derived.Deep.MidRow
import Derived.Deep.WholeRow
import Derived.Great.BuildSlice
import Derived.Recover
import Derived.Deep.RegionHeld
import Derived.Deep.QuietTactic
import Derived.BigQuiet
import Derived.Deep.RegionHeld2
import Derived.Deep.CutBlock
import Derived.Laws.Tables
import Derived.ChangeKeysEq
import Derived.ProofKit
import Derived.OpenShut
import Derived.ShutString
import Derived.ChangeOld
import Derived.Lib.SmallJoins
import Derived.Deep.Slices
import Derived.Deep.Strs
import Derived.SizedLaws
import Derived.Laws.StructEq
import Derived.Laws.Slices
import Derived.Deep.DeepCutAuto
import Derived.Laws.EntriesVeiled
import Derived.Deep.RegionHeld3
import Derived.Maps.OwnSet
import Derived.DeepKeys4
import Derived.WideKeyArr
import Derived.WideKeyEntry
import Derived.Shelf.SlMaps.Clone
import Derived.Laws.Append
import Derived.Laws.AppendOwn
import Derived.LaidMore
import Derived.WalkMore
import Derived.Test.YtkhcgclnmdgpbaaW1
import Derived.Test.YtkhcgclnmdgpbaaW2
/-
  Of part Same17: what is needed here.
-/
namespace Go.Proofs.Ytkhcgclnmdgpbaa
open Go.RowKit
set_option linter.unusedVariables false
set_option maxRecDepth 100000
theorem cv_at17 {xs : List Int} {i : Nat} {w : World} {B n : Nat} {A : Option Addr} (h : Sees w B A n (cv .i64 xs)) (hi : i < n) : ∃ a x, A = some a ∧ a.block < B ∧ xs[i]? = some x ∧ w.cell? (a.add i) = some (.int .i64 x) := by
  obtain ⟨a, u, ea, hb, hu, hc⟩ := h.at_ hi
  have hl : i < xs.length := by have := h.len; rw [cv_length] at this; omega
  have hx : xs[i]? = some xs[i] := List.getElem?_eq_getElem hl
  refine ⟨a, xs[i], ea, hb, hx, ?_⟩
  unfold cv at hu
  rw [List.getElem?_map, hx] at hu
  cases hu
  exact hc
set_option maxHeartbeats 1000000 in
theorem same17 (xs ys : List Int) (A B : Option Addr) (n m c d : Nat) (w : World) (hx : Sees w w.heap.size A n (cv .i64 xs)) (hy : Sees w w.heap.size B m (cv .i64 ys)) (hn : n ≤ 5000) (hm : m ≤ 5000) :
    Calls Try.prog 20 #[.slice A n c, .slice B m d] w fun e w' => e = .returned (.bool (decide (xs = ys))) ∧ Below w.heap.size w w' := by
  have HX := Lib.hid hx
  have HY := Lib.hid hy
  have HLX : Hid (xs.length = n) := Lib.hid (by have := hx.len; rwa [cv_length] at this)
  have HLY : Hid (ys.length = m) := Lib.hid (by have := hy.len; rwa [cv_length] at this)
  obtain ⟨b, hb⟩ : ∃ b, b = decide (xs = ys) := ⟨_, rfl⟩
  rw [← hb]
  have HB := Lib.hid hb
  clear hx hy hb
  go_enter Try.func20, Try.ntmps20
  go_wp2_with fail
  go_loopw [5] (fun i wr => ∃ k : Nat, k ≤ n ∧ k ≤ m ∧ i = .int .i64 k ∧ Hid (∀ j, j < k → xs[j]? = ys[j]?) ∧ Hid (Below w.heap.size w wr)) (fun i _ => n - (intOf i).toNat)
  case atStart => exact ⟨0, Nat.zero_le _, Nat.zero_le _, rfl, Lib.hid (fun j hj => absurd hj (by omega)), Lib.hid (Below.refl _ _)⟩
  case round =>
    obtain ⟨k, hkn, hkm, rfl, HE, HW⟩ := hrel
    rename World => wr
    by_cases h1 : k < n
    · have h1' : (k : Int) < n := by omega
      have d1 : decide ((k : Int) < n) = true := decide_eq_true h1'
      by_cases h2 : k < m
      · have h2' : (k : Int) < m := by omega
        have d2 : decide ((k : Int) < m) = true := decide_eq_true h2'
        obtain ⟨a, x, ea, hab, hxk, hac⟩ := cv_at17 HX.out h1
        obtain ⟨a2, y, ea2, hab2, hyk, hac2⟩ := cv_at17 HY.out h2
        subst ea
        subst ea2
        have oc1 : wr.cell? (a.add k) = some (.int .i64 x) := (HW.out.cell (by rw [addr_block]; exact hab)).trans hac
        have oc2 : wr.cell? (a2.add k) = some (.int .i64 y) := (HW.out.cell (by rw [addr_block]; exact hab2)).trans hac2
        have HXK := Lib.hid hxk
        have HYK := Lib.hid hyk
        have hbd : Hid (Below w.heap.size w wr.drew) := Lib.hid HW.out.drew
        clear hxk hyk hab hab2 hac hac2
        go_upto_region 4 with fail
        go_region
        by_cases hxy : x = y
        · have hxy' : ((x != y) = false) := by rw [hxy]; simp
          have HNX : Hid (∀ j, j < k + 1 → xs[j]? = ys[j]?) := Lib.hid fun j hj => by
            rcases Nat.lt_succ_iff_lt_or_eq.1 hj with hj | rfl
            · exact HE.out j hj
            · rw [HXK.out, HYK.out, hxy]
          clear oc1 oc2
          subst hxy
          go_wp2_with fail
          go_roundw
          case rel => exact ⟨k + 1, by omega, by omega, by go_num, HNX, hbd⟩
          case measure => simp [intOf]; omega
        · have hbf : Hid (b = false) := Lib.hid (by
            rw [HB.out]
            exact decide_eq_false fun e => hxy (by
              have h3 := HXK.out
              rw [e, HYK.out] at h3
              exact (Option.some.inj h3).symm))
          have hb0 := hbf.out
          subst hb0
          clear oc1 oc2
          go_wp2_with fail
          go_ret
          exact ⟨rfl, hbd.out⟩
      · have h2' : ¬ (k : Int) < m := by omega
        have d2 : decide ((k : Int) < m) = false := decide_eq_false h2'
        have hbf : Hid (b = false) := Lib.hid (by
          rw [HB.out]
          exact decide_eq_false fun e => by have := HLX.out; have := HLY.out; rw [e] at *; omega)
        have hb0 := hbf.out
        subst hb0
        have hnm : ¬ (n : Int) = (m : Int) := by omega
        have hnm2 : ((n : Int) == (m : Int)) = false := by rw [beq_eq_false_iff_ne]; exact hnm
        go_wp2_with fail
        go_ret
        exact ⟨rfl, HW.out⟩
    · have h1' : ¬ (k : Int) < n := by omega
      have d1 : decide ((k : Int) < n) = false := decide_eq_false h1'
      have hke : k = n := by omega
      by_cases hnm : n = m
      · have hbt : Hid (b = true) := Lib.hid (by
          rw [HB.out]
          refine decide_eq_true (List.ext_getElem? fun j => ?_)
          by_cases hj : j < k
          · exact HE.out j hj
          · rw [List.getElem?_eq_none (by have := HLX.out; omega), List.getElem?_eq_none (by have := HLY.out; omega)])
        have hb0 := hbt.out
        subst hb0
        subst hnm
        go_wp2_with fail
        go_ret
        exact ⟨rfl, HW.out⟩
      · have hbf : Hid (b = false) := Lib.hid (by
          rw [HB.out]
          exact decide_eq_false fun e => hnm (by have h3 := HLX.out; have h4 := HLY.out; rw [e] at h3; omega))
        have hb0 := hbf.out
        subst hb0
        have hnm3 : ¬ (n : Int) = (m : Int) := by omega
        have hnm2 : ((n : Int) == (m : Int)) = false := by rw [beq_eq_false_iff_ne]; exact hnm3
        go_wp2_with fail
        go_ret
        exact ⟨rfl, HW.out⟩
end Go.Proofs.Ytkhcgclnmdgpbaa

/-
  Of part Lives17: what is needed here.
-/
namespace Go.Proofs.Ytkhcgclnmdgpbaa
open Go.RowKit
set_option linter.unusedVariables false
set_option maxRecDepth 100000
theorem lst_is17 {f : F17} {n : Nat} (hl : Lst17 f n) (m : Nat) (h1 : ∀ k, k < m → (f k).isSome = true) (h2 : f m = none) : n = m := by
  rcases Nat.lt_trichotomy n m with h | h | h
  · have := h1 n h
    rw [hl.2] at this
    cases this
  · exact h
  · have := hl.1 m h
    rw [h2] at this
    cases this
set_option maxHeartbeats 2000000 in
theorem lives17 (w : World) : Calls Try.prog 9 #[] w fun e w' => e = .returned (.bool true) ∧ Below w.heap.size w w' := by
  go_enter Try.func9, Try.ntmps9
  go_wp2_with fail
  refine (new17 (w := w) (P := fun k => w.heap.size ≤ k) 2 2 rfl (by omega) (fun k hk => hk)).mono ?_
  rintro e w0 ⟨sb, gb, rfl, hs, _, _, hb⟩
  have HP : Hid (∀ k, w.heap.size ≤ k → (fun k => w.heap.size ≤ k) k) := Lib.hid fun k hk => hk
  have HPB : Hid (∀ k, (fun k => w.heap.size ≤ k) k → w.heap.size ≤ k) := Lib.hid fun k hk => hk
  generalize (fun k => w.heap.size ≤ k) = P at *
  have S0 := Lib.hid hs
  have O0 : Hid (Only17 P w w0) := Lib.hid (Only17.of hb (Nat.le_refl _))
  clear hs hb
  go_wp2_with fail
  refine (put17 S0.out 7 (fun k hk => HP.out k (Nat.le_trans O0.out.size hk))).mono ?_
  rintro e w1 ⟨n, hl, hc⟩
  have hn := lst_is17 hl 0 (fun k hk => absurd hk (Nat.not_lt_zero k)) (rfl)
  subst hn
  rcases hc with ⟨h9, _, _⟩ | ⟨_, rfl, hs, ho⟩
  · omega
  have S1 := Lib.hid hs
  have O1 := Lib.hid (O0.out.trans ho)
  clear hl hs ho
  go_wp2_with fail
  refine (put17 S1.out 8 (fun k hk => HP.out k (Nat.le_trans O1.out.size hk))).mono ?_
  rintro e w2 ⟨n, hl, hc⟩
  have hn := lst_is17 hl 1 (fun k hk => match k, hk with | 0, _ => rfl) (rfl)
  subst hn
  rcases hc with ⟨h9, _, _⟩ | ⟨_, rfl, hs, ho⟩
  · omega
  have S2 := Lib.hid hs
  have O2 := Lib.hid (O1.out.trans ho)
  clear hl hs ho
  go_wp2_with fail
  refine (put17 S2.out 9 (fun k hk => HP.out k (Nat.le_trans O2.out.size hk))).mono ?_
  rintro e w3 ⟨n, hl, hc⟩
  have hn := lst_is17 hl 2 (fun k hk => match k, hk with | 0, _ => rfl | 1, _ => rfl) rfl
  subst hn
  rcases hc with ⟨_, rfl, rfl⟩ | ⟨h9, _, _, _⟩
  rotate_left
  · omega
  clear hl
  go_wp2_with fail
  refine (freed17 S2.out 0).mono ?_
  rintro e w3 hc
  rcases hc with ⟨h9, _, _⟩ | ⟨n, x, hz, _, _, rfl, hs, ho⟩
  · cases h9
  have hn : n = 0 := by omega
  subst hn
  have S3 := Lib.hid hs
  have O3 := Lib.hid (O2.out.trans ho)
  clear hs ho hz
  go_wp2_with fail
  refine (put17 S3.out 9 (fun k hk => HP.out k (Nat.le_trans O3.out.size hk))).mono ?_
  rintro e w4 ⟨n, hl, hc⟩
  have hn := lst_is17 hl 0 (fun k hk => absurd hk (Nat.not_lt_zero k)) (rfl)
  subst hn
  rcases hc with ⟨h9, _, _⟩ | ⟨_, rfl, hs, ho⟩
  · omega
  have S4 := Lib.hid hs
  have O4 := Lib.hid (O3.out.trans ho)
  clear hl hs ho
  go_wp2_with fail
  have G0 : Hid (at17 (up17 (up17 (up17 (up17 none17 0 (some 7)) 1 (some 8)) 0 none) 0 (some 9)) 0 = some 9) := Lib.hid rfl
  have G2 : Hid (at17 (up17 (up17 (up17 (up17 none17 0 (some 7)) 1 (some 8)) 0 none) 0 (some 9)) 2 = none) := Lib.hid rfl
  have GN : Hid (nums17 (up17 (up17 (up17 (up17 none17 0 (some 7)) 1 (some 8)) 0 none) 0 (some 9)) 2 = [0, 1]) := Lib.hid rfl
  generalize up17 (up17 (up17 (up17 none17 0 (some 7)) 1 (some 8)) 0 none) 0 (some 9) = f at *
  refine (get17 S4.out 0).mono ?_
  rintro e w5 ⟨rfl, rfl⟩
  rw [G0.out]
  simp only [got17]
  go_wp2_with fail
  refine (get17 S4.out 2).mono ?_
  rintro e w5 ⟨rfl, rfl⟩
  rw [G2.out]
  simp only [got17]
  go_wp2_with fail
  refine (new_bad17 0 (by omega)).mono ?_
  rintro e w5 ⟨rfl, rfl⟩
  go_wp2_with fail
  refine (new_bad17 4097 (by omega)).mono ?_
  rintro e w5 ⟨rfl, rfl⟩
  go_wp2_with fail
  refine (nums17_ S4.out).mono ?_
  rintro e w5 ⟨v, rfl, ho, hb⟩
  rw [GN.out] at ho
  obtain ⟨A, c, rfl⟩ := own_form ho
  have HB5 := Lib.hid ((O4.out.below HPB.out (Nat.le_refl _)).trans (hb.mono O4.out.size))
  have HO5 : Hid (OwnI17 w5 w4.heap.size (.slice A 2 c) [0, 1]) := Lib.hid ho
  clear ho hb
  go_wp2_with fail
  have hbx := (Below.refl w5.heap.size w5).alloc (Nat.le_refl _) (.cells #[.int .i64 0, .int .i64 1] 3)
  have HO6 := Lib.hid (Sees.of_own (HO5.out.below hbx))
  have RX := Lib.hid (Row.new w5 3 [.int .i64 0, .int .i64 1])
  have HB6 := Lib.hid (HB5.out.trans (hbx.mono HB5.out.size))
  refine (same17 [0, 1] [0, 1] A (some ⟨w5.heap.size, 0, none⟩) 2 2 _ _ _ HO6.out RX.out.sees0 (by omega) (by omega)).mono ?_
  rintro e w6 ⟨rfl, hb6⟩
  have HB7 := Lib.hid (HB6.out.trans (hb6.mono HB6.out.size))
  clear hb6 hbx
  rw [decide_eq_true rfl]
  go_wp2_with fail
  go_ret
  exact ⟨rfl, HB7.out⟩
end Go.Proofs.Ytkhcgclnmdgpbaa

/-
  Of part FillWalk17: what is needed here.
-/
namespace Go.Proofs.Ytkhcgclnmdgpbaa
open Go.RowKit
set_option linter.unusedVariables false
set_option maxRecDepth 100000
theorem cnt_same17 {f g : F17} : ∀ {n : Nat}, (∀ k, k < n → (f k).isSome = (g k).isSome) → cnt17 f n = cnt17 g n
  | 0, _ => rfl
  | n + 1, h => by
    rw [cnt_succ17, cnt_succ17, cnt_same17 fun k hk => h k (by omega), h n (by omega)]
theorem cnt_gone17 {f : F17} {k : Nat} (hf : (f k).isSome = true) : ∀ {n : Nat}, k < n → cnt17 (up17 f k none) n + 1 = cnt17 f n
  | n + 1, h => by
    rw [cnt_succ17, cnt_succ17]
    by_cases hk : k = n
    · subst hk
      have e1 : cnt17 (up17 f k none) k = cnt17 f k := cnt_same17 fun j hj => by simp only [up17]; rw [if_neg (by omega)]
      have e2 : (up17 f k none k).isSome = false := by simp only [up17]; rfl
      rw [e1, e2, hf]
      rfl
    · have ih := cnt_gone17 hf (n := n) (by omega)
      have e : (up17 f k none n).isSome = (f n).isSome := by simp only [up17]; rw [if_neg (by omega)]
      rw [e]
      omega
theorem cv_set17 (xs : List Int) (k : Nat) (z : Int) : (cv .i64 xs).set k (.int .i64 z) = cv .i64 (xs.set k z) := by simp [cv, List.map_set]
theorem cv_get17 {xs : List Int} {k : Nat} {z : Int} (h : xs[k]? = some z) : (cv .i64 xs)[k]? = some (.int .i64 z) := by
  unfold cv
  rw [List.getElem?_map, h]
  rfl
end Go.Proofs.Ytkhcgclnmdgpbaa

/-
  Of part Acts13: what is needed here.
-/
namespace Go.Proofs.Ytkhcgclnmdgpbaa
open Go.ChangeShapes Go.WideShapes Go.RowKit
set_option linter.unusedVariables false
set_option maxRecDepth 100000
section
variable {H : Type} {enc : TypeId × Value → H} {w : World} {base b0 : Nat} {held : Bool}
theorem csIn_of13 {sz : Nat} {w : World} {B : Nat} {A : Option Addr} {n : Nat} {l : List (List Value)} (h0 : 0 < sz) (hn : l.length = n) (h : ∀ (i : Nat) x, l[i]? = some x → x.length = sz ∧ ∃ a, A = some a ∧ a.block < B ∧ ∀ j u, x[j]? = some u → w.cell? (a.add (i * sz + j)) = some u) : CsIn sz w B A n l := by
  have he : ∀ k ∈ l, k.length = sz := fun k hk => by
    obtain ⟨i, hi, rfl⟩ := List.getElem_of_mem hk
    exact (h i _ (List.getElem?_eq_getElem hi)).1
  refine ⟨hn, he, by rw [cs_flat he, hn], fun i u hu => ?_⟩
  have hi := (List.getElem?_eq_some_iff.1 hu).1
  rw [cs_flat he] at hi
  have hk : i / sz < l.length := (Nat.div_lt_iff_lt_mul h0).2 hi
  obtain ⟨h1, a, rfl, h2, h3⟩ := h (i / sz) _ (List.getElem?_eq_getElem hk)
  refine ⟨_, rfl, h2, ?_⟩
  have hj : i % sz < sz := Nat.mod_lt _ h0
  obtain ⟨v, hv⟩ : ∃ v, (l[i / sz])[i % sz]? = some v := ⟨_, List.getElem?_eq_getElem (by rw [h1]; exact hj)⟩
  have hf := flatten_at sz l (i / sz) _ (fun i y hy => he y (List.mem_of_getElem? hy)) (List.getElem?_eq_getElem hk) _ _ hv
  have hmm : i / sz * sz + i % sz = i := by rw [Nat.mul_comm]; exact Nat.div_add_mod i sz
  rw [hmm, hu] at hf
  obtain rfl := Option.some.inj hf
  have := h3 _ _ hv
  rwa [hmm] at this
end
end Go.Proofs.Ytkhcgclnmdgpbaa

/-
  Of part PlayMem17: what is needed here.
-/
namespace Go.Proofs.Ytkhcgclnmdgpbaa
open Go.ChangeShapes Go.WideShapes Go.RowKit
set_option linter.unusedVariables false
set_option maxRecDepth 100000
def AP17 (w : World) (rb : Nat) (v : Value) (k : Nat) : Prop := w.heap.size ≤ k ∧ ¬ RefP17 rb v k
section
variable {w V V' : World} {P : Nat → Prop} {sb gb rb room base : Nat} {v v' : Value} {f g f' : F17} {es : List (Nat × Int)}
theorem Slab17.apart (h : Slab17 V P sb gb room f) (hr : Ref17 V base rb room v es) : Slab17 V (fun k => P k ∧ ¬ RefP17 rb v k) sb gb room f := by
  obtain ⟨xs, th, h1, h2, h3, h4⟩ := h.she
  have hno : ∀ {k t : Nat} {ys : List Value}, Row V k t ys → t ≠ 45 → t ≠ 70 → ¬ RefP17 rb v k := fun hk h5 h6 e => by
    rcases e with rfl | e
    · exact row_ne12 hk hr.row h5 rfl
    · exact own_row_neN hr.own hk (fun e2 => h6 e2.symm) e.symm
  refine ⟨h.rm, h.out, h.top, ⟨h.own, hno h1 (by decide) (by decide)⟩, xs, th, h1, h2, fun i hi => ⟨(h3 i hi).1, (h3 i hi).2.1, (h3 i hi).2.2.no, fun t ht => ?_⟩, h4⟩
  obtain ⟨k1, ys, k2, k3⟩ := (h3 i hi).2.2.yes t ht
  exact ⟨⟨k1, hno k2 (by decide) (by decide)⟩, ys, k2, k3⟩
/-- what lies there, while acts are played -/
structure PS17 (w V : World) (sb gb rb room : Nat) (v : Value) (f g : F17) : Prop where
  b : Below w.heap.size w V
  s : Slab17 V (fun k => w.heap.size ≤ k) sb gb room f
  r : Ref17 V w.heap.size rb room v (entA17 g room)
theorem PS17.below (h : PS17 w V sb gb rb room v f g) (hb : Below V.heap.size V V') : PS17 w V' sb gb rb room v f g :=
  ⟨h.b.trans (hb.mono h.b.size), h.s.below hb, h.r.below hb⟩
theorem PS17.sap (h : PS17 w V sb gb rb room v f g) : Slab17 V (AP17 w rb v) sb gb room f := h.s.apart h.r
theorem PS17.hP (h : PS17 w V sb gb rb room v f g) : ∀ k, V.heap.size ≤ k → AP17 w rb v k := fun k hk => ⟨Nat.le_trans h.b.size hk, fun e => by have := (h.r.lowP e).2; omega⟩
/-- the slab was written -/
theorem PS17.slab (h : PS17 w V sb gb rb room v f g) (hs : Slab17 V' (AP17 w rb v) sb gb room f') (ho : Only17 (AP17 w rb v) V V') : PS17 w V' sb gb rb room v f' g :=
  ⟨h.b.trans (ho.below (fun k hk => hk.1) h.b.size), hs.mono fun k _ hk => hk.1, h.r.keep fun k hk he => ho.block k hk fun e => e.2 he⟩
/-- the reference was written -/
theorem PS17.ref (h : PS17 w V sb gb rb room v f g) (hr : Ref17 V' w.heap.size rb room v' (entA17 f' room)) (ho : Only17 (RefP17 rb v) V V') : PS17 w V' sb gb rb room v' f f' := by
  refine ⟨h.b.trans (ho.below (fun k hk => (h.r.lowP hk).1) h.b.size), (h.sap.keep (ho.block sb h.s.top.lt fun e => ?_) fun k hk he => ho.block k hk he.2).mono fun k _ hk => hk.1, hr⟩
  rcases e with rfl | e
  · exact row_ne12 h.s.top h.r.row (by decide) rfl
  · exact own_row_neN h.r.own h.s.top (by decide) e.symm
theorem lst_same17 {f : F17} {n m : Nat} (h1 : Lst17 f n) (h2 : Lst17 f m) : n = m := lst_is17 h1 m h2.1 h2.2
theorem PS17.full (h : PS17 w V sb gb rb room v f f) {n : Nat} (hl : Lst17 f n) : n = room ↔ room ≤ (entA17 f room).length := by
  constructor
  · intro e
    subst e
    rw [lst_len17 hl.1]
    exact Nat.le_refl _
  · intro h1
    rcases Nat.lt_or_ge n room with h2 | h2
    · have h3 := entA_len17 f room
      have h4 : cnt17 (up17 f n (some 0)) room = cnt17 f room + 1 := by
        have h5 := cnt_gone17 (f := up17 f n (some 0)) (k := n) (by rw [up_self17]; rfl) h2
        have h6 : cnt17 (up17 (up17 f n (some 0)) n none) room = cnt17 f room := cnt_same17 fun k hk => by
          by_cases e : k = n
          · subst e; rw [up_self17, hl.2]
          · rw [up_ne17 _ _ e, up_ne17 _ _ e]
        omega
      have h7 := cnt_le17 (up17 f n (some 0)) room
      omega
    · have := hl.le h.s
      omega
end
/-- an act -/
structure LAct17 where
  q : Int
  n : Int
  x : Int
def LAct17.cells (a : LAct17) : List Value := [.int .u8 a.q, .int .i64 a.n, .int .u64 a.x]
structure ActsIn17 (w : World) (B : Nat) (A : Option Addr) (n : Nat) (l : List LAct17) : Prop where
  len : l.length = n
  ok : ∀ x ∈ l, IsByte x.q
  cs : CsIn 3 w B A n (l.map LAct17.cells)
theorem ActsIn17.below {w w' : World} {B n : Nat} {A : Option Addr} {l : List LAct17} (h : ActsIn17 w B A n l) (hb : Below B w w') : ActsIn17 w' B A n l := ⟨h.len, h.ok, h.cs.below hb⟩
theorem ActsIn17.get {w : World} {B n : Nat} {A : Option Addr} {l : List LAct17} (h : ActsIn17 w B A n l) {k : Nat} (hk : k < n) : ∃ (a : Addr) (x : LAct17), A = some a ∧ a.block < B ∧ IsByte x.q ∧ ∀ j u, x.cells[j]? = some u → w.cell? ((a.add (k * 3)).add j) = some u := by
  obtain ⟨a, x, e, hb, hx, _, hcell⟩ := h.cs.get hk (by omega)
  rw [List.getElem?_map] at hx
  obtain ⟨r, hr, rfl⟩ := Option.map_eq_some_iff.1 hx
  exact ⟨a, r, e, hb, h.ok r (List.mem_of_getElem? hr), hcell⟩
theorem cellsAct17 : Try.prog.cellsOf 33 = 3 := by kernel_rfl
theorem bytesAct17 : Try.prog.bytesOf 33 = 24 := by kernel_rfl
theorem cellsU64_17 : Try.prog.cellsOf 27 = 1 := by kernel_rfl
theorem cellsU8_17 : Try.prog.cellsOf 5 = 1 := by kernel_rfl
theorem cellsInt_17 : Try.prog.cellsOf 3 = 1 := by kernel_rfl
section
variable {H : Type} {enc : TypeId × Value → H} {w : World} {base b0 : Nat} {held : Bool}
theorem open_act17_cells {fuel : Nat} {cs : List Value} {x : DataW H × List MemPlace} (hf : DataW.trod enc Try.prog w base (fun _ => true) held fuel 33 cs = some x) : ∃ a : LAct17, cs = a.cells ∧ IsByte a.q := by
  obtain ⟨xs, n, _, hx, hl, hlen, ht⟩ := DataW.trod_struct Try.underlying33 hf
  rw [cellsAct17] at hl
  obtain ⟨y0, y1, y2, rfl⟩ : ∃ a b c, xs = [a, b, c] := by
    match xs, hlen with
    | [a, b, c], _ => exact ⟨a, b, c, rfl⟩
  have t0 : DataW.trod enc Try.prog w base (fun _ => true) held n 5 ((cs.drop 0).take 1) = some y0 := by rw [← cellsU8_17]; exact ht 0 _ rfl
  have t1 : DataW.trod enc Try.prog w base (fun _ => true) held n 3 ((cs.drop 1).take 1) = some y1 := by rw [← cellsInt_17]; exact ht 1 _ rfl
  have t2 : DataW.trod enc Try.prog w base (fun _ => true) held n 27 ((cs.drop 2).take 1) = some y2 := by rw [← cellsU64_17]; exact ht 2 _ rfl
  obtain ⟨c0, c1, c2, rfl⟩ : ∃ a b c, cs = [a, b, c] := by
    match cs, hl with
    | [a, b, c], _ => exact ⟨a, b, c, rfl⟩
  obtain ⟨i0, hi0, _, wi0⟩ := DataW.trod_int Try.underlying5 t0
  obtain ⟨i1, hi1, _, wi1⟩ := DataW.trod_int Try.underlying3 t1
  obtain ⟨i2, hi2, _, wi2⟩ := DataW.trod_int Try.underlying27 t2
  obtain rfl : c0 = .int .u8 i0 := by simpa using hi0
  obtain rfl : c1 = .int .i64 i1 := by simpa using hi1
  obtain rfl : c2 = .int .u64 i2 := by simpa using hi2
  exact ⟨⟨i0, i1, i2⟩, rfl, byte_wf wi0⟩
theorem open_acts17_v {A : Option Addr} {n c : Nat} {d : DataW H} {p : List MemPlace} (h : DataW.Trod enc Try.prog w base (fun _ => true) held 22 (.slice A n c) d p) (hw : Wt 22 d) :
    ∃ l, n ≤ c ∧ c ≤ maxLen ∧ ActsIn17 w w.heap.size A n l ∧ l.length ≤ 140737488355328 := by
  obtain ⟨fuel, hf⟩ := h
  obtain ⟨A', n', c', hcs, h1, h2, h3, h4⟩ := open_sl (cs := [.slice A n c]) Try.underlying22 (by rw [cellsAct17]; omega) hf hw
  obtain ⟨rfl, rfl, rfl⟩ : A = A' ∧ n = n' ∧ c = c' := by simpa using hcs
  rw [bytesAct17] at h3
  have := reach47
  obtain ⟨l, hl, hp⟩ := list_of (α := LAct17) (p := fun i z => IsByte z.q ∧ ∃ a, A = some a ∧ a.block < w.heap.size ∧ ∀ j u, z.cells[j]? = some u → w.cell? (a.add (i * 3 + j)) = some u) n fun i hi => by
    obtain ⟨a, cs', y, m, e1, e2, e3, e4, e5, _⟩ := h4 i hi
    rw [cellsAct17] at e3 e4
    obtain ⟨z, rfl, hz⟩ := open_act17_cells e5
    exact ⟨z, hz, a, e1, e2, e4⟩
  subst hl
  refine ⟨l, h1, h2, ⟨rfl, fun r hr => ?_, csIn_of13 (by omega) (by simp) fun i x hx => ?_⟩, by omega⟩
  · obtain ⟨i, hi, rfl⟩ := List.getElem_of_mem hr
    exact (hp i _ (List.getElem?_eq_getElem hi)).1
  · rw [List.getElem?_map] at hx
    obtain ⟨z, hz, rfl⟩ := Option.map_eq_some_iff.1 hx
    exact ⟨rfl, (hp i z hz).2⟩
end
end Go.Proofs.Ytkhcgclnmdgpbaa

/-
  Of part PlayWalk17: what is needed here.
-/
namespace Go.Proofs.Ytkhcgclnmdgpbaa
open Go.RowKit
set_option linter.unusedVariables false
set_option maxRecDepth 100000
theorem Ref17.base {w : World} {base base' rb room : Nat} {v : Value} {es : List (Nat × Int)} (h : Ref17 w base rb room v es) (hb : base' ≤ base) : Ref17 w base' rb room v es := by
  refine ⟨h.row, ⟨h.own.1, ?_⟩, Nat.le_trans hb h.lo⟩
  rcases h.own.2 with h2 | ⟨g, cap, cur, hv, hg, r⟩
  · exact .inl h2
  · exact .inr ⟨g, cap, cur, hv, Nat.le_trans hb hg, r⟩
theorem own_blkI17 {w : World} {base : Nat} {v : Value} {xs : List Int} (h : OwnI17 w base v xs) (hn : 0 < xs.length) : ∃ g c, v = .slice (some ⟨g, 0, none⟩) xs.length c ∧ base ≤ g ∧ (∀ i z, xs[i]? = some z → w.cell? ⟨g, i, none⟩ = some (.int .i64 z)) ∧ ∀ i, w.frozen? ⟨g, i, none⟩ = false := by
  obtain ⟨A, c, e1, hs, h1, h2, _⟩ := own_form2 (show w.ownsRow base 3 1 v xs.length (cv .i64 xs) from h)
  rcases h.2 with ⟨rfl, _⟩ | ⟨g, cap, cur, rfl, hg, hh, k1, k2, k3, k4⟩
  · simp at e1
    omega
  · refine ⟨g, cap, rfl, hg, fun i z hz => ?_, fun i => by simp [World.frozen?, hh]⟩
    cases e1
    obtain ⟨a, ea, _, hc⟩ := hs.cell i _ (cv_get17 hz)
    cases ea
    rw [addr_row, Nat.zero_add] at hc
    exact hc
theorem PS17.int {w V : World} {sb gb rb room base n c gm : Nat} {v : Value} {f g : F17} {xs : List Value} (h : PS17 w V sb gb rb room v f g) (hm : V.ownsRow base 3 1 (.slice (some ⟨gm, 0, none⟩) n c) n xs) (hgm : w.heap.size ≤ gm) (i : Nat) (u : Value) : PS17 w (V.setCell ⟨gm, i, none⟩ u) sb gb rb room v f g := by
  have hno : ∀ {k t : Nat} {ys : List Value}, Row V k t ys → t ≠ 3 → k ≠ gm := fun hk h5 e => own_row_neN hm hk (fun e2 => h5 e2.symm) (by rw [e]; rfl)
  have hk : ∀ k, k ≠ gm → (V.setCell ⟨gm, i, none⟩ u).heap[k]? = V.heap[k]? := fun k h1 => Below.heap_setCell V ⟨gm, i, none⟩ u k h1
  obtain ⟨ys, th, h1, h2, h3, h4⟩ := h.s.she
  refine ⟨h.b.setCell (p := ⟨gm, i, none⟩) hgm u, ⟨h.s.rm, h.s.out, ⟨(hk sb (hno h.s.top (by decide))).trans h.s.top.is⟩, h.s.own, ys, th, ⟨(hk gb (hno h1 (by decide))).trans h1.is⟩, h2, fun j hj => ⟨(h3 j hj).1, (h3 j hj).2.1, (h3 j hj).2.2.no, fun t ht => ?_⟩, h4⟩, h.r.keep fun k _ hp => hk k fun e => ?_⟩
  · obtain ⟨k1, zs, k2, k3⟩ := (h3 j hj).2.2.yes t ht
    exact ⟨k1, zs, ⟨(hk t (hno k2 (by decide))).trans k2.is⟩, k3⟩
  · subst e
    rcases hp with e | e
    · exact hno h.r.row (by decide) e.symm
    · obtain ⟨c1, hc1⟩ := own_is h.r.own e
      obtain ⟨c2, hc2⟩ := own_is hm rfl
      rw [hc1] at hc2
      injection hc2 with hc2
      injection hc2 with _ h5 _
      exact absurd h5 (by decide)
set_option maxHeartbeats 16000000 in
theorem playWalk17 (z : Int) (A : Option Addr) (ln lc : Nat) (ac : List LAct17) (w : World) (ha : ActsIn17 w w.heap.size A ln ac) :
    Calls Try.prog 3 #[.int .i64 z, .slice A ln lc] w fun e w' => e = .returned (.bool true) ∧ Below w.heap.size w w' := by
  have HA := Lib.hid ha
  clear ha
  go_enter Try.func3, Try.ntmps3
  go_wp2_with fail
  by_cases hbad : z < 1 ∨ 4096 < z
  · refine (new_bad17 z hbad).mono ?_
    rintro e w1 ⟨rfl, rfl⟩
    go_wp2_with fail
    refine (refnew_bad17 z hbad).mono ?_
    rintro e w1 ⟨rfl, rfl⟩
    clear hbad
    go_wp2_with fail
    refine (lives17 _).mono ?_
    rintro e w3 ⟨rfl, hb3⟩
    have B3 := Lib.hid hb3
    clear hb3
    go_wp2_with fail
    go_ret
    exact ⟨rfl, B3.out⟩
  obtain ⟨room, hz⟩ : ∃ r : Nat, z = r := ⟨z.toNat, by omega⟩
  have hr1 : 1 ≤ room ∧ room ≤ 4096 := by omega
  clear hbad
  subst hz
  refine (new17 (w := w) (P := fun k => w.heap.size ≤ k) room room rfl hr1 (fun k hk => hk)).mono ?_
  rintro e w0 ⟨sb, gb, rfl, hs, _, _, hb⟩
  have S0 := Lib.hid hs
  have B0 := Lib.hid hb
  clear hs hb
  go_wp2_with fail
  refine (refnew17 room room rfl hr1).mono ?_
  rintro e w1 ⟨rb, rfl, hrf, hb⟩
  have P1 : Hid (PS17 w w1 sb gb rb room (.slice none 0 0) none17 none17) := Lib.hid ⟨B0.out.trans (hb.mono B0.out.size), S0.out.below hb, hrf.base B0.out.size⟩
  have HR := Lib.hid hr1.2
  clear hrf hb S0 B0 hr1
  by_cases hg : ln ≤ 100
  rotate_left
  · have hg' : (100 : Int) < ln := by omega
    have d0 : decide ((100 : Int) < ln) = true := decide_eq_true hg'
    have B1 := Lib.hid P1.out.b
    go_wp2_with fail
    refine (lives17 _).mono ?_
    rintro e w3 ⟨rfl, hb3⟩
    have B3 := Lib.hid (B1.out.trans (hb3.mono B1.out.size))
    clear hb3
    go_wp2_with fail
    go_ret
    exact ⟨rfl, B3.out⟩
  have hg' : ¬ (100 : Int) < ln := by omega
  have d0 : decide ((100 : Int) < ln) = false := decide_eq_false hg'
  go_wp2_with fail
  clear d0
  go_loopw [9] (fun i wr => ∃ (k : Nat) (v : Value) (f : F17), k ≤ ln ∧ i = .int .i64 k ∧ Hid (PS17 w wr sb gb rb room v f f)) (fun i _ => ln - (intOf i).toNat)
  case atStart => exact ⟨0, _, _, Nat.zero_le _, rfl, P1⟩
  case round =>
    obtain ⟨k, v, f, hk, rfl, PW⟩ := hrel
    clear P1
    rename World => wr
    by_cases hlt : k < ln
    · have hlt' : (k : Int) < ln := by omega
      obtain ⟨a, x, rfl, hab, hq, hac⟩ := HA.out.get hlt
      have HC : Hid (∀ V, Below w.heap.size w V → V.cell? ⟨(a.add (k * 3)).block, (a.add (k * 3)).off + 2, none⟩ = some (.int .u64 x.x)) := Lib.hid fun V hV => show V.cell? ((a.add (k * 3)).add 2) = some (.int .u64 x.x) from (hV.cell (by rw [addr_block, addr_block]; exact hab)).trans (hac 2 _ rfl)
      have oc0 : wr.cell? (a.add (k * 3)) = some (.int .u8 x.q) := (PW.out.b.cell (by rw [addr_block]; exact hab)).trans (by have := hac 0 _ rfl; rwa [addr_add, Nat.add_zero] at this)
      have oc1 : wr.cell? ⟨(a.add (k * 3)).block, (a.add (k * 3)).off + 1, none⟩ = some (.int .i64 x.n) := show wr.cell? ((a.add (k * 3)).add 1) = some (.int .i64 x.n) from (PW.out.b.cell (by rw [addr_block, addr_block]; exact hab)).trans (hac 1 _ rfl)
      obtain ⟨q, hqd⟩ : ∃ q, q = x.q % 4 := ⟨_, rfl⟩
      have hq0 := hq.1
      have hq1 := hq.2
      have hqm : x.q.tmod 4 = q := by rw [Int.tmod_eq_emod_of_nonneg hq0]; exact hqd.symm
      have hqm2 : x.q % 4 = q := hqd.symm
      have hq4 : (q = 0 ∨ q = 1) ∨ q = 2 ∨ q = 3 := by omega
      generalize x.n = zn at *
      clear hqd hac hab hq
      go_upto_block 2 with fail
      clear oc0 oc1 hqm hqm2 hq0 hq1
      go_cut [11, 12, 13, 14, 15, 16] (fun s1 s2 s3 s4 s5 s6 wx => ∃ (g y u : Int) (v' : Value) (f' : F17), s1 = .int .i64 g ∧ s2 = .int .i64 g ∧ s3 = .int .i64 y ∧ s4 = .int .i64 y ∧ s5 = .int .u64 u ∧ s6 = .int .u64 u ∧ Hid (PS17 w wx sb gb rb room v' f' f'))
      case first =>
        rcases hq4 with hq4 | rfl | rfl
        · rcases hq4 with rfl | rfl
          · have oc2 := HC.out wr PW.out.b
            go_wp2_with fail
            refine (put17 PW.out.sap x.x PW.out.hP).mono ?_
            rintro e w1 ⟨n, hl, hc⟩
            have HL := Lib.hid hl
            rcases hc with ⟨hnr, rfl, rfl⟩ | ⟨hnr, rfl, hs, ho⟩
            · have HFU := Lib.hid ((PW.out.full hl).1 hnr)
              clear hl hnr
              go_wp2_with fail
              refine (refput17 PW.out.r PW.out.s.out HR.out x.x PW.out.b.size).mono ?_
              rintro e w2 (⟨_, rfl, hb2⟩ | ⟨m, v', hl2, hm, _⟩)
              rotate_left
              · have h5 := lst_same17 HL.out hl2
                have h6 := (PW.out.full HL.out).2 HFU.out
                omega
              have P2 := Lib.hid (PW.out.below hb2)
              clear hb2
              go_wp2_with fail
              go_meet
              exact ⟨_, _, _, _, _, rfl, rfl, rfl, rfl, rfl, rfl, P2⟩
            · have P1 := Lib.hid (PW.out.slab hs ho)
              have HNR := Lib.hid hnr
              have oc3 := HC.out w1 P1.out.b
              clear hl hs ho oc2
              go_wp2_with fail
              refine (refput17 P1.out.r PW.out.s.out HR.out x.x P1.out.b.size).mono ?_
              rintro e w2 (⟨h5, _, _⟩ | ⟨m, v', hl2, hm, rfl, hr2, ho2⟩)
              · have h6 := (PW.out.full HL.out).2 h5
                have := HNR.out
                omega
              have hnm := lst_same17 HL.out hl2
              subst hnm
              have P2 := Lib.hid (P1.out.ref hr2 ho2)
              clear hr2 ho2 hl2 hm oc3
              go_wp2_with fail
              go_meet
              exact ⟨_, _, _, _, _, rfl, rfl, rfl, rfl, rfl, rfl, P2⟩
          · go_wp2_with fail
            refine (get17 PW.out.s zn).mono ?_
            rintro e w1 ⟨rfl, rfl⟩
            obtain ⟨o, ho⟩ : ∃ o, o = at17 f zn := ⟨_, rfl⟩
            have HO := Lib.hid ho
            rw [← ho]
            clear ho
            cases o with
            | none =>
              simp only [got17]
              go_wp2_with fail
              refine (refget17 PW.out.r PW.out.s.out HR.out zn).mono ?_
              rintro e w1 ⟨rfl, rfl⟩
              rw [← HO.out]
              simp only [got17]
              go_wp2_with fail
              go_meet
              exact ⟨_, _, _, _, _, rfl, rfl, rfl, rfl, rfl, rfl, PW⟩
            | some y =>
              simp only [got17]
              go_wp2_with fail
              refine (refget17 PW.out.r PW.out.s.out HR.out zn).mono ?_
              rintro e w1 ⟨rfl, rfl⟩
              rw [← HO.out]
              simp only [got17]
              go_wp2_with fail
              go_meet
              exact ⟨_, _, _, _, _, rfl, rfl, rfl, rfl, rfl, rfl, PW⟩
        · have oc2 := HC.out wr PW.out.b
          go_wp2_with fail
          refine (set17 PW.out.sap zn x.x PW.out.hP).mono ?_
          rintro e w1 (⟨hno, rfl, rfl⟩ | ⟨n, y, hzn, hnr, hfn, rfl, hs, ho⟩)
          · have HNO := Lib.hid hno
            clear hno
            go_wp2_with fail
            refine (refset17 PW.out.r PW.out.s.out HR.out zn x.x).mono ?_
            rintro e w2 (⟨_, rfl, rfl⟩ | ⟨n, y, v', hzn, _, hfn, _⟩)
            rotate_left
            · have h5 := HNO.out
              rw [hzn, at_nat17, hfn] at h5
              cases h5
            go_wp2_with fail
            go_meet
            exact ⟨_, _, _, _, _, rfl, rfl, rfl, rfl, rfl, rfl, PW⟩
          · have P1 := Lib.hid (PW.out.slab hs ho)
            have HZN := Lib.hid (And.intro hzn hfn)
            have oc3 := HC.out w1 P1.out.b
            clear hs ho hzn hfn hnr oc2
            go_wp2_with fail
            refine (refset17 P1.out.r PW.out.s.out HR.out zn x.x).mono ?_
            rintro e w2 (⟨h5, _, _⟩ | ⟨m, y2, v', hzm, _, _, rfl, hr2, ho2⟩)
            · rw [HZN.out.1, at_nat17, HZN.out.2] at h5
              cases h5
            have hnm : n = m := by have := HZN.out.1; omega
            subst hnm
            have P2 := Lib.hid (P1.out.ref hr2 ho2)
            clear hr2 ho2 hzm oc3
            go_wp2_with fail
            go_meet
            exact ⟨_, _, _, _, _, rfl, rfl, rfl, rfl, rfl, rfl, P2⟩
        · go_wp2_with fail
          refine (freed17 PW.out.sap zn).mono ?_
          rintro e w1 (⟨hno, rfl, rfl⟩ | ⟨n, y, hzn, hnr, hfn, rfl, hs, ho⟩)
          · have HNO := Lib.hid hno
            clear hno
            go_wp2_with fail
            refine (reffree17 PW.out.r PW.out.s.out HR.out zn PW.out.b.size).mono ?_
            rintro e w2 (⟨_, rfl, rfl⟩ | ⟨n, y, v', hzn, _, hfn, _⟩)
            rotate_left
            · have h5 := HNO.out
              rw [hzn, at_nat17, hfn] at h5
              cases h5
            go_wp2_with fail
            go_meet
            exact ⟨_, _, _, _, _, rfl, rfl, rfl, rfl, rfl, rfl, PW⟩
          · have P1 := Lib.hid (PW.out.slab hs ho)
            have HZN := Lib.hid (And.intro hzn hfn)
            clear hs ho hzn hfn hnr
            go_wp2_with fail
            refine (reffree17 P1.out.r PW.out.s.out HR.out zn P1.out.b.size).mono ?_
            rintro e w2 (⟨h5, _, _⟩ | ⟨m, y2, v', hzm, _, _, rfl, hr2, ho2⟩)
            · rw [HZN.out.1, at_nat17, HZN.out.2] at h5
              cases h5
            have hnm : n = m := by have := HZN.out.1; omega
            subst hnm
            have P2 := Lib.hid (P1.out.ref hr2 ho2)
            clear hr2 ho2 hzm
            go_wp2_with fail
            go_meet
            exact ⟨_, _, _, _, _, rfl, rfl, rfl, rfl, rfl, rfl, P2⟩
      case rest =>
      obtain ⟨g, y, u, v', f', rfl, rfl, rfl, rfl, rfl, rfl, PC⟩ := hcut
      clear PW
      obtain ⟨RA, rc, rfl, _, _, _⟩ := PC.out.r.form
      have HEL := Lib.hid (entA_len17 f' room)
      obtain ⟨el, hel⟩ : ∃ l, l = (entA17 f' room).length := ⟨_, rfl⟩
      have HEC : Hid (cnt17 f' room = el) := Lib.hid (by rw [hel, HEL.out])
      have HRV : Hid (∀ V, Below wc.heap.size wc V → V.cell? ⟨rb, 1, none⟩ = some (.slice RA el rc)) := Lib.hid fun V hV => by rw [hel]; exact (PC.out.r.below hV).row.cell 1
      rw [← hel] at PC
      have HE0 := Lib.hid hel
      clear hel HEL
      go_wp2_with fail
      refine (nums17_ PC.out.s).mono ?_
      rintro e wn ⟨mv, rfl, ho, hb⟩
      have PN := Lib.hid (PC.out.below hb)
      have HRN : Hid (∀ V, Below wn.heap.size wn V → V.cell? ⟨rb, 1, none⟩ = some (.slice RA el rc)) := Lib.hid fun V hV => HRV.out V (hb.trans (hV.mono hb.size))
      have HWC : Hid (w.heap.size ≤ wc.heap.size) := Lib.hid PC.out.b.size
      obtain ⟨ns, hns⟩ : ∃ l, l = intsN (nums17 f' room) := ⟨_, rfl⟩
      have HNS := Lib.hid hns
      have HNL : Hid (ns.length ≤ 5000) := Lib.hid (by rw [hns]; unfold intsN; rw [List.length_map, nums_len17]; have := cnt_le17 f' room; have := HR.out; omega)
      rw [← hns] at ho
      have HO := Lib.hid ho
      obtain ⟨ml, hml⟩ : ∃ l, l = ns.length := ⟨_, rfl⟩
      obtain ⟨MA, mc, rfl⟩ := own_form ho
      rw [← hml] at HO ⊢
      have HML := Lib.hid hml
      have hml5 : ml ≤ 5000 := by rw [hml]; exact HNL.out
      clear ho hb hns hml HRV
      go_upto_region 30 with fail
      have SB : Hid (Below wn.heap.size wn wn.drew) := Lib.hid (Below.refl _ _).drew
      refine wp_region_held_drew (S := fun V => Below wn.heap.size wn V) (by kernel_rfl) SB.out (fun _ => ?_)
      try dsimp only [List.append]
      generalize wn.drew = w5 at *
      refine takeL (i := 0) (v := ?_) rfl (by kernel_rfl) (by kernel_rfl) (by kernel_rfl) (fun _ _ _ h => h) (Or.inl ⟨by rfl, ?_⟩) SB.out ?_
      rotate_left
      · intro w hw
        try dsimp only at hw
        go_simp
        try with_reducible rfl
      try simp only [Act.put, List.setIfInBounds_toArray, List.set_cons_zero, List.set_cons_succ]
      refine takeL (i := 1) (v := ?_) rfl (by kernel_rfl) (by kernel_rfl) (by kernel_rfl) (fun _ _ _ h => h) (Or.inl ⟨by rfl, ?_⟩) SB.out ?_
      rotate_left
      · intro w hw
        try dsimp only at hw
        go_simp
        try with_reducible rfl
      try simp only [Act.put, List.setIfInBounds_toArray, List.set_cons_zero, List.set_cons_succ]
      refine takeL (i := 2) (v := ?_) rfl (by kernel_rfl) (by kernel_rfl) (by kernel_rfl) (fun _ _ _ h => h) (Or.inl ⟨by rfl, ?_⟩) SB.out ?_
      rotate_left
      · intro w hw
        try dsimp only at hw
        go_simp
        try with_reducible rfl
      try simp only [Act.put, List.setIfInBounds_toArray, List.set_cons_zero, List.set_cons_succ]
      refine takeL (i := 3) (v := ?_) rfl (by kernel_rfl) (by kernel_rfl) (by kernel_rfl) (fun _ _ _ h => h) (Or.inl ⟨by rfl, ?_⟩) SB.out ?_
      rotate_left
      · intro w hw
        try dsimp only at hw
        go_simp
        try with_reducible rfl
      try simp only [Act.put, List.setIfInBounds_toArray, List.set_cons_zero, List.set_cons_succ]
      refine takeL (i := 4) (v := ?_) rfl (by kernel_rfl) (by kernel_rfl) (by kernel_rfl) (fun _ _ _ h => h) (Or.inl ⟨by rfl, ?_⟩) SB.out ?_
      rotate_left
      · intro w hw
        try dsimp only at hw
        go_simp
        try with_reducible rfl
      try simp only [Act.put, List.setIfInBounds_toArray, List.set_cons_zero, List.set_cons_succ]
      refine takeL (i := 5) (v := ?_) rfl (by kernel_rfl) (by kernel_rfl) (by kernel_rfl) (fun _ _ _ h => h) (Or.inl ⟨by rfl, ?_⟩) SB.out ?_
      rotate_left
      · intro w hw
        try dsimp only at hw
        go_simp
        try with_reducible rfl
      try simp only [Act.put, List.setIfInBounds_toArray, List.set_cons_zero, List.set_cons_succ]
      refine takeL (i := 6) (v := ?_) rfl (by kernel_rfl) (by kernel_rfl) (by kernel_rfl) (fun _ _ _ h => h) (Or.inl ⟨by rfl, ?_⟩) SB.out ?_
      rotate_left
      · intro w hw
        try dsimp only at hw
        go_simp
        try with_reducible rfl
      try simp only [Act.put, List.setIfInBounds_toArray, List.set_cons_zero, List.set_cons_succ]
      refine takeL (i := 7) (v := ?_) rfl (by kernel_rfl) (by kernel_rfl) (by kernel_rfl) (fun _ _ _ h => h) (Or.inl ⟨by rfl, ?_⟩) SB.out ?_
      rotate_left
      · intro w hw
        try dsimp only at hw
        go_simp
        try with_reducible rfl
      try simp only [Act.put, List.setIfInBounds_toArray, List.set_cons_zero, List.set_cons_succ]
      refine takeL (i := 8) (v := ?_) rfl (by kernel_rfl) (by kernel_rfl) (by kernel_rfl) (fun _ _ _ h => h) (Or.inl ⟨by rfl, ?_⟩) SB.out ?_
      rotate_left
      · intro w hw
        try dsimp only at hw
        go_simp
        try with_reducible rfl
      try simp only [Act.put, List.setIfInBounds_toArray, List.set_cons_zero, List.set_cons_succ]
      refine takeL (i := 9) (v := ?_) rfl (by kernel_rfl) (by kernel_rfl) (by kernel_rfl) (fun _ _ _ h => h) (Or.inl ⟨by rfl, ?_⟩) SB.out ?_
      rotate_left
      · intro w hw
        try dsimp only at hw
        go_simp
        try with_reducible rfl
      try simp only [Act.put, List.setIfInBounds_toArray, List.set_cons_zero, List.set_cons_succ]
      refine takeL (i := 10) (v := ?_) rfl (by kernel_rfl) (by kernel_rfl) (by kernel_rfl) (fun _ _ _ h => h) (Or.inl ⟨by rfl, ?_⟩) SB.out ?_
      rotate_left
      · intro w hw
        try dsimp only at hw
        go_simp
        try with_reducible rfl
      try simp only [Act.put, List.setIfInBounds_toArray, List.set_cons_zero, List.set_cons_succ]
      refine takeL (i := 11) (v := ?_) rfl (by kernel_rfl) (by kernel_rfl) (by kernel_rfl) (fun _ _ _ h => h) (Or.inl ⟨by rfl, ?_⟩) SB.out ?_
      rotate_left
      · intro w hw
        try dsimp only at hw
        go_simp
        try with_reducible rfl
      try simp only [Act.put, List.setIfInBounds_toArray, List.set_cons_zero, List.set_cons_succ]
      refine takeL (i := 12) (v := ?_) rfl (by kernel_rfl) (by kernel_rfl) (by kernel_rfl) (fun _ _ _ h => h) (Or.inl ⟨by rfl, ?_⟩) SB.out ?_
      rotate_left
      · intro w hw
        try dsimp only at hw
        go_simp
        try with_reducible rfl
      try simp only [Act.put, List.setIfInBounds_toArray, List.set_cons_zero, List.set_cons_succ]
      refine takeL (i := 13) (v := ?_) rfl (by kernel_rfl) (by kernel_rfl) (by kernel_rfl) (fun _ _ _ h => h) (Or.inl ⟨by rfl, ?_⟩) SB.out ?_
      rotate_left
      · intro w hw
        try dsimp only at hw
        go_simp
        try with_reducible rfl
      try simp only [Act.put, List.setIfInBounds_toArray, List.set_cons_zero, List.set_cons_succ]
      refine takeL (i := 14) (v := ?_) rfl (by kernel_rfl) (by kernel_rfl) (by kernel_rfl) (fun _ _ _ h => h) (Or.inl ⟨by rfl, ?_⟩) SB.out ?_
      rotate_left
      · intro w hw
        try dsimp only at hw
        go_simp
        try with_reducible rfl
      try simp only [Act.put, List.setIfInBounds_toArray, List.set_cons_zero, List.set_cons_succ]
      refine takeL (i := 16) (v := ?_) rfl (by kernel_rfl) (by kernel_rfl) (by kernel_rfl) (fun _ _ _ h => h) (Or.inl ⟨by rfl, ?_⟩) SB.out ?_
      rotate_left
      · intro w hw
        try dsimp only at hw
        go_simp
        try with_reducible rfl
      try simp only [Act.put, List.setIfInBounds_toArray, List.set_cons_zero, List.set_cons_succ]
      refine takeL (i := 17) (v := ?_) rfl (by kernel_rfl) (by kernel_rfl) (by kernel_rfl) (fun _ _ _ h => h) (Or.inl ⟨by rfl, ?_⟩) SB.out ?_
      rotate_left
      · intro w hw
        try dsimp only at hw
        go_simp
        try with_reducible rfl
      try simp only [Act.put, List.setIfInBounds_toArray, List.set_cons_zero, List.set_cons_succ]
      refine takeL (i := 18) (v := ?_) rfl (by kernel_rfl) (by kernel_rfl) (by kernel_rfl) (fun _ _ _ h => h) (Or.inl ⟨by rfl, ?_⟩) SB.out ?_
      rotate_left
      · intro w hw
        try dsimp only at hw
        go_simp
        try with_reducible rfl
      try simp only [Act.put, List.setIfInBounds_toArray, List.set_cons_zero, List.set_cons_succ]
      refine takeL (i := 19) (v := ?_) rfl (by kernel_rfl) (by kernel_rfl) (by kernel_rfl) (fun _ _ _ h => h) (Or.inl ⟨by rfl, ?_⟩) SB.out ?_
      rotate_left
      · intro w hw
        try dsimp only at hw
        have oc := HRN.out w hw
        go_simp
        try with_reducible rfl
      try simp only [Act.put, List.setIfInBounds_toArray, List.set_cons_zero, List.set_cons_succ]
      refine takeL (i := 20) (v := ?_) rfl (by kernel_rfl) (by kernel_rfl) (by kernel_rfl) (fun _ _ _ h => h) (Or.inl ⟨by rfl, ?_⟩) SB.out ?_
      rotate_left
      · intro w hw
        try dsimp only at hw
        go_simp
        try with_reducible rfl
      try simp only [Act.put, List.setIfInBounds_toArray, List.set_cons_zero, List.set_cons_succ]
      refine readyL (i := 15) rfl (by kernel_rfl) (by kernel_rfl) fun K hK => ?_
      go_simp
      refine (len17 (PN.out.below SB.out).s).mono ?_
      rintro e w6 ⟨rfl, hb6⟩
      rw [HEC.out]
      have SB := Lib.hid (SB.out.trans (hb6.mono SB.out.size))
      clear hb6
      refine hK.out _ _ SB.out ?_
      clear hK K
      try simp only [Act.put, List.setIfInBounds_toArray, List.set_cons_zero, List.set_cons_succ]
      refine takeL (i := 21) (v := ?_) rfl (by kernel_rfl) (by kernel_rfl) (by kernel_rfl) (fun _ _ _ h => h) (Or.inl ⟨by rfl, ?_⟩) SB.out ?_
      rotate_left
      · intro w hw
        try dsimp only at hw
        go_simp
        try with_reducible rfl
      try simp only [Act.put, List.setIfInBounds_toArray, List.set_cons_zero, List.set_cons_succ]
      refine takeL (i := 22) (v := ?_) rfl (by kernel_rfl) (by kernel_rfl) (by kernel_rfl) (fun _ _ _ h => h) (Or.inl ⟨by rfl, ?_⟩) SB.out ?_
      rotate_left
      · intro w hw
        try dsimp only at hw
        go_simp
        try with_reducible rfl
      try simp only [Act.put, List.setIfInBounds_toArray, List.set_cons_zero, List.set_cons_succ]
      refine takeL (i := 23) (v := ?_) rfl (by kernel_rfl) (by kernel_rfl) (by kernel_rfl) (fun _ _ _ h => h) (Or.inl ⟨by rfl, ?_⟩) SB.out ?_
      rotate_left
      · intro w hw
        try dsimp only at hw
        go_simp
        try with_reducible rfl
      try simp only [Act.put, List.setIfInBounds_toArray, List.set_cons_zero, List.set_cons_succ]
      refine takeL (i := 24) (v := ?_) rfl (by kernel_rfl) (by kernel_rfl) (by kernel_rfl) (fun _ _ _ h => h) (Or.inl ⟨by rfl, ?_⟩) SB.out ?_
      rotate_left
      · intro w hw
        try dsimp only at hw
        go_simp
        try with_reducible rfl
      try simp only [Act.put, List.setIfInBounds_toArray, List.set_cons_zero, List.set_cons_succ]
      refine takeL (i := 25) (v := ?_) rfl (by kernel_rfl) (by kernel_rfl) (by kernel_rfl) (fun _ _ _ h => h) (Or.inl ⟨by rfl, ?_⟩) SB.out ?_
      rotate_left
      · intro w hw
        try dsimp only at hw
        go_simp
        try with_reducible rfl
      try simp only [Act.put, List.setIfInBounds_toArray, List.set_cons_zero, List.set_cons_succ]
      refine readyL (i := 26) rfl (by kernel_rfl) (by kernel_rfl) fun K hK => ?_
      go_simp
      refine (refnums17 (PN.out.below SB.out).r HR.out).mono ?_
      rintro e w7 ⟨nv, rfl, ho7, hb7⟩
      rw [← HNS.out] at ho7
      have HO7 := Lib.hid ho7
      obtain ⟨NA, nc, rfl⟩ := own_form ho7
      rw [← HML.out] at HO7 ⊢
      have SB := Lib.hid (SB.out.trans (hb7.mono SB.out.size))
      clear ho7 hb7
      refine hK.out _ _ SB.out ?_
      clear hK K
      try simp only [Act.put, List.setIfInBounds_toArray, List.set_cons_zero, List.set_cons_succ]
      refine readyL (i := 27) rfl (by kernel_rfl) (by kernel_rfl) fun K hK => ?_
      go_simp
      refine (same17 ns ns MA NA ml ml mc nc w7 (by have h8 : w7.ownsRow _ 3 1 _ ns.length _ := own_below HO.out SB.out; rw [← HML.out] at h8; exact Sees.of_own h8) (by have h8 : w7.ownsRow _ 3 1 _ ns.length _ := HO7.out; rw [← HML.out] at h8; exact Sees.of_own h8) hml5 hml5).mono ?_
      rintro e w8 ⟨rfl, hb8⟩
      rw [decide_eq_true rfl]
      have SB := Lib.hid (SB.out.trans (hb8.mono SB.out.size))
      clear hb8
      refine hK.out _ _ SB.out ?_
      clear hK K
      try simp only [Act.put, List.setIfInBounds_toArray, List.set_cons_zero, List.set_cons_succ]
      refine takeL (i := 28) (v := ?_) rfl (by kernel_rfl) (by kernel_rfl) (by kernel_rfl) (fun _ _ _ h => h) (Or.inl ⟨by rfl, ?_⟩) SB.out ?_
      rotate_left
      · intro w hw
        try dsimp only at hw
        go_simp
        try with_reducible rfl
      try simp only [Act.put, List.setIfInBounds_toArray, List.set_cons_zero, List.set_cons_succ]
      refine takeL (i := 29) (v := ?_) rfl (by kernel_rfl) (by kernel_rfl) (by kernel_rfl) (fun _ _ _ h => h) (Or.inl ⟨by rfl, ?_⟩) SB.out ?_
      rotate_left
      · intro w hw
        try dsimp only at hw
        go_simp
        try with_reducible rfl
      try simp only [Act.put, List.setIfInBounds_toArray, List.set_cons_zero, List.set_cons_succ]
      refine wpAnyH_done (by kernel_rfl) ?_ _
      have P8 := Lib.hid (PN.out.below SB.out)
      have O8 : Hid (OwnI17 w8 wc.heap.size (.slice MA ml mc) ns) := Lib.hid (own_below HO.out SB.out)
      clear HO7 HO SB HRN PN
      go_wp2_with fail
      go_loopw [18] (fun i wq => ∃ (j : Nat) (ms : List Int), j ≤ ml ∧ i = .int .i64 j ∧ Hid (PS17 w wq sb gb rb room (.slice RA el rc) f' f') ∧ Hid (OwnI17 wq wc.heap.size (.slice MA ml mc) ms) ∧ Hid (ms.length = ml ∧ ∀ i, j ≤ i → ms[i]? = ns[i]?)) (fun i _ => ml - (intOf i).toNat)
      case atStart => exact ⟨0, ns, Nat.zero_le _, rfl, P8, O8, Lib.hid ⟨HML.out.symm, fun _ _ => rfl⟩⟩
      case round =>
        obtain ⟨j, ms, hj, rfl, PQ, OQ, MQ⟩ := hrel
        clear P8 O8
        rename World => wq
        by_cases hltj : j < ml
        · have hltj' : (j : Int) < ml := by omega
          obtain ⟨zj, hzj⟩ : ∃ z, ms[j]? = some z := ⟨_, List.getElem?_eq_getElem (by rw [MQ.out.1]; exact hltj)⟩
          obtain ⟨gm, cm, e1, hgm, hcell, hfr⟩ := own_blkI17 OQ.out (by rw [MQ.out.1]; omega)
          rw [MQ.out.1] at e1
          cases e1
          have oc2 := hcell j zj hzj
          have fr2 := hfr j
          have HGM := Lib.hid hgm
          clear hcell hfr hgm hzj
          go_wp2_with fail
          refine (get17 PQ.out.s zj).mono ?_
          rintro e w9 ⟨rfl, rfl⟩
          obtain ⟨o, ho⟩ : ∃ o, o = at17 f' zj := ⟨_, rfl⟩
          have HOO := Lib.hid ho
          rw [← ho]
          clear ho
          cases o with
          | none =>
            simp only [got17]
            go_wp2_with fail
            refine (refget17 PQ.out.r PQ.out.s.out HR.out zj).mono ?_
            rintro e w9 ⟨rfl, rfl⟩
            rw [← HOO.out]
            simp only [got17]
            go_wp2_with fail
            have OL : wq.ownsRow wc.heap.size 3 1 (.slice (some ⟨gm, 0, none⟩) ml mc) ml (cv .i64 ms) := by have h9 := OQ.out; unfold OwnI17 at h9; rwa [MQ.out.1] at h9
            have PJ := Lib.hid (PQ.out.int OL (Nat.le_trans HWC.out HGM.out) j (.int .i64 (-1)))
            have OJ : Hid (OwnI17 (wq.setCell ⟨gm, j, none⟩ (.int .i64 (-1))) wc.heap.size (.slice (some ⟨gm, 0, none⟩) ml mc) (ms.set j (-1))) := Lib.hid (by
              have h8 := own_setCellR OL j (.int .i64 (-1))
              rw [cv_set17] at h8
              unfold OwnI17
              rw [List.length_set, MQ.out.1]
              exact h8)
            clear OL
            go_roundw
            case rel => exact ⟨j + 1, ms.set j (-1), by omega, by go_num, PJ, OJ, Lib.hid ⟨by rw [List.length_set]; exact MQ.out.1, fun i hi => by rw [List.getElem?_set_ne (by omega)]; exact MQ.out.2 i (by omega)⟩⟩
            case measure => simp [intOf]; omega
          | some yy =>
            simp only [got17]
            go_wp2_with fail
            refine (refget17 PQ.out.r PQ.out.s.out HR.out zj).mono ?_
            rintro e w9 ⟨rfl, rfl⟩
            rw [← HOO.out]
            simp only [got17]
            go_wp2_with fail
            have OL : wq.ownsRow wc.heap.size 3 1 (.slice (some ⟨gm, 0, none⟩) ml mc) ml (cv .i64 ms) := by have h9 := OQ.out; unfold OwnI17 at h9; rwa [MQ.out.1] at h9
            have PJ := Lib.hid (PQ.out.int OL (Nat.le_trans HWC.out HGM.out) j (.int .i64 (-1)))
            have OJ : Hid (OwnI17 (wq.setCell ⟨gm, j, none⟩ (.int .i64 (-1))) wc.heap.size (.slice (some ⟨gm, 0, none⟩) ml mc) (ms.set j (-1))) := Lib.hid (by
              have h8 := own_setCellR OL j (.int .i64 (-1))
              rw [cv_set17] at h8
              unfold OwnI17
              rw [List.length_set, MQ.out.1]
              exact h8)
            clear OL
            go_roundw
            case rel => exact ⟨j + 1, ms.set j (-1), by omega, by go_num, PJ, OJ, Lib.hid ⟨by rw [List.length_set]; exact MQ.out.1, fun i hi => by rw [List.getElem?_set_ne (by omega)]; exact MQ.out.2 i (by omega)⟩⟩
            case measure => simp [intOf]; omega
        · have hje : j = ml := by omega
          have hltj' : ¬ (j : Int) < ml := by omega
          go_wp2_with fail
          refine (nums17_ PQ.out.s).mono ?_
          rintro e wa ⟨av, rfl, hoa, hba⟩
          rw [← HNS.out] at hoa
          have HOA := Lib.hid hoa
          obtain ⟨AA, ca, rfl⟩ := own_form hoa
          rw [← HML.out] at HOA ⊢
          have PA := Lib.hid (PQ.out.below hba)
          clear hoa hba
          go_wp2_with fail
          refine (refnums17 PA.out.r HR.out).mono ?_
          rintro e wb ⟨bv', rfl, hob, hbb⟩
          rw [← HNS.out] at hob
          have HOB := Lib.hid hob
          obtain ⟨AB, cb, rfl⟩ := own_form hob
          rw [← HML.out] at HOB ⊢
          have PB := Lib.hid (PA.out.below hbb)
          have HOA2 := Lib.hid (own_below HOA.out hbb)
          clear hob hbb
          go_wp2_with fail
          refine (same17 ns ns AA AB ml ml ca cb wb (by have h8 : wb.ownsRow _ 3 1 _ ns.length _ := HOA2.out; rw [← HML.out] at h8; exact Sees.of_own h8) (by have h8 : wb.ownsRow _ 3 1 _ ns.length _ := HOB.out; rw [← HML.out] at h8; exact Sees.of_own h8) hml5 hml5).mono ?_
          rintro e we ⟨rfl, hbe⟩
          rw [decide_eq_true rfl]
          have PE := Lib.hid (PB.out.below hbe)
          clear hbe
          go_wp2_with fail
          go_roundw
          case rel => exact ⟨k + 1, _, f', by omega, by go_num, PE⟩
          case measure => simp [intOf]; omega
    · have hke : k = ln := by omega
      have hlt' : ¬ (k : Int) < ln := by omega
      have B1 := Lib.hid PW.out.b
      go_wp2_with fail
      refine (lives17 _).mono ?_
      rintro e w3 ⟨rfl, hb3⟩
      have B3 := Lib.hid (B1.out.trans (hb3.mono B1.out.size))
      clear hb3
      go_wp2_with fail
      go_ret
      exact ⟨rfl, B3.out⟩
end Go.Proofs.Ytkhcgclnmdgpbaa
