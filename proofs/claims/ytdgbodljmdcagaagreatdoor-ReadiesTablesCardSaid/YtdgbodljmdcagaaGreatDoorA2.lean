/-
  Parts joined: PutMsg Read ListB ReadIn ListV.
-/
import Derived.Test.YtdgbodljmdcagaaGreatDoorChecked
import Derived.WalkKit
import Derived.LaidEql
import Derived.Stop.Asserts
import Derived.RowKitTokens
import Derived.Lib.IfaceEq
import Derived.Lib.Hide
import Derived.Below
import Derived.Laws.OwnMore
import Derived.Deep.AppendLies
import Derived.Deep.Draws
import Derived.Laws.MakeOwn
import Derived.Laws.CopyOwn
import Derived.Laws.Rows
import Derived.Maps.AppendAt
import Derived.OwnWalk
import Derived.Laws.BitsAllLaws
import Derived.Test.YtdgbodljmdcagaaGreatDoorRows
import Derived.WalkSpells
import Derived.WalkLawsBesides
import Derived.IntWalk
import Derived.Deep.QuietTactic
import Derived.BigQuiet
import Derived.Deep.MidRow
import Derived.Deep.WholeRow
import Derived.Great.BuildSlice
import Derived.Test.YtdgbodljmdcagaaGreatDoorA1
/-
  Of part PutMsg: what is needed here.
-/
namespace Go.Proofs.YtdgbodljmdcagaaGreatDoor
open Go.RowKit
set_option linter.unusedVariables false
set_option maxRecDepth 100000
theorem flatten_get : ∀ (l : List (List Int)) (k : Nat) (x : List Int), (∀ y ∈ l, y.length = 32) → l[k]? = some x → ∀ j, j < 32 → l.flatten[k * 32 + j]? = x[j]?
  | [], k, x, _, h, _, _ => by simp at h
  | y :: r, 0, x, hl, h, j, hj => by
    have : y = x := by simpa using h
    subst this
    have hy := hl y (by simp)
    rw [List.flatten_cons, List.getElem?_append_left (by omega)]
    simp
  | y :: r, k + 1, x, hl, h, j, hj => by
    have hy := hl y (by simp)
    rw [List.flatten_cons, List.getElem?_append_right (by omega)]
    have := flatten_get r k x (fun z hz => hl z (by simp [hz])) (by simpa using h) j hj
    rw [← this]
    congr 1
    omega
theorem flatten_len : ∀ (l : List (List Int)), (∀ y ∈ l, y.length = 32) → l.flatten.length = l.length * 32
  | [], _ => rfl
  | y :: r, h => by
    have := flatten_len r (fun z hz => h z (by simp [hz]))
    have hy := h y (by simp)
    simp only [List.flatten_cons, List.length_append, List.length_cons, this, hy]
    omega
theorem flatten_take_succ {l : List (List Int)} {k : Nat} {x : List Int} (h : l[k]? = some x) : (l.take (k + 1)).flatten = (l.take k).flatten ++ x := by
  rw [List.take_add_one, List.flatten_append, h]
  simp
/-- the k-th key -/
structure KeyAt (w : World) (a : Addr) (k : Nat) (x : List Int) : Prop where
  cells : ∀ j u, (bv x)[j]? = some u → w.cell? ((a.add (k * 32)).add j) = some u
  len : x.length = 32
theorem KeysIn.get {w : World} {B n : Nat} {A : Option Addr} {l : List (List Int)} (h : KeysIn w B A n l) {k : Nat} (hk : k < n) : ∃ a x, A = some a ∧ a.block < B ∧ l[k]? = some x ∧ KeyAt w a k x := by
  obtain ⟨x, hx⟩ : ∃ x, l[k]? = some x := ⟨_, List.getElem?_eq_getElem (by rw [h.len]; exact hk)⟩
  have hxl := h.each x (List.mem_of_getElem? hx)
  obtain ⟨a, u, e, hb, _, _⟩ := h.sees.at_ (k := k * 32) (by omega)
  refine ⟨a, x, e, hb, hx, fun j u hu => ?_, hxl⟩
  have hj : j < 32 := by have := (List.getElem?_eq_some_iff.1 hu).1; rw [bv_length] at this; omega
  rw [bv_getElem?, ← flatten_get l k x h.each hx j hj, ← bv_getElem?] at hu
  obtain ⟨a', e', _, hc⟩ := h.sees.cell _ u hu
  rw [e] at e'
  cases e'
  rw [addr_add]
  exact hc
theorem KeyAt.keep {w w' : World} {B k : Nat} {a : Addr} {x : List Int} (h : KeyAt w a k x) (ha : a.block < B) (hk : ∀ p : Addr, p.block < B → w'.cell? p = w.cell? p) : KeyAt w' a k x :=
  ⟨fun j u hu => (hk _ (by rw [addr_block, addr_block]; exact ha)).trans (h.cells j u hu), h.len⟩
/-- what Put leaves -/
def PutMsgDone (w : World) (ys : List Int) (e : Ending) (w' : World) : Prop :=
  ∃ g rest, e = .returned (.tuple #[.slice (some ⟨g, 0, none⟩) ys.length ys.length, .int .i64 0]) ∧ w.heap.size ≤ g ∧ Row w' g 5 (bv ys ++ rest) ∧ Below w.heap.size w w'
theorem OwnB.row {w : World} {base : Nat} {v : Value} {ys : List Int} (h : OwnB w base v ys) (h0 : 0 < ys.length) : ∃ g rest c, v = .slice (some ⟨g, 0, none⟩) ys.length c ∧ base ≤ g ∧ Row w g 5 (bv ys ++ rest) ∧ ys.length ≤ c ∧ c ≤ maxLen := by
  rcases h.2 with ⟨_, h1⟩ | ⟨g, cap, cur, rfl, hg, hh, h2, h3, h4, h5⟩
  · omega
  · refine ⟨g, cur.toList.drop ys.length, cap, rfl, hg, ⟨?_⟩, h2, h3⟩
    rw [hh]
    have : bv ys ++ cur.toList.drop ys.length = cur.toList := by
      rw [← h5]; simp
    rw [this]
theorem Row.sees_at {w : World} {g t o n : Nat} {cs xs : List Value} (hr : Row w g t cs) (hn : xs.length = n) (h : ∀ j u, xs[j]? = some u → cs[o + j]? = some u) : Sees w w.heap.size (some ⟨g, o, none⟩) n xs :=
  ⟨hn, fun i u hu => ⟨_, rfl, hr.lt, by rw [addr_row, hr.cell]; exact h i u hu⟩⟩
theorem MsgRow.keep {w w' : World} {g B : Nat} {q : Raw} {m : LMsg} (h : MsgRow w g q m) (hg : g < B) (hb : Below B w w') : MsgRow w' g q m :=
  have k : ∀ o, w'.cell? ⟨g, o, none⟩ = w.cell? ⟨g, o, none⟩ := fun o => hb.cell hg
  ⟨(k 0).trans h.c0, (k 1).trans h.c1, (k 2).trans h.c2, (k 3).trans h.c3, (k 4).trans h.c4, (k 37).trans h.c37, (k 38).trans h.c38⟩
theorem enc_parts (m : LMsg) : (enc m).length = (encHead m).length + (short m.keys.length).length + m.keys.flatten.length + m.recent.length + (short m.ins.length).length + (m.ins.flatMap encIn).length + (encTail m).length := by
  unfold enc
  simp only [List.length_append]
  omega
set_option maxRecDepth 100000 in
set_option maxHeartbeats 2000000 in
theorem put_ok (q : Raw) (m : LMsg) (B : Nat) (w : World) (hm : MsgIn w B q m) (hB : B ≤ w.heap.size) (hf : Fits m) (hl : (enc m).length ≤ 1000000000) :
    Calls Tryz.prog 66 #[.agg (q.cells m).toArray] w (PutMsgDone w (enc m)) := by
  obtain ⟨KA, kn, kc, IA, n, ic, LA, ln, lc⟩ := q
  have hrow := Row.new w 40 (Raw.cells ⟨KA, kn, kc, IA, n, ic, LA, ln, lc⟩ m)
  have hb0 := (Below.refl w.heap.size w).alloc (Nat.le_refl _) (.cells (Raw.cells ⟨KA, kn, kc, IA, n, ic, LA, ln, lc⟩ m).toArray 40)
  have hlen := cells_len (q := ⟨KA, kn, kc, IA, n, ic, LA, ln, lc⟩) hm.recent
  have HF := Lib.hid (fits_ ⟨KA, kn, kc, IA, n, ic, LA, ln, lc⟩ m B _ (hm.alloc hB (.cells (Raw.cells ⟨KA, kn, kc, IA, n, ic, LA, ln, lc⟩ m).toArray 40)) (Nat.le_trans hB hb0.size))
  have HREC := Lib.hid (fun j u => @cells_recent ⟨KA, kn, kc, IA, n, ic, LA, ln, lc⟩ m j u)
  have HMR := Lib.hid (MsgRow.of hrow hm.recent)
  obtain ⟨cs, hcs⟩ : ∃ cs, cs = Raw.cells ⟨KA, kn, kc, IA, n, ic, LA, ln, lc⟩ m := ⟨_, rfl⟩
  rw [← hcs] at hrow hb0 hlen HF HREC HMR ⊢
  clear hcs
  have HSZ := Lib.hid (show (Tryz.prog.info? 40).map (·.size) = some cs.length by rw [size_msg, hlen])
  have HROW := Lib.hid hrow
  have HM := Lib.hid hm
  have HB0 := Lib.hid hb0
  have k1 := hm.kn
  have k2 := hm.n
  have k3 := hm.ln
  dsimp only at k1 k2 k3
  unfold maxLen at k1 k2 k3
  have HL := Lib.hid hl
  have HFI := Lib.hid hf
  clear hlen hm hb0 hrow hl hf
  go_enter Tryz.func66, Tryz.ntmps66
  go_wp2_with (first
    | (with_reducible show wpList _ _ _ ({ dst := some 9, op := Op.load _ _, type := _, pos := _, after := _, guard := _ } :: _) _ _; go_must (refine wpList_load_whole rfl 40 (.tmp 1) rfl w.heap.size 40 cs _ Tryz.underlying40 rfl HSZ.out HROW.out ?_ ?_; go_simp)))
  refine HF.out.mono ?_
  rintro e w1 ⟨⟨b, rfl, hb⟩, hb1⟩
  obtain rfl : b = true := hb.2 HFI.out
  clear hb
  have hlt0 : w.heap.size < w1.heap.size := Nat.lt_of_lt_of_le HROW.out.lt hb1.size
  have hr1 := HROW.out.below hb1 HROW.out.lt
  have hm1 := HMR.out.keep HROW.out.lt hb1
  have hbw1 := HB0.out.trans (hb1.mono HB0.out.size)
  generalize hW : (w.alloc (Obj.cells cs.toArray 40)) = W0 at *
  clear hW HF HMR HROW HB0 hb1
  have HR1 := Lib.hid hr1
  have HMR1 := Lib.hid hm1
  have HBW1 := Lib.hid hbw1
  have HM1 := Lib.hid (HM.out.below (hbw1.mono hB))
  clear hr1 hbw1 HM
  obtain ⟨d0, d1, d2, d3, d4, d37, d38⟩ := hm1
  clear d1 d2 d3 d4 d37 d38
  generalize hv0 : m.v0 = v0 at *
  have HV0 := Lib.hid hv0
  clear hv0
  have HO1 := Lib.hid (OwnB.nil w1 w1.heap.size)
  have hpar := enc_parts m
  have hhl : (encHead m).length = (if v0 then 1 else 0) + 3 := by unfold encHead; rw [HV0.out]; cases v0 <;> rfl
  have HPAR := Lib.hid hpar
  have HHL := Lib.hid hhl
  clear hpar hhl
  have hfk := HFI.out.2.1
  have hfi := HFI.out.2.2.1
  rw [HM1.out.keys.len] at hfk
  rw [HM1.out.ins.len] at hfi
  dsimp only at hfk hfi
  have HE : Hid (enc m = encHead m ++ short kn ++ m.keys.flatten ++ m.recent ++ short n ++ m.ins.flatMap encIn ++ encTail m) := by
    have e1 := HM1.out.keys.len
    have e2 := HM1.out.ins.len
    dsimp only at e1 e2
    refine Lib.hid ?_
    unfold enc
    rw [e1, e2]
    simp only [List.append_assoc]
  have HPL : Hid ((encHead m).length + 3 + m.keys.flatten.length + m.recent.length + 3 + (m.ins.flatMap encIn).length + (encTail m).length ≤ 1000000006) := by
    have h1 := HPAR.out
    have h2 := HL.out
    exact Lib.hid (by omega)
  -- the head
  cases v0
  · have hh : encHead m = [m.s, m.r, m.o] := by unfold encHead; rw [HV0.out]; rfl
    have HH := Lib.hid hh
    clear hh
    obtain ⟨-, d1, d2, d3, d4, -, -⟩ := HMR1.out
    go_wp2_with (first
      | (at_builtin; with_reducible show wpList _ _ _ ({ dst := some 28, op := _, type := _, pos := _, after := _, guard := _ } :: _) _ _; go_must (refine wpList_addLit rfl (.tmp 17) (.tmp 27) 22 rfl w1.heap.size Tryz.underlying22 info_u8 (.slice none 0 0) [] [m.s, m.r, m.o] 3 rfl ?_ HO1.out ?_ (Nat.le_refl _) (by simp only [List.nil_append, List.length_cons, List.length_nil]; omega) ?_; go_simp; go_simp; intro v2 w2 ho2 hg2; have hb2 := hg2.belowB HO1.out (Nat.le_refl _); obtain ⟨-, -, -, -, d4, -, -⟩ := HMR1.out.keep hlt0 hb2; have HO2 : Hid (OwnB w2 w1.heap.size v2 (encHead m)) := Lib.hid (by rw [HH.out]; simpa only [List.cons_append, List.nil_append] using ho2); have HB2 := Lib.hid hb2; clear ho2 hg2 hb2 d1 d2 d3)))
    clear HH
    all_goals
    (have HX1 := HPL.out
     refine (putMany_ w1.heap.size v2 (encHead m) kn w2 HO2.out HB2.out.size hfk (by omega)).mono ?_
     rintro e w3 ⟨v3, rfl, ho3, hg3⟩
     have HB3 := Lib.hid (HB2.out.trans (hg3.belowB HO2.out HB2.out.size))
     have HO3 := Lib.hid ho3
     have HS3 := short_len3 kn
     have HS4 := short_len3 n
     have hkl : ∀ k, (m.keys.take k).flatten.length ≤ m.keys.flatten.length := fun k => by
      have := flatMap_take_len id m.keys k
      simpa only [List.flatMap_id] using this
     have hrl := HM1.out.recent
     have HXL := Lib.hid (And.intro HX1 (And.intro HS3 (And.intro HS4 (And.intro hkl hrl))))
     have d4 := (HMR1.out.keep hlt0 HB3.out).c4
     dsimp only at d4
     clear ho3 hg3 HO2 HB2 HX1 HS3 HS4 hkl hrl
     go_wp2_with fail
     clear d4
     go_loopw [4, 37] (fun v i wr => ∃ k : Nat, k ≤ kn ∧ i = .int .i64 k ∧ OwnB wr w1.heap.size v (encHead m ++ short kn ++ (m.keys.take k).flatten) ∧ Below w1.heap.size w1 wr) (fun v i _ => kn - (intOf i).toNat)
     case atStart =>
      refine ⟨0, Nat.zero_le _, rfl, ?_, HB3.out⟩
      simpa only [List.take_zero, List.flatten_nil, List.append_nil] using HO3.out
     case round =>
      obtain ⟨k, hk, rfl, ho, hb⟩ := hrel
      have HOR := Lib.hid ho
      have HBR := Lib.hid hb
      clear ho hb HO3 HB3
      have hsz := HBR.out.size
      by_cases hlt : k < kn
      · obtain ⟨a, x, rfl, hab, hx, hat⟩ := HM1.out.keys.get hlt
        have HAT := Lib.hid (hat.keep hab fun p hp => HBR.out.cell (Nat.lt_of_lt_of_le hp (Nat.le_trans hB (Nat.le_of_lt hlt0))))
        have HX := Lib.hid hx
        have hz32 : (Tryz.prog.info? 78).map (·.size) = some (bv x).length := by rw [size_key, bv_length, hat.len]
        have HZ32 := Lib.hid hz32
        have hln : (encHead m ++ short kn ++ (m.keys.take k).flatten).length + 32 ≤ 2000000000 := by
          obtain ⟨h1, h2, h3, h4, h5⟩ := HXL.out
          have := h4 k
          simp only [List.length_append]
          omega
        have HLN := Lib.hid hln
        clear hat hx hz32 hln
        go_wp2_with (first
          | (with_reducible show wpList _ _ _ ({ dst := some 40, op := Op.load _ _, type := _, pos := _, after := _, guard := _ } :: _) _ _; go_must (refine wpList_load_at rfl 78 (.tmp 39) rfl (a.add (k * 32)) (bv x) _ Tryz.underlying78 rfl HZ32.out HAT.out.cells ?_ ?_; go_simp))
          | (with_reducible show wpList _ _ _ ({ dst := none, op := Op.store 78 _ _, type := _, pos := _, after := _, guard := _ } :: _) _ _; go_must (refine wpList_store_new rfl 78 (.tmp 6) (.tmp 40) rfl (bv x) HZ32.out (bv_one x) (by simp [bv_length, HAT.out.len]) ?_ ?_ ?_; go_simp; go_simp; intro w4 hr4 hb4 hz4; have hs4 : Sees w4 w4.heap.size (some ⟨wr.heap.size, 0, none⟩) 32 (bv x) := hr4.sees_at (o := 0) (by rw [bv_length, HAT.out.len]) (fun j u hu => by rw [Nat.zero_add]; exact hu); have ho4 := HOR.out.below hb4; clear hr4))
          | (at_builtin; go_must (refine wpList_addB rfl (.tmp 41) (.tmp 42) 22 rfl w1.heap.size Tryz.underlying22 info_u8 _ _ ?_ ho4 _ _ 32 32 x ?_ hs4 (by omega) (by have q1 := HLN.out; have q2 := HAT.out.len; rw [List.length_append]; omega) ?_; go_simp; go_simp; intro v5 w5 ho5 hg5; have HB5 := Lib.hid ((HBR.out.trans (hb4.mono hsz)).trans (hg5.belowB ho4 (by omega))); have HO5 := Lib.hid ho5; clear ho5 hg5)))
        go_roundw
        case rel =>
          refine ⟨k + 1, by omega, by go_num, ?_, HB5.out⟩
          rw [flatten_take_succ HX.out, ← List.append_assoc]
          exact HO5.out
        case measure => simp [intOf]; omega
      · have HKK := Lib.hid (show k = kn by omega)
        have hok : OwnB wr w1.heap.size u4 (encHead m ++ short kn ++ m.keys.flatten) := by
          have := HOR.out
          rwa [List.take_of_length_le (by have := HM1.out.keys.len; dsimp only at this; have := HKK.out; omega)] at this
        have hsr := (HR1.out.below HBR.out hlt0).sees_at (o := 5) (xs := bv m.recent) (n := 32) (by rw [bv_length, HXL.out.2.2.2.2]) HREC.out
        have HOK := Lib.hid hok
        clear hok HOR
        go_wp2_with (first
          | (at_builtin; go_must (refine wpList_addB rfl (.tmp 45) (.tmp 47) 22 rfl w1.heap.size Tryz.underlying22 info_u8 _ _ ?_ HOK.out _ _ 32 32 m.recent ?_ hsr hsz (by obtain ⟨h1, h2, h3, h4, h5⟩ := HXL.out; simp only [List.length_append]; omega) ?_; go_simp; go_simp; intro v5 w5 ho5 hg5; have hb5 := HBR.out.trans (hg5.belowB HOK.out hsz); have d37 := (HMR1.out.keep hlt0 hb5).c37; dsimp only at d37; have HB5 := Lib.hid hb5; have HO5 := Lib.hid ho5; clear hb5 ho5 hg5)))
        have HX1 := HXL.out
        have hz5 := HB5.out.size
        refine (putMany_ w1.heap.size v5 _ n w5 HO5.out hz5 hfi (by simp only [List.length_append]; omega)).mono ?_
        rintro e w6 ⟨v6, rfl, ho6, hg6⟩
        have HB6 := Lib.hid (HB5.out.trans (hg6.belowB HO5.out hz5))
        have HO6 := Lib.hid ho6
        have d37 := (HMR1.out.keep hlt0 HB6.out).c37
        dsimp only at d37
        have HM6 := Lib.hid (HM1.out.below (HB6.out.mono (Nat.le_trans hB (Nat.le_of_lt hlt0))))
        clear ho6 hg6 HO5 HB5 HX1 hsz HOK HBR hz5
        go_wp2_with fail
        clear d37
        go_loopw [4, 57] (fun v i wr => ∃ k : Nat, k ≤ n ∧ i = .int .i64 k ∧ OwnB wr w1.heap.size v (encHead m ++ short kn ++ m.keys.flatten ++ m.recent ++ short n ++ (m.ins.take k).flatMap encIn) ∧ Below w1.heap.size w1 wr) (fun v i _ => n - (intOf i).toNat)
        case atStart =>
          refine ⟨0, Nat.zero_le _, rfl, ?_, HB6.out⟩
          simpa only [List.take_zero, List.flatMap_nil, List.append_nil] using HO6.out
        case round =>
          clear HO6 HB6 HM6
          obtain ⟨k2, hk2, rfl, ho, hb⟩ := hrel
          have HOR := Lib.hid ho
          have HBR := Lib.hid hb
          clear ho hb
          have hsz := HBR.out.size
          by_cases hlt2 : k2 < n
          · obtain ⟨a, x, va, vd, rfl, hab, hx, hat⟩ := HM1.out.ins.get hlt2
            have hat := hat.keep hab fun p hp => HBR.out.cell (Nat.lt_of_lt_of_le hp (Nat.le_trans hB (Nat.le_of_lt hlt0)))
            have HON := Lib.hid (inCells_one (p := x.p) hat.acc hat.dat)
            have HAT := Lib.hid hat
            have HX := Lib.hid hx
            have hln : (encHead m ++ short kn ++ m.keys.flatten ++ m.recent ++ short n ++ (m.ins.take k2).flatMap encIn).length + (encIn x).length ≤ 2000000000 := by
              obtain ⟨h1, h2, h3, h4, h5⟩ := HXL.out
              have h6 := flatMap_take_len encIn m.ins (k2 + 1)
              rw [flatMap_take_succ encIn hx] at h6
              simp only [List.length_append] at h6 ⊢
              omega
            have hel : (encIn x).length = 1 + ((encL x.acc).length + (encL x.dat).length) := by simp [encIn]; omega
            have hfx := HFI.out.2.2.2.2.1 x (List.mem_of_getElem? hx)
            generalize hys : encHead m ++ short kn ++ m.keys.flatten ++ m.recent ++ short n ++ (m.ins.take k2).flatMap encIn = ys at *
            have HYS := Lib.hid hys
            have HLN := Lib.hid hln
            have HEL := Lib.hid hel
            clear hat hx hln hel hys
            go_wp2_with (first
              | (with_reducible show wpList _ _ _ ({ dst := some 60, op := Op.load _ _, type := _, pos := _, after := _, guard := _ } :: _) _ _; go_must (refine wpList_load_at rfl 131 (.tmp 59) rfl (a.add (k2 * 3)) (inCells x.p va vd) _ Tryz.underlying131 rfl (size_in _ _ _) HAT.out.cells ?_ ?_; go_simp))
              | (with_reducible show wpList _ _ _ ({ dst := none, op := Op.store 131 _ _, type := _, pos := _, after := _, guard := _ } :: _) _ _; go_must (refine wpList_store_new rfl 131 (.tmp 8) (.tmp 60) rfl (inCells x.p va vd) (size_in _ _ _) HON.out rfl ?_ ?_ ?_; go_simp; go_simp; intro w4 hr4 hb4 hz4; obtain ⟨e0, -, -⟩ := in_cells hr4; have ho4 := HOR.out.below hb4; have HR4 := Lib.hid hr4; clear hr4))
              | (at_builtin; go_must (refine wpList_addLit rfl (.tmp 61) (.tmp 64) 22 rfl w1.heap.size Tryz.underlying22 info_u8 _ ys [x.p] 1 rfl ?_ ho4 ?_ (by omega) (by have q1 := HLN.out; rw [List.length_append, List.length_singleton]; omega) ?_; go_simp; go_simp; intro v5 w5 ho5 hg5; have HNE5 := Lib.hid (hg5.ne (own_ne_new (base := w1.heap.size) HOR.out (Nat.le_refl _)) HR4.out.lt); have hr5 := hg5.row HR4.out (own_ne_new HOR.out (Nat.le_refl _)); obtain ⟨-, e1, -⟩ := in_cells hr5; have HR5 := Lib.hid hr5; have HB5 := Lib.hid ((HBR.out.trans (hb4.mono hsz)).trans (hg5.belowB ho4 (by omega))); have HO5 := Lib.hid ho5; have hg5' := hg5; clear ho5 hg5 hr5 e0)))
            have hln := HLN.out
            have hel := HEL.out
            have hz5 := HB5.out.size
            have hdat := HAT.out.dat
            have hva : BytesIn w5 w1.heap.size va x.acc := (HAT.out.acc.more (Nat.le_trans hB (Nat.le_of_lt hlt0))).below ((hb4.mono hsz).trans (hg5'.belowB ho4 (by omega)))
            have hvd : BytesIn w5 w1.heap.size vd x.dat := (HAT.out.dat.more (Nat.le_trans hB (Nat.le_of_lt hlt0))).below ((hb4.mono hsz).trans (hg5'.belowB ho4 (by omega)))
            clear hdat
            refine (putBytes_ w1.heap.size w1.heap.size v5 va _ x.acc w5 HO5.out hz5 hva (Nat.le_refl _) hfx.1 (by rw [List.length_append, List.length_singleton]; omega)).mono ?_
            rintro e w6' ⟨v6', rfl, ho6', hg6'⟩
            have hr6 := hg6'.row HR5.out HNE5.out
            obtain ⟨-, -, e2⟩ := in_cells hr6
            have hb6 := hg6'.belowB HO5.out hz5
            have HVD := Lib.hid (hvd.below hb6)
            have HB6' := Lib.hid (HB5.out.trans hb6)
            have HO6' := Lib.hid ho6'
            clear hr6 hb6 ho6' hg6' hva hvd e1 hln hel hz5 ho4 hb4 hg5'
            go_wp2_with fail
            have hln := HLN.out
            have hel := HEL.out
            refine (putBytes_ w1.heap.size w1.heap.size v6' vd _ x.dat w6' HO6'.out HB6'.out.size HVD.out (Nat.le_refl _) hfx.2 (by simp only [List.length_append, List.length_singleton]; omega)).mono ?_
            rintro e w7 ⟨v7, rfl, ho7, hg7⟩
            have HB7 := Lib.hid (HB6'.out.trans (hg7.belowB HO6'.out HB6'.out.size))
            have HO7 := Lib.hid ho7
            clear ho7 hg7 hln hel e2
            go_wp2_with fail
            go_roundw
            case rel =>
              refine ⟨k2 + 1, by omega, by go_num, ?_, HB7.out⟩
              have := HO7.out
              rw [flatMap_take_succ encIn HX.out, ← List.append_assoc, HYS.out]
              simpa only [encIn, List.append_assoc, List.singleton_append, List.cons_append, List.nil_append] using this
            case measure => simp [intOf]; omega
          · have HOK : Hid (OwnB wr w1.heap.size u4 (encHead m ++ short kn ++ m.keys.flatten ++ m.recent ++ short n ++ m.ins.flatMap encIn)) := by
              have := HOR.out
              rw [List.take_of_length_le (by have h1 := HM1.out.ins.len; dsimp only at h1; omega)] at this
              exact Lib.hid this
            have hm2 := HMR1.out.keep hlt0 HBR.out
            have d0 := hm2.c0
            rw [HV0.out] at d0
            clear hm2 HOR
            go_wp2_with fail
            have ht : encTail m = [] := by unfold encTail; rw [HV0.out]; rfl
            have hlast := HOK.out
            have hE := HE.out
            rw [ht, List.append_nil] at hE
            rw [← hE] at hlast
            obtain ⟨g, rest, c, rfl, hg, hrow, hc1, hc2⟩ := hlast.row (by rw [hE]; simp only [List.length_append, HXL.out.2.2.2.2]; omega)
            have HROW := Lib.hid hrow
            clear hrow d0 hE ht HOK hlast
            refine (clip_ _ _ c _ hc1 hc2).mono ?_
            rintro e w8 ⟨rfl, rfl⟩
            go_wp2_with fail
            go_ret2
            exact ⟨g, rest, rfl, by omega, HROW.out, HBW1.out.trans (HBR.out.mono (Nat.le_of_lt hlt0))⟩)
  · have hh : encHead m = [128, m.s, m.r, m.o] := by unfold encHead; rw [HV0.out]; rfl
    have HH := Lib.hid hh
    clear hh
    go_wp2_with (first
      | (at_builtin; with_reducible show wpList _ _ _ ({ dst := some 16, op := _, type := _, pos := _, after := _, guard := _ } :: _) _ _; go_must (refine wpList_addLit rfl (.tmp 14) (.tmp 15) 22 rfl w1.heap.size Tryz.underlying22 info_u8 (.slice none 0 0) [] [128] 1 rfl ?_ HO1.out ?_ (Nat.le_refl _) (by simp only [List.nil_append, List.length_cons, List.length_nil]; omega) ?_; go_simp; go_simp; intro v1 w1' ho1 hg1; have hb1 := hg1.belowB HO1.out (Nat.le_refl _); obtain ⟨-, d1, d2, d3, d4, -, -⟩ := HMR1.out.keep hlt0 hb1; have HO1' : Hid (OwnB w1' w1.heap.size v1 [128]) := Lib.hid (by simpa only [List.nil_append] using ho1); have HB1' := Lib.hid hb1; clear ho1 hg1 hb1))
      | (at_builtin; with_reducible show wpList _ _ _ ({ dst := some 28, op := _, type := _, pos := _, after := _, guard := _ } :: _) _ _; go_must (refine wpList_addLit rfl (.tmp 17) (.tmp 27) 22 rfl w1.heap.size Tryz.underlying22 info_u8 v1 [128] [m.s, m.r, m.o] 3 rfl ?_ HO1'.out ?_ HB1'.out.size (by simp only [List.cons_append, List.nil_append, List.length_cons, List.length_nil]; omega) ?_; go_simp; go_simp; intro v2 w2 ho2 hg2; have hb2 := HB1'.out.trans (hg2.belowB HO1'.out HB1'.out.size); obtain ⟨-, -, -, -, d4, -, -⟩ := HMR1.out.keep hlt0 hb2; have HO2 : Hid (OwnB w2 w1.heap.size v2 (encHead m)) := Lib.hid (by rw [HH.out]; simpa only [List.cons_append, List.nil_append] using ho2); have HB2 := Lib.hid hb2; clear ho2 hg2 hb2 d1 d2 d3 HO1' HB1')))
    clear HH
    all_goals
    (have HX1 := HPL.out
     refine (putMany_ w1.heap.size v2 (encHead m) kn w2 HO2.out HB2.out.size hfk (by omega)).mono ?_
     rintro e w3 ⟨v3, rfl, ho3, hg3⟩
     have HB3 := Lib.hid (HB2.out.trans (hg3.belowB HO2.out HB2.out.size))
     have HO3 := Lib.hid ho3
     have HS3 := short_len3 kn
     have HS4 := short_len3 n
     have hkl : ∀ k, (m.keys.take k).flatten.length ≤ m.keys.flatten.length := fun k => by
      have := flatMap_take_len id m.keys k
      simpa only [List.flatMap_id] using this
     have hrl := HM1.out.recent
     have HXL := Lib.hid (And.intro HX1 (And.intro HS3 (And.intro HS4 (And.intro hkl hrl))))
     have d4 := (HMR1.out.keep hlt0 HB3.out).c4
     dsimp only at d4
     clear ho3 hg3 HO2 HB2 HX1 HS3 HS4 hkl hrl
     go_wp2_with fail
     clear d4
     go_loopw [4, 37] (fun v i wr => ∃ k : Nat, k ≤ kn ∧ i = .int .i64 k ∧ OwnB wr w1.heap.size v (encHead m ++ short kn ++ (m.keys.take k).flatten) ∧ Below w1.heap.size w1 wr) (fun v i _ => kn - (intOf i).toNat)
     case atStart =>
      refine ⟨0, Nat.zero_le _, rfl, ?_, HB3.out⟩
      simpa only [List.take_zero, List.flatten_nil, List.append_nil] using HO3.out
     case round =>
      obtain ⟨k, hk, rfl, ho, hb⟩ := hrel
      have HOR := Lib.hid ho
      have HBR := Lib.hid hb
      clear ho hb HO3 HB3
      have hsz := HBR.out.size
      by_cases hlt : k < kn
      · obtain ⟨a, x, rfl, hab, hx, hat⟩ := HM1.out.keys.get hlt
        have HAT := Lib.hid (hat.keep hab fun p hp => HBR.out.cell (Nat.lt_of_lt_of_le hp (Nat.le_trans hB (Nat.le_of_lt hlt0))))
        have HX := Lib.hid hx
        have hz32 : (Tryz.prog.info? 78).map (·.size) = some (bv x).length := by rw [size_key, bv_length, hat.len]
        have HZ32 := Lib.hid hz32
        have hln : (encHead m ++ short kn ++ (m.keys.take k).flatten).length + 32 ≤ 2000000000 := by
          obtain ⟨h1, h2, h3, h4, h5⟩ := HXL.out
          have := h4 k
          simp only [List.length_append]
          omega
        have HLN := Lib.hid hln
        clear hat hx hz32 hln
        go_wp2_with (first
          | (with_reducible show wpList _ _ _ ({ dst := some 40, op := Op.load _ _, type := _, pos := _, after := _, guard := _ } :: _) _ _; go_must (refine wpList_load_at rfl 78 (.tmp 39) rfl (a.add (k * 32)) (bv x) _ Tryz.underlying78 rfl HZ32.out HAT.out.cells ?_ ?_; go_simp))
          | (with_reducible show wpList _ _ _ ({ dst := none, op := Op.store 78 _ _, type := _, pos := _, after := _, guard := _ } :: _) _ _; go_must (refine wpList_store_new rfl 78 (.tmp 6) (.tmp 40) rfl (bv x) HZ32.out (bv_one x) (by simp [bv_length, HAT.out.len]) ?_ ?_ ?_; go_simp; go_simp; intro w4 hr4 hb4 hz4; have hs4 : Sees w4 w4.heap.size (some ⟨wr.heap.size, 0, none⟩) 32 (bv x) := hr4.sees_at (o := 0) (by rw [bv_length, HAT.out.len]) (fun j u hu => by rw [Nat.zero_add]; exact hu); have ho4 := HOR.out.below hb4; clear hr4))
          | (at_builtin; go_must (refine wpList_addB rfl (.tmp 41) (.tmp 42) 22 rfl w1.heap.size Tryz.underlying22 info_u8 _ _ ?_ ho4 _ _ 32 32 x ?_ hs4 (by omega) (by have q1 := HLN.out; have q2 := HAT.out.len; rw [List.length_append]; omega) ?_; go_simp; go_simp; intro v5 w5 ho5 hg5; have HB5 := Lib.hid ((HBR.out.trans (hb4.mono hsz)).trans (hg5.belowB ho4 (by omega))); have HO5 := Lib.hid ho5; clear ho5 hg5)))
        go_roundw
        case rel =>
          refine ⟨k + 1, by omega, by go_num, ?_, HB5.out⟩
          rw [flatten_take_succ HX.out, ← List.append_assoc]
          exact HO5.out
        case measure => simp [intOf]; omega
      · have HKK := Lib.hid (show k = kn by omega)
        have hok : OwnB wr w1.heap.size u4 (encHead m ++ short kn ++ m.keys.flatten) := by
          have := HOR.out
          rwa [List.take_of_length_le (by have := HM1.out.keys.len; dsimp only at this; have := HKK.out; omega)] at this
        have hsr := (HR1.out.below HBR.out hlt0).sees_at (o := 5) (xs := bv m.recent) (n := 32) (by rw [bv_length, HXL.out.2.2.2.2]) HREC.out
        have HOK := Lib.hid hok
        clear hok HOR
        go_wp2_with (first
          | (at_builtin; go_must (refine wpList_addB rfl (.tmp 45) (.tmp 47) 22 rfl w1.heap.size Tryz.underlying22 info_u8 _ _ ?_ HOK.out _ _ 32 32 m.recent ?_ hsr hsz (by obtain ⟨h1, h2, h3, h4, h5⟩ := HXL.out; simp only [List.length_append]; omega) ?_; go_simp; go_simp; intro v5 w5 ho5 hg5; have hb5 := HBR.out.trans (hg5.belowB HOK.out hsz); have d37 := (HMR1.out.keep hlt0 hb5).c37; dsimp only at d37; have HB5 := Lib.hid hb5; have HO5 := Lib.hid ho5; clear hb5 ho5 hg5)))
        have HX1 := HXL.out
        have hz5 := HB5.out.size
        refine (putMany_ w1.heap.size v5 _ n w5 HO5.out hz5 hfi (by simp only [List.length_append]; omega)).mono ?_
        rintro e w6 ⟨v6, rfl, ho6, hg6⟩
        have HB6 := Lib.hid (HB5.out.trans (hg6.belowB HO5.out hz5))
        have HO6 := Lib.hid ho6
        have d37 := (HMR1.out.keep hlt0 HB6.out).c37
        dsimp only at d37
        have HM6 := Lib.hid (HM1.out.below (HB6.out.mono (Nat.le_trans hB (Nat.le_of_lt hlt0))))
        clear ho6 hg6 HO5 HB5 HX1 hsz HOK HBR hz5
        go_wp2_with fail
        clear d37
        go_loopw [4, 57] (fun v i wr => ∃ k : Nat, k ≤ n ∧ i = .int .i64 k ∧ OwnB wr w1.heap.size v (encHead m ++ short kn ++ m.keys.flatten ++ m.recent ++ short n ++ (m.ins.take k).flatMap encIn) ∧ Below w1.heap.size w1 wr) (fun v i _ => n - (intOf i).toNat)
        case atStart =>
          refine ⟨0, Nat.zero_le _, rfl, ?_, HB6.out⟩
          simpa only [List.take_zero, List.flatMap_nil, List.append_nil] using HO6.out
        case round =>
          clear HO6 HB6 HM6
          obtain ⟨k2, hk2, rfl, ho, hb⟩ := hrel
          have HOR := Lib.hid ho
          have HBR := Lib.hid hb
          clear ho hb
          have hsz := HBR.out.size
          by_cases hlt2 : k2 < n
          · obtain ⟨a, x, va, vd, rfl, hab, hx, hat⟩ := HM1.out.ins.get hlt2
            have hat := hat.keep hab fun p hp => HBR.out.cell (Nat.lt_of_lt_of_le hp (Nat.le_trans hB (Nat.le_of_lt hlt0)))
            have HON := Lib.hid (inCells_one (p := x.p) hat.acc hat.dat)
            have HAT := Lib.hid hat
            have HX := Lib.hid hx
            have hln : (encHead m ++ short kn ++ m.keys.flatten ++ m.recent ++ short n ++ (m.ins.take k2).flatMap encIn).length + (encIn x).length ≤ 2000000000 := by
              obtain ⟨h1, h2, h3, h4, h5⟩ := HXL.out
              have h6 := flatMap_take_len encIn m.ins (k2 + 1)
              rw [flatMap_take_succ encIn hx] at h6
              simp only [List.length_append] at h6 ⊢
              omega
            have hel : (encIn x).length = 1 + ((encL x.acc).length + (encL x.dat).length) := by simp [encIn]; omega
            have hfx := HFI.out.2.2.2.2.1 x (List.mem_of_getElem? hx)
            generalize hys : encHead m ++ short kn ++ m.keys.flatten ++ m.recent ++ short n ++ (m.ins.take k2).flatMap encIn = ys at *
            have HYS := Lib.hid hys
            have HLN := Lib.hid hln
            have HEL := Lib.hid hel
            clear hat hx hln hel hys
            go_wp2_with (first
              | (with_reducible show wpList _ _ _ ({ dst := some 60, op := Op.load _ _, type := _, pos := _, after := _, guard := _ } :: _) _ _; go_must (refine wpList_load_at rfl 131 (.tmp 59) rfl (a.add (k2 * 3)) (inCells x.p va vd) _ Tryz.underlying131 rfl (size_in _ _ _) HAT.out.cells ?_ ?_; go_simp))
              | (with_reducible show wpList _ _ _ ({ dst := none, op := Op.store 131 _ _, type := _, pos := _, after := _, guard := _ } :: _) _ _; go_must (refine wpList_store_new rfl 131 (.tmp 8) (.tmp 60) rfl (inCells x.p va vd) (size_in _ _ _) HON.out rfl ?_ ?_ ?_; go_simp; go_simp; intro w4 hr4 hb4 hz4; obtain ⟨e0, -, -⟩ := in_cells hr4; have ho4 := HOR.out.below hb4; have HR4 := Lib.hid hr4; clear hr4))
              | (at_builtin; go_must (refine wpList_addLit rfl (.tmp 61) (.tmp 64) 22 rfl w1.heap.size Tryz.underlying22 info_u8 _ ys [x.p] 1 rfl ?_ ho4 ?_ (by omega) (by have q1 := HLN.out; rw [List.length_append, List.length_singleton]; omega) ?_; go_simp; go_simp; intro v5 w5 ho5 hg5; have HNE5 := Lib.hid (hg5.ne (own_ne_new (base := w1.heap.size) HOR.out (Nat.le_refl _)) HR4.out.lt); have hr5 := hg5.row HR4.out (own_ne_new HOR.out (Nat.le_refl _)); obtain ⟨-, e1, -⟩ := in_cells hr5; have HR5 := Lib.hid hr5; have HB5 := Lib.hid ((HBR.out.trans (hb4.mono hsz)).trans (hg5.belowB ho4 (by omega))); have HO5 := Lib.hid ho5; have hg5' := hg5; clear ho5 hg5 hr5 e0)))
            have hln := HLN.out
            have hel := HEL.out
            have hz5 := HB5.out.size
            have hdat := HAT.out.dat
            have hva : BytesIn w5 w1.heap.size va x.acc := (HAT.out.acc.more (Nat.le_trans hB (Nat.le_of_lt hlt0))).below ((hb4.mono hsz).trans (hg5'.belowB ho4 (by omega)))
            have hvd : BytesIn w5 w1.heap.size vd x.dat := (HAT.out.dat.more (Nat.le_trans hB (Nat.le_of_lt hlt0))).below ((hb4.mono hsz).trans (hg5'.belowB ho4 (by omega)))
            clear hdat
            refine (putBytes_ w1.heap.size w1.heap.size v5 va _ x.acc w5 HO5.out hz5 hva (Nat.le_refl _) hfx.1 (by rw [List.length_append, List.length_singleton]; omega)).mono ?_
            rintro e w6' ⟨v6', rfl, ho6', hg6'⟩
            have hr6 := hg6'.row HR5.out HNE5.out
            obtain ⟨-, -, e2⟩ := in_cells hr6
            have hb6 := hg6'.belowB HO5.out hz5
            have HVD := Lib.hid (hvd.below hb6)
            have HB6' := Lib.hid (HB5.out.trans hb6)
            have HO6' := Lib.hid ho6'
            clear hr6 hb6 ho6' hg6' hva hvd e1 hln hel hz5 ho4 hb4 hg5'
            go_wp2_with fail
            have hln := HLN.out
            have hel := HEL.out
            refine (putBytes_ w1.heap.size w1.heap.size v6' vd _ x.dat w6' HO6'.out HB6'.out.size HVD.out (Nat.le_refl _) hfx.2 (by simp only [List.length_append, List.length_singleton]; omega)).mono ?_
            rintro e w7 ⟨v7, rfl, ho7, hg7⟩
            have HB7 := Lib.hid (HB6'.out.trans (hg7.belowB HO6'.out HB6'.out.size))
            have HO7 := Lib.hid ho7
            clear ho7 hg7 hln hel e2
            go_wp2_with fail
            go_roundw
            case rel =>
              refine ⟨k2 + 1, by omega, by go_num, ?_, HB7.out⟩
              have := HO7.out
              rw [flatMap_take_succ encIn HX.out, ← List.append_assoc, HYS.out]
              simpa only [encIn, List.append_assoc, List.singleton_append, List.cons_append, List.nil_append] using this
            case measure => simp [intOf]; omega
          · have HOK : Hid (OwnB wr w1.heap.size u4 (encHead m ++ short kn ++ m.keys.flatten ++ m.recent ++ short n ++ m.ins.flatMap encIn)) := by
              have := HOR.out
              rw [List.take_of_length_le (by have h1 := HM1.out.ins.len; dsimp only at h1; omega)] at this
              exact Lib.hid this
            have hm2 := HMR1.out.keep hlt0 HBR.out
            have d0 := hm2.c0
            rw [HV0.out] at d0
            have d38 := hm2.c38
            dsimp only at d38
            clear hm2 HOR
            go_wp2_with fail
            have hlk := (HM1.out.below (HBR.out.mono (Nat.le_trans hB (Nat.le_of_lt hlt0)))).looks
            have ht : encTail m = short m.looks.length ++ m.looks.flatMap encLook := by unfold encTail; rw [HV0.out]; rfl
            have HT := Lib.hid ht
            have hle := HL.out
            rw [HE.out, ht] at hle
            refine (putLookups_ w1.heap.size B u4 LA ln lc _ m.looks _ HOK.out hsz hlk (Nat.le_trans hB (Nat.le_of_lt hlt0)) ⟨by have h1 := hlk.len; dsimp only at h1; have h2 := HFI.out.2.2.2.1; omega, HFI.out.2.2.2.2.2⟩ hle).mono ?_
            rintro e w8 ⟨v8, rfl, ho8, hg8⟩
            have HB8 := Lib.hid (HBR.out.trans (hg8.belowB HOK.out hsz))
            have HO8 := Lib.hid ho8
            clear ho8 hg8 ht hle hlk d0 d38 hsz HBR HOK
            go_wp2_with fail
            have hlast := HO8.out
            rw [← HT.out, ← HE.out] at hlast
            obtain ⟨g, rest, c, rfl, hg, hrow, hc1, hc2⟩ := hlast.row (by rw [HE.out]; simp only [List.length_append, HXL.out.2.2.2.2]; omega)
            have HROW := Lib.hid hrow
            clear hrow
            refine (clip_ _ _ c _ hc1 hc2).mono ?_
            rintro e w9 ⟨rfl, rfl⟩
            go_wp2_with fail
            go_ret2
            exact ⟨g, rest, rfl, by omega, HROW.out, HBW1.out.trans (HB8.out.mono (Nat.le_of_lt hlt0))⟩)
set_option maxRecDepth 100000 in
set_option maxHeartbeats 400000 in
theorem put_no (q : Raw) (m : LMsg) (B : Nat) (w : World) (hm : MsgIn w B q m) (hB : B ≤ w.heap.size) (hf : ¬ Fits m) :
    Calls Tryz.prog 66 #[.agg (q.cells m).toArray] w fun e w' => e = .returned (.tuple #[.slice none 0 0, .int .i64 1]) ∧ Below w.heap.size w w' := by
  have hrow := Row.new w 40 (q.cells m)
  have hb0 := (Below.refl w.heap.size w).alloc (Nat.le_refl _) (.cells (q.cells m).toArray 40)
  have hlen := cells_len (q := q) hm.recent
  have HF := Lib.hid (fits_ q m B _ (hm.alloc hB (.cells (q.cells m).toArray 40)) (Nat.le_trans hB hb0.size))
  have HSZ := Lib.hid (show (Tryz.prog.info? 40).map (·.size) = some (q.cells m).length by rw [size_msg, hlen])
  have HROW := Lib.hid hrow
  have HB0 := Lib.hid hb0
  have HN := Lib.hid hf
  clear hlen hm hb0 hrow hf
  go_enter Tryz.func66, Tryz.ntmps66
  go_wp2_with (first
    | (with_reducible show wpList _ _ _ ({ dst := some 9, op := Op.load _ _, type := _, pos := _, after := _, guard := _ } :: _) _ _; go_must (refine wpList_load_whole rfl 40 (.tmp 1) rfl w.heap.size 40 (q.cells m) _ Tryz.underlying40 rfl HSZ.out HROW.out ?_ ?_; go_simp)))
  refine HF.out.mono ?_
  rintro e w1 ⟨⟨b, rfl, hb⟩, hb1⟩
  obtain rfl : b = false := by
    cases b
    · rfl
    · exact absurd (hb.1 rfl) HN.out
  clear hb
  go_wp2_with fail
  go_ret2
  exact ⟨rfl, HB0.out.trans (hb1.mono HB0.out.size)⟩
end Go.Proofs.YtdgbodljmdcagaaGreatDoor

/-
  Of part Read: what is needed here.
-/
namespace Go.Proofs.YtdgbodljmdcagaaGreatDoor
open Go.RowKit
set_option linter.unusedVariables false
set_option maxRecDepth 100000
/-- a reader at block p, with zs left, which lie below block B -/
structure RdIn (w : World) (p B : Nat) (zs : List Int) : Prop where
  is : ∃ A c, Row w p 243 [.slice A zs.length c] ∧ Sees w B A zs.length (bv zs) ∧ zs.length ≤ c ∧ c ≤ maxLen
/-- but for block p, all that was there is as it was -/
structure But (p : Nat) (w w' : World) : Prop where
  os : w'.os = w.os
  tape : w'.tape = w.tape
  output : w'.output = w.output
  size : w.heap.size ≤ w'.heap.size
  block : ∀ k, k < w.heap.size → k ≠ p → w'.heap[k]? = w.heap[k]?
section
variable {w w' w'' : World} {p B : Nat} {zs : List Int}
theorem But.refl (p : Nat) (w : World) : But p w w := ⟨rfl, rfl, rfl, Nat.le_refl _, fun _ _ _ => rfl⟩
theorem But.trans (h : But p w w') (k : But p w' w'') : But p w w'' :=
  ⟨k.os.trans h.os, k.tape.trans h.tape, k.output.trans h.output, Nat.le_trans h.size k.size, fun i hi hp => (k.block i (Nat.lt_of_lt_of_le hi h.size) hp).trans (h.block i hi hp)⟩
theorem But.of_below (hb : Below w.heap.size w w') (p : Nat) : But p w w' := ⟨hb.os, hb.tape, hb.output, hb.size, fun k hk _ => hb.block k hk⟩
theorem But.of_turned (h : Turned w w' p) : But p w w' := ⟨h.os, h.tape, h.output, by rw [h.size]; exact Nat.le_refl _, fun k _ hk => h.block k hk⟩
theorem But.below (h : But p w w') (hB : B ≤ p) (hs : B ≤ w.heap.size) : Below B w w' := ⟨h.os, h.tape, h.output, h.size, fun k hk => h.block k (by omega) (by omega)⟩
theorem But.row {g t : Nat} {xs : List Value} (h : But p w w') (hr : Row w g t xs) (hg : g ≠ p) : Row w' g t xs := ⟨(h.block g hr.lt hg).trans hr.is⟩
theorem RdIn.lt (h : RdIn w p B zs) : p < w.heap.size := by obtain ⟨A, c, hr, _⟩ := h.is; exact hr.lt
theorem RdIn.below (h : RdIn w p B zs) (hb : Below w.heap.size w w') (hB : B ≤ p) : RdIn w' p B zs := by
  obtain ⟨A, c, hr, hs, h1, h2⟩ := h.is
  have := hr.lt
  exact ⟨A, c, hr.below hb hr.lt, hs.below (hb.mono (by omega)), h1, h2⟩
/-- a panic with an error's number -/
def panics (c : Int) : Ending := .panicked [{ v := .iface 49 (.int .i64 c), recovered := false }]
end
/-- what take leaves -/
def Took (w : World) (p B k : Nat) (zs : List Int) (e : Ending) (w' : World) : Prop :=
  (∃ A c, e = .returned (.slice A k c) ∧ Sees w' B A k (bv (zs.take k))) ∧ RdIn w' p B (zs.drop k) ∧ Turned w w' p
set_option maxHeartbeats 400000 in
theorem take_ok (p B k : Nat) (zs : List Int) (w : World) (h : RdIn w p B zs) (hB : B ≤ p) (h1 : 1 ≤ k) (hk : k ≤ zs.length) :
    Calls Tryz.prog 171 #[.pointer (some ⟨p, 0, none⟩), .int .i64 k] w (Took w p B k zs) := by
  obtain ⟨A, c, hr, hs, h2, h3⟩ := h.is
  obtain ⟨a, _, rfl, hab, _, _⟩ := hs.at_ (k := 0) (by omega)
  have c0 : w.cell? ⟨p, 0, none⟩ = some (.slice (some a) zs.length c) := hr.cell 0
  have f0 := hr.frozen 0
  have R := Lib.hid hr
  have S := Lib.hid hs
  unfold maxLen at h3
  have hs1 : Sees w B (some a) k (bv (zs.take k)) := ⟨by rw [bv_length, List.length_take]; omega, fun i u hu => by
    have hi := (List.getElem?_eq_some_iff.1 hu).1
    rw [bv_length, List.length_take] at hi
    refine hs.cell i u ?_
    rw [bv_getElem?] at hu ⊢
    rwa [List.getElem?_take_of_lt (by omega)] at hu⟩
  have S1 := Lib.hid hs1
  have hk' : ¬ ((zs.length : Int) < k) := by omega
  clear hr hs hs1 h
  have T := fun (v : Value) => Lib.hid (turned_setCell w ⟨p, 0, none⟩ v)
  have R' := fun (v : Value) => Lib.hid (R.out.set_ 0 v)
  have fin : ∀ (e : Ending) (w' : World) (v : Value), e = .returned (.slice (some a) k c) → w' = w.setCell ⟨p, 0, none⟩ v → (∃ A c', v = .slice A (zs.drop k).length c' ∧ Sees w B A (zs.drop k).length (bv (zs.drop k)) ∧ (zs.drop k).length ≤ c' ∧ c' ≤ maxLen) →
      Took w p B k zs e w' := by
    rintro _ _ v rfl rfl ⟨A, c', rfl, h4, h5, h6⟩
    have hb := (T (.slice A (zs.drop k).length c')).out.below (B := B) hB
    exact ⟨⟨_, _, rfl, S1.out.below hb⟩, ⟨⟨A, c', by simpa using (R' (.slice A (zs.drop k).length c')).out, h4.below hb, h5, h6⟩⟩, (T _).out⟩
  have F := Lib.hid fin
  clear fin T R'
  have hz : zs.length - k = (zs.drop k).length := by simp
  have hdrop : Sees w B (some (a.add k)) (zs.length - k) (bv (zs.drop k)) := ⟨by rw [bv_length, List.length_drop], fun i u hu => by
    rw [bv_getElem?, List.getElem?_drop, ← bv_getElem?] at hu
    obtain ⟨a', e, hb, hc⟩ := S.out.cell _ u hu
    cases e
    exact ⟨_, rfl, by rw [addr_block]; exact hb, by rw [addr_add]; exact hc⟩⟩
  have HD := Lib.hid hdrop
  have HZ := Lib.hid hz
  clear hdrop hz
  by_cases hck : c = k
  · subst hck
    go_enter Tryz.func171, Tryz.ntmps171
    go_wp2
    go_ret
    refine F.out _ _ _ rfl rfl ⟨some a, 0, by rw [← HZ.out, show zs.length - c = 0 by omega], ?_, ?_, ?_⟩
    · rw [← HZ.out, show zs.length - c = 0 by omega]
      have e0 : zs.drop c = [] := List.drop_eq_nil_of_le (by omega)
      rw [e0]
      exact Sees.nil _ _ _
    · rw [← HZ.out]; omega
    · unfold maxLen; omega
  · go_enter Tryz.func171, Tryz.ntmps171
    go_wp2
    go_ret
    refine F.out _ _ _ rfl rfl ⟨_, _, by rw [← HZ.out], ?_, ?_, ?_⟩
    · rw [← HZ.out]; exact HD.out
    · rw [← HZ.out]; omega
    · unfold maxLen; omega
set_option maxHeartbeats 400000 in
theorem take_no (p B k : Nat) (zs : List Int) (w : World) (h : RdIn w p B zs) (hk : zs.length < k) :
    Calls Tryz.prog 171 #[.pointer (some ⟨p, 0, none⟩), .int .i64 k] w fun e w' => e = panics 5 ∧ w = w' := by
  obtain ⟨A, c, hr, hs, h2, h3⟩ := h.is
  have c0 : w.cell? ⟨p, 0, none⟩ = some (.slice A zs.length c) := hr.cell 0
  clear hr hs h
  go_enter Tryz.func171, Tryz.ntmps171
  go_wp2
  exact ⟨rfl, rfl, rfl⟩
/-- what a reader's call that hands back one value leaves: what is read; or the panic -/
def Reads {α : Type} (w : World) (p B : Nat) (r : PR α) (V : World → Value → α → Prop) (e : Ending) (w' : World) : Prop :=
  (∃ x rest v, r = .ok (x, rest) ∧ e = .returned v ∧ V w' v x ∧ RdIn w' p B rest ∧ But p w w') ∨ (∃ c, r = .error c ∧ e = panics c ∧ But p w w')
set_option maxHeartbeats 400000 in
theorem octet_ (p B : Nat) (zs : List Int) (w : World) (h : RdIn w p B zs) (hB : B ≤ p) :
    Calls Tryz.prog 164 #[.pointer (some ⟨p, 0, none⟩)] w (Reads w p B (pOctet zs) fun _ v x => v = .int .u8 x) := by
  match zs, h with
  | [], h =>
    have H := Lib.hid (take_no p B 1 [] w h (by simp))
    clear h
    go_enter Tryz.func164, Tryz.ntmps164
    go_wp2_with fail
    refine H.out.mono ?_
    rintro e w1 ⟨rfl, rfl⟩
    exact ⟨rfl, .inr ⟨5, rfl, rfl, But.refl _ _⟩⟩
  | z :: r, h =>
    have H := Lib.hid (take_ok p B 1 (z :: r) w h hB (by omega) (by simp))
    clear h
    go_enter Tryz.func164, Tryz.ntmps164
    go_wp2_with fail
    refine H.out.mono ?_
    rintro e w1 ⟨⟨A, c, rfl, hs⟩, hr, ht⟩
    obtain ⟨a, rfl, hab, hc⟩ := hs.byte (k := 0) (by omega)
    have c0 : w1.cell? a = some (.int .u8 z) := hc
    have HR := Lib.hid hr
    have HT := Lib.hid ht
    clear hs hc hr ht
    go_wp2_with fail
    go_ret
    exact .inl ⟨z, r, _, rfl, rfl, rfl, HR.out, But.of_turned HT.out⟩
set_option maxHeartbeats 400000 in
theorem short_ (p B : Nat) (zs : List Int) (w : World) (h : RdIn w p B zs) (hB : B ≤ p) (hz : AllBytes zs) :
    Calls Tryz.prog 172 #[.pointer (some ⟨p, 0, none⟩)] w (Reads w p B (pShort zs) fun _ v x => v = .int .i64 x ∧ x ≤ 65535) := by
  obtain ⟨A, c, hr, hs, h2, h3⟩ := h.is
  have HG := Lib.hid (getShort A zs.length c zs w B hs (by omega) hz.bytes)
  have c0 : w.cell? ⟨p, 0, none⟩ = some (.slice A zs.length c) := hr.cell 0
  rcases getS_cases zs hz with hg | ⟨n, k, hg, hn, hk1, hk⟩
  · obtain ⟨x, hx, hg⟩ : ∃ x : Int, (x != 0) = true ∧ getS zs = (0, 0, x) := by
      rcases hg with hg | hg
      · exact ⟨4, rfl, hg⟩
      · exact ⟨5, rfl, hg⟩
    have hP : pShort zs = .error x := by
      unfold pShort
      rw [hg]
      exact if_neg (by simpa using hx)
    rw [hg] at HG
    have HP := Lib.hid hP
    clear hr hs hP hg h
    go_enter Tryz.func172, Tryz.ntmps172
    go_wp2_with fail
    refine HG.out.mono ?_
    rintro e w1 ⟨rfl, rfl⟩
    go_wp2_with fail
    exact ⟨rfl, .inr ⟨x, HP.out, rfl, But.refl _ _⟩⟩
  · have hP : pShort zs = .ok (n, zs.drop k) := by
      unfold pShort
      rw [hg]
      exact if_pos rfl
    rw [hg] at HG
    have HP := Lib.hid hP
    have HT := Lib.hid (take_ok p B k zs w h hB hk1 hk)
    clear hr hs hP hg h
    go_enter Tryz.func172, Tryz.ntmps172
    go_wp2_with fail
    refine HG.out.mono ?_
    rintro e w1 ⟨rfl, rfl⟩
    go_wp2_with fail
    refine HT.out.mono ?_
    rintro e w1 ⟨⟨A', c', rfl, -⟩, hr, ht⟩
    have HR := Lib.hid hr
    have HT2 := Lib.hid ht
    clear hr ht
    go_wp2_with fail
    go_ret
    exact .inl ⟨n, _, _, HP.out, rfl, ⟨rfl, hn⟩, HR.out, But.of_turned HT2.out⟩
theorem RdIn.alloc {w : World} {p B : Nat} {zs : List Int} (h : RdIn w p B zs) (hB : B ≤ p) (o : Obj) : RdIn (w.alloc o) p B zs := h.below ((Below.refl _ _).alloc (Nat.le_refl _) o) hB
theorem RdIn.drew {w : World} {p B : Nat} {zs : List Int} (h : RdIn w p B zs) : RdIn w.drew p B zs := by
  obtain ⟨A, c, hr, hs, h1, h2⟩ := h.is
  exact ⟨A, c, hr.drew, hs.drew, h1, h2⟩
theorem But.drew {w w' : World} {p : Nat} (h : But p w w') : But p w w'.drew := ⟨h.os, h.tape, h.output, h.size, h.block⟩
theorem But.alloc {w w' : World} {p : Nat} (h : But p w w') (o : Obj) : But p w (w'.alloc o) := h.trans (.of_below ((Below.refl _ _).alloc (Nat.le_refl _) o) p)
def zeros (n : Nat) : List Value := List.replicate n (.int .u8 0)
theorem zeros32 : (#[.int .u8 0, .int .u8 0, .int .u8 0, .int .u8 0, .int .u8 0, .int .u8 0, .int .u8 0, .int .u8 0, .int .u8 0, .int .u8 0, .int .u8 0, .int .u8 0, .int .u8 0, .int .u8 0, .int .u8 0, .int .u8 0, .int .u8 0, .int .u8 0, .int .u8 0, .int .u8 0, .int .u8 0, .int .u8 0, .int .u8 0, .int .u8 0, .int .u8 0, .int .u8 0, .int .u8 0, .int .u8 0, .int .u8 0, .int .u8 0, .int .u8 0, .int .u8 0] : Array Value) = (zeros 32).toArray := rfl
set_option maxRecDepth 100000 in
set_option maxHeartbeats 800000 in
theorem key_ (p B : Nat) (zs : List Int) (w : World) (h : RdIn w p B zs) (hB : B ≤ p) :
    Calls Tryz.prog 166 #[.pointer (some ⟨p, 0, none⟩)] w (Reads w p B (pTake 32 zs) fun _ v x => v = .agg (bv x).toArray ∧ x.length = 32) := by
  have hp := h.lt
  have HR := Lib.hid h
  clear h
  by_cases hz : zs.length < 32
  · have hP : pTake 32 zs = .error 5 := if_pos hz
    have HP := Lib.hid hP
    clear hP
    go_enter Tryz.func166, Tryz.ntmps166
    go_wp2_with fail
    rw [zeros32]
    refine wp_region_any (by kernel_rfl) ?_
    try (change wpAny _ _ _ _ _ _ _ (World.drew _))
    refine wpAny_take (i := 0) (v := ?_) rfl (by kernel_rfl) (by kernel_rfl) (by kernel_rfl) (fun _ _ _ h => h) (Or.inl ⟨by rfl, ?_⟩) ?_
    rotate_left
    · intro w
      go_simp
      try with_reducible rfl
    refine wpAny_take (i := 1) (v := ?_) rfl (by kernel_rfl) (by kernel_rfl) (by kernel_rfl) (fun _ _ _ h => h) (Or.inl ⟨by rfl, ?_⟩) ?_
    rotate_left
    · intro w
      go_simp
      try with_reducible rfl
    refine wpAny_ready (rs := [2]) (by kernel_rfl) (by simp) ?_
    refine AllReady.cons rfl (fun K hK => ?_) AllReady.nil
    go_simp
    refine (take_no p B 32 zs _ ((HR.out.alloc hB _).drew) hz).mono ?_
    rintro e w1 ⟨rfl, rfl⟩
    exact ⟨rfl, .inr ⟨5, HP.out, rfl, ((But.refl p w).alloc _).drew⟩⟩
  · have hP : pTake 32 zs = .ok (zs.take 32, zs.drop 32) := if_neg hz
    have HP := Lib.hid hP
    clear hP
    go_enter Tryz.func166, Tryz.ntmps166
    go_wp2_with fail
    rw [zeros32]
    refine wp_region_any (by kernel_rfl) ?_
    try (change wpAny _ _ _ _ _ _ _ (World.drew _))
    refine wpAny_take (i := 0) (v := ?_) rfl (by kernel_rfl) (by kernel_rfl) (by kernel_rfl) (fun _ _ _ h => h) (Or.inl ⟨by rfl, ?_⟩) ?_
    rotate_left
    · intro w
      go_simp
      try with_reducible rfl
    refine wpAny_take (i := 1) (v := ?_) rfl (by kernel_rfl) (by kernel_rfl) (by kernel_rfl) (fun _ _ _ h => h) (Or.inl ⟨by rfl, ?_⟩) ?_
    rotate_left
    · intro w
      go_simp
      try with_reducible rfl
    refine wpAny_ready (rs := [2]) (by kernel_rfl) (by simp) ?_
    refine AllReady.cons rfl (fun K hK => ?_) AllReady.nil
    go_simp
    refine (take_ok p B 32 zs _ ((HR.out.alloc hB (.cells (zeros 32).toArray 78)).drew) hB (by omega) (by omega)).mono ?_
    rintro e w1 ⟨⟨A, c, rfl, hs⟩, hr, ht⟩
    simp only []
    refine hK _ _ ?_
    have hl : (zs.take 32).length = 32 := by rw [List.length_take]; omega
    have hb1 : But p w w1 := (((But.refl p w).alloc (.cells (zeros 32).toArray 78)).drew).trans (But.of_turned ht)
    have hr1 : Row w1 w.heap.size 78 (zeros 32) := ht.row ((Row.new w 78 (zeros 32)).drew) (Nat.ne_of_gt hp)
    have HT := Lib.hid ht
    clear hK K ht
    refine wpAny_ready (rs := [3]) (by kernel_rfl) (by simp) ?_
    refine AllReady.cons rfl (fun K hK => ?_) AllReady.nil
    refine step_copy_splice rfl (.tmp 3) (.tmp 5) 22 22 rfl 5 Tryz.underlying22 size_u8 (some ⟨w.heap.size, 0, none⟩) A 32 32 32 c ?_ ?_ w.heap.size 0 (zeros 32) 78 hr1.is (bv (zs.take 32)) ?_ ?_ ?_ (bv_one _) w.heap.size w1 (Below.refl _ _) (Nat.le_refl _) ?_
    · go_simp
    · go_simp
    · rw [bv_length, hl]; rfl
    · intro hpos
      obtain ⟨a, _, e, _⟩ := hs.at_ (k := 0) (by omega)
      refine ⟨rfl, a, e, fun j v hv => ?_⟩
      obtain ⟨_, e', _, hc⟩ := hs.cell j v hv
      rw [e] at e'
      cases e'
      exact hc
    · rw [bv_length, hl]; simp [zeros]
    intro w2 h2 hb2
    have hr2 : Row w2 w.heap.size 78 (bv (zs.take 32)) := ⟨by
      rw [h2.out]
      have : splice (zeros 32) 0 (bv (zs.take 32)) = bv (zs.take 32) := by
        unfold splice
        rw [bv_length, hl]
        simp [zeros]
      rw [this]⟩
    refine hK _ _ ?_
    clear hK K
    refine wpAny_done (by kernel_rfl) ?_ _
    have hrd2 : RdIn w2 p B (zs.drop 32) := by
      obtain ⟨A', c', q1, q2, q3, q4⟩ := hr.is
      exact ⟨A', c', q1.below hb2 hp, q2.below (hb2.mono (by omega)), q3, q4⟩
    have hbw2 : But p w w2 := ⟨hb2.os.trans hb1.os, hb2.tape.trans hb1.tape, hb2.output.trans hb1.output, Nat.le_trans hb1.size hb2.size, fun k hk hne => (hb2.block k hk).trans (hb1.block k hk hne)⟩
    have HR2 := Lib.hid hr2
    have HRD := Lib.hid hrd2
    have HBW := Lib.hid hbw2
    have hz : (Tryz.prog.info? 78).map (·.size) = some (bv (zs.take 32)).length := by rw [size_key, bv_length, hl]
    have HZ := Lib.hid hz
    clear hr2 hrd2 hbw2 hb2 h2 hr1 hb1 hz hs hr HT
    go_wp2_with (first
      | (with_reducible show wpList _ _ _ ({ dst := some 7, op := Op.load _ _, type := _, pos := _, after := _, guard := _ } :: _) _ _; go_must (refine wpList_load_whole rfl 78 (.tmp 2) rfl w.heap.size 78 (bv (zs.take 32)) _ Tryz.underlying78 rfl HZ.out HR2.out ?_ ?_; go_simp))
      | (with_reducible show wpList _ _ _ ({ dst := none, op := Op.store 78 _ _, type := _, pos := _, after := _, guard := _ } :: _) _ _; go_must (refine wpList_store_whole rfl 78 (.tmp 2) (.tmp 7) rfl w.heap.size (bv (zs.take 32)) (bv (zs.take 32)) HR2.out HZ.out rfl (bv_one _) ?_ ?_ ?_; go_simp; go_simp; intro w3 hr3 ht3; have HR3 := Lib.hid hr3; have HT3 := Lib.hid ht3; clear hr3 ht3)))
    refine bodyPost_ret (results_cell_row (h := rfl) _ w3 w.heap.size 78 (bv (zs.take 32)).toArray (0, 0) _ (by rfl) HR3.out.is Tryz.underlying78 rfl (by simpa using HZ.out)) rfl ?_
    have hne : p ≠ w.heap.size := Nat.ne_of_lt hp
    refine .inl ⟨zs.take 32, zs.drop 32, _, HP.out, rfl, ⟨rfl, hl⟩, ?_, ?_⟩
    · obtain ⟨A', c', q1, q2, q3, q4⟩ := HRD.out.is
      exact ⟨A', c', HT3.out.row q1 hne, q2.below (HT3.out.below (by omega)), q3, q4⟩
    · exact ⟨HT3.out.os.trans HBW.out.os, HT3.out.tape.trans HBW.out.tape, HT3.out.output.trans HBW.out.output, by rw [HT3.out.size]; exact HBW.out.size, fun k hk hne' => (HT3.out.block k (by omega)).trans (HBW.out.block k hk hne')⟩
end Go.Proofs.YtdgbodljmdcagaaGreatDoor

/-
  Of part ListB: what is needed here.
-/
namespace Go.Proofs.YtdgbodljmdcagaaGreatDoor
open Go.RowKit
set_option linter.unusedVariables false
set_option maxRecDepth 100000
theorem pMany_snoc {α : Type} (one : List Int → PR α) (n : Nat) (zs : List Int) : pMany one (n + 1) zs = match pMany one n zs with
    | .error c => .error c
    | .ok (l, r) => match one r with
      | .error c => .error c
      | .ok (x, r') => .ok (l ++ [x], r') := rfl
/-- where reading some of them fails, reading more fails so too -/
theorem pMany_fail {α : Type} (one : List Int → PR α) {k : Nat} {zs : List Int} {c : Int} (h : pMany one k zs = .error c) : ∀ n, k ≤ n → pMany one n zs = .error c := by
  intro n hn
  induction n with
  | zero =>
    obtain rfl : k = 0 := by omega
    exact h
  | succ n ih =>
    rcases Nat.lt_or_ge k (n + 1) with hk | hk
    · rw [pMany_snoc, ih (by omega)]
    · obtain rfl : k = n + 1 := by omega
      exact h
theorem pMany_len {α : Type} (one : List Int → PR α) : ∀ (k : Nat) (zs : List Int) (l : List α) (r : List Int), pMany one k zs = .ok (l, r) → l.length = k
  | 0, zs, l, r, h => by
    cases h
    rfl
  | k + 1, zs, l, r, h => by
    rw [pMany_snoc] at h
    split at h
    · cases h
    · rename_i l' r' h'
      have := pMany_len one k zs l' r' h'
      split at h
      · cases h
      · cases h
        simp [this]
theorem But.ownB {w w' : World} {p lo : Nat} {v : Value} {xs : List Int} (h : But p w w') (hp : p < lo) (ho : OwnB w lo v xs) : OwnB w' lo v xs := by
  refine ⟨ho.1, ?_⟩
  rcases ho.2 with h2 | ⟨g, cap, cur, hv, hg, hh, r⟩
  · exact .inl h2
  · exact .inr ⟨g, cap, cur, hv, hg, (h.block g (Array.getElem?_eq_some_iff.1 hh).1 (by omega)).trans hh, r⟩
theorem But.grew {w w' : World} {p lo : Nat} {v v' : Value} {xs : List Int} (hg : Grew w w' v v') (ho : OwnB w lo v xs) (hp : p < lo) (b : World) (hb : But p b w) (hlo : b.heap.size ≤ lo) : But p b w' :=
  ⟨hg.grown.os.trans hb.os, hg.grown.tape.trans hb.tape, hg.grown.output.trans hb.output, Nat.le_trans hb.size hg.size, fun k hk hne =>
    (hg.grown.block k (Nat.lt_of_lt_of_le hk hb.size) fun e => by have := (World.ownsRow.lt ho k e.symm).1; omega).trans (hb.block k hk hne)⟩
theorem RdIn.grew {w w' : World} {p B lo : Nat} {v v' : Value} {xs zs : List Int} (h : RdIn w p B zs) (hg : Grew w w' v v') (ho : OwnB w lo v xs) (hp : p < lo) (hB : B ≤ p) (hlo : lo ≤ w.heap.size) : RdIn w' p B zs := by
  obtain ⟨A, c, q1, q2, q3, q4⟩ := h.is
  have hb := hg.belowB ho hlo
  exact ⟨A, c, q1.below hb hp, q2.below (hb.mono (by omega)), q3, q4⟩
theorem run_least {P : Program} (ts : Array TypeId) (t : TypeId) (x y : Nat) (w : World) : (Builtin.min_ ts t #[.int .i64 (x : Int), .int .i64 (y : Int)]).run P w = .ok (.int .i64 ((min x y : Nat) : Int)) w := by
  rw [run_min_int2]
  congr 2
  split <;> omega
/-- the function value 'r.octet' -/
def octetFn (p : Nat) : Value := .func (.func 164) #[.pointer (some ⟨p, 0, none⟩)] #[]
/-- what list leaves -/
def ListB (w : World) (p B : Nat) (zs : List Int) (e : Ending) (w' : World) : Prop :=
  Reads w p B (pBytes zs) (fun w' v l => OwnB w' w.heap.size v l ∧ l.length ≤ 65535) e w'
set_option maxRecDepth 100000 in
set_option maxHeartbeats 1000000 in
theorem list_byte (p B : Nat) (zs : List Int) (w : World) (h : RdIn w p B zs) (hB : B ≤ p) (hz : AllBytes zs) :
    Calls Tryz.prog 173 #[.pointer (some ⟨p, 0, none⟩), octetFn p] w (ListB w p B zs) := by
  have hp := h.lt
  have HS := Lib.hid (short_ p B zs w h hB hz)
  have HZ := Lib.hid hz
  have hmin := @run_least Tryz.prog
  obtain ⟨i0, hi, hz0, hz1, hz2⟩ := info_parts info_u8
  unfold octetFn
  clear h hz
  go_enter Tryz.func173, Tryz.ntmps173
  go_wp2_with fail
  refine HS.out.mono ?_
  rintro e w1 (⟨n, r, v, hP, rfl, ⟨rfl, hn⟩, hr, hb⟩ | ⟨c, hP, rfl, hb⟩)
  · have HP := Lib.hid hP
    have HR := Lib.hid hr
    have HB := Lib.hid hb
    have hz1' := hb.size
    have hrb : AllBytes r := by
      unfold pShort at hP
      split at hP
      · cases hP; exact HZ.out.drop _
      · cases hP
    have HRB := Lib.hid hrb
    clear hP hr hb hrb HS
    by_cases h0 : n = 0
    · subst h0
      go_wp2_with fail
      go_ret
      refine .inl ⟨[], r, _, ?_, rfl, ⟨OwnB.nil _ _, by simp⟩, HR.out, HB.out⟩
      unfold pBytes pList
      rw [HP.out]
      rfl
    · have h0' : ((n : Int) == 0) = false := by simp; omega
      obtain ⟨A, c, q1, q2, q3, q4⟩ := HR.out.is
      have c0 : w1.cell? ⟨p, 0, none⟩ = some (.slice A r.length c) := q1.cell 0
      have HN0 := Lib.hid h0
      clear q1 q2 h0
      unfold maxLen at q4
      go_wp2_with (first
        | (at_make; go_must (refine wpList_make_own _ rfl (.const (.int .i64 0)) (.tmp 17) 22 rfl w.heap.size 5 i0 _ 1 Tryz.underlying22 hi hz0 hz1 .i64 .i64 _ (min n r.length) rfl ?_ rfl (by rw [hz2]; omega) (by unfold maxLen; omega) hz1' ?_; go_simp; intro w2 hown hgrow)))
      have HO2 : Hid (OwnB w2 w.heap.size (.slice (some ⟨w1.heap.size, 0, none⟩) 0 (min n r.length)) []) := Lib.hid hown
      have hb2 : Below w1.heap.size w1 w2 := (Below.refl _ _).grown hgrow (Nat.le_refl _) (fun k hk => by cases hk)
      have HR2 := Lib.hid (HR.out.below hb2 hB)
      have HB2 := Lib.hid (HB.out.trans (But.of_below hb2 p))
      clear hown hgrow hb2 c0 hi hz0 hz1 hz2
      go_loopw [6, 20] (fun v i wr => ∃ (k : Nat) (l rest : List Int), k ≤ n ∧ i = .int .i64 k ∧ pMany pOctet k r = .ok (l, rest) ∧ OwnB wr w.heap.size v l ∧ RdIn wr p B rest ∧ But p w wr) (fun v i _ => n - (intOf i).toNat)
      case atStart => exact ⟨0, [], r, Nat.zero_le _, rfl, rfl, HO2.out, HR2.out, HB2.out⟩
      case round =>
        clear HO2 HR2 HB2
        obtain ⟨k, l, rest, hk, rfl, hP2, ho, hr, hb⟩ := hrel
        have HP2 := Lib.hid hP2
        have HO := Lib.hid ho
        have HBR := Lib.hid hb
        have hlk := pMany_len _ _ _ _ _ hP2
        by_cases hlt : k < n
        · have HC := Lib.hid (octet_ p B rest wr hr hB)
          have hzs := hb.size
          clear hP2 ho hr hb
          go_wp2_with fail
          refine HC.out.mono ?_
          rintro e w3 (⟨x, rest', v, hP3, rfl, rfl, hr3, hb3⟩ | ⟨c, hP3, rfl, hb3⟩)
          · have hz3 := hb3.size
            have ho3 := hb3.ownB hp HO.out
            have HP3 := Lib.hid hP3
            have HR3 := Lib.hid hr3
            have HB3 := Lib.hid (HBR.out.trans hb3)
            clear hP3 hr3 hb3
            go_wp2_with (at_builtin; go_must (refine wpList_addLit rfl (.tmp 22) (.tmp 25) 22 rfl w.heap.size Tryz.underlying22 info_u8 _ l [x] 1 rfl ?_ ho3 ?_ (by omega) (by rw [List.length_append, List.length_singleton]; omega) ?_; go_simp; go_simp; intro v4 w4 ho4 hg4; have HO4 := Lib.hid ho4; have HR4 := Lib.hid (HR3.out.grew hg4 ho3 hp hB (by omega)); have HB4 := Lib.hid (But.grew hg4 ho3 hp w HB3.out (Nat.le_refl _)); clear ho4 hg4))
            go_roundw
            case rel =>
              refine ⟨k + 1, l ++ [x], rest', by omega, by go_num, ?_, HO4.out, HR4.out, HB4.out⟩
              rw [pMany_snoc, HP2.out]
              simp only [HP3.out]
            case measure => simp [intOf]; omega
          · refine ⟨rfl, .inr ⟨c, ?_, rfl, HBR.out.trans hb3⟩⟩
            unfold pBytes pList
            rw [HP.out]
            refine pMany_fail pOctet (k := k + 1) ?_ n (by omega)
            rw [pMany_snoc, HP2.out]
            simp only [hP3]
        · have HKK := Lib.hid (show k = n by omega)
          have HR2 := Lib.hid hr
          clear hP2 ho hr hb
          go_wp2_with fail
          go_ret
          refine .inl ⟨l, rest, _, ?_, rfl, ⟨HO.out, by have := HKK.out; omega⟩, HR2.out, HBR.out⟩
          unfold pBytes pList
          rw [HP.out, ← HKK.out]
          exact HP2.out
  · refine ⟨rfl, .inr ⟨c, ?_, rfl, hb⟩⟩
    unfold pBytes pList
    rw [hP]
end Go.Proofs.YtdgbodljmdcagaaGreatDoor

/-
  Of part ReadIn: what is needed here.
-/
namespace Go.Proofs.YtdgbodljmdcagaaGreatDoor
open Go.RowKit
set_option linter.unusedVariables false
set_option maxRecDepth 100000
section
variable {w w' : World} {p B g lo : Nat} {zs : List Int} {v : Value} {xs : List Int}
theorem RdIn.turned (h : RdIn w p B zs) (ht : Turned w w' g) (hg : g ≠ p) (hB : B ≤ g) : RdIn w' p B zs := by
  obtain ⟨A, c, q1, q2, q3, q4⟩ := h.is
  exact ⟨A, c, ht.row q1 (fun e => hg e.symm), q2.below (ht.below hB), q3, q4⟩
theorem But.turned {w0 : World} (h : But p w0 w) (ht : Turned w w' g) (hg : w0.heap.size ≤ g) : But p w0 w' :=
  ⟨ht.os.trans h.os, ht.tape.trans h.tape, ht.output.trans h.output, by rw [ht.size]; exact h.size, fun k hk hne => (ht.block k (by omega)).trans (h.block k hk hne)⟩
theorem OwnB.turned (h : OwnB w lo v xs) (ht : Turned w w' g) (hg : g < lo) : OwnB w' lo v xs := by
  refine ⟨h.1, ?_⟩
  rcases h.2 with h2 | ⟨k, cap, cur, hv, hk, hh, r⟩
  · exact .inl h2
  · exact .inr ⟨k, cap, cur, hv, hk, (ht.block k (by omega)).trans hh, r⟩
theorem OwnB.lt (h : OwnB w lo v xs) : ∀ k, v.ownBlock = some k → lo ≤ k ∧ k < w.heap.size := World.ownsRow.lt h
theorem OwnB.more {lo' : Nat} (h : OwnB w lo v xs) (hl : lo' ≤ lo) : OwnB w lo' v xs := by
  refine ⟨h.1, ?_⟩
  rcases h.2 with h2 | ⟨k, cap, cur, hv, hk, hh, r⟩
  · exact .inl h2
  · exact .inr ⟨k, cap, cur, hv, by omega, hh, r⟩
/-- what is owned within [lo, hi) stays while these blocks do -/
theorem OwnB.stay {hi : Nat} (h : OwnB w lo v xs) (hh : ∀ k, v.ownBlock = some k → k < hi) (hk : ∀ k, lo ≤ k → k < hi → w'.heap[k]? = w.heap[k]?) : OwnB w' lo v xs := by
  refine ⟨h.1, ?_⟩
  rcases h.2 with h2 | ⟨k, cap, cur, hv, hk', hh', r⟩
  · exact .inl h2
  · exact .inr ⟨k, cap, cur, hv, hk', (hk k hk' (hh k (by rw [hv]; rfl))).trans hh', r⟩
theorem OwnB.one (h : OwnB w lo v xs) : v.oneCell' = true := by
  obtain ⟨A, c, rfl⟩ := h.form
  rfl
end
/-- a list of bytes of the call's own, in the blocks from lo to hi -/
structure OwnR (w : World) (lo hi : Nat) (v : Value) (l : List Int) : Prop where
  own : OwnB w lo v l
  lt : ∀ k, v.ownBlock = some k → k < hi
  len : l.length ≤ 65535
theorem OwnR.stay {w w' : World} {lo hi : Nat} {v : Value} {l : List Int} (h : OwnR w lo hi v l) (hk : ∀ k, lo ≤ k → k < hi → w'.heap[k]? = w.heap[k]?) : OwnR w' lo hi v l := ⟨h.own.stay h.lt hk, h.lt, h.len⟩
/-- an instruction's cells, its lists in the blocks from lo to hi -/
def InV (w : World) (lo hi : Nat) (cs : List Value) (x : LIn) : Prop := ∃ va vd mid, cs = inCells x.p va vd ∧ lo ≤ mid ∧ mid ≤ hi ∧ OwnR w lo mid va x.acc ∧ OwnR w mid hi vd x.dat
/-- a lookup's -/
def LookV (w : World) (lo hi : Nat) (cs : List Value) (x : LLook) : Prop := ∃ va vd mid, cs = bv x.tab ++ [va, vd] ∧ x.tab.length = 32 ∧ lo ≤ mid ∧ mid ≤ hi ∧ OwnR w lo mid va x.wr ∧ OwnR w mid hi vd x.rd
/-- a key's -/
def KeyV (w : World) (lo hi : Nat) (cs : List Value) (x : List Int) : Prop := cs = bv x ∧ x.length = 32
set_option maxRecDepth 100000 in
set_option maxHeartbeats 1000000 in
theorem instr_ (p B : Nat) (zs : List Int) (w : World) (h : RdIn w p B zs) (hB : B ≤ p) (hz : AllBytes zs) :
    Calls Tryz.prog 168 #[.pointer (some ⟨p, 0, none⟩)] w (Reads w p B (pIn zs) fun w' v x => ∃ cs : List Value, v = .agg cs.toArray ∧ InV w' w.heap.size w'.heap.size cs x) := by
  have hp := h.lt
  have HC := Lib.hid (octet_ p B zs _ (h.alloc hB (.cells (inCells 0 (.slice none 0 0) (.slice none 0 0)).toArray 131)) hB)
  have HR0 := Lib.hid ((Row.new w 131 (inCells 0 (.slice none 0 0) (.slice none 0 0))))
  have HB0 := Lib.hid ((But.refl p w).alloc (.cells (inCells 0 (.slice none 0 0) (.slice none 0 0)).toArray 131))
  have hmf : ∀ (fn : Fn) (first cap : Array Value) (w : World), (Instr.makeFunc fn first cap).run Tryz.prog w = .ok (.func fn first cap) w := fun _ _ _ _ => rfl
  obtain ⟨P, hP⟩ : ∃ P, P = pIn zs := ⟨_, rfl⟩
  rw [← hP]
  have HP := Lib.hid hP
  have HZ := Lib.hid hz
  clear hP h hz
  go_enter Tryz.func168, Tryz.ntmps168
  go_wp2_with fail
  refine HC.out.mono ?_
  rintro e w1 (⟨x, r, v, hP1, rfl, rfl, hr1, hb1⟩ | ⟨c, hP1, rfl, hb1⟩)
  · have hrow := hb1.row HR0.out (Nat.ne_of_gt hp)
    have c0 := (in_cells hrow).1
    have f0 := hrow.frozen 0
    have hrb : AllBytes r := (front_octet _ _ _ hP1).bytes HZ.out
    have hB1 := HB0.out.trans hb1
    have hlt1 := hrow.lt
    have ht2 := turned_setCell w1 ⟨w.heap.size, 0, none⟩ (.int .u8 x)
    have hR2 : Row (w1.setCell ⟨w.heap.size, 0, none⟩ (.int .u8 x)) w.heap.size 131 (inCells x (.slice none 0 0) (.slice none 0 0)) := hrow.set_ 0 _
    have hrd2 : RdIn _ p B r := hr1.turned ht2 (Nat.ne_of_gt hp) (by show B ≤ w.heap.size; omega)
    have hB2 : But p w _ := hB1.turned ht2 (Nat.le_refl _)
    have hL2 := list_byte p B r _ hrd2 hB hrb
    have hz2 : (w1.setCell ⟨w.heap.size, 0, none⟩ (.int .u8 x)).heap.size = w1.heap.size := ht2.size
    have HRB := Lib.hid hrb
    have HP1 := Lib.hid hP1
    have HB2 := Lib.hid hB2
    have HR2 := Lib.hid hR2
    have HL2 := Lib.hid hL2
    have HZ2 := Lib.hid hz2
    clear hP1 hr1 hb1 hrow hrb hB1 ht2 hR2 hrd2 hB2 hL2 hz2
    go_wp2_with fail
    generalize (w1.setCell ⟨w.heap.size, 0, none⟩ (.int .u8 x)) = w2 at *
    refine HL2.out.mono ?_
    rintro e w3 (⟨la, r2, va, hP2, rfl, ⟨hva, hla⟩, hr3, hb3⟩ | ⟨c, hP2, rfl, hb3⟩)
    · obtain ⟨A1, c1, rfl⟩ := hva.form
      have hrow := hb3.row HR2.out (Nat.ne_of_gt hp)
      have c0 := (in_cells hrow).2.1
      have f0 := hrow.frozen 1
      have hrb : AllBytes r2 := (front_bytes _ _ _ hP2).bytes HRB.out
      have hB1 := HB2.out.trans hb3
      have hlt3 := hrow.lt
      have ht4 := turned_setCell w3 ⟨w.heap.size, 1, none⟩ (.slice A1 la.length c1)
      have hR4 : Row (w3.setCell ⟨w.heap.size, 1, none⟩ (.slice A1 la.length c1)) w.heap.size 131 (inCells x (.slice A1 la.length c1) (.slice none 0 0)) := hrow.set_ 1 _
      have hrd4 : RdIn _ p B r2 := hr3.turned ht4 (Nat.ne_of_gt hp) (by show B ≤ w.heap.size; omega)
      have hB4 : But p w _ := hB1.turned ht4 (Nat.le_refl _)
      have hL4 := list_byte p B r2 _ hrd4 hB hrb
      have hva4 : OwnB _ w2.heap.size (.slice A1 la.length c1) la := hva.turned ht4 (by show w.heap.size < w2.heap.size; rw [HZ2.out]; exact hlt1)
      have HVA := Lib.hid hva4
      have HVL : Hid (∀ k, (Value.slice A1 la.length c1).ownBlock = some k → k < w3.heap.size) := Lib.hid fun k hk => (hva.lt k hk).2
      have hz4 : (w3.setCell ⟨w.heap.size, 1, none⟩ (.slice A1 la.length c1)).heap.size = w3.heap.size := ht4.size
      have hz23 : w2.heap.size ≤ w3.heap.size := hb3.size
      have HRB2 := Lib.hid hrb
      have HP2 := Lib.hid hP2
      have HB4 := Lib.hid hB4
      have HR4 := Lib.hid hR4
      have HL4 := Lib.hid hL4
      have HZ4 := Lib.hid hz4
      have HLA := Lib.hid hla
      clear hP2 hr3 hb3 hrow hrb hB1 ht4 hR4 hrd4 hB4 hL4 hz4 hva hva4 hla HL2
      go_wp2_with fail
      generalize (w3.setCell ⟨w.heap.size, 1, none⟩ (.slice A1 la.length c1)) = w4 at *
      clear c0 f0
      refine HL4.out.mono ?_
      rintro e w5 (⟨ld, r3, vd, hP3, rfl, ⟨hvd, hld⟩, hr5, hb5⟩ | ⟨c, hP3, rfl, hb5⟩)
      · obtain ⟨A2, c2, rfl⟩ := hvd.form
        have hrow := hb5.row HR4.out (Nat.ne_of_gt hp)
        have c0 := (in_cells hrow).2.2
        have f0 := hrow.frozen 2
        have hB1 := HB4.out.trans hb5
        have hlt5 := hrow.lt
        have ht6 := turned_setCell w5 ⟨w.heap.size, 2, none⟩ (.slice A2 ld.length c2)
        have hR6 : Row (w5.setCell ⟨w.heap.size, 2, none⟩ (.slice A2 ld.length c2)) w.heap.size 131 (inCells x (.slice A1 la.length c1) (.slice A2 ld.length c2)) := hrow.set_ 2 _
        have hrd6 : RdIn _ p B r3 := hr5.turned ht6 (Nat.ne_of_gt hp) (by show B ≤ w.heap.size; omega)
        have hB6 : But p w _ := hB1.turned ht6 (Nat.le_refl _)
        have hvd6 : OwnB _ w4.heap.size (.slice A2 ld.length c2) ld := hvd.turned ht6 (by show w.heap.size < w4.heap.size; rw [HZ4.out]; exact hlt3)
        have hva6 : OwnB _ w2.heap.size (.slice A1 la.length c1) la := (hb5.ownB (by rw [HZ2.out]; omega) HVA.out).turned ht6 (by show w.heap.size < w2.heap.size; rw [HZ2.out]; exact hlt1)
        have hz6 : (w5.setCell ⟨w.heap.size, 2, none⟩ (.slice A2 ld.length c2)).heap.size = w5.heap.size := ht6.size
        have HVL2 : Hid (∀ k, (Value.slice A2 ld.length c2).ownBlock = some k → k < w5.heap.size) := Lib.hid fun k hk => (hvd.lt k hk).2
        have hz45 : w4.heap.size ≤ w5.heap.size := hb5.size
        have hone : ∀ u ∈ inCells x (.slice A1 la.length c1) (.slice A2 ld.length c2), u.oneCell' = true := by
          intro u hu
          simp only [inCells, List.mem_cons, List.not_mem_nil, or_false] at hu
          rcases hu with rfl | rfl | rfl <;> rfl
        have HON := Lib.hid hone
        have HP3 := Lib.hid hP3
        have HB6 := Lib.hid hB6
        have HR6 := Lib.hid hR6
        have HRD6 := Lib.hid hrd6
        have HVA6 := Lib.hid hva6
        have HVD6 := Lib.hid hvd6
        have HZ6 := Lib.hid hz6
        have HLD := Lib.hid hld
        clear hP3 hr5 hb5 hrow hB1 ht6 hR6 hrd6 hB6 hvd6 hva6 hz6 hvd hld HL4 hone
        go_wp2_with (first
          | (with_reducible show wpList _ _ _ ({ dst := some 16, op := Op.load _ _, type := _, pos := _, after := _, guard := _ } :: _) _ _; go_must (refine wpList_load_whole rfl 131 (.tmp 2) rfl w.heap.size 131 _ _ Tryz.underlying131 rfl (size_in _ _ _) HR6.out ?_ ?_; go_simp))
          | (with_reducible show wpList _ _ _ ({ dst := none, op := Op.store 131 _ _, type := _, pos := _, after := _, guard := _ } :: _) _ _; go_must (refine wpList_store_whole rfl 131 (.tmp 2) (.tmp 16) rfl w.heap.size _ _ HR6.out (size_in _ _ _) rfl HON.out ?_ ?_ ?_; go_simp; go_simp; intro w7 hr7 ht7; have HR7 := Lib.hid hr7; have HT7 := Lib.hid ht7; clear hr7 ht7)))
        generalize (w5.setCell ⟨w.heap.size, 2, none⟩ (.slice A2 ld.length c2)) = w6 at *
        refine bodyPost_ret (results_cell_row (h := rfl) _ w7 w.heap.size 131 _ (0, 0) _ (by rfl) HR7.out.is Tryz.underlying131 rfl (by simpa using size_in _ _ _)) rfl ?_
        have e7 := HT7.out.size
        have e6 := HZ6.out
        have e4 := HZ4.out
        have e2 := HZ2.out
        refine .inl ⟨⟨x, la, ld⟩, r3, _, ?_, rfl, ⟨_, rfl, _, _, w4.heap.size, rfl, by omega, by omega, ⟨?_, fun k hk => by have := HVL.out k hk; omega, HLA.out⟩, ⟨?_, fun k hk => by have := HVL2.out k hk; omega, HLD.out⟩⟩, ?_, ?_⟩
        · rw [HP.out]
          unfold pIn
          simp only [HP1.out, HP2.out, HP3.out]
        · exact (HVA6.out.turned HT7.out (by omega)).more (by omega)
        · exact HVD6.out.turned HT7.out (by omega)
        · exact HRD6.out.turned HT7.out (Nat.ne_of_gt hp) (by omega)
        · exact HB6.out.turned HT7.out (Nat.le_refl _)
      · refine ⟨rfl, .inr ⟨c, ?_, rfl, HB4.out.trans hb5⟩⟩
        rw [HP.out]
        unfold pIn
        simp only [HP1.out, HP2.out, hP3]
    · refine ⟨rfl, .inr ⟨c, ?_, rfl, HB2.out.trans hb3⟩⟩
      rw [HP.out]
      unfold pIn
      simp only [HP1.out, hP2]
  · refine ⟨rfl, .inr ⟨c, ?_, rfl, HB0.out.trans hb1⟩⟩
    rw [HP.out]
    unfold pIn
    rw [hP1]
def lookZ : List Value := bv (List.replicate 32 0) ++ [.slice none 0 0, .slice none 0 0]
theorem look_set1 {w : World} {g t : Nat} {tab : List Int} {va vd : Value} (hr : Row w g t (bv tab ++ [va, vd])) (ht : tab.length = 32) (u : Value) : Row (w.setCell ⟨g, 32, none⟩ u) g t (bv tab ++ [u, vd]) := by
  have h := hr.set_ 32 u
  rw [List.set_append_right _ _ (by rw [bv_length, ht]; exact Nat.le_refl _), bv_length, ht] at h
  exact h
theorem look_set2 {w : World} {g t : Nat} {tab : List Int} {va vd : Value} (hr : Row w g t (bv tab ++ [va, vd])) (ht : tab.length = 32) (u : Value) : Row (w.setCell ⟨g, 33, none⟩ u) g t (bv tab ++ [va, u]) := by
  have h := hr.set_ 33 u
  rw [List.set_append_right _ _ (by rw [bv_length, ht]; omega), bv_length, ht] at h
  exact h
set_option maxRecDepth 100000 in
set_option maxHeartbeats 1000000 in
theorem look_ (p B : Nat) (zs : List Int) (w : World) (h : RdIn w p B zs) (hB : B ≤ p) (hz : AllBytes zs) :
    Calls Tryz.prog 170 #[.pointer (some ⟨p, 0, none⟩)] w (Reads w p B (pLook zs) fun w' v x => ∃ cs : List Value, v = .agg cs.toArray ∧ LookV w' w.heap.size w'.heap.size cs x) := by
  have hp := h.lt
  have HC := Lib.hid (key_ p B zs _ (h.alloc hB (.cells lookZ.toArray 124)) hB)
  have HR0 := Lib.hid ((Row.new w 124 lookZ))
  have HB0 := Lib.hid ((But.refl p w).alloc (.cells lookZ.toArray 124))
  have hmf : ∀ (fn : Fn) (first cap : Array Value) (w : World), (Instr.makeFunc fn first cap).run Tryz.prog w = .ok (.func fn first cap) w := fun _ _ _ _ => rfl
  obtain ⟨P, hP⟩ : ∃ P, P = pLook zs := ⟨_, rfl⟩
  rw [← hP]
  have HP := Lib.hid hP
  have HZ := Lib.hid hz
  clear hP h hz
  go_enter Tryz.func170, Tryz.ntmps170
  go_wp2_with fail
  refine HC.out.mono ?_
  rintro e w1 (⟨x, r, v, hP1, rfl, ⟨rfl, hx32⟩, hr1, hb1⟩ | ⟨c, hP1, rfl, hb1⟩)
  · have hrow := hb1.row HR0.out (Nat.ne_of_gt hp)
    have hrb : AllBytes r := (front_take 32 _ _ _ hP1).bytes HZ.out
    have hB1 := HB0.out.trans hb1
    have hlt1 := hrow.lt
    have hzk : (Tryz.prog.info? 78).map (·.size) = some (bv x).length := by rw [size_key, bv_length, hx32]
    have HZK := Lib.hid hzk
    have HRB := Lib.hid hrb
    have HP1 := Lib.hid hP1
    have HB1 := Lib.hid hB1
    have HROW := Lib.hid hrow
    have HR1 := Lib.hid hr1
    have HX := Lib.hid hx32
    clear hP1 hr1 hb1 hrow hrb hB1 hzk hx32
    go_wp2_with (with_reducible show wpList _ _ _ ({ dst := none, op := Op.store 78 _ _, type := _, pos := _, after := _, guard := _ } :: _) _ _; go_must (refine wpList_store_part rfl 78 (.tmp 5) (.tmp 4) rfl w.heap.size 124 0 lookZ (bv x) HROW.out HZK.out (by rw [bv_length, HX.out]; decide) (bv_one x) ?_ ?_ ?_; go_simp; go_simp; intro w2 hr2 ht2; have HR2' := Lib.hid hr2; have HT2 := Lib.hid ht2; clear hr2 ht2))
    have hR2 : Row w2 w.heap.size 124 (bv x ++ [.slice none 0 0, .slice none 0 0]) := by
      have h := HR2'.out
      rw [bv_length, HX.out] at h
      exact h
    have hrd2 : RdIn _ p B r := HR1.out.turned HT2.out (Nat.ne_of_gt hp) (by omega)
    have hB2 : But p w _ := HB1.out.turned HT2.out (Nat.le_refl _)
    have HL2 := Lib.hid (list_byte p B r _ hrd2 hB HRB.out)
    have HZ2 := Lib.hid HT2.out.size
    have HB2 := Lib.hid hB2
    have HR2 := Lib.hid hR2
    clear hR2 hrd2 hB2
    refine HL2.out.mono ?_
    rintro e w3 (⟨la, r2, va, hP2, rfl, ⟨hva, hla⟩, hr3, hb3⟩ | ⟨c, hP2, rfl, hb3⟩)
    · obtain ⟨A1, c1, rfl⟩ := hva.form
      have hrow := hb3.row HR2.out (Nat.ne_of_gt hp)
      have c0 := (look_cells hrow HX.out).1
      have f0 := hrow.frozen 32
      have hrb : AllBytes r2 := (front_bytes _ _ _ hP2).bytes HRB.out
      have hB1 := HB2.out.trans hb3
      have hlt3 := hrow.lt
      have ht4 := turned_setCell w3 ⟨w.heap.size, 32, none⟩ (.slice A1 la.length c1)
      have hR4 : Row (w3.setCell ⟨w.heap.size, 32, none⟩ (.slice A1 la.length c1)) w.heap.size 124 (bv x ++ [.slice A1 la.length c1, .slice none 0 0]) := look_set1 hrow HX.out _
      have hrd4 : RdIn _ p B r2 := hr3.turned ht4 (Nat.ne_of_gt hp) (by show B ≤ w.heap.size; omega)
      have hB4 : But p w _ := hB1.turned ht4 (Nat.le_refl _)
      have hL4 := list_byte p B r2 _ hrd4 hB hrb
      have hva4 : OwnB _ w2.heap.size (.slice A1 la.length c1) la := hva.turned ht4 (by show w.heap.size < w2.heap.size; rw [HZ2.out]; exact hlt1)
      have HVA := Lib.hid hva4
      have HVL : Hid (∀ k, (Value.slice A1 la.length c1).ownBlock = some k → k < w3.heap.size) := Lib.hid fun k hk => (hva.lt k hk).2
      have hz4 : (w3.setCell ⟨w.heap.size, 32, none⟩ (.slice A1 la.length c1)).heap.size = w3.heap.size := ht4.size
      have hz23 : w2.heap.size ≤ w3.heap.size := hb3.size
      have HRB2 := Lib.hid hrb
      have HP2 := Lib.hid hP2
      have HB4 := Lib.hid hB4
      have HR4 := Lib.hid hR4
      have HL4 := Lib.hid hL4
      have HZ4 := Lib.hid hz4
      have HLA := Lib.hid hla
      clear hP2 hr3 hb3 hrow hrb hB1 ht4 hR4 hrd4 hB4 hL4 hz4 hva hva4 hla HL2
      go_wp2_with fail
      generalize (w3.setCell ⟨w.heap.size, 32, none⟩ (.slice A1 la.length c1)) = w4 at *
      clear c0 f0
      refine HL4.out.mono ?_
      rintro e w5 (⟨ld, r3, vd, hP3, rfl, ⟨hvd, hld⟩, hr5, hb5⟩ | ⟨c, hP3, rfl, hb5⟩)
      · obtain ⟨A2, c2, rfl⟩ := hvd.form
        have hrow := hb5.row HR4.out (Nat.ne_of_gt hp)
        have c0 := (look_cells hrow HX.out).2
        have f0 := hrow.frozen 33
        have hB1 := HB4.out.trans hb5
        have hlt5 := hrow.lt
        have ht6 := turned_setCell w5 ⟨w.heap.size, 33, none⟩ (.slice A2 ld.length c2)
        have hR6 : Row (w5.setCell ⟨w.heap.size, 33, none⟩ (.slice A2 ld.length c2)) w.heap.size 124 (bv x ++ [.slice A1 la.length c1, .slice A2 ld.length c2]) := look_set2 hrow HX.out _
        have hrd6 : RdIn _ p B r3 := hr5.turned ht6 (Nat.ne_of_gt hp) (by show B ≤ w.heap.size; omega)
        have hB6 : But p w _ := hB1.turned ht6 (Nat.le_refl _)
        have hvd6 : OwnB _ w4.heap.size (.slice A2 ld.length c2) ld := hvd.turned ht6 (by show w.heap.size < w4.heap.size; rw [HZ4.out]; exact hlt3)
        have hva6 : OwnB _ w2.heap.size (.slice A1 la.length c1) la := (hb5.ownB (by rw [HZ2.out]; omega) HVA.out).turned ht6 (by show w.heap.size < w2.heap.size; rw [HZ2.out]; exact hlt1)
        have hz6 : (w5.setCell ⟨w.heap.size, 33, none⟩ (.slice A2 ld.length c2)).heap.size = w5.heap.size := ht6.size
        have HVL2 : Hid (∀ k, (Value.slice A2 ld.length c2).ownBlock = some k → k < w5.heap.size) := Lib.hid fun k hk => (hvd.lt k hk).2
        have hz45 : w4.heap.size ≤ w5.heap.size := hb5.size
        have hone : ∀ u ∈ bv x ++ [.slice A1 la.length c1, .slice A2 ld.length c2], u.oneCell' = true := by
          intro u hu
          simp only [List.mem_append, List.mem_cons, List.not_mem_nil, or_false] at hu
          rcases hu with hu | rfl | rfl
          · exact bv_one _ _ hu
          · rfl
          · rfl
        have HON := Lib.hid hone
        have HP3 := Lib.hid hP3
        have HB6 := Lib.hid hB6
        have HR6 := Lib.hid hR6
        have HRD6 := Lib.hid hrd6
        have HVA6 := Lib.hid hva6
        have HVD6 := Lib.hid hvd6
        have HZ6 := Lib.hid hz6
        have HLD := Lib.hid hld
        clear hP3 hr5 hb5 hrow hB1 ht6 hR6 hrd6 hB6 hvd6 hva6 hz6 hvd hld HL4 hone
        go_wp2_with (first
          | (with_reducible show wpList _ _ _ ({ dst := some 16, op := Op.load _ _, type := _, pos := _, after := _, guard := _ } :: _) _ _; go_must (refine wpList_load_whole rfl 124 (.tmp 2) rfl w.heap.size 124 _ _ Tryz.underlying124 rfl (size_lk HX.out _ _) HR6.out ?_ ?_; go_simp))
          | (with_reducible show wpList _ _ _ ({ dst := none, op := Op.store 124 _ _, type := _, pos := _, after := _, guard := _ } :: _) _ _; go_must (refine wpList_store_whole rfl 124 (.tmp 2) (.tmp 16) rfl w.heap.size _ _ HR6.out (size_lk HX.out _ _) rfl HON.out ?_ ?_ ?_; go_simp; go_simp; intro w7 hr7 ht7; have HR7 := Lib.hid hr7; have HT7 := Lib.hid ht7; clear hr7 ht7)))
        generalize (w5.setCell ⟨w.heap.size, 33, none⟩ (.slice A2 ld.length c2)) = w6 at *
        refine bodyPost_ret (results_cell_row (h := rfl) _ w7 w.heap.size 124 _ (0, 0) _ (by rfl) HR7.out.is Tryz.underlying124 rfl (by rw [List.size_toArray]; exact size_lk HX.out _ _)) rfl ?_
        have e7 := HT7.out.size
        have e6 := HZ6.out
        have e4 := HZ4.out
        have e2 := HZ2.out
        refine .inl ⟨⟨x, la, ld⟩, r3, _, ?_, rfl, ⟨_, rfl, _, _, w4.heap.size, rfl, HX.out, by omega, by omega, ⟨?_, fun k hk => by have := HVL.out k hk; omega, HLA.out⟩, ⟨?_, fun k hk => by have := HVL2.out k hk; omega, HLD.out⟩⟩, ?_, ?_⟩
        · rw [HP.out]
          unfold pLook
          simp only [HP1.out, HP2.out, HP3.out]
        · exact (HVA6.out.turned HT7.out (by omega)).more (by omega)
        · exact HVD6.out.turned HT7.out (by omega)
        · exact HRD6.out.turned HT7.out (Nat.ne_of_gt hp) (by omega)
        · exact HB6.out.turned HT7.out (Nat.le_refl _)
      · refine ⟨rfl, .inr ⟨c, ?_, rfl, HB4.out.trans hb5⟩⟩
        rw [HP.out]
        unfold pLook
        simp only [HP1.out, HP2.out, hP3]
    · refine ⟨rfl, .inr ⟨c, ?_, rfl, HB2.out.trans hb3⟩⟩
      rw [HP.out]
      unfold pLook
      simp only [HP1.out, hP2]
  · refine ⟨rfl, .inr ⟨c, ?_, rfl, HB0.out.trans hb1⟩⟩
    rw [HP.out]
    unfold pLook
    rw [hP1]
end Go.Proofs.YtdgbodljmdcagaaGreatDoor

/-
  Of part ListV: what is needed here.
-/
namespace Go.Proofs.YtdgbodljmdcagaaGreatDoor
open Go.RowKit
set_option linter.unusedVariables false
set_option maxRecDepth 100000
section
variable {P : Program}
/-- a slice literal of one element of many cells -/
theorem wpList_buildOne {ops : Array Oper} {rest : List Oper} {o : Oper} {a : Act} {w : World} {Q : Exit → Act → World → Prop} (hg : o.guard = none) (t e : TypeId) (y : Operand) (ho : o.op = .buildSlice t 1 #[(0, y)])
    (cs : List Value) (z : Value) (size bytes : Nat) (hu : P.underlying t = some (.slice e)) (hi : (P.info? e).map (fun i => (i.zero, i.size, i.bytes)) = some (some z, size, bytes)) (hzs : z.cells.size = size) (hs0 : 0 < size) (hs1 : size ≤ 1000)
    (hcs : cs.length = size) (hy : a.eval y = .agg cs.toArray)
    (h : wpList P ops Q rest (a.put o.dst (.slice (some ⟨w.heap.size, 0, none⟩) 1 1)) (w.alloc (.cells cs.toArray e))) : wpList P ops Q (o :: rest) a w := by
  obtain ⟨ie, hie, h1, h2, _⟩ := info_parts hi
  subst h2
  refine wpList_buildSlice hg t e 1 _ ho cs.toArray ie z hu hie h1 (by omega) (by omega) ?_ h
  have := Go.Great.fill_whole (s := ie.size) hs0 [Value.agg cs.toArray] ((Array.range (1 * ie.size)).map (z.cells[· % z.cells.size]!)) (by simp [Value.cells, hcs]) (by simp)
  simpa [hy, Value.cells] using this
/-- append of an element that has just been laid, onto a row of one's own -/
theorem wpList_addRow {w0 : World} {c : Array Value} {ops : Array Oper} {rest : List Oper} {o : Oper} {a : Act} {Q : Exit → Act → World → Prop} (hgd : o.guard = none) (s x : Operand) (t : TypeId)
    (ho : o.op = .call { callee := .builtin .append, args := #[s, x], argTypes := #[t, t] })
    (base : Nat) (e : TypeId) (z : Value) (size bytes : Nat) (ht : P.underlying t = some (.slice e)) (hi : (P.info? e).map (fun i => (i.zero, i.size, i.bytes)) = some (some z, size, bytes)) (hzs : z.cells.size = size) (hs0 : 0 < size)
    (v : Value) (n : Nat) (xs cs : List Value) (cc : Nat) (hcs : cs.length = size) (h1 : ∀ u ∈ cs, u.oneCell' = true) (hc : c = cs.toArray) (hs : a.eval s = v) (hown : w0.ownsRow base e size v n xs)
    (hx : a.eval x = .slice (some ⟨w0.heap.size, 0, none⟩) 1 cc) (hbase : base ≤ w0.heap.size) (hnm : n + 1 ≤ maxLen) (hbytes : (n + 1) * bytes ≤ 140737488355328)
    (h : ∀ v' w', w'.ownsRow base e size v' (n + 1) (xs ++ cs) → Grew w0 w' v v' → wpList P ops Q rest (a.put o.dst v') w') : wpList P ops Q (o :: rest) a (w0.alloc (.cells c e)) := by
  subst hc
  obtain ⟨i0, hi, hz0, hz1, hz2⟩ := info_parts hi
  have hr := Row.new w0 e cs
  refine wpList_plain hgd fun K hK => ?_
  obtain ⟨v', w', hrun, h2, h3, _, h5⟩ := run_append_own_at (P := P) (w0.alloc (.cells cs.toArray e)) base t o.type e i0 z size bytes ht hi hz0 hz1 hz2 hzs hs0 v n xs (hown.alloc _) ⟨w0.heap.size, 0, none⟩ 1 cc cs (by omega)
    (fun j u hu => by rw [addr_row, hr.cell]; simpa using hu) h1 hnm hbytes (by simp; omega)
  unfold Oper.wp execOp
  simp only [ho, resolve, invoke, builtin, Sem.run_bind, Sem.run_pure, Result.andThen_ok, List.map_toArray, List.map_cons, List.map_nil, hs, hx, hrun]
  refine hK _ _ (h v' w' h2 ((Grew.of_below ((Below.refl _ w0).alloc (Nat.le_refl _) _) v).trans ⟨h3, fun k hk => ?_⟩))
  rcases h5 with h5 | h5
  · exact .inl (h5 ▸ hk)
  · rw [h5] at hk
    cases hk
    exact .inr (Nat.le_refl _)
end
/-- what is told of an element by its own blocks alone -/
def Stays {α : Type} (EV : World → Nat → Nat → List Value → α → Prop) : Prop :=
  ∀ w w' lo hi cs x, (∀ k, lo ≤ k → k < hi → w'.heap[k]? = w.heap[k]?) → EV w lo hi cs x → EV w' lo hi cs x
theorem stays_in : Stays InV := by
  rintro w w' lo hi cs x hk ⟨va, vd, mid, h1, h2, h3, h4, h5⟩
  exact ⟨va, vd, mid, h1, h2, h3, h4.stay fun k a b => hk k a (by omega), h5.stay fun k a b => hk k (by omega) b⟩
theorem stays_look : Stays LookV := by
  rintro w w' lo hi cs x hk ⟨va, vd, mid, h1, h0, h2, h3, h4, h5⟩
  exact ⟨va, vd, mid, h1, h0, h2, h3, h4.stay fun k a b => hk k a (by omega), h5.stay fun k a b => hk k (by omega) b⟩
theorem stays_key : Stays KeyV := fun w w' lo hi cs x hk h => h
/-- a list of the call's own: its row, from block lo on; its elements' own blocks, rising -/
structure LV {α : Type} (EV : World → Nat → Nat → List Value → α → Prop) (e size : Nat) (w : World) (lo : Nat) (v : Value) (l : List α) (css : List (List Value)) (L R : Nat → Nat) : Prop where
  own : w.ownsRow lo e size v l.length css.flatten
  len : css.length = l.length
  rise : ∀ i, i + 1 < l.length → R i ≤ L (i + 1)
  each : ∀ i cs x, css[i]? = some cs → l[i]? = some x → lo ≤ L i ∧ L i ≤ R i ∧ R i ≤ w.heap.size ∧ EV w (L i) (R i) cs x ∧ ∀ g, v.ownBlock = some g → g < L i ∨ R i ≤ g
section
variable {α : Type} {EV : World → Nat → Nat → List Value → α → Prop} {e size : Nat} {w w' : World} {lo : Nat} {v : Value} {l : List α} {css : List (List Value)} {L R : Nat → Nat}
theorem LV.none (h : w.ownsRow lo e size v 0 []) : LV EV e size w lo v [] [] L R := ⟨h, rfl, fun i hi => by simp at hi, fun i cs x hi => by simp at hi⟩
theorem LV.lt (h : LV EV e size w lo v l css L R) : ∀ k, v.ownBlock = some k → lo ≤ k ∧ k < w.heap.size := h.own.lt
theorem LV.form (h : LV EV e size w lo v l css L R) : ∃ A c, v = .slice A l.length c := by
  rcases h.own.2 with ⟨rfl, h2⟩ | ⟨g, cap, cur, rfl, _⟩
  · exact ⟨_, _, by rw [h2]⟩
  · exact ⟨_, _, rfl⟩
/-- all its blocks as they were -/
theorem LV.stay (hS : Stays EV) (h : LV EV e size w lo v l css L R) (hz : w.heap.size ≤ w'.heap.size) (hk : ∀ k, lo ≤ k → k < w.heap.size → w'.heap[k]? = w.heap[k]?) : LV EV e size w' lo v l css L R := by
  refine ⟨⟨h.own.1, ?_⟩, h.len, h.rise, fun i cs x hi hx => ?_⟩
  · rcases h.own.2 with h2 | ⟨g, cap, cur, hv, hg, hh, r⟩
    · exact .inl h2
    · exact .inr ⟨g, cap, cur, hv, hg, (hk g hg (Array.getElem?_eq_some_iff.1 hh).1).trans hh, r⟩
  · obtain ⟨h1, h2, h3, h4, h5⟩ := h.each i cs x hi hx
    exact ⟨h1, h2, by omega, hS _ _ _ _ _ _ (fun k a b => hk k (by omega) (by omega)) h4, h5⟩
theorem LV.but {p : Nat} (hS : Stays EV) (h : LV EV e size w lo v l css L R) (hb : But p w w') (hp : p < lo) : LV EV e size w' lo v l css L R :=
  h.stay hS hb.size fun k h1 h2 => hb.block k h2 (by omega)
/-- one more: read in w1, appended in w3 -/
theorem LV.snoc {p : Nat} {w1 w3 : World} {v3 : Value} {x : α} {cs : List Value} (hS : Stays EV) (h : LV EV e size w lo v l css L R) (hb : But p w w1) (hp : p < lo) (hlo : lo ≤ w.heap.size)
    (he : EV w1 w.heap.size w1.heap.size cs x) (hg : Grew w1 w3 v v3) (h3 : w3.ownsRow lo e size v3 (l.length + 1) (css.flatten ++ cs)) :
    LV EV e size w3 lo v3 (l ++ [x]) (css ++ [cs]) (fun i => if i = l.length then w.heap.size else L i) (fun i => if i = l.length then w1.heap.size else R i) := by
  have hz1 := hb.size
  have hz3 := hg.size
  have hlt := h.lt
  refine ⟨by simpa using h3, by simp [h.len], fun i hi => ?_, fun i c y hi hy => ?_⟩
  · simp only [List.length_append, List.length_singleton] at hi
    have hil : i < l.length := by omega
    simp only [Nat.ne_of_lt hil, if_false]
    split
    · obtain ⟨_, _, h3', _, _⟩ := h.each i _ _ (List.getElem?_eq_getElem (by rw [h.len]; exact hil)) (List.getElem?_eq_getElem hil)
      exact h3'
    · exact h.rise i (by omega)
  · by_cases hil : i < l.length
    · rw [List.getElem?_append_left (by rw [h.len]; exact hil)] at hi
      rw [List.getElem?_append_left hil] at hy
      obtain ⟨h1, h2, h3', h4, h5⟩ := h.each i c y hi hy
      simp only [Nat.ne_of_lt hil, if_false]
      refine ⟨h1, h2, by omega, hS w w3 _ _ _ _ (fun k a b => ?_) h4, fun g hg' => ?_⟩
      · exact (hg.grown.block k (by omega) fun e' => by
          have := h5 k e'.symm
          omega).trans (hb.block k (by omega) (by omega))
      · rcases hg.fresh g hg' with h6 | h6
        · exact h5 g h6
        · right; omega
    · have hi' : i = l.length := by
        have := (List.getElem?_eq_some_iff.1 hy).1
        simp at this
        omega
      subst hi'
      have hc : cs = c := by
        rw [List.getElem?_append_right (by rw [h.len]; exact Nat.le_refl _), h.len] at hi
        simpa using hi
      have hx : x = y := by
        rw [List.getElem?_append_right (Nat.le_refl _)] at hy
        simpa using hy
      subst hc
      subst hx
      simp only [if_true]
      refine ⟨hlo, hz1, hz3, hS w1 w3 _ _ _ _ (fun k a b => ?_) he, fun g hg' => ?_⟩
      · exact hg.grown.block k b fun e' => by have := (hlt k e'.symm).2; omega
      · rcases hg.fresh g hg' with h6 | h6
        · have := (hlt g h6).2; omega
        · exact .inr h6
theorem RdIn.grewV {p B : Nat} {v' : Value} {n : Nat} {xs : List Value} {zs : List Int} (h : RdIn w p B zs) (hg : Grew w w' v v') (ho : w.ownsRow lo e size v n xs) (hp : p < lo) (hB : B ≤ p) (hlo : lo ≤ w.heap.size) : RdIn w' p B zs := by
  obtain ⟨A, c, q1, q2, q3, q4⟩ := h.is
  have hb := hg.below ho hlo
  exact ⟨A, c, q1.below hb hp, q2.below (hb.mono (by omega)), q3, q4⟩
theorem But.grewV {p : Nat} {v' : Value} {n : Nat} {xs : List Value} (hg : Grew w w' v v') (ho : w.ownsRow lo e size v n xs) (b : World) (hb : But p b w) (hlo : b.heap.size ≤ lo) : But p b w' :=
  ⟨hg.grown.os.trans hb.os, hg.grown.tape.trans hb.tape, hg.grown.output.trans hb.output, Nat.le_trans hb.size hg.size, fun k hk hne =>
    (hg.grown.block k (Nat.lt_of_lt_of_le hk hb.size) fun e => by have := (ho.lt k e.symm).1; omega).trans (hb.block k hk hne)⟩
end
end Go.Proofs.YtdgbodljmdcagaaGreatDoor
