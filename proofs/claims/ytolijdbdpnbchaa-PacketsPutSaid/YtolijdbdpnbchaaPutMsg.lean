/-
  messages.Put.
-/
import Derived.Test.YtolijdbdpnbchaaLooks
namespace Go.Proofs.Ytolijdbdpnbchaa
open Go.RowKit
set_option linter.unusedVariables false

theorem flatten_get : ∀ (l : List (List Int)) (k : Nat) (x : List Int), (∀ y ∈ l, y.length = 32) → l[k]? = some x → ∀ j, j < 32 → l.flatten[k * 32 + j]? = x[j]?
  | [], k, x, _, h, _, _ => by simp at h
  | y :: r, 0, x, hl, h, j, hj => by
    have : y = x := by simpa using h
    subst this
    have hy := hl y (by simp)
    rw [List.flatten_cons, List.getElem?_append_left (by omega)]
    simp
  | y :: r, k + 1, x, hl, h, j, hj => by
    have hy := hl y (by simp)
    rw [List.flatten_cons, List.getElem?_append_right (by omega)]
    have := flatten_get r k x (fun z hz => hl z (by simp [hz])) (by simpa using h) j hj
    rw [← this]
    congr 1
    omega
theorem flatten_len : ∀ (l : List (List Int)), (∀ y ∈ l, y.length = 32) → l.flatten.length = l.length * 32
  | [], _ => rfl
  | y :: r, h => by
    have := flatten_len r (fun z hz => h z (by simp [hz]))
    have hy := h y (by simp)
    simp only [List.flatten_cons, List.length_append, List.length_cons, this, hy]
    omega
theorem flatten_take_succ {l : List (List Int)} {k : Nat} {x : List Int} (h : l[k]? = some x) : (l.take (k + 1)).flatten = (l.take k).flatten ++ x := by
  rw [List.take_add_one, List.flatten_append, h]
  simp

/-- the k-th key -/
structure KeyAt (w : World) (a : Addr) (k : Nat) (x : List Int) : Prop where
  cells : ∀ j u, (bv x)[j]? = some u → w.cell? ((a.add (k * 32)).add j) = some u
  len : x.length = 32
theorem KeysIn.get {w : World} {B n : Nat} {A : Option Addr} {l : List (List Int)} (h : KeysIn w B A n l) {k : Nat} (hk : k < n) : ∃ a x, A = some a ∧ a.block < B ∧ l[k]? = some x ∧ KeyAt w a k x := by
  obtain ⟨x, hx⟩ : ∃ x, l[k]? = some x := ⟨_, List.getElem?_eq_getElem (by rw [h.len]; exact hk)⟩
  have hxl := h.each x (List.mem_of_getElem? hx)
  obtain ⟨a, u, e, hb, _, _⟩ := h.sees.at_ (k := k * 32) (by omega)
  refine ⟨a, x, e, hb, hx, fun j u hu => ?_, hxl⟩
  have hj : j < 32 := by have := (List.getElem?_eq_some_iff.1 hu).1; rw [bv_length] at this; omega
  rw [bv_getElem?, ← flatten_get l k x h.each hx j hj, ← bv_getElem?] at hu
  obtain ⟨a', e', _, hc⟩ := h.sees.cell _ u hu
  rw [e] at e'
  cases e'
  rw [addr_add]
  exact hc
theorem KeyAt.keep {w w' : World} {B k : Nat} {a : Addr} {x : List Int} (h : KeyAt w a k x) (ha : a.block < B) (hk : ∀ p : Addr, p.block < B → w'.cell? p = w.cell? p) : KeyAt w' a k x :=
  ⟨fun j u hu => (hk _ (by rw [addr_block, addr_block]; exact ha)).trans (h.cells j u hu), h.len⟩

/-- what Put leaves -/
def PutMsgDone (w : World) (ys : List Int) (e : Ending) (w' : World) : Prop :=
  ∃ g rest, e = .returned (.tuple #[.slice (some ⟨g, 0, none⟩) ys.length ys.length, .int .i64 0]) ∧ w.heap.size ≤ g ∧ Row w' g 5 (bv ys ++ rest) ∧ Below w.heap.size w w'

theorem OwnB.row {w : World} {base : Nat} {v : Value} {ys : List Int} (h : OwnB w base v ys) (h0 : 0 < ys.length) : ∃ g rest c, v = .slice (some ⟨g, 0, none⟩) ys.length c ∧ base ≤ g ∧ Row w g 5 (bv ys ++ rest) ∧ ys.length ≤ c ∧ c ≤ maxLen := by
  rcases h.2 with ⟨_, h1⟩ | ⟨g, cap, cur, rfl, hg, hh, h2, h3, h4, h5⟩
  · omega
  · refine ⟨g, cur.toList.drop ys.length, cap, rfl, hg, ⟨?_⟩, h2, h3⟩
    rw [hh]
    have : bv ys ++ cur.toList.drop ys.length = cur.toList := by
      rw [← h5]; simp
    rw [this]

theorem Row.sees_at {w : World} {g t o n : Nat} {cs xs : List Value} (hr : Row w g t cs) (hn : xs.length = n) (h : ∀ j u, xs[j]? = some u → cs[o + j]? = some u) : Sees w w.heap.size (some ⟨g, o, none⟩) n xs :=
  ⟨hn, fun i u hu => ⟨_, rfl, hr.lt, by rw [addr_row, hr.cell]; exact h i u hu⟩⟩

theorem MsgRow.keep {w w' : World} {g B : Nat} {q : Raw} {m : LMsg} (h : MsgRow w g q m) (hg : g < B) (hb : Below B w w') : MsgRow w' g q m :=
  have k : ∀ o, w'.cell? ⟨g, o, none⟩ = w.cell? ⟨g, o, none⟩ := fun o => hb.cell hg
  ⟨(k 0).trans h.c0, (k 1).trans h.c1, (k 2).trans h.c2, (k 3).trans h.c3, (k 4).trans h.c4, (k 37).trans h.c37, (k 38).trans h.c38⟩

theorem enc_parts (m : LMsg) : (enc m).length = (encHead m).length + (short m.keys.length).length + m.keys.flatten.length + m.recent.length + (short m.ins.length).length + (m.ins.flatMap encIn).length + (encTail m).length := by
  unfold enc
  simp only [List.length_append]
  omega

set_option maxRecDepth 100000 in
set_option maxHeartbeats 2000000 in
theorem put_ok (q : Raw) (m : LMsg) (B : Nat) (w : World) (hm : MsgIn w B q m) (hB : B ≤ w.heap.size) (hf : Fits m) (hl : (enc m).length ≤ 1000000000) :
    Calls Try.prog 25 #[.agg (q.cells m).toArray] w (PutMsgDone w (enc m)) := by
  obtain ⟨KA, kn, kc, IA, n, ic, LA, ln, lc⟩ := q
  have hrow := Row.new w 31 (Raw.cells ⟨KA, kn, kc, IA, n, ic, LA, ln, lc⟩ m)
  have hb0 := (Below.refl w.heap.size w).alloc (Nat.le_refl _) (.cells (Raw.cells ⟨KA, kn, kc, IA, n, ic, LA, ln, lc⟩ m).toArray 31)
  have hlen := cells_len (q := ⟨KA, kn, kc, IA, n, ic, LA, ln, lc⟩) hm.recent
  have HF := Lib.hid (fits_ ⟨KA, kn, kc, IA, n, ic, LA, ln, lc⟩ m B _ (hm.alloc hB (.cells (Raw.cells ⟨KA, kn, kc, IA, n, ic, LA, ln, lc⟩ m).toArray 31)) (Nat.le_trans hB hb0.size))
  have HREC := Lib.hid (fun j u => @cells_recent ⟨KA, kn, kc, IA, n, ic, LA, ln, lc⟩ m j u)
  have HMR := Lib.hid (MsgRow.of hrow hm.recent)
  obtain ⟨cs, hcs⟩ : ∃ cs, cs = Raw.cells ⟨KA, kn, kc, IA, n, ic, LA, ln, lc⟩ m := ⟨_, rfl⟩
  rw [← hcs] at hrow hb0 hlen HF HREC HMR ⊢
  clear hcs
  have HSZ := Lib.hid (show (Try.prog.info? 31).map (·.size) = some cs.length by rw [size_msg, hlen])
  have HROW := Lib.hid hrow
  have HM := Lib.hid hm
  have HB0 := Lib.hid hb0
  have k1 := hm.kn
  have k2 := hm.n
  have k3 := hm.ln
  dsimp only at k1 k2 k3
  unfold maxLen at k1 k2 k3
  have HL := Lib.hid hl
  have HFI := Lib.hid hf
  clear hlen hm hb0 hrow hl hf
  go_enter Try.func25, Try.ntmps25
  go_wp2_with (first
    | (with_reducible show wpList _ _ _ ({ dst := some 9, op := Op.load _ _, type := _, pos := _, after := _, guard := _ } :: _) _ _; go_must (refine wpList_load_whole rfl 31 (.tmp 1) rfl w.heap.size 31 cs _ Try.underlying31 rfl HSZ.out HROW.out ?_ ?_; go_simp)))
  refine HF.out.mono ?_
  rintro e w1 ⟨⟨b, rfl, hb⟩, hb1⟩
  obtain rfl : b = true := hb.2 HFI.out
  clear hb
  have hlt0 : w.heap.size < w1.heap.size := Nat.lt_of_lt_of_le HROW.out.lt hb1.size
  have hr1 := HROW.out.below hb1 HROW.out.lt
  have hm1 := HMR.out.keep HROW.out.lt hb1
  have hbw1 := HB0.out.trans (hb1.mono HB0.out.size)
  generalize hW : (w.alloc (Obj.cells cs.toArray 31)) = W0 at *
  clear hW HF HMR HROW HB0 hb1
  have HR1 := Lib.hid hr1
  have HMR1 := Lib.hid hm1
  have HBW1 := Lib.hid hbw1
  have HM1 := Lib.hid (HM.out.below (hbw1.mono hB))
  clear hr1 hbw1 HM
  obtain ⟨d0, d1, d2, d3, d4, d37, d38⟩ := hm1
  clear d1 d2 d3 d4 d37 d38
  generalize hv0 : m.v0 = v0 at *
  have HV0 := Lib.hid hv0
  clear hv0
  have HO1 := Lib.hid (OwnB.nil w1 w1.heap.size)
  have hpar := enc_parts m
  have hhl : (encHead m).length = (if v0 then 1 else 0) + 3 := by unfold encHead; rw [HV0.out]; cases v0 <;> rfl
  have HPAR := Lib.hid hpar
  have HHL := Lib.hid hhl
  clear hpar hhl
  have hfk := HFI.out.2.1
  have hfi := HFI.out.2.2.1
  rw [HM1.out.keys.len] at hfk
  rw [HM1.out.ins.len] at hfi
  dsimp only at hfk hfi
  have HE : Hid (enc m = encHead m ++ short kn ++ m.keys.flatten ++ m.recent ++ short n ++ m.ins.flatMap encIn ++ encTail m) := by
    have e1 := HM1.out.keys.len
    have e2 := HM1.out.ins.len
    dsimp only at e1 e2
    refine Lib.hid ?_
    unfold enc
    rw [e1, e2]
    simp only [List.append_assoc]
  have HPL : Hid ((encHead m).length + 3 + m.keys.flatten.length + m.recent.length + 3 + (m.ins.flatMap encIn).length + (encTail m).length ≤ 1000000006) := by
    have h1 := HPAR.out
    have h2 := HL.out
    exact Lib.hid (by omega)
  -- the head
  cases v0
  · have hh : encHead m = [m.s, m.r, m.o] := by unfold encHead; rw [HV0.out]; rfl
    have HH := Lib.hid hh
    clear hh
    obtain ⟨-, d1, d2, d3, d4, -, -⟩ := HMR1.out
    go_wp2_with (first
      | (at_builtin; with_reducible show wpList _ _ _ ({ dst := some 28, op := _, type := _, pos := _, after := _, guard := _ } :: _) _ _; go_must (refine wpList_addLit rfl (.tmp 17) (.tmp 27) 37 rfl w1.heap.size Try.underlying37 info_u8 (.slice none 0 0) [] [m.s, m.r, m.o] 3 rfl ?_ HO1.out ?_ (Nat.le_refl _) (by simp only [List.nil_append, List.length_cons, List.length_nil]; omega) ?_; go_simp; go_simp; intro v2 w2 ho2 hg2; have hb2 := hg2.belowB HO1.out (Nat.le_refl _); obtain ⟨-, -, -, -, d4, -, -⟩ := HMR1.out.keep hlt0 hb2; have HO2 : Hid (OwnB w2 w1.heap.size v2 (encHead m)) := Lib.hid (by rw [HH.out]; simpa only [List.cons_append, List.nil_append] using ho2); have HB2 := Lib.hid hb2; clear ho2 hg2 hb2 d1 d2 d3)))
    clear HH
    all_goals
    (have HX1 := HPL.out
     refine (putMany_ w1.heap.size v2 (encHead m) kn w2 HO2.out HB2.out.size hfk (by omega)).mono ?_
     rintro e w3 ⟨v3, rfl, ho3, hg3⟩
     have HB3 := Lib.hid (HB2.out.trans (hg3.belowB HO2.out HB2.out.size))
     have HO3 := Lib.hid ho3
     have HS3 := short_len3 kn
     have HS4 := short_len3 n
     have hkl : ∀ k, (m.keys.take k).flatten.length ≤ m.keys.flatten.length := fun k => by
      have := flatMap_take_len id m.keys k
      simpa only [List.flatMap_id] using this
     have hrl := HM1.out.recent
     have HXL := Lib.hid (And.intro HX1 (And.intro HS3 (And.intro HS4 (And.intro hkl hrl))))
     have d4 := (HMR1.out.keep hlt0 HB3.out).c4
     dsimp only at d4
     clear ho3 hg3 HO2 HB2 HX1 HS3 HS4 hkl hrl
     go_wp2_with fail
     clear d4
     go_loopw [4, 37] (fun v i wr => ∃ k : Nat, k ≤ kn ∧ i = .int .i64 k ∧ OwnB wr w1.heap.size v (encHead m ++ short kn ++ (m.keys.take k).flatten) ∧ Below w1.heap.size w1 wr) (fun v i _ => kn - (intOf i).toNat)
     case atStart =>
      refine ⟨0, Nat.zero_le _, rfl, ?_, HB3.out⟩
      simpa only [List.take_zero, List.flatten_nil, List.append_nil] using HO3.out
     case round =>
      obtain ⟨k, hk, rfl, ho, hb⟩ := hrel
      have HOR := Lib.hid ho
      have HBR := Lib.hid hb
      clear ho hb HO3 HB3
      have hsz := HBR.out.size
      by_cases hlt : k < kn
      · obtain ⟨a, x, rfl, hab, hx, hat⟩ := HM1.out.keys.get hlt
        have HAT := Lib.hid (hat.keep hab fun p hp => HBR.out.cell (Nat.lt_of_lt_of_le hp (Nat.le_trans hB (Nat.le_of_lt hlt0))))
        have HX := Lib.hid hx
        have hz32 : (Try.prog.info? 58).map (·.size) = some (bv x).length := by rw [size_key, bv_length, hat.len]
        have HZ32 := Lib.hid hz32
        have hln : (encHead m ++ short kn ++ (m.keys.take k).flatten).length + 32 ≤ 2000000000 := by
          obtain ⟨h1, h2, h3, h4, h5⟩ := HXL.out
          have := h4 k
          simp only [List.length_append]
          omega
        have HLN := Lib.hid hln
        clear hat hx hz32 hln
        go_wp2_with (first
          | (with_reducible show wpList _ _ _ ({ dst := some 40, op := Op.load _ _, type := _, pos := _, after := _, guard := _ } :: _) _ _; go_must (refine wpList_load_at rfl 58 (.tmp 39) rfl (a.add (k * 32)) (bv x) _ Try.underlying58 rfl HZ32.out HAT.out.cells ?_ ?_; go_simp))
          | (with_reducible show wpList _ _ _ ({ dst := none, op := Op.store 58 _ _, type := _, pos := _, after := _, guard := _ } :: _) _ _; go_must (refine wpList_store_new rfl 58 (.tmp 6) (.tmp 40) rfl (bv x) HZ32.out (bv_one x) (by simp [bv_length, HAT.out.len]) ?_ ?_ ?_; go_simp; go_simp; intro w4 hr4 hb4 hz4; have hs4 : Sees w4 w4.heap.size (some ⟨wr.heap.size, 0, none⟩) 32 (bv x) := hr4.sees_at (o := 0) (by rw [bv_length, HAT.out.len]) (fun j u hu => by rw [Nat.zero_add]; exact hu); have ho4 := HOR.out.below hb4; clear hr4))
          | (at_builtin; go_must (refine wpList_addB rfl (.tmp 41) (.tmp 42) 37 rfl w1.heap.size Try.underlying37 info_u8 _ _ ?_ ho4 _ _ 32 32 x ?_ hs4 (by omega) (by have q1 := HLN.out; have q2 := HAT.out.len; rw [List.length_append]; omega) ?_; go_simp; go_simp; intro v5 w5 ho5 hg5; have HB5 := Lib.hid ((HBR.out.trans (hb4.mono hsz)).trans (hg5.belowB ho4 (by omega))); have HO5 := Lib.hid ho5; clear ho5 hg5)))
        go_roundw
        case rel =>
          refine ⟨k + 1, by omega, by go_num, ?_, HB5.out⟩
          rw [flatten_take_succ HX.out, ← List.append_assoc]
          exact HO5.out
        case measure => simp [intOf]; omega
      · have HKK := Lib.hid (show k = kn by omega)
        have hok : OwnB wr w1.heap.size u4 (encHead m ++ short kn ++ m.keys.flatten) := by
          have := HOR.out
          rwa [List.take_of_length_le (by have := HM1.out.keys.len; dsimp only at this; have := HKK.out; omega)] at this
        have hsr := (HR1.out.below HBR.out hlt0).sees_at (o := 5) (xs := bv m.recent) (n := 32) (by rw [bv_length, HXL.out.2.2.2.2]) HREC.out
        have HOK := Lib.hid hok
        clear hok HOR
        go_wp2_with (first
          | (at_builtin; go_must (refine wpList_addB rfl (.tmp 45) (.tmp 47) 37 rfl w1.heap.size Try.underlying37 info_u8 _ _ ?_ HOK.out _ _ 32 32 m.recent ?_ hsr hsz (by obtain ⟨h1, h2, h3, h4, h5⟩ := HXL.out; simp only [List.length_append]; omega) ?_; go_simp; go_simp; intro v5 w5 ho5 hg5; have hb5 := HBR.out.trans (hg5.belowB HOK.out hsz); have d37 := (HMR1.out.keep hlt0 hb5).c37; dsimp only at d37; have HB5 := Lib.hid hb5; have HO5 := Lib.hid ho5; clear hb5 ho5 hg5)))
        have HX1 := HXL.out
        have hz5 := HB5.out.size
        refine (putMany_ w1.heap.size v5 _ n w5 HO5.out hz5 hfi (by simp only [List.length_append]; omega)).mono ?_
        rintro e w6 ⟨v6, rfl, ho6, hg6⟩
        have HB6 := Lib.hid (HB5.out.trans (hg6.belowB HO5.out hz5))
        have HO6 := Lib.hid ho6
        have d37 := (HMR1.out.keep hlt0 HB6.out).c37
        dsimp only at d37
        have HM6 := Lib.hid (HM1.out.below (HB6.out.mono (Nat.le_trans hB (Nat.le_of_lt hlt0))))
        clear ho6 hg6 HO5 HB5 HX1 hsz HOK HBR hz5
        go_wp2_with fail
        clear d37
        go_loopw [4, 57] (fun v i wr => ∃ k : Nat, k ≤ n ∧ i = .int .i64 k ∧ OwnB wr w1.heap.size v (encHead m ++ short kn ++ m.keys.flatten ++ m.recent ++ short n ++ (m.ins.take k).flatMap encIn) ∧ Below w1.heap.size w1 wr) (fun v i _ => n - (intOf i).toNat)
        case atStart =>
          refine ⟨0, Nat.zero_le _, rfl, ?_, HB6.out⟩
          simpa only [List.take_zero, List.flatMap_nil, List.append_nil] using HO6.out
        case round =>
          clear HO6 HB6 HM6
          obtain ⟨k2, hk2, rfl, ho, hb⟩ := hrel
          have HOR := Lib.hid ho
          have HBR := Lib.hid hb
          clear ho hb
          have hsz := HBR.out.size
          by_cases hlt2 : k2 < n
          · obtain ⟨a, x, va, vd, rfl, hab, hx, hat⟩ := HM1.out.ins.get hlt2
            have hat := hat.keep hab fun p hp => HBR.out.cell (Nat.lt_of_lt_of_le hp (Nat.le_trans hB (Nat.le_of_lt hlt0)))
            have HON := Lib.hid (inCells_one (p := x.p) hat.acc hat.dat)
            have HAT := Lib.hid hat
            have HX := Lib.hid hx
            have hln : (encHead m ++ short kn ++ m.keys.flatten ++ m.recent ++ short n ++ (m.ins.take k2).flatMap encIn).length + (encIn x).length ≤ 2000000000 := by
              obtain ⟨h1, h2, h3, h4, h5⟩ := HXL.out
              have h6 := flatMap_take_len encIn m.ins (k2 + 1)
              rw [flatMap_take_succ encIn hx] at h6
              simp only [List.length_append] at h6 ⊢
              omega
            have hel : (encIn x).length = 1 + ((encL x.acc).length + (encL x.dat).length) := by simp [encIn]; omega
            have hfx := HFI.out.2.2.2.2.1 x (List.mem_of_getElem? hx)
            generalize hys : encHead m ++ short kn ++ m.keys.flatten ++ m.recent ++ short n ++ (m.ins.take k2).flatMap encIn = ys at *
            have HYS := Lib.hid hys
            have HLN := Lib.hid hln
            have HEL := Lib.hid hel
            clear hat hx hln hel hys
            go_wp2_with (first
              | (with_reducible show wpList _ _ _ ({ dst := some 60, op := Op.load _ _, type := _, pos := _, after := _, guard := _ } :: _) _ _; go_must (refine wpList_load_at rfl 89 (.tmp 59) rfl (a.add (k2 * 3)) (inCells x.p va vd) _ Try.underlying89 rfl (size_in _ _ _) HAT.out.cells ?_ ?_; go_simp))
              | (with_reducible show wpList _ _ _ ({ dst := none, op := Op.store 89 _ _, type := _, pos := _, after := _, guard := _ } :: _) _ _; go_must (refine wpList_store_new rfl 89 (.tmp 8) (.tmp 60) rfl (inCells x.p va vd) (size_in _ _ _) HON.out rfl ?_ ?_ ?_; go_simp; go_simp; intro w4 hr4 hb4 hz4; obtain ⟨e0, -, -⟩ := in_cells hr4; have ho4 := HOR.out.below hb4; have HR4 := Lib.hid hr4; clear hr4))
              | (at_builtin; go_must (refine wpList_addLit rfl (.tmp 61) (.tmp 64) 37 rfl w1.heap.size Try.underlying37 info_u8 _ ys [x.p] 1 rfl ?_ ho4 ?_ (by omega) (by have q1 := HLN.out; rw [List.length_append, List.length_singleton]; omega) ?_; go_simp; go_simp; intro v5 w5 ho5 hg5; have HNE5 := Lib.hid (hg5.ne (own_ne_new (base := w1.heap.size) HOR.out (Nat.le_refl _)) HR4.out.lt); have hr5 := hg5.row HR4.out (own_ne_new HOR.out (Nat.le_refl _)); obtain ⟨-, e1, -⟩ := in_cells hr5; have HR5 := Lib.hid hr5; have HB5 := Lib.hid ((HBR.out.trans (hb4.mono hsz)).trans (hg5.belowB ho4 (by omega))); have HO5 := Lib.hid ho5; have hg5' := hg5; clear ho5 hg5 hr5 e0)))
            have hln := HLN.out
            have hel := HEL.out
            have hz5 := HB5.out.size
            have hdat := HAT.out.dat
            have hva : BytesIn w5 w1.heap.size va x.acc := (HAT.out.acc.more (Nat.le_trans hB (Nat.le_of_lt hlt0))).below ((hb4.mono hsz).trans (hg5'.belowB ho4 (by omega)))
            have hvd : BytesIn w5 w1.heap.size vd x.dat := (HAT.out.dat.more (Nat.le_trans hB (Nat.le_of_lt hlt0))).below ((hb4.mono hsz).trans (hg5'.belowB ho4 (by omega)))
            clear hdat
            refine (putBytes_ w1.heap.size w1.heap.size v5 va _ x.acc w5 HO5.out hz5 hva (Nat.le_refl _) hfx.1 (by rw [List.length_append, List.length_singleton]; omega)).mono ?_
            rintro e w6' ⟨v6', rfl, ho6', hg6'⟩
            have hr6 := hg6'.row HR5.out HNE5.out
            obtain ⟨-, -, e2⟩ := in_cells hr6
            have hb6 := hg6'.belowB HO5.out hz5
            have HVD := Lib.hid (hvd.below hb6)
            have HB6' := Lib.hid (HB5.out.trans hb6)
            have HO6' := Lib.hid ho6'
            clear hr6 hb6 ho6' hg6' hva hvd e1 hln hel hz5 ho4 hb4 hg5'
            go_wp2_with fail
            have hln := HLN.out
            have hel := HEL.out
            refine (putBytes_ w1.heap.size w1.heap.size v6' vd _ x.dat w6' HO6'.out HB6'.out.size HVD.out (Nat.le_refl _) hfx.2 (by simp only [List.length_append, List.length_singleton]; omega)).mono ?_
            rintro e w7 ⟨v7, rfl, ho7, hg7⟩
            have HB7 := Lib.hid (HB6'.out.trans (hg7.belowB HO6'.out HB6'.out.size))
            have HO7 := Lib.hid ho7
            clear ho7 hg7 hln hel e2
            go_wp2_with fail
            go_roundw
            case rel =>
              refine ⟨k2 + 1, by omega, by go_num, ?_, HB7.out⟩
              have := HO7.out
              rw [flatMap_take_succ encIn HX.out, ← List.append_assoc, HYS.out]
              simpa only [encIn, List.append_assoc, List.singleton_append, List.cons_append, List.nil_append] using this
            case measure => simp [intOf]; omega
          · have HOK : Hid (OwnB wr w1.heap.size u4 (encHead m ++ short kn ++ m.keys.flatten ++ m.recent ++ short n ++ m.ins.flatMap encIn)) := by
              have := HOR.out
              rw [List.take_of_length_le (by have h1 := HM1.out.ins.len; dsimp only at h1; omega)] at this
              exact Lib.hid this
            have hm2 := HMR1.out.keep hlt0 HBR.out
            have d0 := hm2.c0
            rw [HV0.out] at d0
            clear hm2 HOR
            go_wp2_with fail
            have ht : encTail m = [] := by unfold encTail; rw [HV0.out]; rfl
            have hlast := HOK.out
            have hE := HE.out
            rw [ht, List.append_nil] at hE
            rw [← hE] at hlast
            obtain ⟨g, rest, c, rfl, hg, hrow, hc1, hc2⟩ := hlast.row (by rw [hE]; simp only [List.length_append, HXL.out.2.2.2.2]; omega)
            have HROW := Lib.hid hrow
            clear hrow d0 hE ht HOK hlast
            refine (clip_ _ _ c _ hc1 hc2).mono ?_
            rintro e w8 ⟨rfl, rfl⟩
            go_wp2_with fail
            go_ret2
            exact ⟨g, rest, rfl, by omega, HROW.out, HBW1.out.trans (HBR.out.mono (Nat.le_of_lt hlt0))⟩)
  · have hh : encHead m = [128, m.s, m.r, m.o] := by unfold encHead; rw [HV0.out]; rfl
    have HH := Lib.hid hh
    clear hh
    go_wp2_with (first
      | (at_builtin; with_reducible show wpList _ _ _ ({ dst := some 16, op := _, type := _, pos := _, after := _, guard := _ } :: _) _ _; go_must (refine wpList_addLit rfl (.tmp 14) (.tmp 15) 37 rfl w1.heap.size Try.underlying37 info_u8 (.slice none 0 0) [] [128] 1 rfl ?_ HO1.out ?_ (Nat.le_refl _) (by simp only [List.nil_append, List.length_cons, List.length_nil]; omega) ?_; go_simp; go_simp; intro v1 w1' ho1 hg1; have hb1 := hg1.belowB HO1.out (Nat.le_refl _); obtain ⟨-, d1, d2, d3, d4, -, -⟩ := HMR1.out.keep hlt0 hb1; have HO1' : Hid (OwnB w1' w1.heap.size v1 [128]) := Lib.hid (by simpa only [List.nil_append] using ho1); have HB1' := Lib.hid hb1; clear ho1 hg1 hb1))
      | (at_builtin; with_reducible show wpList _ _ _ ({ dst := some 28, op := _, type := _, pos := _, after := _, guard := _ } :: _) _ _; go_must (refine wpList_addLit rfl (.tmp 17) (.tmp 27) 37 rfl w1.heap.size Try.underlying37 info_u8 v1 [128] [m.s, m.r, m.o] 3 rfl ?_ HO1'.out ?_ HB1'.out.size (by simp only [List.cons_append, List.nil_append, List.length_cons, List.length_nil]; omega) ?_; go_simp; go_simp; intro v2 w2 ho2 hg2; have hb2 := HB1'.out.trans (hg2.belowB HO1'.out HB1'.out.size); obtain ⟨-, -, -, -, d4, -, -⟩ := HMR1.out.keep hlt0 hb2; have HO2 : Hid (OwnB w2 w1.heap.size v2 (encHead m)) := Lib.hid (by rw [HH.out]; simpa only [List.cons_append, List.nil_append] using ho2); have HB2 := Lib.hid hb2; clear ho2 hg2 hb2 d1 d2 d3 HO1' HB1')))
    clear HH
    all_goals
    (have HX1 := HPL.out
     refine (putMany_ w1.heap.size v2 (encHead m) kn w2 HO2.out HB2.out.size hfk (by omega)).mono ?_
     rintro e w3 ⟨v3, rfl, ho3, hg3⟩
     have HB3 := Lib.hid (HB2.out.trans (hg3.belowB HO2.out HB2.out.size))
     have HO3 := Lib.hid ho3
     have HS3 := short_len3 kn
     have HS4 := short_len3 n
     have hkl : ∀ k, (m.keys.take k).flatten.length ≤ m.keys.flatten.length := fun k => by
      have := flatMap_take_len id m.keys k
      simpa only [List.flatMap_id] using this
     have hrl := HM1.out.recent
     have HXL := Lib.hid (And.intro HX1 (And.intro HS3 (And.intro HS4 (And.intro hkl hrl))))
     have d4 := (HMR1.out.keep hlt0 HB3.out).c4
     dsimp only at d4
     clear ho3 hg3 HO2 HB2 HX1 HS3 HS4 hkl hrl
     go_wp2_with fail
     clear d4
     go_loopw [4, 37] (fun v i wr => ∃ k : Nat, k ≤ kn ∧ i = .int .i64 k ∧ OwnB wr w1.heap.size v (encHead m ++ short kn ++ (m.keys.take k).flatten) ∧ Below w1.heap.size w1 wr) (fun v i _ => kn - (intOf i).toNat)
     case atStart =>
      refine ⟨0, Nat.zero_le _, rfl, ?_, HB3.out⟩
      simpa only [List.take_zero, List.flatten_nil, List.append_nil] using HO3.out
     case round =>
      obtain ⟨k, hk, rfl, ho, hb⟩ := hrel
      have HOR := Lib.hid ho
      have HBR := Lib.hid hb
      clear ho hb HO3 HB3
      have hsz := HBR.out.size
      by_cases hlt : k < kn
      · obtain ⟨a, x, rfl, hab, hx, hat⟩ := HM1.out.keys.get hlt
        have HAT := Lib.hid (hat.keep hab fun p hp => HBR.out.cell (Nat.lt_of_lt_of_le hp (Nat.le_trans hB (Nat.le_of_lt hlt0))))
        have HX := Lib.hid hx
        have hz32 : (Try.prog.info? 58).map (·.size) = some (bv x).length := by rw [size_key, bv_length, hat.len]
        have HZ32 := Lib.hid hz32
        have hln : (encHead m ++ short kn ++ (m.keys.take k).flatten).length + 32 ≤ 2000000000 := by
          obtain ⟨h1, h2, h3, h4, h5⟩ := HXL.out
          have := h4 k
          simp only [List.length_append]
          omega
        have HLN := Lib.hid hln
        clear hat hx hz32 hln
        go_wp2_with (first
          | (with_reducible show wpList _ _ _ ({ dst := some 40, op := Op.load _ _, type := _, pos := _, after := _, guard := _ } :: _) _ _; go_must (refine wpList_load_at rfl 58 (.tmp 39) rfl (a.add (k * 32)) (bv x) _ Try.underlying58 rfl HZ32.out HAT.out.cells ?_ ?_; go_simp))
          | (with_reducible show wpList _ _ _ ({ dst := none, op := Op.store 58 _ _, type := _, pos := _, after := _, guard := _ } :: _) _ _; go_must (refine wpList_store_new rfl 58 (.tmp 6) (.tmp 40) rfl (bv x) HZ32.out (bv_one x) (by simp [bv_length, HAT.out.len]) ?_ ?_ ?_; go_simp; go_simp; intro w4 hr4 hb4 hz4; have hs4 : Sees w4 w4.heap.size (some ⟨wr.heap.size, 0, none⟩) 32 (bv x) := hr4.sees_at (o := 0) (by rw [bv_length, HAT.out.len]) (fun j u hu => by rw [Nat.zero_add]; exact hu); have ho4 := HOR.out.below hb4; clear hr4))
          | (at_builtin; go_must (refine wpList_addB rfl (.tmp 41) (.tmp 42) 37 rfl w1.heap.size Try.underlying37 info_u8 _ _ ?_ ho4 _ _ 32 32 x ?_ hs4 (by omega) (by have q1 := HLN.out; have q2 := HAT.out.len; rw [List.length_append]; omega) ?_; go_simp; go_simp; intro v5 w5 ho5 hg5; have HB5 := Lib.hid ((HBR.out.trans (hb4.mono hsz)).trans (hg5.belowB ho4 (by omega))); have HO5 := Lib.hid ho5; clear ho5 hg5)))
        go_roundw
        case rel =>
          refine ⟨k + 1, by omega, by go_num, ?_, HB5.out⟩
          rw [flatten_take_succ HX.out, ← List.append_assoc]
          exact HO5.out
        case measure => simp [intOf]; omega
      · have HKK := Lib.hid (show k = kn by omega)
        have hok : OwnB wr w1.heap.size u4 (encHead m ++ short kn ++ m.keys.flatten) := by
          have := HOR.out
          rwa [List.take_of_length_le (by have := HM1.out.keys.len; dsimp only at this; have := HKK.out; omega)] at this
        have hsr := (HR1.out.below HBR.out hlt0).sees_at (o := 5) (xs := bv m.recent) (n := 32) (by rw [bv_length, HXL.out.2.2.2.2]) HREC.out
        have HOK := Lib.hid hok
        clear hok HOR
        go_wp2_with (first
          | (at_builtin; go_must (refine wpList_addB rfl (.tmp 45) (.tmp 47) 37 rfl w1.heap.size Try.underlying37 info_u8 _ _ ?_ HOK.out _ _ 32 32 m.recent ?_ hsr hsz (by obtain ⟨h1, h2, h3, h4, h5⟩ := HXL.out; simp only [List.length_append]; omega) ?_; go_simp; go_simp; intro v5 w5 ho5 hg5; have hb5 := HBR.out.trans (hg5.belowB HOK.out hsz); have d37 := (HMR1.out.keep hlt0 hb5).c37; dsimp only at d37; have HB5 := Lib.hid hb5; have HO5 := Lib.hid ho5; clear hb5 ho5 hg5)))
        have HX1 := HXL.out
        have hz5 := HB5.out.size
        refine (putMany_ w1.heap.size v5 _ n w5 HO5.out hz5 hfi (by simp only [List.length_append]; omega)).mono ?_
        rintro e w6 ⟨v6, rfl, ho6, hg6⟩
        have HB6 := Lib.hid (HB5.out.trans (hg6.belowB HO5.out hz5))
        have HO6 := Lib.hid ho6
        have d37 := (HMR1.out.keep hlt0 HB6.out).c37
        dsimp only at d37
        have HM6 := Lib.hid (HM1.out.below (HB6.out.mono (Nat.le_trans hB (Nat.le_of_lt hlt0))))
        clear ho6 hg6 HO5 HB5 HX1 hsz HOK HBR hz5
        go_wp2_with fail
        clear d37
        go_loopw [4, 57] (fun v i wr => ∃ k : Nat, k ≤ n ∧ i = .int .i64 k ∧ OwnB wr w1.heap.size v (encHead m ++ short kn ++ m.keys.flatten ++ m.recent ++ short n ++ (m.ins.take k).flatMap encIn) ∧ Below w1.heap.size w1 wr) (fun v i _ => n - (intOf i).toNat)
        case atStart =>
          refine ⟨0, Nat.zero_le _, rfl, ?_, HB6.out⟩
          simpa only [List.take_zero, List.flatMap_nil, List.append_nil] using HO6.out
        case round =>
          clear HO6 HB6 HM6
          obtain ⟨k2, hk2, rfl, ho, hb⟩ := hrel
          have HOR := Lib.hid ho
          have HBR := Lib.hid hb
          clear ho hb
          have hsz := HBR.out.size
          by_cases hlt2 : k2 < n
          · obtain ⟨a, x, va, vd, rfl, hab, hx, hat⟩ := HM1.out.ins.get hlt2
            have hat := hat.keep hab fun p hp => HBR.out.cell (Nat.lt_of_lt_of_le hp (Nat.le_trans hB (Nat.le_of_lt hlt0)))
            have HON := Lib.hid (inCells_one (p := x.p) hat.acc hat.dat)
            have HAT := Lib.hid hat
            have HX := Lib.hid hx
            have hln : (encHead m ++ short kn ++ m.keys.flatten ++ m.recent ++ short n ++ (m.ins.take k2).flatMap encIn).length + (encIn x).length ≤ 2000000000 := by
              obtain ⟨h1, h2, h3, h4, h5⟩ := HXL.out
              have h6 := flatMap_take_len encIn m.ins (k2 + 1)
              rw [flatMap_take_succ encIn hx] at h6
              simp only [List.length_append] at h6 ⊢
              omega
            have hel : (encIn x).length = 1 + ((encL x.acc).length + (encL x.dat).length) := by simp [encIn]; omega
            have hfx := HFI.out.2.2.2.2.1 x (List.mem_of_getElem? hx)
            generalize hys : encHead m ++ short kn ++ m.keys.flatten ++ m.recent ++ short n ++ (m.ins.take k2).flatMap encIn = ys at *
            have HYS := Lib.hid hys
            have HLN := Lib.hid hln
            have HEL := Lib.hid hel
            clear hat hx hln hel hys
            go_wp2_with (first
              | (with_reducible show wpList _ _ _ ({ dst := some 60, op := Op.load _ _, type := _, pos := _, after := _, guard := _ } :: _) _ _; go_must (refine wpList_load_at rfl 89 (.tmp 59) rfl (a.add (k2 * 3)) (inCells x.p va vd) _ Try.underlying89 rfl (size_in _ _ _) HAT.out.cells ?_ ?_; go_simp))
              | (with_reducible show wpList _ _ _ ({ dst := none, op := Op.store 89 _ _, type := _, pos := _, after := _, guard := _ } :: _) _ _; go_must (refine wpList_store_new rfl 89 (.tmp 8) (.tmp 60) rfl (inCells x.p va vd) (size_in _ _ _) HON.out rfl ?_ ?_ ?_; go_simp; go_simp; intro w4 hr4 hb4 hz4; obtain ⟨e0, -, -⟩ := in_cells hr4; have ho4 := HOR.out.below hb4; have HR4 := Lib.hid hr4; clear hr4))
              | (at_builtin; go_must (refine wpList_addLit rfl (.tmp 61) (.tmp 64) 37 rfl w1.heap.size Try.underlying37 info_u8 _ ys [x.p] 1 rfl ?_ ho4 ?_ (by omega) (by have q1 := HLN.out; rw [List.length_append, List.length_singleton]; omega) ?_; go_simp; go_simp; intro v5 w5 ho5 hg5; have HNE5 := Lib.hid (hg5.ne (own_ne_new (base := w1.heap.size) HOR.out (Nat.le_refl _)) HR4.out.lt); have hr5 := hg5.row HR4.out (own_ne_new HOR.out (Nat.le_refl _)); obtain ⟨-, e1, -⟩ := in_cells hr5; have HR5 := Lib.hid hr5; have HB5 := Lib.hid ((HBR.out.trans (hb4.mono hsz)).trans (hg5.belowB ho4 (by omega))); have HO5 := Lib.hid ho5; have hg5' := hg5; clear ho5 hg5 hr5 e0)))
            have hln := HLN.out
            have hel := HEL.out
            have hz5 := HB5.out.size
            have hdat := HAT.out.dat
            have hva : BytesIn w5 w1.heap.size va x.acc := (HAT.out.acc.more (Nat.le_trans hB (Nat.le_of_lt hlt0))).below ((hb4.mono hsz).trans (hg5'.belowB ho4 (by omega)))
            have hvd : BytesIn w5 w1.heap.size vd x.dat := (HAT.out.dat.more (Nat.le_trans hB (Nat.le_of_lt hlt0))).below ((hb4.mono hsz).trans (hg5'.belowB ho4 (by omega)))
            clear hdat
            refine (putBytes_ w1.heap.size w1.heap.size v5 va _ x.acc w5 HO5.out hz5 hva (Nat.le_refl _) hfx.1 (by rw [List.length_append, List.length_singleton]; omega)).mono ?_
            rintro e w6' ⟨v6', rfl, ho6', hg6'⟩
            have hr6 := hg6'.row HR5.out HNE5.out
            obtain ⟨-, -, e2⟩ := in_cells hr6
            have hb6 := hg6'.belowB HO5.out hz5
            have HVD := Lib.hid (hvd.below hb6)
            have HB6' := Lib.hid (HB5.out.trans hb6)
            have HO6' := Lib.hid ho6'
            clear hr6 hb6 ho6' hg6' hva hvd e1 hln hel hz5 ho4 hb4 hg5'
            go_wp2_with fail
            have hln := HLN.out
            have hel := HEL.out
            refine (putBytes_ w1.heap.size w1.heap.size v6' vd _ x.dat w6' HO6'.out HB6'.out.size HVD.out (Nat.le_refl _) hfx.2 (by simp only [List.length_append, List.length_singleton]; omega)).mono ?_
            rintro e w7 ⟨v7, rfl, ho7, hg7⟩
            have HB7 := Lib.hid (HB6'.out.trans (hg7.belowB HO6'.out HB6'.out.size))
            have HO7 := Lib.hid ho7
            clear ho7 hg7 hln hel e2
            go_wp2_with fail
            go_roundw
            case rel =>
              refine ⟨k2 + 1, by omega, by go_num, ?_, HB7.out⟩
              have := HO7.out
              rw [flatMap_take_succ encIn HX.out, ← List.append_assoc, HYS.out]
              simpa only [encIn, List.append_assoc, List.singleton_append, List.cons_append, List.nil_append] using this
            case measure => simp [intOf]; omega
          · have HOK : Hid (OwnB wr w1.heap.size u4 (encHead m ++ short kn ++ m.keys.flatten ++ m.recent ++ short n ++ m.ins.flatMap encIn)) := by
              have := HOR.out
              rw [List.take_of_length_le (by have h1 := HM1.out.ins.len; dsimp only at h1; omega)] at this
              exact Lib.hid this
            have hm2 := HMR1.out.keep hlt0 HBR.out
            have d0 := hm2.c0
            rw [HV0.out] at d0
            have d38 := hm2.c38
            dsimp only at d38
            clear hm2 HOR
            go_wp2_with fail
            have hlk := (HM1.out.below (HBR.out.mono (Nat.le_trans hB (Nat.le_of_lt hlt0)))).looks
            have ht : encTail m = short m.looks.length ++ m.looks.flatMap encLook := by unfold encTail; rw [HV0.out]; rfl
            have HT := Lib.hid ht
            have hle := HL.out
            rw [HE.out, ht] at hle
            refine (putLookups_ w1.heap.size B u4 LA ln lc _ m.looks _ HOK.out hsz hlk (Nat.le_trans hB (Nat.le_of_lt hlt0)) ⟨by have h1 := hlk.len; dsimp only at h1; have h2 := HFI.out.2.2.2.1; omega, HFI.out.2.2.2.2.2⟩ hle).mono ?_
            rintro e w8 ⟨v8, rfl, ho8, hg8⟩
            have HB8 := Lib.hid (HBR.out.trans (hg8.belowB HOK.out hsz))
            have HO8 := Lib.hid ho8
            clear ho8 hg8 ht hle hlk d0 d38 hsz HBR HOK
            go_wp2_with fail
            have hlast := HO8.out
            rw [← HT.out, ← HE.out] at hlast
            obtain ⟨g, rest, c, rfl, hg, hrow, hc1, hc2⟩ := hlast.row (by rw [HE.out]; simp only [List.length_append, HXL.out.2.2.2.2]; omega)
            have HROW := Lib.hid hrow
            clear hrow
            refine (clip_ _ _ c _ hc1 hc2).mono ?_
            rintro e w9 ⟨rfl, rfl⟩
            go_wp2_with fail
            go_ret2
            exact ⟨g, rest, rfl, by omega, HROW.out, HBW1.out.trans (HB8.out.mono (Nat.le_of_lt hlt0))⟩)

set_option maxRecDepth 100000 in
set_option maxHeartbeats 400000 in
theorem put_no (q : Raw) (m : LMsg) (B : Nat) (w : World) (hm : MsgIn w B q m) (hB : B ≤ w.heap.size) (hf : ¬ Fits m) :
    Calls Try.prog 25 #[.agg (q.cells m).toArray] w fun e w' => e = .returned (.tuple #[.slice none 0 0, .int .i64 1]) ∧ Below w.heap.size w w' := by
  have hrow := Row.new w 31 (q.cells m)
  have hb0 := (Below.refl w.heap.size w).alloc (Nat.le_refl _) (.cells (q.cells m).toArray 31)
  have hlen := cells_len (q := q) hm.recent
  have HF := Lib.hid (fits_ q m B _ (hm.alloc hB (.cells (q.cells m).toArray 31)) (Nat.le_trans hB hb0.size))
  have HSZ := Lib.hid (show (Try.prog.info? 31).map (·.size) = some (q.cells m).length by rw [size_msg, hlen])
  have HROW := Lib.hid hrow
  have HB0 := Lib.hid hb0
  have HN := Lib.hid hf
  clear hlen hm hb0 hrow hf
  go_enter Try.func25, Try.ntmps25
  go_wp2_with (first
    | (with_reducible show wpList _ _ _ ({ dst := some 9, op := Op.load _ _, type := _, pos := _, after := _, guard := _ } :: _) _ _; go_must (refine wpList_load_whole rfl 31 (.tmp 1) rfl w.heap.size 31 (q.cells m) _ Try.underlying31 rfl HSZ.out HROW.out ?_ ?_; go_simp)))
  refine HF.out.mono ?_
  rintro e w1 ⟨⟨b, rfl, hb⟩, hb1⟩
  obtain rfl : b = false := by
    cases b
    · rfl
    · exact absurd (hb.1 rfl) HN.out
  clear hb
  go_wp2_with fail
  go_ret2
  exact ⟨rfl, HB0.out.trans (hb1.mono HB0.out.size)⟩
end Go.Proofs.Ytolijdbdpnbchaa
