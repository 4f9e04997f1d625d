/-
  A message's twin, part by part; LeftMessage.
-/
import Derived.Test.YtolijdbdpnbchaaTwinMsg
import Derived.Test.YtolijdbdpnbchaaSameMsg
namespace Go.Proofs.Ytolijdbdpnbchaa
open Go.RowKit
set_option linter.unusedVariables false

/-- the elements of a twin, each with its two lists, their rooms too -/
def InsT (w : World) (A : Option Addr) (l : List LIn) : Prop :=
  ∀ i x, l[i]? = some x → ∃ g g1 g2, A = some ⟨g, 0, none⟩ ∧ g < w.heap.size ∧ w.cell? ⟨g, i * 3 + 1, none⟩ = some (.slice (some ⟨g1, 0, none⟩) x.acc.length (x.acc.length + 3)) ∧ w.cell? ⟨g, i * 3 + 2, none⟩ = some (.slice (some ⟨g2, 0, none⟩) x.dat.length (x.dat.length + 3)) ∧
    Row w g1 5 (bv (x.acc ++ List.replicate 3 165)) ∧ Row w g2 5 (bv (x.dat ++ List.replicate 3 165))
def LooksT (w : World) (A : Option Addr) (l : List LLook) : Prop :=
  ∀ i x, l[i]? = some x → ∃ g g1 g2, A = some ⟨g, 0, none⟩ ∧ g < w.heap.size ∧ w.cell? ⟨g, i * 34 + 32, none⟩ = some (.slice (some ⟨g1, 0, none⟩) x.wr.length (x.wr.length + 3)) ∧ w.cell? ⟨g, i * 34 + 33, none⟩ = some (.slice (some ⟨g2, 0, none⟩) x.rd.length (x.rd.length + 3)) ∧
    Row w g1 5 (bv (x.wr ++ List.replicate 3 165)) ∧ Row w g2 5 (bv (x.rd ++ List.replicate 3 165))

/-- a message's twin -/
structure TwIn (w : World) (q : Raw) (m : LMsg) : Prop where
  msg : MsgIn w w.heap.size q m
  key : ∃ g, q.KA = some ⟨g, 0, none⟩ ∧ q.kc = q.kn + 3 ∧ Row w g 58 (bv m.keys.flatten ++ keyRow 3 mk0)
  ins : InsT w q.IA m.ins
  looks : LooksT w q.LA m.looks
section
variable {w w' : World} {q : Raw} {m : LMsg}
theorem InsT.below {A : Option Addr} {l : List LIn} (h : InsT w A l) (hb : Below w.heap.size w w') : InsT w' A l := fun i x hx => by
  obtain ⟨g, g1, g2, h1, h2, h3, h4, h5, h6⟩ := h i x hx
  exact ⟨g, g1, g2, h1, Nat.lt_of_lt_of_le h2 hb.size, (hb.cell (p := ⟨g, i * 3 + 1, none⟩) h2).trans h3, (hb.cell (p := ⟨g, i * 3 + 2, none⟩) h2).trans h4, h5.below hb h5.lt, h6.below hb h6.lt⟩
theorem LooksT.below {A : Option Addr} {l : List LLook} (h : LooksT w A l) (hb : Below w.heap.size w w') : LooksT w' A l := fun i x hx => by
  obtain ⟨g, g1, g2, h1, h2, h3, h4, h5, h6⟩ := h i x hx
  exact ⟨g, g1, g2, h1, Nat.lt_of_lt_of_le h2 hb.size, (hb.cell (p := ⟨g, i * 34 + 32, none⟩) h2).trans h3, (hb.cell (p := ⟨g, i * 34 + 33, none⟩) h2).trans h4, h5.below hb h5.lt, h6.below hb h6.lt⟩
theorem TwIn.below (h : TwIn w q m) (hb : Below w.heap.size w w') : TwIn w' q m := by
  obtain ⟨g, h1, h2, h3⟩ := h.key
  exact ⟨(h.msg.below hb).more hb.size, ⟨g, h1, h2, h3.below hb h3.lt⟩, h.ins.below hb, h.looks.below hb⟩
theorem InsT.drewN {A : Option Addr} {l : List LIn} (h : InsT w A l) (n : Nat) : InsT (w.drewN n) A l := h.below (below_drewN (Below.refl _ _) n)
theorem LooksT.drewN {A : Option Addr} {l : List LLook} (h : LooksT w A l) (n : Nat) : LooksT (w.drewN n) A l := h.below (below_drewN (Below.refl _ _) n)
theorem LVR.insT {lo hi : Nat} {A : Option Addr} {n c : Nat} {l : List LIn} (h : LVR InT 89 3 w lo hi (.slice A n c) l) (hhi : hi ≤ w.heap.size) : InsT w A l := fun i x hx => by
  obtain ⟨_, _, h3⟩ := h.at_ stays_inT (fun w lo hi cs x hx => by obtain ⟨_, _, _, rfl, _⟩ := hx; rfl)
  obtain ⟨g, cs, L, R, e, hg, hc, hL, hR, va, vd, mid, rfl, h4, h5, ⟨_, g1, rfl, _, _, r1⟩, ⟨_, g2, rfl, _, _, r2⟩⟩ := h3 i x hx
  exact ⟨g, g1, g2, e, by omega, hc 1 _ rfl, hc 2 _ rfl, r1, r2⟩
theorem LVR.looksT {lo hi : Nat} {A : Option Addr} {n c : Nat} {l : List LLook} (h : LVR LookT 93 34 w lo hi (.slice A n c) l) (hhi : hi ≤ w.heap.size) : LooksT w A l := fun i x hx => by
  obtain ⟨_, _, h3⟩ := h.at_ stays_lookT (fun w lo hi cs x hx => by obtain ⟨_, _, _, rfl, h, _⟩ := hx; simp [bv_length, h])
  obtain ⟨g, cs, L, R, e, hg, hc, hL, hR, va, vd, mid, rfl, h0, h4, h5, ⟨_, g1, rfl, _, _, r1⟩, ⟨_, g2, rfl, _, _, r2⟩⟩ := h3 i x hx
  exact ⟨g, g1, g2, e, by omega, hc 32 _ (by rw [List.getElem?_append_right (by rw [bv_length, h0]; exact Nat.le_refl _), bv_length, h0]; rfl), hc 33 _ (by rw [List.getElem?_append_right (by rw [bv_length, h0]; omega), bv_length, h0]; rfl), r1, r2⟩
end

/-- what TwinMessage leaves: a message of the call's own, and a twin -/
theorem TwinDone.parts {w w' : World} {q : Raw} {m : LMsg} {e : Ending} (h : TwinDone w q m e w') (h32 : m.recent.length = 32) (hs : m.keys.length ≤ 65535 ∧ m.ins.length ≤ 65535 ∧ m.looks.length ≤ 65535) :
    ∃ q' gk, e = .returned (.agg (q'.cells m).toArray) ∧ w.heap.size ≤ gk ∧ MsgV w' gk w'.heap.size q' m ∧ TwIn w' q' m ∧ Below w.heap.size w w' := by
  obtain ⟨gk, q', a1, b1, b2, rfl, e1, e2, e3, h1, h2, hr, h3, h4, h5, hk, hi, hl, hb⟩ := h
  have hv : MsgV w' gk w'.heap.size q' m := ⟨h32, hs, gk, a1, a1, b1, b1, b2, by omega, hk, hi.imp fun _ _ _ _ _ h => h.inV, hl.imp fun _ _ _ _ _ h => h.lookV⟩
  exact ⟨q', gk, rfl, h1, hv, ⟨hv.in_, ⟨gk, e1, by rw [e3, e2], hr⟩, hi.insT (by omega), hl.looksT (by omega)⟩, hb⟩

set_option maxRecDepth 100000 in
set_option maxHeartbeats 1000000 in
/-- LeftMessage -/
theorem leftMsg (q q' : Raw) (m : LMsg) (B : Nat) (w : World) (hT : TwIn w q' m) (h : MsgIn w B q m) (hB : B ≤ w.heap.size)
    (hk : m.keys.length ≤ 65535) (hi : m.ins.length ≤ 65535) (hl : m.looks.length ≤ 65535) (hix : ∀ i ∈ m.ins, i.acc.length ≤ 65535 ∧ i.dat.length ≤ 65535) (hlx : ∀ l ∈ m.looks, l.wr.length ≤ 65535 ∧ l.rd.length ≤ 65535) :
    Calls Try.prog 36 #[.agg (q'.cells m).toArray, .agg (q.cells m).toArray] w fun e w' => e = .returned (.bool true) ∧ Below w.heap.size w w' := by
  obtain ⟨KA, kn, kc, IA, n, ic, LA, ln, lc⟩ := q'
  obtain ⟨KB, kn', kd, IB, n', id, LB, ln', ld⟩ := q
  obtain ⟨e1, e2, e3⟩ := lens hT.msg h
  dsimp only at e1 e2 e3
  obtain rfl := e1.symm
  obtain rfl := e2.symm
  obtain rfl := e3.symm
  obtain ⟨gk, ek, ec, hrk⟩ := hT.key
  dsimp only at ek ec
  subst ek
  subst ec
  have hr0 := (Row.new w 31 (Raw.cells ⟨some ⟨gk, 0, none⟩, kn, kn + 3, IA, n, ic, LA, ln, lc⟩ m)).alloc (.cells (Raw.cells ⟨KB, kn, kd, IB, n, id, LB, ln, ld⟩ m).toArray 31)
  have hr1 : Row ((w.alloc (.cells (Raw.cells ⟨some ⟨gk, 0, none⟩, kn, kn + 3, IA, n, ic, LA, ln, lc⟩ m).toArray 31)).alloc (.cells (Raw.cells ⟨KB, kn, kd, IB, n, id, LB, ln, ld⟩ m).toArray 31)) (w.heap.size + 1) 31 (Raw.cells ⟨KB, kn, kd, IB, n, id, LB, ln, ld⟩ m) := by
    have := Row.new (w.alloc (.cells (Raw.cells ⟨some ⟨gk, 0, none⟩, kn, kn + 3, IA, n, ic, LA, ln, lc⟩ m).toArray 31)) 31 (Raw.cells ⟨KB, kn, kd, IB, n, id, LB, ln, ld⟩ m)
    simpa using this
  have hbw := (((Below.refl w.heap.size w).alloc (Nat.le_refl _) (.cells (Raw.cells ⟨some ⟨gk, 0, none⟩, kn, kn + 3, IA, n, ic, LA, ln, lc⟩ m).toArray 31)).alloc (by simp) (.cells (Raw.cells ⟨KB, kn, kd, IB, n, id, LB, ln, ld⟩ m).toArray 31))
  have hw := hT.below hbw
  have hw' : MsgIn _ B _ m := h.below (hbw.mono hB)
  have k1 := hT.msg.kn
  have k2 := hT.msg.n
  have k3 := hT.msg.ln
  have hkn := hT.msg.keys.len
  have hin := hT.msg.ins.len
  have hln := hT.msg.looks.len
  dsimp only at k1 k2 k3 hkn hin hln
  rw [hkn] at hk
  rw [hin] at hi
  rw [hln] at hl
  have hrec := h.recent
  have c4 : (Raw.cells ⟨some ⟨gk, 0, none⟩, kn, kn + 3, IA, n, ic, LA, ln, lc⟩ m)[4]? = some (.slice (some ⟨gk, 0, none⟩) kn (kn + 3)) := rfl
  have c37 : (Raw.cells ⟨some ⟨gk, 0, none⟩, kn, kn + 3, IA, n, ic, LA, ln, lc⟩ m)[37]? = some (.slice IA n ic) := cells_37 hrec
  have c38 : (Raw.cells ⟨some ⟨gk, 0, none⟩, kn, kn + 3, IA, n, ic, LA, ln, lc⟩ m)[38]? = some (.slice LA ln lc) := cells_38 hrec
  have d4 : (Raw.cells ⟨KB, kn, kd, IB, n, id, LB, ln, ld⟩ m)[4]? = some (.slice KB kn kd) := rfl
  have d37 : (Raw.cells ⟨KB, kn, kd, IB, n, id, LB, ln, ld⟩ m)[37]? = some (.slice IB n id) := cells_37 hrec
  have d38 : (Raw.cells ⟨KB, kn, kd, IB, n, id, LB, ln, ld⟩ m)[38]? = some (.slice LB ln ld) := cells_38 hrec
  have HSA := Lib.hid (show (Try.prog.info? 31).map (·.size) = some (Raw.cells ⟨some ⟨gk, 0, none⟩, kn, kn + 3, IA, n, ic, LA, ln, lc⟩ m).length by rw [size_msg, cells_len hrec])
  have HSB := Lib.hid (show (Try.prog.info? 31).map (·.size) = some (Raw.cells ⟨KB, kn, kd, IB, n, id, LB, ln, ld⟩ m).length by rw [size_msg, cells_len hrec])
  have HSM := Lib.hid (same_msg ⟨some ⟨gk, 0, none⟩, kn, kn + 3, IA, n, ic, LA, ln, lc⟩ ⟨KB, kn, kd, IB, n, id, LB, ln, ld⟩ m _ B _ hw.msg (Nat.le_refl _) hw' (Nat.le_trans hB hbw.size))
  have C4 := Lib.hid (And.intro c4 (And.intro c37 c38))
  have D4 := Lib.hid (And.intro d4 (And.intro d37 d38))
  clear c4 c37 c38 d4 d37 d38
  generalize Raw.cells ⟨some ⟨gk, 0, none⟩, kn, kn + 3, IA, n, ic, LA, ln, lc⟩ m = ca at *
  generalize Raw.cells ⟨KB, kn, kd, IB, n, id, LB, ln, ld⟩ m = cb at *
  have HR0 := Lib.hid hr0
  have HR1 := Lib.hid hr1
  have HB := Lib.hid hbw
  have HW := Lib.hid hw
  have HW' := Lib.hid hw'
  have HX := Lib.hid (And.intro hix hlx)
  unfold maxLen at k1 k2 k3
  clear hr0 hr1 hbw hw hw' h hT hrec hrk hix hlx hkn hin hln
  go_enter Try.func36, Try.ntmps36
  go_upto_region 1 with fail
  generalize (w.alloc (.cells ca.toArray 31)).alloc (.cells cb.toArray 31) = W at *
  go_wp2_with (first
    | ((with_reducible show wpList _ _ _ ({ dst := some 7, op := Op.load _ _, type := _, pos := _, after := _, guard := _ } :: _) _ _); go_must (refine wpList_load_whole rfl 31 (.tmp 2) rfl w.heap.size 31 ca _ Try.underlying31 rfl HSA.out HR0.out ?_ ?_; go_simp))
    | ((with_reducible show wpList _ _ _ ({ dst := some 8, op := Op.load _ _, type := _, pos := _, after := _, guard := _ } :: _) _ _); go_must (refine wpList_load_whole rfl 31 (.tmp 3) rfl (w.heap.size + 1) 31 cb _ Try.underlying31 rfl HSB.out HR1.out ?_ ?_; go_simp)))
  refine HSM.out.mono ?_
  rintro e w1 ⟨rfl, hb1⟩
  have hr0 := HR0.out.below hb1 HR0.out.lt
  have hr1 := HR1.out.below hb1 HR1.out.lt
  have g4 : w1.cell? ⟨w.heap.size, 4, none⟩ = some (.slice (some ⟨gk, 0, none⟩) kn (kn + 3)) := (hr0.cell 4).trans C4.out.1
  have g4' : w1.cell? ⟨w.heap.size + 1, 4, none⟩ = some (.slice KB kn kd) := (hr1.cell 4).trans D4.out.1
  have R0 := Lib.hid hr0
  have R1 := Lib.hid hr1
  have HB1 := Lib.hid hb1
  have hw1 := HW.out.below hb1
  have HW1 := Lib.hid hw1
  have hB1 : B ≤ W.heap.size := Nat.le_trans hB HB.out.size
  have HW1' := Lib.hid (HW'.out.below (hb1.mono hB1))
  obtain ⟨gk', ek, _, hrk⟩ := hw1.key
  dsimp only at ek
  cases ek
  have HLK := Lib.hid (leftKeys gk KB kn kd m.keys w1 B hrk HW1'.out.keys (Nat.le_trans hB1 hb1.size) (by omega))
  clear hr0 hr1 hb1 hw1 hrk HR0 HR1 HSM HW HW'
  go_wp2_with fail
  refine HLK.out.mono ?_
  rintro e w5 ⟨rfl, hb5⟩
  have hr5 := R0.out.below hb5 R0.out.lt
  have hr5' := R1.out.below hb5 R1.out.lt
  have g37 : w5.cell? ⟨w.heap.size, 37, none⟩ = some (.slice IA n ic) := (hr5.cell 37).trans C4.out.2.1
  have g38 : w5.cell? ⟨w.heap.size, 38, none⟩ = some (.slice LA ln lc) := (hr5.cell 38).trans C4.out.2.2
  have g37' : w5.cell? ⟨w.heap.size + 1, 37, none⟩ = some (.slice IB n id) := (hr5'.cell 37).trans D4.out.2.1
  have g38' : w5.cell? ⟨w.heap.size + 1, 38, none⟩ = some (.slice LB ln ld) := (hr5'.cell 38).trans D4.out.2.2
  have ht5 := HW1.out.below hb5
  have hm5 := HW1'.out.below (hb5.mono (Nat.le_trans hB1 HB1.out.size))
  have HI := Lib.hid ht5.ins
  have HI' := Lib.hid hm5.ins
  have HL := Lib.hid ht5.looks
  have HL' := Lib.hid hm5.looks
  have HB5 : Hid (Below w.heap.size w w5) := Lib.hid ((HB.out.trans (HB1.out.mono HB.out.size)).trans (hb5.mono (Nat.le_trans HB.out.size HB1.out.size)))
  have HE := Lib.hid (And.intro (show m.ins.length = n from ht5.msg.ins.len) (show m.looks.length = ln from ht5.msg.looks.len))
  clear hr5 hr5' ht5 hm5 hb5 g4 g4' C4 D4 HB HB1 HW1 HW1' HLK R0 R1
  go_wp2_with fail
  go_loopw [5] (fun i wr => ∃ k j : Nat, k ≤ n ∧ i = .int .i64 k ∧ wr = w5.drewN j) (fun i _ => n - (intOf i).toNat)
  case atStart => exact ⟨0, 0, Nat.zero_le _, rfl, rfl⟩
  case round =>
    obtain ⟨k, j, hk, rfl, rfl⟩ := hrel
    by_cases hlt : k < n
    · obtain ⟨b, y, vb, ve, rfl, hb, hyl, hyb⟩ := HI'.out.get hlt
      obtain ⟨g, g1, g2, rfl, hg, p1, p2, q1, q2⟩ := HI.out k y hyl
      have r1 : w5.cell? ⟨(b.add (k * 3)).block, (b.add (k * 3)).off + 1, none⟩ = some vb := hyb.cells 1 _ rfl
      have r2 : w5.cell? ⟨(b.add (k * 3)).block, (b.add (k * 3)).off + 2, none⟩ = some ve := hyb.cells 2 _ rfl
      have hyx := HX.out.1 y (List.mem_of_getElem? hyl)
      have sb := hyb.acc
      have se := hyb.dat
      obtain ⟨A3, m3, rfl, s3, s3a, s3b⟩ := sb.is
      obtain ⟨A4, m4, rfl, s4, s4a, s4b⟩ := se.is
      have T1 := Lib.hid (fun nn => leftBytes g1 A3 _ m3 y.acc (w5.drewN nn) B (q1.drewN nn) (s3.drewN nn) (by omega))
      have T2 := Lib.hid (fun nn => leftBytes g2 A4 _ m4 y.dat (w5.drewN nn) B (q2.drewN nn) (s4.drewN nn) (by omega))
      clear s3 s4 sb se hyl hyb q1 q2 hyx
      go_wp2_with fail
      refine wp_region_quiet_lit (by kernel_rfl) (by kernel_rfl) ?_
      repeat (go_big_quiet_step (first | (go_at_call 24; with_reducible refine quiet_more (T1.out _)) | (go_at_call 24; with_reducible refine quiet_more (T2.out _))))
      refine wpQuiet_nil ?_
      intro _ hwq
      obtain ⟨nq, hwq'⟩ := hwq
      subst hwq'
      go_wp2_with fail
      go_roundw
      case rel => exact ⟨k + 1, j + nq, by omega, by go_num, by simp⟩
      case measure => simp [intOf]; omega
    · go_wp2_with fail
      obtain ⟨w6, hw6⟩ : ∃ w6, w6 = w5.drewN j := ⟨_, rfl⟩
      have h38 : w6.cell? ⟨w.heap.size, 38, none⟩ = some (.slice LA ln lc) := by rw [hw6]; exact g38
      have h38' : w6.cell? ⟨w.heap.size + 1, 38, none⟩ = some (.slice LB ln ld) := by rw [hw6]; exact g38'
      have HL6 : Hid (LooksT w6 LA m.looks) := by rw [hw6]; exact Lib.hid (HL.out.drewN j)
      have HL6' : Hid (LooksIn w6 B LB ln m.looks) := by rw [hw6]; exact Lib.hid (HL'.out.keep fun p hp => rfl)
      have HB6 : Hid (Below w.heap.size w w6) := by rw [hw6]; exact Lib.hid (below_drewN HB5.out j)
      rw [← hw6]
      clear hw6 HL HL' HB5 g38 g38' HI HI' g37 g37'
      go_loopw [6] (fun i wr => ∃ k j : Nat, k ≤ ln ∧ i = .int .i64 k ∧ wr = w6.drewN j) (fun i _ => ln - (intOf i).toNat)
      case atStart => exact ⟨0, 0, Nat.zero_le _, rfl, rfl⟩
      case round =>
        obtain ⟨k, j, hk, rfl, rfl⟩ := hrel
        by_cases hlt : k < ln
        · obtain ⟨b, y, vb, ve, rfl, hb, hyl, hyb⟩ := HL6'.out.get hlt
          obtain ⟨g, g1, g2, rfl, hg, p1, p2, q1, q2⟩ := HL6.out k y hyl
          have r1 : w6.cell? ⟨(b.add (k * 34)).block, (b.add (k * 34)).off + 32, none⟩ = some vb := hyb.cell32
          have r2 : w6.cell? ⟨(b.add (k * 34)).block, (b.add (k * 34)).off + 33, none⟩ = some ve := hyb.cell33
          have hyx := HX.out.2 y (List.mem_of_getElem? hyl)
          have sb := hyb.wr
          have se := hyb.rd
          obtain ⟨A3, m3, rfl, s3, s3a, s3b⟩ := sb.is
          obtain ⟨A4, m4, rfl, s4, s4a, s4b⟩ := se.is
          have T1 := Lib.hid (fun nn => leftBytes g1 A3 _ m3 y.wr (w6.drewN nn) B (q1.drewN nn) (s3.drewN nn) (by omega))
          have T2 := Lib.hid (fun nn => leftBytes g2 A4 _ m4 y.rd (w6.drewN nn) B (q2.drewN nn) (s4.drewN nn) (by omega))
          clear s3 s4 sb se hyl hyb q1 q2 hyx
          go_wp2_with fail
          refine wp_region_quiet_lit (by kernel_rfl) (by kernel_rfl) ?_
          repeat (go_big_quiet_step (first | (go_at_call 24; with_reducible refine quiet_more (T1.out _)) | (go_at_call 24; with_reducible refine quiet_more (T2.out _))))
          refine wpQuiet_nil ?_
          intro _ hwq
          obtain ⟨nq, hwq'⟩ := hwq
          subst hwq'
          go_wp2_with fail
          go_roundw
          case rel => exact ⟨k + 1, j + nq, by omega, by go_num, by simp⟩
          case measure => simp [intOf]; omega
        · go_wp2_with fail
          go_ret
          exact ⟨rfl, below_drewN HB6.out j⟩
end Go.Proofs.Ytolijdbdpnbchaa
