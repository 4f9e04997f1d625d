/-
  Parts joined: LeftMsg GetN Tail Strays Example AppendN HoldWalk MoreWalk OtherMem Lives6 Known Bud8 Door8.
-/
import Derived.Below
import Derived.Laws.OwnMore
import Derived.Deep.AppendLies
import Derived.Deep.Draws
import Derived.Lib.Hide
import Derived.Laws.MakeOwn
import Derived.Laws.CopyOwn
import Derived.Laws.Rows
import Derived.Maps.AppendAt
import Derived.OwnWalk
import Derived.Laws.BitsAllLaws
import Derived.WalkKit
import Derived.Test.YtdeadehcnellpaaDoorRows
import Derived.WalkSpells
import Derived.WalkLawsBesides
import Derived.IntWalk
import Derived.Deep.MidRow
import Derived.Deep.WholeRow
import Derived.Great.BuildSlice
import Derived.Recover
import Derived.Deep.RegionHeld
import Derived.Deep.QuietTactic
import Derived.BigQuiet
import Derived.ChangeKeysEq
import Derived.Deep.RegionHeld2
import Derived.Deep.CutBlock
import Derived.Laws.Tables
import Derived.ProofKit
import Derived.OpenShut
import Derived.ShutString
import Derived.ChangeOld
import Derived.Lib.SmallJoins
import Derived.Deep.Slices
import Derived.Deep.Strs
import Derived.SizedLaws
import Derived.Laws.StructEq
import Derived.Deep.DeepCutAuto
import Derived.Laws.Slices
import Derived.Laws.EntriesVeiled
import Derived.Deep.RegionHeld3
import Derived.Maps.OwnSet
import Derived.DeepKeys4
import Derived.WideKeyArr
import Derived.WideKeyEntry
import Derived.Shelf.SlMaps.Clone
import Derived.LaidMore
import Derived.Test.YtdeadehcnellpaaDoorA1
import Derived.Test.YtdeadehcnellpaaDoorA2
import Derived.Test.YtdeadehcnellpaaDoorA3
/-
  Of part LeftMsg: what is needed here.
-/
namespace Go.Proofs.YtdeadehcnellpaaDoor
open Go.RowKit
set_option linter.unusedVariables false
/-- the elements of a twin, each with its two lists, their rooms too -/
def InsT (w : World) (A : Option Addr) (l : List LIn) : Prop :=
  ∀ i x, l[i]? = some x → ∃ g g1 g2, A = some ⟨g, 0, none⟩ ∧ g < w.heap.size ∧ w.cell? ⟨g, i * 3 + 1, none⟩ = some (.slice (some ⟨g1, 0, none⟩) x.acc.length (x.acc.length + 3)) ∧ w.cell? ⟨g, i * 3 + 2, none⟩ = some (.slice (some ⟨g2, 0, none⟩) x.dat.length (x.dat.length + 3)) ∧
    Row w g1 5 (bv (x.acc ++ List.replicate 3 165)) ∧ Row w g2 5 (bv (x.dat ++ List.replicate 3 165))
def LooksT (w : World) (A : Option Addr) (l : List LLook) : Prop :=
  ∀ i x, l[i]? = some x → ∃ g g1 g2, A = some ⟨g, 0, none⟩ ∧ g < w.heap.size ∧ w.cell? ⟨g, i * 34 + 32, none⟩ = some (.slice (some ⟨g1, 0, none⟩) x.wr.length (x.wr.length + 3)) ∧ w.cell? ⟨g, i * 34 + 33, none⟩ = some (.slice (some ⟨g2, 0, none⟩) x.rd.length (x.rd.length + 3)) ∧
    Row w g1 5 (bv (x.wr ++ List.replicate 3 165)) ∧ Row w g2 5 (bv (x.rd ++ List.replicate 3 165))
/-- a message's twin -/
structure TwIn (w : World) (q : Raw) (m : LMsg) : Prop where
  msg : MsgIn w w.heap.size q m
  key : ∃ g, q.KA = some ⟨g, 0, none⟩ ∧ q.kc = q.kn + 3 ∧ Row w g 48 (bv m.keys.flatten ++ keyRow 3 mk0)
  ins : InsT w q.IA m.ins
  looks : LooksT w q.LA m.looks
section
variable {w w' : World} {q : Raw} {m : LMsg}
theorem InsT.below {A : Option Addr} {l : List LIn} (h : InsT w A l) (hb : Below w.heap.size w w') : InsT w' A l := fun i x hx => by
  obtain ⟨g, g1, g2, h1, h2, h3, h4, h5, h6⟩ := h i x hx
  exact ⟨g, g1, g2, h1, Nat.lt_of_lt_of_le h2 hb.size, (hb.cell (p := ⟨g, i * 3 + 1, none⟩) h2).trans h3, (hb.cell (p := ⟨g, i * 3 + 2, none⟩) h2).trans h4, h5.below hb h5.lt, h6.below hb h6.lt⟩
theorem LooksT.below {A : Option Addr} {l : List LLook} (h : LooksT w A l) (hb : Below w.heap.size w w') : LooksT w' A l := fun i x hx => by
  obtain ⟨g, g1, g2, h1, h2, h3, h4, h5, h6⟩ := h i x hx
  exact ⟨g, g1, g2, h1, Nat.lt_of_lt_of_le h2 hb.size, (hb.cell (p := ⟨g, i * 34 + 32, none⟩) h2).trans h3, (hb.cell (p := ⟨g, i * 34 + 33, none⟩) h2).trans h4, h5.below hb h5.lt, h6.below hb h6.lt⟩
theorem TwIn.below (h : TwIn w q m) (hb : Below w.heap.size w w') : TwIn w' q m := by
  obtain ⟨g, h1, h2, h3⟩ := h.key
  exact ⟨(h.msg.below hb).more hb.size, ⟨g, h1, h2, h3.below hb h3.lt⟩, h.ins.below hb, h.looks.below hb⟩
theorem InsT.drewN {A : Option Addr} {l : List LIn} (h : InsT w A l) (n : Nat) : InsT (w.drewN n) A l := h.below (below_drewN (Below.refl _ _) n)
theorem LooksT.drewN {A : Option Addr} {l : List LLook} (h : LooksT w A l) (n : Nat) : LooksT (w.drewN n) A l := h.below (below_drewN (Below.refl _ _) n)
theorem LVR.insT {lo hi : Nat} {A : Option Addr} {n c : Nat} {l : List LIn} (h : LVR InT 45 3 w lo hi (.slice A n c) l) (hhi : hi ≤ w.heap.size) : InsT w A l := fun i x hx => by
  obtain ⟨_, _, h3⟩ := h.at_ stays_inT (fun w lo hi cs x hx => by obtain ⟨_, _, _, rfl, _⟩ := hx; rfl)
  obtain ⟨g, cs, L, R, e, hg, hc, hL, hR, va, vd, mid, rfl, h4, h5, ⟨_, g1, rfl, _, _, r1⟩, ⟨_, g2, rfl, _, _, r2⟩⟩ := h3 i x hx
  exact ⟨g, g1, g2, e, by omega, hc 1 _ rfl, hc 2 _ rfl, r1, r2⟩
theorem LVR.looksT {lo hi : Nat} {A : Option Addr} {n c : Nat} {l : List LLook} (h : LVR LookT 52 34 w lo hi (.slice A n c) l) (hhi : hi ≤ w.heap.size) : LooksT w A l := fun i x hx => by
  obtain ⟨_, _, h3⟩ := h.at_ stays_lookT (fun w lo hi cs x hx => by obtain ⟨_, _, _, rfl, h, _⟩ := hx; simp [bv_length, h])
  obtain ⟨g, cs, L, R, e, hg, hc, hL, hR, va, vd, mid, rfl, h0, h4, h5, ⟨_, g1, rfl, _, _, r1⟩, ⟨_, g2, rfl, _, _, r2⟩⟩ := h3 i x hx
  exact ⟨g, g1, g2, e, by omega, hc 32 _ (by rw [List.getElem?_append_right (by rw [bv_length, h0]; exact Nat.le_refl _), bv_length, h0]; rfl), hc 33 _ (by rw [List.getElem?_append_right (by rw [bv_length, h0]; omega), bv_length, h0]; rfl), r1, r2⟩
end
/-- what TwinMessage leaves: a message of the call's own, and a twin -/
theorem TwinDone.parts {w w' : World} {q : Raw} {m : LMsg} {e : Ending} (h : TwinDone w q m e w') (h32 : m.recent.length = 32) (hs : m.keys.length ≤ 65535 ∧ m.ins.length ≤ 65535 ∧ m.looks.length ≤ 65535) :
    ∃ q' gk, e = .returned (.agg (q'.cells m).toArray) ∧ w.heap.size ≤ gk ∧ MsgV w' gk w'.heap.size q' m ∧ TwIn w' q' m ∧ Below w.heap.size w w' := by
  obtain ⟨gk, q', a1, b1, b2, rfl, e1, e2, e3, h1, h2, hr, h3, h4, h5, hk, hi, hl, hb⟩ := h
  have hv : MsgV w' gk w'.heap.size q' m := ⟨h32, hs, gk, a1, a1, b1, b1, b2, by omega, hk, hi.imp fun _ _ _ _ _ h => h.inV, hl.imp fun _ _ _ _ _ h => h.lookV⟩
  exact ⟨q', gk, rfl, h1, hv, ⟨hv.in_, ⟨gk, e1, by rw [e3, e2], hr⟩, hi.insT (by omega), hl.looksT (by omega)⟩, hb⟩
set_option maxRecDepth 100000 in
set_option maxHeartbeats 1000000 in
/-- LeftMessage -/
theorem leftMsg (q q' : Raw) (m : LMsg) (B : Nat) (w : World) (hT : TwIn w q' m) (h : MsgIn w B q m) (hB : B ≤ w.heap.size)
    (hk : m.keys.length ≤ 65535) (hi : m.ins.length ≤ 65535) (hl : m.looks.length ≤ 65535) (hix : ∀ i ∈ m.ins, i.acc.length ≤ 65535 ∧ i.dat.length ≤ 65535) (hlx : ∀ l ∈ m.looks, l.wr.length ≤ 65535 ∧ l.rd.length ≤ 65535) :
    Calls Tryd.prog 12 #[.agg (q'.cells m).toArray, .agg (q.cells m).toArray] w fun e w' => e = .returned (.bool true) ∧ Below w.heap.size w w' := by
  obtain ⟨KA, kn, kc, IA, n, ic, LA, ln, lc⟩ := q'
  obtain ⟨KB, kn', kd, IB, n', id, LB, ln', ld⟩ := q
  obtain ⟨e1, e2, e3⟩ := lens hT.msg h
  dsimp only at e1 e2 e3
  obtain rfl := e1.symm
  obtain rfl := e2.symm
  obtain rfl := e3.symm
  obtain ⟨gk, ek, ec, hrk⟩ := hT.key
  dsimp only at ek ec
  subst ek
  subst ec
  have hr0 := (Row.new w 30 (Raw.cells ⟨some ⟨gk, 0, none⟩, kn, kn + 3, IA, n, ic, LA, ln, lc⟩ m)).alloc (.cells (Raw.cells ⟨KB, kn, kd, IB, n, id, LB, ln, ld⟩ m).toArray 30)
  have hr1 : Row ((w.alloc (.cells (Raw.cells ⟨some ⟨gk, 0, none⟩, kn, kn + 3, IA, n, ic, LA, ln, lc⟩ m).toArray 30)).alloc (.cells (Raw.cells ⟨KB, kn, kd, IB, n, id, LB, ln, ld⟩ m).toArray 30)) (w.heap.size + 1) 30 (Raw.cells ⟨KB, kn, kd, IB, n, id, LB, ln, ld⟩ m) := by
    have := Row.new (w.alloc (.cells (Raw.cells ⟨some ⟨gk, 0, none⟩, kn, kn + 3, IA, n, ic, LA, ln, lc⟩ m).toArray 30)) 30 (Raw.cells ⟨KB, kn, kd, IB, n, id, LB, ln, ld⟩ m)
    simpa using this
  have hbw := (((Below.refl w.heap.size w).alloc (Nat.le_refl _) (.cells (Raw.cells ⟨some ⟨gk, 0, none⟩, kn, kn + 3, IA, n, ic, LA, ln, lc⟩ m).toArray 30)).alloc (by simp) (.cells (Raw.cells ⟨KB, kn, kd, IB, n, id, LB, ln, ld⟩ m).toArray 30))
  have hw := hT.below hbw
  have hw' : MsgIn _ B _ m := h.below (hbw.mono hB)
  have k1 := hT.msg.kn
  have k2 := hT.msg.n
  have k3 := hT.msg.ln
  have hkn := hT.msg.keys.len
  have hin := hT.msg.ins.len
  have hln := hT.msg.looks.len
  dsimp only at k1 k2 k3 hkn hin hln
  rw [hkn] at hk
  rw [hin] at hi
  rw [hln] at hl
  have hrec := h.recent
  have c4 : (Raw.cells ⟨some ⟨gk, 0, none⟩, kn, kn + 3, IA, n, ic, LA, ln, lc⟩ m)[4]? = some (.slice (some ⟨gk, 0, none⟩) kn (kn + 3)) := rfl
  have c37 : (Raw.cells ⟨some ⟨gk, 0, none⟩, kn, kn + 3, IA, n, ic, LA, ln, lc⟩ m)[37]? = some (.slice IA n ic) := cells_37 hrec
  have c38 : (Raw.cells ⟨some ⟨gk, 0, none⟩, kn, kn + 3, IA, n, ic, LA, ln, lc⟩ m)[38]? = some (.slice LA ln lc) := cells_38 hrec
  have d4 : (Raw.cells ⟨KB, kn, kd, IB, n, id, LB, ln, ld⟩ m)[4]? = some (.slice KB kn kd) := rfl
  have d37 : (Raw.cells ⟨KB, kn, kd, IB, n, id, LB, ln, ld⟩ m)[37]? = some (.slice IB n id) := cells_37 hrec
  have d38 : (Raw.cells ⟨KB, kn, kd, IB, n, id, LB, ln, ld⟩ m)[38]? = some (.slice LB ln ld) := cells_38 hrec
  have HSA := Lib.hid (show (Tryd.prog.info? 30).map (·.size) = some (Raw.cells ⟨some ⟨gk, 0, none⟩, kn, kn + 3, IA, n, ic, LA, ln, lc⟩ m).length by rw [size_msg, cells_len hrec])
  have HSB := Lib.hid (show (Tryd.prog.info? 30).map (·.size) = some (Raw.cells ⟨KB, kn, kd, IB, n, id, LB, ln, ld⟩ m).length by rw [size_msg, cells_len hrec])
  have HSM := Lib.hid (same_msg ⟨some ⟨gk, 0, none⟩, kn, kn + 3, IA, n, ic, LA, ln, lc⟩ ⟨KB, kn, kd, IB, n, id, LB, ln, ld⟩ m _ B _ hw.msg (Nat.le_refl _) hw' (Nat.le_trans hB hbw.size))
  have C4 := Lib.hid (And.intro c4 (And.intro c37 c38))
  have D4 := Lib.hid (And.intro d4 (And.intro d37 d38))
  clear c4 c37 c38 d4 d37 d38
  generalize Raw.cells ⟨some ⟨gk, 0, none⟩, kn, kn + 3, IA, n, ic, LA, ln, lc⟩ m = ca at *
  generalize Raw.cells ⟨KB, kn, kd, IB, n, id, LB, ln, ld⟩ m = cb at *
  have HR0 := Lib.hid hr0
  have HR1 := Lib.hid hr1
  have HB := Lib.hid hbw
  have HW := Lib.hid hw
  have HW' := Lib.hid hw'
  have HX := Lib.hid (And.intro hix hlx)
  unfold maxLen at k1 k2 k3
  clear hr0 hr1 hbw hw hw' h hT hrec hrk hix hlx hkn hin hln
  go_enter Tryd.func12, Tryd.ntmps12
  go_upto_region 1 with fail
  generalize (w.alloc (.cells ca.toArray 30)).alloc (.cells cb.toArray 30) = W at *
  go_wp2_with (first
    | ((with_reducible show wpList _ _ _ ({ dst := some 7, op := Op.load _ _, type := _, pos := _, after := _, guard := _ } :: _) _ _); go_must (refine wpList_load_whole rfl 30 (.tmp 2) rfl w.heap.size 30 ca _ Tryd.underlying30 rfl HSA.out HR0.out ?_ ?_; go_simp))
    | ((with_reducible show wpList _ _ _ ({ dst := some 8, op := Op.load _ _, type := _, pos := _, after := _, guard := _ } :: _) _ _); go_must (refine wpList_load_whole rfl 30 (.tmp 3) rfl (w.heap.size + 1) 30 cb _ Tryd.underlying30 rfl HSB.out HR1.out ?_ ?_; go_simp)))
  refine HSM.out.mono ?_
  rintro e w1 ⟨rfl, hb1⟩
  have hr0 := HR0.out.below hb1 HR0.out.lt
  have hr1 := HR1.out.below hb1 HR1.out.lt
  have g4 : w1.cell? ⟨w.heap.size, 4, none⟩ = some (.slice (some ⟨gk, 0, none⟩) kn (kn + 3)) := (hr0.cell 4).trans C4.out.1
  have g4' : w1.cell? ⟨w.heap.size + 1, 4, none⟩ = some (.slice KB kn kd) := (hr1.cell 4).trans D4.out.1
  have R0 := Lib.hid hr0
  have R1 := Lib.hid hr1
  have HB1 := Lib.hid hb1
  have hw1 := HW.out.below hb1
  have HW1 := Lib.hid hw1
  have hB1 : B ≤ W.heap.size := Nat.le_trans hB HB.out.size
  have HW1' := Lib.hid (HW'.out.below (hb1.mono hB1))
  obtain ⟨gk', ek, _, hrk⟩ := hw1.key
  dsimp only at ek
  cases ek
  have HLK := Lib.hid (leftKeys gk KB kn kd m.keys w1 B hrk HW1'.out.keys (Nat.le_trans hB1 hb1.size) (by omega))
  clear hr0 hr1 hb1 hw1 hrk HR0 HR1 HSM HW HW'
  go_wp2_with fail
  refine HLK.out.mono ?_
  rintro e w5 ⟨rfl, hb5⟩
  have hr5 := R0.out.below hb5 R0.out.lt
  have hr5' := R1.out.below hb5 R1.out.lt
  have g37 : w5.cell? ⟨w.heap.size, 37, none⟩ = some (.slice IA n ic) := (hr5.cell 37).trans C4.out.2.1
  have g38 : w5.cell? ⟨w.heap.size, 38, none⟩ = some (.slice LA ln lc) := (hr5.cell 38).trans C4.out.2.2
  have g37' : w5.cell? ⟨w.heap.size + 1, 37, none⟩ = some (.slice IB n id) := (hr5'.cell 37).trans D4.out.2.1
  have g38' : w5.cell? ⟨w.heap.size + 1, 38, none⟩ = some (.slice LB ln ld) := (hr5'.cell 38).trans D4.out.2.2
  have ht5 := HW1.out.below hb5
  have hm5 := HW1'.out.below (hb5.mono (Nat.le_trans hB1 HB1.out.size))
  have HI := Lib.hid ht5.ins
  have HI' := Lib.hid hm5.ins
  have HL := Lib.hid ht5.looks
  have HL' := Lib.hid hm5.looks
  have HB5 : Hid (Below w.heap.size w w5) := Lib.hid ((HB.out.trans (HB1.out.mono HB.out.size)).trans (hb5.mono (Nat.le_trans HB.out.size HB1.out.size)))
  have HE := Lib.hid (And.intro (show m.ins.length = n from ht5.msg.ins.len) (show m.looks.length = ln from ht5.msg.looks.len))
  clear hr5 hr5' ht5 hm5 hb5 g4 g4' C4 D4 HB HB1 HW1 HW1' HLK R0 R1
  go_wp2_with fail
  go_loopw [5] (fun i wr => ∃ k j : Nat, k ≤ n ∧ i = .int .i64 k ∧ wr = w5.drewN j) (fun i _ => n - (intOf i).toNat)
  case atStart => exact ⟨0, 0, Nat.zero_le _, rfl, rfl⟩
  case round =>
    obtain ⟨k, j, hk, rfl, rfl⟩ := hrel
    by_cases hlt : k < n
    · obtain ⟨b, y, vb, ve, rfl, hb, hyl, hyb⟩ := HI'.out.get hlt
      obtain ⟨g, g1, g2, rfl, hg, p1, p2, q1, q2⟩ := HI.out k y hyl
      have r1 : w5.cell? ⟨(b.add (k * 3)).block, (b.add (k * 3)).off + 1, none⟩ = some vb := hyb.cells 1 _ rfl
      have r2 : w5.cell? ⟨(b.add (k * 3)).block, (b.add (k * 3)).off + 2, none⟩ = some ve := hyb.cells 2 _ rfl
      have hyx := HX.out.1 y (List.mem_of_getElem? hyl)
      have sb := hyb.acc
      have se := hyb.dat
      obtain ⟨A3, m3, rfl, s3, s3a, s3b⟩ := sb.is
      obtain ⟨A4, m4, rfl, s4, s4a, s4b⟩ := se.is
      have T1 := Lib.hid (fun nn => leftBytes g1 A3 _ m3 y.acc (w5.drewN nn) B (q1.drewN nn) (s3.drewN nn) (by omega))
      have T2 := Lib.hid (fun nn => leftBytes g2 A4 _ m4 y.dat (w5.drewN nn) B (q2.drewN nn) (s4.drewN nn) (by omega))
      clear s3 s4 sb se hyl hyb q1 q2 hyx
      go_wp2_with fail
      refine wp_region_quiet_lit (by kernel_rfl) (by kernel_rfl) ?_
      repeat (go_big_quiet_step (first | (go_at_call 25; with_reducible refine quiet_more (T1.out _)) | (go_at_call 25; with_reducible refine quiet_more (T2.out _))))
      refine wpQuiet_nil ?_
      intro _ hwq
      obtain ⟨nq, hwq'⟩ := hwq
      subst hwq'
      go_wp2_with fail
      go_roundw
      case rel => exact ⟨k + 1, j + nq, by omega, by go_num, by simp⟩
      case measure => simp [intOf]; omega
    · go_wp2_with fail
      obtain ⟨w6, hw6⟩ : ∃ w6, w6 = w5.drewN j := ⟨_, rfl⟩
      have h38 : w6.cell? ⟨w.heap.size, 38, none⟩ = some (.slice LA ln lc) := by rw [hw6]; exact g38
      have h38' : w6.cell? ⟨w.heap.size + 1, 38, none⟩ = some (.slice LB ln ld) := by rw [hw6]; exact g38'
      have HL6 : Hid (LooksT w6 LA m.looks) := by rw [hw6]; exact Lib.hid (HL.out.drewN j)
      have HL6' : Hid (LooksIn w6 B LB ln m.looks) := by rw [hw6]; exact Lib.hid (HL'.out.keep fun p hp => rfl)
      have HB6 : Hid (Below w.heap.size w w6) := by rw [hw6]; exact Lib.hid (below_drewN HB5.out j)
      rw [← hw6]
      clear hw6 HL HL' HB5 g38 g38' HI HI' g37 g37'
      go_loopw [6] (fun i wr => ∃ k j : Nat, k ≤ ln ∧ i = .int .i64 k ∧ wr = w6.drewN j) (fun i _ => ln - (intOf i).toNat)
      case atStart => exact ⟨0, 0, Nat.zero_le _, rfl, rfl⟩
      case round =>
        obtain ⟨k, j, hk, rfl, rfl⟩ := hrel
        by_cases hlt : k < ln
        · obtain ⟨b, y, vb, ve, rfl, hb, hyl, hyb⟩ := HL6'.out.get hlt
          obtain ⟨g, g1, g2, rfl, hg, p1, p2, q1, q2⟩ := HL6.out k y hyl
          have r1 : w6.cell? ⟨(b.add (k * 34)).block, (b.add (k * 34)).off + 32, none⟩ = some vb := hyb.cell32
          have r2 : w6.cell? ⟨(b.add (k * 34)).block, (b.add (k * 34)).off + 33, none⟩ = some ve := hyb.cell33
          have hyx := HX.out.2 y (List.mem_of_getElem? hyl)
          have sb := hyb.wr
          have se := hyb.rd
          obtain ⟨A3, m3, rfl, s3, s3a, s3b⟩ := sb.is
          obtain ⟨A4, m4, rfl, s4, s4a, s4b⟩ := se.is
          have T1 := Lib.hid (fun nn => leftBytes g1 A3 _ m3 y.wr (w6.drewN nn) B (q1.drewN nn) (s3.drewN nn) (by omega))
          have T2 := Lib.hid (fun nn => leftBytes g2 A4 _ m4 y.rd (w6.drewN nn) B (q2.drewN nn) (s4.drewN nn) (by omega))
          clear s3 s4 sb se hyl hyb q1 q2 hyx
          go_wp2_with fail
          refine wp_region_quiet_lit (by kernel_rfl) (by kernel_rfl) ?_
          repeat (go_big_quiet_step (first | (go_at_call 25; with_reducible refine quiet_more (T1.out _)) | (go_at_call 25; with_reducible refine quiet_more (T2.out _))))
          refine wpQuiet_nil ?_
          intro _ hwq
          obtain ⟨nq, hwq'⟩ := hwq
          subst hwq'
          go_wp2_with fail
          go_roundw
          case rel => exact ⟨k + 1, j + nq, by omega, by go_num, by simp⟩
          case measure => simp [intOf]; omega
        · go_wp2_with fail
          go_ret
          exact ⟨rfl, below_drewN HB6.out j⟩
end Go.Proofs.YtdeadehcnellpaaDoor

/-
  Of part GetN: what is needed here.
-/
namespace Go.Proofs.YtdeadehcnellpaaDoor
open Go.RowKit
set_option linter.unusedVariables false
/-- the number that the first k bytes are, the lowest first -/
def num : List Int → Nat → Int
  | _, 0 => 0
  | zs, k + 1 => num zs k + zs.getD k 0 * 256 ^ k
theorem num_bound (zs : List Int) (hb : Bytes zs) (k : Nat) : 0 ≤ num zs k ∧ num zs k < 256 ^ k := by
  induction k with
  | zero => simp [num]
  | succ k ih =>
    have h := hb k
    have e : (256 : Int) ^ (k + 1) = 256 ^ k * 256 := Int.pow_succ ..
    have hp : (0 : Int) < 256 ^ k := Int.pow_pos (by omega)
    simp only [num]
    rw [e]
    have h1 : 0 ≤ zs.getD k 0 * 256 ^ k := Int.mul_nonneg h.1 (by omega)
    have h2 : zs.getD k 0 * 256 ^ k ≤ 255 * 256 ^ k := Int.mul_le_mul_of_nonneg_right (by omega) (by omega)
    omega
theorem num_shift (zs : List Int) (k : Nat) : num zs (k + 1) = zs.getD 0 0 + 256 * num (zs.drop 1) k := by
  induction k with
  | zero => simp [num]
  | succ k ih =>
    rw [num, ih, num]
    have : (zs.drop 1).getD k 0 = zs.getD (k + 1) 0 := by simp [List.getD_eq_getElem?_getD]
    rw [this, Int.pow_succ, Int.mul_add, Int.add_assoc]
    congr 2
    rw [Int.mul_comm (256 ^ k) 256, ← Int.mul_assoc, ← Int.mul_assoc, Int.mul_comm 256]
theorem u64_in (x : Int) (h0 : 0 ≤ x) (h1 : x < 18446744073709551616) : IntKind.u64.wrap x = x := by rw [IntKind.wrap_u64]; omega
theorem num_step (zs : List Int) (hb : Bytes zs) (k : Nat) (hk : k < 8) :
    bits .or .u64 (num zs k) (IntKind.u64.wrap (IntKind.u64.wrap (zs.getD k 0) * 2 ^ (8 * k))) = num zs (k + 1) := by
  have h := hb k
  have hn := num_bound zs hb k
  simp only [num]
  generalize zs.getD k 0 = z at *
  generalize num zs k = p at *
  rw [u64_in z h.1 (by omega)]
  have key : ∀ e : Nat, e < 64 → (256 : Int) ^ k = 2 ^ e → 8 * k = e → bits .or .u64 p (IntKind.u64.wrap (z * 2 ^ (8 * k))) = p + z * 256 ^ k := by
    rintro e he h2 rfl
    have hp : (0 : Int) < 2 ^ (8 * k) := Int.pow_pos (by omega)
    have hz0 : 0 ≤ z * 2 ^ (8 * k) := Int.mul_nonneg h.1 (by omega)
    have hz1 : z * 2 ^ (8 * k) < 18446744073709551616 := by
      have h3 : z * 2 ^ (8 * k) ≤ 255 * 2 ^ (8 * k) := Int.mul_le_mul_of_nonneg_right (by omega) (by omega)
      have h4 : (2 : Int) ^ (8 * k) ≤ 2 ^ 56 := by exact_mod_cast Nat.pow_le_pow_right (by omega) (by omega)
      omega
    have hp1 : p < 18446744073709551616 := by
      have h4 : (2 : Int) ^ (8 * k) ≤ 2 ^ 56 := by exact_mod_cast Nat.pow_le_pow_right (by omega) (by omega)
      omega
    rw [u64_in _ hz0 hz1, u64_or_lo (8 * k) p _ hn.1 (by omega) hz0 (Int.mul_emod_left ..) hp1 hz1, h2]
  refine key (8 * k) (by omega) ?_ rfl
  rw [Int.pow_mul]; rfl
/-- what Get answers -/
def getN (zs : List Int) (many : Int) : Int × Int :=
  if many < 1 ∨ 8 < many then (0, 1) else if (zs.length : Int) < many then (0, 5) else (num zs many.toNat, 0)
set_option maxHeartbeats 400000 in
theorem fits_yes (m : Int) (w : World) (h0 : 1 ≤ m) (h1 : m ≤ 8) : Calls Tryd.prog 35 #[.int .i64 m] w fun e w' => e = .returned (.bool true) ∧ w = w' := by
  go_enter Tryd.func35, Tryd.ntmps35
  go_wp2
  go_ret
  exact ⟨rfl, rfl⟩
set_option maxHeartbeats 400000 in
theorem fits_no (m : Int) (w : World) (h : m < 1 ∨ 8 < m) : Calls Tryd.prog 35 #[.int .i64 m] w fun e w' => e = .returned (.bool false) ∧ w = w' := by
  rcases h with h | h
  · go_enter Tryd.func35, Tryd.ntmps35
    go_wp2
    go_ret
    exact ⟨rfl, rfl⟩
  · have h2 : 1 ≤ m := by omega
    have h3 : decide (m ≤ 8) = false := by simp; omega
    go_enter Tryd.func35, Tryd.ntmps35
    go_wp2
    go_ret
    exact ⟨rfl, rfl⟩
set_option maxHeartbeats 400000 in
theorem getMany (A : Option Addr) (n c : Nat) (zs : List Int) (m : Int) (w : World) (S : Nat)
    (hx : Sees w S A n (bv zs)) (hn : n ≤ maxLen) (hb : Bytes zs) :
    Calls Tryd.prog 29 #[.slice A n c, .int .i64 m] w fun e w' => e = .returned (.tuple #[.int .u64 (getN zs m).1, .int .i64 (getN zs m).2]) ∧ w = w' := by
  unfold maxLen at hn
  have lx := Lib.hid (show zs.length = n by have := hx.len; rwa [bv_length] at this)
  by_cases hm : m < 1 ∨ 8 < m
  · have hg : getN zs m = (0, 1) := by simp [getN, hm]
    have HG := Lib.hid hg
    have HM := Lib.hid (fits_no m w hm)
    clear hg hm
    go_enter Tryd.func29, Tryd.ntmps29
    go_wp2_with fail
    refine HM.out.mono ?_
    rintro e w1 ⟨rfl, rfl⟩
    go_wp2
    go_ret2
    exact ⟨tup2_of HG.out, rfl⟩
  · have HF := Lib.hid (fits_yes m w (by omega) (by omega))
    by_cases hl : (n : Int) < m
    · have hg : getN zs m = (0, 5) := by simp [getN, hm]; rw [lx.out]; exact hl
      have HG := Lib.hid hg
      clear hg hm
      go_enter Tryd.func29, Tryd.ntmps29
      go_wp2_with fail
      refine HF.out.mono ?_
      rintro e w1 ⟨rfl, rfl⟩
      go_wp2
      go_ret2
      exact ⟨tup2_of HG.out, rfl⟩
    · obtain ⟨mm, rfl⟩ := Int.eq_ofNat_of_zero_le (show 0 ≤ m by omega)
      have hg : getN zs mm = (num zs mm, 0) := by simp [getN, hm]; rw [lx.out]; omega
      have hm8 : mm ≤ 8 := by omega
      have hm1 : 1 ≤ mm := by omega
      have hmn : mm ≤ n := by omega
      have HG := Lib.hid hg
      clear hg hm hl
      go_enter Tryd.func29, Tryd.ntmps29
      go_wp2_with fail
      refine HF.out.mono ?_
      rintro e w1 ⟨rfl, rfl⟩
      go_wp2
      go_loop [6, 7, 16] (fun v _ i => ∃ (k : Nat), k ≤ mm ∧ i = .int .i64 k ∧ v = .int .u64 (num zs k)) (fun _ _ i => mm - (intOf i).toNat)
      case atStart => exact ⟨0, Nat.zero_le _, rfl, rfl⟩
      case round =>
        obtain ⟨k, hk, rfl, rfl⟩ := hrel
        by_cases hlt : k < mm
        · obtain ⟨a, rfl, ha, hca⟩ := hx.byte (k := k) (by omega)
          have HS := Lib.hid (num_step zs hb k (by omega))
          generalize zs.getD k 0 = z at *
          go_wp2
          go_round
          case rel => exact ⟨k + 1, by omega, by go_num, by rw [HS.out]⟩
          case measure => simp [intOf]; omega
        · have HK := Lib.hid (show k = mm by omega)
          go_wp2
          go_ret2
          exact ⟨tup2_of (by rw [HG.out, HK.out]), rfl⟩
end Go.Proofs.YtdeadehcnellpaaDoor

/-
  Of part Tail: what is needed here.
-/
namespace Go.Proofs.YtdeadehcnellpaaDoor
open Go.RowKit
set_option linter.unusedVariables false
section
variable {P : Program} {w : World} {o : Oper} {a : Act}
/-- where what is left of a list begins -/
def tailAt (A : Option Addr) (c k : Nat) : Option Addr := if c = k then A else A.map (·.add k)
theorem Sees.tail {B : Nat} {A : Option Addr} {n c k : Nat} {xs : List Value} (h : Sees w B A n xs) (hk : k ≤ n) (hn : n ≤ c) : Sees w B (tailAt A c k) (n - k) (xs.drop k) := by
  refine ⟨by rw [List.length_drop, h.len], fun j u hu => ?_⟩
  rw [List.getElem?_drop] at hu
  obtain ⟨ad, rfl, hb, hc⟩ := h.cell _ u hu
  have h1 := (List.getElem?_eq_some_iff.1 hu).1
  have h2 := h.len
  refine ⟨ad.add k, by unfold tailAt; rw [if_neg (by omega)]; rfl, by rw [addr_block]; exact hb, by rw [addr_add]; exact hc⟩
theorem run_tail (t e : TypeId) (x i : Operand) (ho : o.op = .slice t x (some i) none none) (ht : P.underlying t = some (.slice e)) (hsz : (P.info? e).map (·.size) = some 1)
    (A : Option Addr) (n c k : Nat) (hx : a.eval x = .slice A n c) (hi : a.eval i = .int .i64 k) (hk : k ≤ n) (hn : n ≤ c) (hc : c ≤ maxLen) :
    (execOp a.eval o).run P w = .ok (.value (.slice (tailAt A c k) (n - k) (c - k))) w := by
  unfold maxLen at hc
  obtain ⟨ie, hie, hs1⟩ : ∃ i, P.info? e = some i ∧ i.size = 1 := by
    cases h : P.info? e with
    | none => rw [h] at hsz; cases hsz
    | some i => rw [h] at hsz; exact ⟨i, rfl, by simpa using hsz⟩
  have he : P.elem t = e := by simp [Program.elem, ht]
  have ht' : P.underlying t = some (.slice (P.elem t)) := by rw [he]; exact ht
  have hso : (sizeOf e).run P w = .ok 1 w := by simp [sizeOf, typeInfo, hie, hs1]
  have h1 : (0 : Int) ≤ k := by omega
  have h2 : (k : Int) ≤ n := by omega
  unfold execOp
  simp only [ho, hx, hi, Option.map_some, Option.map_none]
  simp only [Sem.run_bind, run_sliceAt_slice w t _ _ _ _ ht', run_slice_l w t A n c ht' .i64 k h1 h2, he, hso, Result.andThen_ok, sliced, tailAt, Int.toNat_natCast, Nat.mul_one, Sem.run_pure]
theorem wpList_tail {ops : Array Oper} {rest : List Oper} {Q : Exit → Act → World → Prop} (hgd : o.guard = none) (t e : TypeId) (x i : Operand) (ho : o.op = .slice t x (some i) none none) (ht : P.underlying t = some (.slice e)) (hsz : (P.info? e).map (·.size) = some 1)
    (A : Option Addr) (n c k : Nat) (hx : a.eval x = .slice A n c) (hi : a.eval i = .int .i64 k) (hk : k ≤ n) (hn : n ≤ c) (hc : c ≤ maxLen)
    (h : wpList P ops Q rest (a.put o.dst (.slice (tailAt A c k) (n - k) (c - k))) w) : wpList P ops Q (o :: rest) a w :=
  wpList_plain hgd fun K hK => by
    unfold Oper.wp
    rw [run_tail t e x i ho ht hsz A n c k hx hi hk hn hc]
    exact hK _ _ h
end
end Go.Proofs.YtdeadehcnellpaaDoor

/-
  Of part Strays: what is needed here.
-/
namespace Go.Proofs.YtdeadehcnellpaaDoor
open Go.RowKit
set_option linter.unusedVariables false
theorem told_bool {p q : Bool} (h : p = q) : Ending.returned (.bool p) = .returned (.bool q) := by rw [h]
end Go.Proofs.YtdeadehcnellpaaDoor

/-
  Of part Example: what is needed here.
-/
namespace Go.Proofs.YtdeadehcnellpaaDoor
open Go.RowKit
set_option linter.unusedVariables false
def xk (a : Int) : List Int := a :: List.replicate 31 0
section
variable {P : Program}
/-- a slice literal of two elements of many cells -/
theorem wpList_buildTwo {ops : Array Oper} {rest : List Oper} {o : Oper} {a : Act} {w : World} {Q : Exit → Act → World → Prop} (hg : o.guard = none) (t e : TypeId) (y y' : Operand) (ho : o.op = .buildSlice t 2 #[(0, y), (1, y')])
    (cs cs' : List Value) (z : Value) (size bytes : Nat) (hu : P.underlying t = some (.slice e)) (hi : (P.info? e).map (fun i => (i.zero, i.size, i.bytes)) = some (some z, size, bytes)) (hzs : z.cells.size = size) (hs0 : 0 < size) (hs1 : size ≤ 1000)
    (hcs : cs.length = size) (hcs' : cs'.length = size) (hy : a.eval y = .agg cs.toArray) (hy' : a.eval y' = .agg cs'.toArray)
    (h : wpList P ops Q rest (a.put o.dst (.slice (some ⟨w.heap.size, 0, none⟩) 2 2)) (w.alloc (.cells (cs ++ cs').toArray e))) : wpList P ops Q (o :: rest) a w := by
  obtain ⟨ie, hie, h1, h2, _⟩ := info_parts hi
  subst h2
  refine wpList_buildSlice hg t e 2 _ ho (cs ++ cs').toArray ie z hu hie h1 (by omega) (by omega) ?_ h
  have := Go.Great.fill_whole (s := ie.size) hs0 [Value.agg cs.toArray, Value.agg cs'.toArray] ((Array.range (2 * ie.size)).map (z.cells[· % z.cells.size]!)) (by simp [Value.cells, hcs, hcs']) (by simp)
  simpa [hy, hy', Value.cells] using this
end
end Go.Proofs.YtdeadehcnellpaaDoor

/-
  Of part AppendN: what is needed here.
-/
namespace Go.Proofs.YtdeadehcnellpaaDoor
open Go.RowKit
set_option linter.unusedVariables false
section
variable {P : Program} {w : World} {base : Nat} {t ty e : TypeId} {i : TypeInfo} {z : Value} {size bytes : Nat} {v : Value} {n m c B : Nat} {A : Option Addr} {xs news : List Value}
theorem run_append_nothingN (ht : P.underlying t = some (.slice e)) (hi : P.info? e = some i) (hown : w.ownsRow base e size v n xs) (c : Nat) :
    (Builtin.append_ #[t, t] ty #[v, .slice none 0 c]).run P w = .ok v w := by
  rcases hown.2 with ⟨rfl, rfl⟩ | ⟨g, cap, cur, rfl, _, _, hnc, _⟩ <;>
    simp [Builtin.append_, run_underlying ht, sizeOf, typeInfo, Builtin.lenOf, Builtin.firstCells, storeCells, *]
theorem wp_appendN {o : Oper} {a : Act} {K : Act → World → Prop} {Q : Exit → Act → World → Prop} (s x : Operand) (t e : TypeId) (z : Value) (size bytes : Nat)
    (ho : o.op = .call { callee := .builtin .append, args := #[s, x], argTypes := #[t, t] })
    (ht : P.underlying t = some (.slice e)) (hi : (P.info? e).map (fun i => (i.zero, i.size, i.bytes)) = some (some z, size, bytes)) (hzs : z.cells.size = size) (hs0 : 0 < size)
    (v : Value) (n : Nat) (xs : List Value) (base B : Nat) (A : Option Addr) (m c : Nat) (news : List Value)
    (hs : a.eval s = v) (hown : w.ownsRow base e size v n xs) (hx : a.eval x = .slice A m c) (hr : Sees w B A (m * size) news) (h1 : ∀ u ∈ news, u.oneCell' = true)
    (hnm : n + m ≤ maxLen) (hbytes : (n + m) * bytes ≤ 140737488355328) (hbase : base ≤ w.heap.size)
    (h : ∀ v' w', w'.ownsRow base e size v' (n + m) (xs ++ news) → Grew w w' v v' → K (a.put o.dst v') w') : o.wp P a w K Q := by
  obtain ⟨i0, hi, hz0, hz1, hz2⟩ := info_parts hi
  have hrun : ∃ v' w', (Builtin.append_ #[t, t] o.type #[v, .slice A m c]).run P w = .ok v' w' ∧ w'.ownsRow base e size v' (n + m) (xs ++ news) ∧ Grew w w' v v' := by
    cases A with
    | none =>
      have hn : news = [] := by
        cases news with
        | nil => rfl
        | cons u r =>
          obtain ⟨a, h, _⟩ := hr.cell 0 u rfl
          cases h
      subst hn
      have hl : m * size = 0 := by simpa using hr.len.symm
      obtain rfl : m = 0 := by
        rcases Nat.mul_eq_zero.1 hl with h | h
        · exact h
        · omega
      exact ⟨v, w, run_append_nothingN ht hi hown c, by simpa using hown, Grew.refl _ _⟩
    | some ad =>
      obtain ⟨v', w', hrun, h2, h3, _, h5⟩ := run_append_own_at (P := P) w base t o.type e i0 z size bytes ht hi hz0 hz1 hz2 hzs hs0 v n xs hown ad m c news hr.len
        (fun j u hu => by
          obtain ⟨a, h, _, hc⟩ := hr.cell j u hu
          cases h
          exact hc) h1 hnm hbytes hbase
      refine ⟨v', w', hrun, h2, ⟨h3, fun k hk => ?_⟩⟩
      rcases h5 with h5 | h5
      · exact .inl (h5 ▸ hk)
      · rw [h5] at hk
        cases hk
        exact .inr (Nat.le_refl _)
  obtain ⟨v', w', hr2, h2, h3⟩ := hrun
  unfold Oper.wp execOp
  simp only [ho, resolve, invoke, builtin, Sem.run_bind, Sem.run_pure, Result.andThen_ok, List.map_toArray, List.map_cons, List.map_nil, hs, hx, hr2]
  exact h v' w' h2 h3
theorem wpList_appendN {ops : Array Oper} {rest : List Oper} {o : Oper} {a : Act} {Q : Exit → Act → World → Prop} (hgd : o.guard = none) (s x : Operand) (t e : TypeId) (z : Value) (size bytes : Nat)
    (ho : o.op = .call { callee := .builtin .append, args := #[s, x], argTypes := #[t, t] })
    (ht : P.underlying t = some (.slice e)) (hi : (P.info? e).map (fun i => (i.zero, i.size, i.bytes)) = some (some z, size, bytes)) (hzs : z.cells.size = size) (hs0 : 0 < size)
    (v : Value) (n : Nat) (xs : List Value) (base B : Nat) (A : Option Addr) (m c : Nat) (news : List Value)
    (hs : a.eval s = v) (hown : w.ownsRow base e size v n xs) (hx : a.eval x = .slice A m c) (hr : Sees w B A (m * size) news) (h1 : ∀ u ∈ news, u.oneCell' = true)
    (hnm : n + m ≤ maxLen) (hbytes : (n + m) * bytes ≤ 140737488355328) (hbase : base ≤ w.heap.size)
    (h : ∀ v' w', w'.ownsRow base e size v' (n + m) (xs ++ news) → Grew w w' v v' → wpList P ops Q rest (a.put o.dst v') w') : wpList P ops Q (o :: rest) a w :=
  wpList_plain hgd fun _ hK => wp_appendN s x t e z size bytes ho ht hi hzs hs0 v n xs base B A m c news hs hown hx hr h1 hnm hbytes hbase fun v' w' h2 h3 => hK _ _ (h v' w' h2 h3)
end
theorem own_nilN (w : World) (base : Nat) (e : TypeId) (size : Nat) : w.ownsRow base e size (.slice none 0 0) 0 [] := World.ownsRow_nil w base e size
theorem own_form2 {w : World} {base : Nat} {e : TypeId} {size n : Nat} {v : Value} {xs : List Value} (h : w.ownsRow base e size v n xs) : ∃ A c, v = .slice A n c ∧ Sees w w.heap.size A (n * size) xs ∧ n ≤ c ∧ c ≤ maxLen ∧ (∀ g, v.ownBlock = some g → base ≤ g ∧ g < w.heap.size) := by
  have hlt := h.lt
  rcases h.2 with ⟨rfl, rfl⟩ | ⟨g, cap, cur, rfl, hg, hh, h1, h2, h3, h4⟩
  · have hx : xs = [] := List.eq_nil_of_length_eq_zero (by simpa using h.1)
    subst hx
    exact ⟨none, 0, rfl, by rw [Nat.zero_mul]; exact Sees.nil _ _ _, Nat.le_refl _, by simp [maxLen], hlt⟩
  · refine ⟨_, cap, rfl, ⟨h.1, fun j u hu => ⟨_, rfl, (Array.getElem?_eq_some_iff.1 hh).1, h.cells (g := g) rfl j u hu⟩⟩, h1, h2, hlt⟩
/-- a list of instructions as cells -/
structure InsCells (w : World) (B : Nat) (l : List LIn) (news : List Value) : Prop where
  len : news.length = l.length * 3
  at_ : ∀ i x, l[i]? = some x → ∃ va vd, news[i * 3]? = some (.int .u8 x.p) ∧ news[i * 3 + 1]? = some va ∧ news[i * 3 + 2]? = some vd ∧ BytesIn w B va x.acc ∧ BytesIn w B vd x.dat
  one : ∀ u ∈ news, u.oneCell' = true
theorem BytesIn.one {w : World} {B : Nat} {v : Value} {l : List Int} (h : BytesIn w B v l) : v.oneCell' = true := by
  obtain ⟨A, c, rfl, _⟩ := h.is
  rfl
theorem InsIn.cells {w : World} {B n : Nat} {A : Option Addr} {l : List LIn} (h : InsIn w B A n l) : ∃ news, InsCells w B l news ∧ Sees w B A (n * 3) news := by
  obtain ⟨ps, hps, hp⟩ : ∃ ps : List (Value × Value), ps.length = l.length ∧ ∀ i x p, l[i]? = some x → ps[i]? = some p → ∃ a, A = some a ∧ a.block < B ∧ w.cell? (a.add (i * 3)) = some (.int .u8 x.p) ∧ w.cell? (a.add (i * 3 + 1)) = some p.1 ∧ w.cell? (a.add (i * 3 + 2)) = some p.2 ∧ BytesIn w B p.1 x.acc ∧ BytesIn w B p.2 x.dat := by
    obtain ⟨ps, h1, h2⟩ := list_of (α := Value × Value) (p := fun i p => ∀ x, l[i]? = some x → ∃ a, A = some a ∧ a.block < B ∧ w.cell? (a.add (i * 3)) = some (.int .u8 x.p) ∧ w.cell? (a.add (i * 3 + 1)) = some p.1 ∧ w.cell? (a.add (i * 3 + 2)) = some p.2 ∧ BytesIn w B p.1 x.acc ∧ BytesIn w B p.2 x.dat) l.length fun i hi => by
      obtain ⟨a, va, vd, e1, e2, e3, e4, e5, e6, e7⟩ := h.at_ i _ (List.getElem?_eq_getElem hi)
      refine ⟨(va, vd), fun x hx => ?_⟩
      rw [List.getElem?_eq_getElem hi] at hx
      obtain rfl := Option.some.inj hx
      exact ⟨a, e1, e2, e3, e4, e5, e6, e7⟩
    exact ⟨ps, h1, fun i x p hx hp => h2 i p hp x hx⟩
  let f : Nat → Value := fun j => if j % 3 = 0 then .int .u8 ((l.getD (j / 3) ⟨0, [], []⟩).p) else if j % 3 = 1 then (ps.getD (j / 3) (undef, undef)).1 else (ps.getD (j / 3) (undef, undef)).2
  have hf : ∀ i x, l[i]? = some x → ∃ p, ps[i]? = some p ∧ f (i * 3) = .int .u8 x.p ∧ f (i * 3 + 1) = p.1 ∧ f (i * 3 + 2) = p.2 := by
    intro i x hx
    have hi := (List.getElem?_eq_some_iff.1 hx).1
    obtain ⟨p, hpi⟩ : ∃ p, ps[i]? = some p := ⟨_, List.getElem?_eq_getElem (by omega)⟩
    have hl : l.getD i ⟨0, [], []⟩ = x := by rw [List.getD_eq_getElem?_getD, hx]; rfl
    have hq : ps.getD i (undef, undef) = p := by rw [List.getD_eq_getElem?_getD, hpi]; rfl
    refine ⟨p, hpi, ?_, ?_, ?_⟩
    · show (if i * 3 % 3 = 0 then _ else _) = _
      rw [if_pos (by omega), show i * 3 / 3 = i by omega, hl]
    · show (if (i * 3 + 1) % 3 = 0 then _ else _) = _
      rw [if_neg (by omega), if_pos (by omega), show (i * 3 + 1) / 3 = i by omega, hq]
    · show (if (i * 3 + 2) % 3 = 0 then _ else _) = _
      rw [if_neg (by omega), if_neg (by omega), show (i * 3 + 2) / 3 = i by omega, hq]
  have hget : ∀ j, j < l.length * 3 → ((List.range (l.length * 3)).map f)[j]? = some (f j) := fun j hj => by rw [List.getElem?_map, List.getElem?_range hj]; rfl
  have hall : ∀ j, j < l.length * 3 → ∃ a, A = some a ∧ a.block < B ∧ w.cell? (a.add j) = some (f j) ∧ (f j).oneCell' = true := by
    intro j hj
    have hx := List.getElem?_eq_getElem (l := l) (i := j / 3) (by omega)
    obtain ⟨p, hpi, f0, f1, f2⟩ := hf _ _ hx
    obtain ⟨a, e1, e2, e3, e4, e5, e6, e7⟩ := hp _ _ _ hx hpi
    refine ⟨a, e1, e2, ?_⟩
    rcases (show j = j / 3 * 3 ∨ j = j / 3 * 3 + 1 ∨ j = j / 3 * 3 + 2 by omega) with h | h | h
    · rw [← h] at f0 e3; rw [e3, f0]; exact ⟨rfl, rfl⟩
    · rw [← h] at f1 e4; rw [e4, f1]; exact ⟨rfl, e6.one⟩
    · rw [← h] at f2 e5; rw [e5, f2]; exact ⟨rfl, e7.one⟩
  refine ⟨(List.range (l.length * 3)).map f, ⟨by simp, fun i x hx => ?_, fun u hu => ?_⟩, ⟨by rw [List.length_map, List.length_range, h.len], fun j u hu => ?_⟩⟩
  · have hi := (List.getElem?_eq_some_iff.1 hx).1
    obtain ⟨p, hpi, f0, f1, f2⟩ := hf _ _ hx
    obtain ⟨a, e1, e2, e3, e4, e5, e6, e7⟩ := hp _ _ _ hx hpi
    exact ⟨p.1, p.2, by rw [hget _ (by omega), f0], by rw [hget _ (by omega), f1], by rw [hget _ (by omega), f2], e6, e7⟩
  · obtain ⟨j, hj, rfl⟩ := List.mem_map.1 hu
    obtain ⟨_, _, _, _, h1⟩ := hall j (by simpa using hj)
    exact h1
  · have hj := (List.getElem?_eq_some_iff.1 hu).1
    rw [List.length_map, List.length_range] at hj
    rw [hget j hj] at hu
    obtain ⟨a, e1, e2, e3, _⟩ := hall j hj
    exact ⟨a, e1, e2, by rw [e3, Option.some.inj hu]⟩
theorem InsCells.below {w w' : World} {B : Nat} {l : List LIn} {news : List Value} (h : InsCells w B l news) (hb : Below B w w') : InsCells w' B l news :=
  ⟨h.len, fun i x hx => by
    obtain ⟨va, vd, e1, e2, e3, e4, e5⟩ := h.at_ i x hx
    exact ⟨va, vd, e1, e2, e3, e4.below hb, e5.below hb⟩, h.one⟩
theorem InsCells.more {w : World} {B B' : Nat} {l : List LIn} {news : List Value} (h : InsCells w B l news) (hb : B ≤ B') : InsCells w B' l news :=
  ⟨h.len, fun i x hx => by
    obtain ⟨va, vd, e1, e2, e3, e4, e5⟩ := h.at_ i x hx
    exact ⟨va, vd, e1, e2, e3, e4.more hb, e5.more hb⟩, h.one⟩
theorem InsCells.in_ {w : World} {B n : Nat} {A : Option Addr} {l : List LIn} {news : List Value} (h : InsCells w B l news) (hs : Sees w B A (n * 3) news) (hn : l.length = n) : InsIn w B A n l :=
  ⟨hn, fun i x hx => by
    obtain ⟨va, vd, e1, e2, e3, e4, e5⟩ := h.at_ i x hx
    obtain ⟨a, ha, hb, c0⟩ := hs.cell _ _ e1
    obtain ⟨a1, ha1, _, c1⟩ := hs.cell _ _ e2
    obtain ⟨a2, ha2, _, c2⟩ := hs.cell _ _ e3
    rw [ha] at ha1 ha2
    obtain rfl := Option.some.inj ha1
    obtain rfl := Option.some.inj ha2
    exact ⟨a, va, vd, ha, hb, c0, c1, c2, e4, e5⟩⟩
theorem InsCells.snoc {w : World} {B : Nat} {l : List LIn} {news : List Value} (h : InsCells w B l news) {y : LIn} {va vd : Value} (hb : IsByte y.p) (ha : BytesIn w B va y.acc) (hd : BytesIn w B vd y.dat) : InsCells w B (l ++ [y]) (news ++ inCells y.p va vd) := by
  refine ⟨by rw [List.length_append, h.len, List.length_append]; simp [inCells]; omega, fun i x hx => ?_, fun u hu => ?_⟩
  · by_cases hi : i < l.length
    · rw [List.getElem?_append_left hi] at hx
      obtain ⟨va, vd, e1, e2, e3, e4, e5⟩ := h.at_ i x hx
      exact ⟨va, vd, by rw [List.getElem?_append_left (by rw [h.len]; omega)]; exact e1, by rw [List.getElem?_append_left (by rw [h.len]; omega)]; exact e2, by rw [List.getElem?_append_left (by rw [h.len]; omega)]; exact e3, e4, e5⟩
    · have hlen := (List.getElem?_eq_some_iff.1 hx).1
      rw [List.length_append, List.length_singleton] at hlen
      obtain rfl : i = l.length := by omega
      rw [List.getElem?_append_right (Nat.le_refl _), Nat.sub_self] at hx
      obtain rfl : y = x := by simpa using hx
      exact ⟨va, vd, by rw [List.getElem?_append_right (by rw [h.len]; omega), h.len, Nat.sub_self]; rfl, by rw [List.getElem?_append_right (by rw [h.len]; omega), h.len, show l.length * 3 + 1 - l.length * 3 = 1 by omega]; rfl, by rw [List.getElem?_append_right (by rw [h.len]; omega), h.len, show l.length * 3 + 2 - l.length * 3 = 2 by omega]; rfl, ha, hd⟩
  · rcases List.mem_append.1 hu with hu | hu
    · exact h.one u hu
    · exact inCells_one ha hd u hu
end Go.Proofs.YtdeadehcnellpaaDoor

/-
  Of part HoldWalk: what is needed here.
-/
namespace Go.Proofs.YtdeadehcnellpaaDoor
open Go.RowKit Go.Maps
set_option linter.unusedVariables false
def i1 : DataW Unit := .lit (.int .i64 1)
end Go.Proofs.YtdeadehcnellpaaDoor

/-
  Of part MoreWalk: what is needed here.
-/
namespace Go.Proofs.YtdeadehcnellpaaDoor
open Go.RowKit
set_option linter.unusedVariables false
theorem Sees.far {w : World} {B n : Nat} {A : Option Addr} {xs : List Value} (h : Sees w B A n xs) {p : Addr} (hp : ∀ a, A = some a → a.block ≠ p.block) (u : Value) : Sees (w.setCell p u) B A n xs :=
  ⟨h.len, fun i v hv => by
    obtain ⟨a, ha, hb, hc⟩ := h.cell i v hv
    exact ⟨a, ha, hb, (World.cell?_setCell_other w p _ u (fun e => hp a ha (by rw [e, addr_block]))).trans hc⟩⟩
theorem bytes_nil (w : World) (B : Nat) : BytesIn w B (.slice none 0 0) [] := ⟨⟨none, 0, rfl, Sees.nil _ _ _, Nat.le_refl _, by simp [maxLen]⟩⟩
theorem info_ins5 : (Tryd.prog.info? 45).map (fun i => (i.zero, i.size, i.bytes)) = some (some (.agg #[.int .u8 0, .slice none 0 0, .slice none 0 0]), 3, 56) := by kernel_rfl
end Go.Proofs.YtdeadehcnellpaaDoor

/-
  Of part OtherMem: what is needed here.
-/
namespace Go.Proofs.YtdeadehcnellpaaDoor
open Go.RowKit
set_option linter.unusedVariables false
theorem own_rows2 {w : World} {base : Nat} {e : TypeId} {size n : Nat} {v : Value} {xs : List Value} (h : w.ownsRow base e size v n xs) (hx : 0 < xs.length) (hn : 0 < n) :
    ∃ g c rest, v = .slice (some ⟨g, 0, none⟩) n c ∧ Row w g e (xs ++ rest) ∧ n ≤ c ∧ c ≤ maxLen ∧ base ≤ g ∧ (xs ++ rest).length = c * size := by
  rcases h.2 with ⟨hv, he⟩ | ⟨g, cap, cur, hv, hg, hh, h1, h2, h3, h4⟩
  · omega
  · have h5 : xs = cur.toList.take xs.length := by
      rw [← h4, List.length_take]
      exact List.take_eq_take_min
    have h6 : xs ++ cur.toList.drop xs.length = cur.toList := by
      conv => lhs; lhs; rw [h5]
      exact List.take_append_drop _ _
    refine ⟨g, cap, cur.toList.drop xs.length, hv, ⟨?_⟩, h1, h2, hg, ?_⟩
    · rw [hh, h6]
    · rw [h6]
      simpa using h3
theorem own_of_row {w : World} {base g c : Nat} {e : TypeId} {size n : Nat} {xs rest : List Value} (h : Row w g e (xs ++ rest)) (hl : xs.length = n * size) (hc : (xs ++ rest).length = c * size) (h1 : n ≤ c) (h2 : c ≤ maxLen) (hb : base ≤ g) :
    w.ownsRow base e size (.slice (some ⟨g, 0, none⟩) n c) n xs :=
  ⟨hl, .inr ⟨g, c, (xs ++ rest).toArray, rfl, hb, h.is, h1, h2, by simpa using hc, by rw [← hl]; simp⟩⟩
theorem own_keep {w w' : World} {base : Nat} {e : TypeId} {size n : Nat} {v : Value} {xs : List Value} (h : w.ownsRow base e size v n xs) (hk : ∀ g, v.ownBlock = some g → w'.heap[g]? = w.heap[g]?) : w'.ownsRow base e size v n xs := by
  refine ⟨h.1, ?_⟩
  rcases h.2 with h2 | ⟨g, cap, cur, hv, hg, hh, r⟩
  · exact .inl h2
  · exact .inr ⟨g, cap, cur, hv, hg, (hk g (by rw [hv]; rfl)).trans hh, r⟩
theorem own_is {w : World} {base : Nat} {e : TypeId} {size n g : Nat} {v : Value} {xs : List Value} (h : w.ownsRow base e size v n xs) (hg : v.ownBlock = some g) : ∃ cur, w.heap[g]? = some (.cells cur e (0, 0)) := by
  rcases h.2 with ⟨rfl, _⟩ | ⟨g', cap, cur, rfl, _, hh, _⟩
  · cases hg
  · cases hg
    exact ⟨cur, hh⟩
theorem own_turned {w w' : World} {base g : Nat} {e t : TypeId} {size n : Nat} {v : Value} {xs ys : List Value} (h : w.ownsRow base e size v n xs) (hr : Row w g t ys) (hne : e ≠ t) (ht : Turned w w' g) : w'.ownsRow base e size v n xs :=
  own_keep h fun k hk => ht.block k (fun e1 => by
    obtain ⟨cur, hc⟩ := own_is h hk
    rw [e1, hr.is] at hc
    injection (Option.some.inj hc) with _ h3 _
    exact hne h3.symm)
theorem own_below2 {w w' : World} {base n size : Nat} {e : TypeId} {v : Value} {xs : List Value} (h : w.ownsRow base e size v n xs) (hb : Below w.heap.size w w') : w'.ownsRow base e size v n xs := own_below h hb
theorem InsCells.setDat {w : World} {B : Nat} {l : List LIn} {news : List Value} (h : InsCells w B l news) {i : Nat} {x : LIn} (hx : l[i]? = some x) {vd : Value} {dat : List Int} (hd : BytesIn w B vd dat) : InsCells w B (l.set i { x with dat := dat }) (news.set (i * 3 + 2) vd) := by
  have hi := (List.getElem?_eq_some_iff.1 hx).1
  refine ⟨by rw [List.length_set, List.length_set, h.len], fun k y hy => ?_, fun u hu => ?_⟩
  · by_cases e : i = k
    · subst e
      rw [List.getElem?_set_self hi] at hy
      obtain rfl := Option.some.inj hy
      obtain ⟨va, vd', e1, e2, e3, e4, e5⟩ := h.at_ i x hx
      exact ⟨va, vd, by rw [List.getElem?_set_ne (by omega)]; exact e1, by rw [List.getElem?_set_ne (by omega)]; exact e2, by rw [List.getElem?_set_self (by rw [h.len]; omega)], e4, hd⟩
    · rw [List.getElem?_set_ne e] at hy
      obtain ⟨va, vd', e1, e2, e3, e4, e5⟩ := h.at_ k y hy
      exact ⟨va, vd', by rw [List.getElem?_set_ne (by omega)]; exact e1, by rw [List.getElem?_set_ne (by omega)]; exact e2, by rw [List.getElem?_set_ne (by omega)]; exact e3, e4, e5⟩
  · rcases List.mem_or_eq_of_mem_set hu with hu | rfl
    · exact h.one u hu
    · exact hd.one
/-- what the rules see of an instruction -/
def pa (i : LIn) : Int × List Int := (i.p, i.acc)
end Go.Proofs.YtdeadehcnellpaaDoor

/-
  Of part Lives6: what is needed here.
-/
namespace Go.Proofs.YtdeadehcnellpaaDoor
open Go.RowKit
set_option linter.unusedVariables false
section
variable {P : Program}
/-- a slice literal of three elements of many cells -/
theorem wpList_buildThree {ops : Array Oper} {rest : List Oper} {o : Oper} {a : Act} {w : World} {Q : Exit → Act → World → Prop} (hg : o.guard = none) (t e : TypeId) (y y' y2 : Operand) (ho : o.op = .buildSlice t 3 #[(0, y), (1, y'), (2, y2)])
    (cs cs' cs2 : List Value) (z : Value) (size bytes : Nat) (hu : P.underlying t = some (.slice e)) (hi : (P.info? e).map (fun i => (i.zero, i.size, i.bytes)) = some (some z, size, bytes)) (hzs : z.cells.size = size) (hs0 : 0 < size) (hs1 : size ≤ 1000)
    (hcs : cs.length = size) (hcs' : cs'.length = size) (hcs2 : cs2.length = size) (hy : a.eval y = .agg cs.toArray) (hy' : a.eval y' = .agg cs'.toArray) (hy2 : a.eval y2 = .agg cs2.toArray)
    (h : wpList P ops Q rest (a.put o.dst (.slice (some ⟨w.heap.size, 0, none⟩) 3 3)) (w.alloc (.cells (cs ++ (cs' ++ cs2)).toArray e))) : wpList P ops Q (o :: rest) a w := by
  obtain ⟨ie, hie, h1, h2, _⟩ := info_parts hi
  subst h2
  refine wpList_buildSlice hg t e 3 _ ho (cs ++ (cs' ++ cs2)).toArray ie z hu hie h1 (by omega) (by omega) ?_ h
  have := Go.Great.fill_whole (s := ie.size) hs0 [Value.agg cs.toArray, Value.agg cs'.toArray, Value.agg cs2.toArray] ((Array.range (3 * ie.size)).map (z.cells[· % z.cells.size]!)) (by simp [Value.cells, hcs, hcs', hcs2]) (by simp)
  simpa [hy, hy', hy2, Value.cells] using this
end
def y1 : List LLook := [⟨xk 9, [2], [0, 1]⟩]
def y2 : List LLook := [⟨xk 9, [], [3]⟩]
end Go.Proofs.YtdeadehcnellpaaDoor

/-
  Of part Known: what is needed here.
-/
namespace Go.Proofs.YtdeadehcnellpaaDoor
open Go.RowKit
set_option linter.unusedVariables false
/-- the known programs' keys -/
def k0 : List Int := List.replicate 32 0
def k3 : List Int := 3 :: List.replicate 31 0
def kn (x : List Int) : Bool := decide (x = k0) || decide (x = k3)
theorem k3_len : k3.length = 32 := rfl
theorem built_k3 : Tryd.prog.built 48 [(0, .int .u8 3)] = some (bv k3).toArray := by kernel_rfl
set_option maxRecDepth 100000 in
set_option maxHeartbeats 400000 in
theorem budget_ (w : World) : Calls Tryd.prog 15 #[] w fun e w' => e = .returned (.agg (bv k3).toArray) ∧ Below w.heap.size w w' := by
  go_enter Tryd.func15, Tryd.ntmps15
  go_wp2_with (first
    | ((with_reducible show wpList _ _ _ ({ dst := some 1, op := Op.build _ _, type := _, pos := _, after := _, guard := _ } :: _) _ _); go_must (refine wpList_plain rfl fun K hK => wp_built _ _ _ rfl (by simp only [List.map_toArray, List.map_cons, List.map_nil]; exact built_k3) (hK _ _ ?_)))
    | ((with_reducible show wpList _ _ _ ({ dst := none, op := Op.store 48 _ _, type := _, pos := _, after := _, guard := _ } :: _) _ _); go_must (refine wpList_store_new rfl 48 (.tmp 0) (.tmp 1) rfl (bv k3) size_key (bv_one _) rfl ?_ ?_ ?_; go_simp; go_simp; intro w1 hr1 hb1 hz1; have HR1 := Lib.hid hr1; have HB1 := Lib.hid hb1; clear hr1 hb1)))
  refine bodyPost_ret (results_cell_row (h := rfl) _ w1 w.heap.size 48 _ (0, 0) _ (by rfl) HR1.out.is Tryd.underlying48 rfl size_key) rfl ?_
  exact ⟨rfl, HB1.out⟩
end Go.Proofs.YtdeadehcnellpaaDoor

/-
  Of part Bud8: what is needed here.
-/
namespace Go.Proofs.YtdeadehcnellpaaDoor
open Go.RowKit
set_option linter.unusedVariables false
/-- is an instruction of the program p a word on the budget? -/
def isW (keys : List (List Int)) (p : Int) : Bool := decide (p < keys.length) && decide (keys.getD p.toNat [] = k3)
/-- what the words told so far, how many were none, which was bad -/
structure BS where
  u : Option Int
  p : Option Int
  o : Nat
  bad : Int
def BS.zero : BS := ⟨none, none, 0, -1⟩
/-- what a word's data tell -/
def tell (d : List Int) (s : BS) : Option BS :=
  if d.length = 5 ∧ d.getD 0 0 = 2 ∧ s.u = none then some ⟨some (num (d.drop 1) 4), s.p, s.o, s.bad⟩
  else if d.length = 9 ∧ d.getD 0 0 = 3 ∧ s.p = none then some ⟨s.u, some (num (d.drop 1) 8), s.o, s.bad⟩
  else none
/-- an instruction more -/
def step8 (keys : List (List Int)) (k : Nat) (x : LIn) (s : BS) : BS :=
  if isW keys x.p = false then ⟨s.u, s.p, s.o + 1, s.bad⟩
  else if 0 ≤ s.bad then s
  else (tell x.dat s).getD ⟨s.u, s.p, s.o, k⟩
def run8 (keys : List (List Int)) (l : List LIn) : Nat → BS
  | 0 => BS.zero
  | k + 1 => step8 keys k (l.getD k ⟨0, [], []⟩) (run8 keys l k)
/-- all of them -/
def all8 (keys : List (List Int)) (l : List LIn) : BS := run8 keys l l.length
def units8 (s : BS) : Int := if s.u.getD (s.o * 200000) > 1400000 then 1400000 else s.u.getD (s.o * 200000)
/-- the answer's cells -/
def bud8 (s : BS) : List Value := [.int .u64 (units8 s), .int .u64 (s.p.getD 0), .int .i64 s.bad]
/-- the words' cells -/
def wcells (s : BS) : List Value := [.int .u64 0, .bool false, .int .u64 0, .bool false, .int .u64 (s.u.getD 0), .bool s.u.isSome, .int .u64 (s.p.getD 0), .bool s.p.isSome]
section
variable {keys : List (List Int)} {l l' : List LIn}
theorem run8_succ {k : Nat} {x : LIn} (h : l[k]? = some x) : run8 keys l (k + 1) = step8 keys k x (run8 keys l k) := by
  show step8 keys k (l.getD k ⟨0, [], []⟩) _ = _
  rw [List.getD_eq_getElem?_getD, h]
  rfl
theorem tell_kept {d : List Int} {s s' : BS} (h : tell d s = some s') : s'.o = s.o ∧ s'.bad = s.bad := by
  unfold tell at h
  split at h
  · obtain rfl := Option.some.inj h; exact ⟨rfl, rfl⟩
  · split at h
    · obtain rfl := Option.some.inj h; exact ⟨rfl, rfl⟩
    · cases h
/-- what holds at each place -/
structure BSOk (k : Nat) (s : BS) : Prop where
  o : s.o ≤ k
  bad : s.bad = -1 ∨ (0 ≤ s.bad ∧ s.bad < k)
  u : ∀ v, s.u = some v → 0 ≤ v ∧ v < 4294967296
  p : ∀ v, s.p = some v → 0 ≤ v ∧ v < 18446744073709551616
theorem tell_ok {d : List Int} {s s' : BS} {k : Nat} (hd : Bytes (d.drop 1)) (hs : BSOk k s) (h : tell d s = some s') : BSOk k s' := by
  unfold tell at h
  split at h
  · obtain rfl := Option.some.inj h
    refine ⟨hs.o, hs.bad, fun v hv => ?_, hs.p⟩
    obtain rfl := Option.some.inj hv
    exact num_bound _ hd 4
  · split at h
    · obtain rfl := Option.some.inj h
      refine ⟨hs.o, hs.bad, hs.u, fun v hv => ?_⟩
      obtain rfl := Option.some.inj hv
      exact num_bound _ hd 8
    · cases h
theorem step8_ok {s : BS} {k : Nat} {x : LIn} (hd : Bytes (x.dat.drop 1)) (hs : BSOk k s) : BSOk (k + 1) (step8 keys k x s) := by
  have up : ∀ {t : BS}, BSOk k t → BSOk (k + 1) t := fun ht => ⟨Nat.le_succ_of_le ht.o, ht.bad.imp_right fun h => ⟨h.1, by have := h.2; omega⟩, ht.u, ht.p⟩
  unfold step8
  split
  · exact ⟨by have := hs.o; show s.o + 1 ≤ k + 1; omega, (up hs).bad, hs.u, hs.p⟩
  · split
    · exact up hs
    · cases ht : tell x.dat s with
      | none => exact ⟨(up hs).o, .inr ⟨by show (0 : Int) ≤ (k : Int); omega, by show (k : Int) < ((k + 1 : Nat) : Int); omega⟩, hs.u, hs.p⟩
      | some s' => exact up (tell_ok hd hs ht)
theorem run8_ok (hl : ∀ i ∈ l, Bytes (i.dat.drop 1)) : ∀ k, k ≤ l.length → BSOk k (run8 keys l k)
  | 0, _ => ⟨Nat.le_refl _, .inl rfl, (fun v hv => by cases hv), (fun v hv => by cases hv)⟩
  | k + 1, hk => by
    have hx := List.getElem?_eq_getElem (l := l) (i := k) (by omega)
    rw [run8_succ hx]
    exact step8_ok (hl _ (List.getElem_mem _)) (run8_ok hl k (by omega))
theorem units8_le (s : BS) : units8 s ≤ 1400000 := by unfold units8; split <;> omega
theorem units8_pos {k : Nat} {s : BS} (h : BSOk k s) : 0 ≤ units8 s := by
  unfold units8
  split
  · omega
  · cases hu : s.u with
    | none => show (0 : Int) ≤ (s.o : Int) * 200000; omega
    | some v => exact (h.u v hu).1
theorem price_in {k : Nat} {s : BS} (h : BSOk k s) : 0 ≤ s.p.getD 0 ∧ s.p.getD 0 < 18446744073709551616 := by
  cases hp : s.p with
  | none => exact ⟨Int.le_refl _, by decide⟩
  | some v => exact h.p v hp
/-- lists that agree where it matters -/
theorem run8_agree : ∀ k, k ≤ l.length → k ≤ l'.length → (∀ i x y, i < k → l[i]? = some x → l'[i]? = some y → y.p = x.p ∧ (y.dat = x.dat ∨ 0 ≤ (run8 keys l i).bad)) → run8 keys l' k = run8 keys l k
  | 0, _, _, _ => rfl
  | k + 1, h1, h2, h => by
    have hx := List.getElem?_eq_getElem (l := l) (i := k) (by omega)
    have hy := List.getElem?_eq_getElem (l := l') (i := k) (by omega)
    obtain ⟨ep, ed⟩ := h k _ _ (Nat.lt_succ_self _) hx hy
    rw [run8_succ hx, run8_succ hy, run8_agree k (by omega) (by omega) fun i x y hi => h i x y (by omega)]
    unfold step8
    rw [ep]
    split
    · rfl
    · rcases ed with ed | ed
      · rw [ed]
      · rw [if_pos ed, if_pos ed]
theorem all8_snoc (x : LIn) : all8 keys (l ++ [x]) = step8 keys l.length x (all8 keys l) := by
  unfold all8
  rw [List.length_append, List.length_singleton, run8_succ (x := x) (by simp), run8_agree (l := l) (l' := l ++ [x]) l.length (Nat.le_refl _) (by simp)]
  intro i a b hi ha hb
  rw [List.getElem?_append_left hi, ha] at hb
  obtain rfl := Option.some.inj hb
  exact ⟨rfl, .inl rfl⟩
/-- behind a bad one -/
theorem bad_kept {s : BS} {k : Nat} {x : LIn} (h : 0 ≤ s.bad) : (step8 keys k x s).bad = s.bad ∧ (step8 keys k x s).u = s.u ∧ (step8 keys k x s).p = s.p := by
  unfold step8
  by_cases hw : isW keys x.p = false
  · rw [if_pos hw]; exact ⟨rfl, rfl, rfl⟩
  · rw [if_neg hw, if_pos h]; exact ⟨rfl, rfl, rfl⟩
theorem bad_set {s : BS} {k : Nat} {x : LIn} (h : ¬ 0 ≤ s.bad) (h' : 0 ≤ (step8 keys k x s).bad) : step8 keys k x s = ⟨s.u, s.p, s.o, k⟩ := by
  unfold step8 at h' ⊢
  by_cases h1 : isW keys x.p = false
  · rw [if_pos h1] at h'
    exact absurd h' h
  · rw [if_neg h1, if_neg h] at h' ⊢
    cases ht : tell x.dat s with
    | none => rfl
    | some s' =>
      rw [ht] at h'
      have := (tell_kept ht).2
      exact absurd (this ▸ h') h
/-- where the bad one stands -/
theorem bad_at : ∀ k, k ≤ l.length → 0 ≤ (run8 keys l k).bad → ∃ b : Nat, (run8 keys l k).bad = b ∧ b < k ∧ ¬ 0 ≤ (run8 keys l b).bad ∧ (run8 keys l k).u = (run8 keys l b).u ∧ (run8 keys l k).p = (run8 keys l b).p ∧ ∀ i, b < i → i ≤ k → (run8 keys l i).bad = b
  | 0, _, h => absurd (show (0 : Int) ≤ -1 from h) (by decide)
  | k + 1, hk, h => by
    have hx := List.getElem?_eq_getElem (l := l) (i := k) (by omega)
    have e := run8_succ (keys := keys) hx
    by_cases hb : 0 ≤ (run8 keys l k).bad
    · obtain ⟨b, h1, h2, h3, h4, h5, h6⟩ := bad_at k (by omega) hb
      obtain ⟨g1, g2, g3⟩ := bad_kept (keys := keys) (k := k) (x := l[k]) hb
      refine ⟨b, by rw [e, g1, h1], by omega, h3, by rw [e, g2, h4], by rw [e, g3, h5], fun i hi hi' => ?_⟩
      by_cases hik : i = k + 1
      · subst hik; rw [e, g1, h1]
      · exact h6 i hi (by omega)
    · rw [e] at h
      have g := bad_set hb h
      refine ⟨k, by rw [e, g], Nat.lt_succ_self _, hb, by rw [e, g], by rw [e, g], fun i hi hi' => ?_⟩
      obtain rfl : i = k + 1 := by omega
      rw [e, g]
/-- other data behind a bad one -/
theorem bad_same {b : Nat} (h : (all8 keys l).bad = b) (hl : l'.length = l.length) (hp : ∀ i x y, l[i]? = some x → l'[i]? = some y → y.p = x.p ∧ (i ≤ b → y.dat = x.dat)) : all8 keys l' = all8 keys l := by
  unfold all8 at h ⊢
  rw [hl]
  obtain ⟨b', h1, h2, h3, h4, h5, h6⟩ := bad_at l.length (Nat.le_refl _) (by rw [h]; omega)
  have hb : b' = b := by rw [h] at h1; omega
  subst hb
  refine run8_agree l.length (Nat.le_refl _) (by omega) fun i x y hi hx hy => ?_
  obtain ⟨e1, e2⟩ := hp i x y hx hy
  refine ⟨e1, ?_⟩
  by_cases hib : i ≤ b'
  · exact .inl (e2 hib)
  · right
    rw [h6 i (by omega) (by omega)]
    omega
/-- nothing but what stands ahead of the bad one -/
theorem bad_take {b : Nat} (hd : ∀ i ∈ l, Bytes (i.dat.drop 1)) (h : (all8 keys l).bad = b) : b < l.length ∧ (all8 keys (l.take b)).bad = -1 ∧ (all8 keys (l.take b)).p = (all8 keys l).p := by
  unfold all8 at h ⊢
  obtain ⟨b', h1, h2, h3, h4, h5, h6⟩ := bad_at l.length (Nat.le_refl _) (by rw [h]; omega)
  have hb : b' = b := by rw [h] at h1; omega
  subst hb
  have e : run8 keys (l.take b') (l.take b').length = run8 keys l b' := by
    rw [List.length_take, Nat.min_eq_left (by omega)]
    refine run8_agree b' (by omega) (by rw [List.length_take]; omega) fun i x y hi hx hy => ?_
    rw [List.getElem?_take, if_pos hi, hx] at hy
    obtain rfl := Option.some.inj hy
    exact ⟨rfl, .inl rfl⟩
  rw [e]
  refine ⟨h2, ?_, h5.symm⟩
  rcases (run8_ok (keys := keys) hd b' (by omega)).bad with h7 | h7
  · exact h7
  · exact absurd h7.1 h3
/-- an instruction more that is no word -/
theorem all8_other {x : LIn} (h : isW keys x.p = false) : (all8 keys (l ++ [x])).p = (all8 keys l).p ∧ (all8 keys (l ++ [x])).bad = (all8 keys l).bad ∧
    (units8 (all8 keys (l ++ [x])) = units8 (all8 keys l) ∨ units8 (all8 keys (l ++ [x])) = if units8 (all8 keys l) + 200000 < 1400000 then units8 (all8 keys l) + 200000 else 1400000) := by
  rw [all8_snoc]
  unfold step8
  rw [if_pos h]
  refine ⟨rfl, rfl, ?_⟩
  unfold units8
  cases hu : (all8 keys l).u with
  | some v => left; simp only [Option.getD_some]
  | none =>
    right
    simp only [Option.getD_none]
    generalize (all8 keys l).o = o
    (repeat' split) <;> omega
end
end Go.Proofs.YtdeadehcnellpaaDoor

/-
  Of part Door8: what is needed here.
-/
namespace Go.Proofs.YtdeadehcnellpaaDoor
open Go.ChangeShapes Go.WideShapes Go.ChangeAt Go.RowKit
set_option linter.unusedVariables false
/-- the variable holds the table of lengths -/
structure LenAt (w : World) : Prop where
  c0 : w.cell? ⟨0, 0, none⟩ = some (.int .i64 0)
  c1 : w.cell? ⟨0, 1, none⟩ = some (.int .i64 0)
  c2 : w.cell? ⟨0, 2, none⟩ = some (.int .i64 4)
  c3 : w.cell? ⟨0, 3, none⟩ = some (.int .i64 8)
theorem LenAt.keep {w w' : World} (h : LenAt w) (hk : ∀ p : Addr, p.block = 0 → w'.cell? p = w.cell? p) : LenAt w' :=
  ⟨(hk _ rfl).trans h.c0, (hk _ rfl).trans h.c1, (hk _ rfl).trans h.c2, (hk _ rfl).trans h.c3⟩
theorem LenAt.pos {w : World} (h : LenAt w) : 0 < w.heap.size := block_lt_of_cell h.c0
theorem LenAt.below {w w' : World} {B : Nat} (h : LenAt w) (hb : Below B w w') (hB : 0 < B) : LenAt w' := h.keep fun p hp => hb.cell (by omega)
theorem LenAt.at_ {w : World} (h : LenAt w) : ∀ k u, ([.int .i64 0, .int .i64 0, .int .i64 4, .int .i64 8] : List Value)[k]? = some u → w.cell? ⟨0, k, none⟩ = some u
  | 0, _, e => by cases e; exact h.c0
  | 1, _, e => by cases e; exact h.c1
  | 2, _, e => by cases e; exact h.c2
  | 3, _, e => by cases e; exact h.c3
  | _ + 4, _, e => by cases e
theorem gLen : Tryd.prog.globalNamed "ferryhouse/budgets.lengths" = some 0 := by kernel_rfl
theorem tLen : (Tryd.prog.globals[0]?).map (·.type) = some 71 := by kernel_rfl
theorem cInt : Tryd.prog.cellsOf 3 = 1 := by kernel_rfl
/-- the door's own heap meets the condition -/
theorem door_met (os : Os) (args : Array Value) : laidMetH Tryd.prog [("ferryhouse/budgets.lengths", Rows.laid_ferryhouse_budgets_lengths)] ((World.doorLaid Tryd.prog 400 os).forCall (fun _ _ => 0) ⟨#[], args, []⟩).memory :=
  laidMetH_of_parts3 (fuel := 8) (laidMet_of_run' 8 (by kernel_rfl) (by kernel_rfl)) (by kernel_rfl) (by kernel_rfl)
/-- what the condition gives the walks -/
theorem of_laid {W : World} (h : laidMetH Tryd.prog [("ferryhouse/budgets.lengths", Rows.laid_ferryhouse_budgets_lengths)] W) : LenAt W := by
  rw [MakeChecks.laidMetH_plain _ _ _ (by kernel_rfl)] at h
  obtain ⟨ps, ⟨g0, t0, cs0, f0, p0, q0, hg0, ht0, hv0, hd0, _, _⟩, _, _⟩ := h
  obtain rfl := Option.some.inj (gLen.symm.trans hg0)
  obtain rfl := Option.some.inj (tLen.symm.trans ht0)
  obtain ⟨xs, m1, rfl, hx1, hlen, hn3, hel⟩ := DataW.trod_array Tryd.underlying71 hd0
  simp only [Rows.laid_ferryhouse_budgets_lengths, Prod.mk.injEq, DataW.agg.injEq] at hx1
  obtain ⟨l1⟩ := cs0
  match xs, hn3, hx1 with
  | [x0, x1, x2, x3], _, hx1 =>
    simp only [List.map_cons, List.map_nil, List.cons.injEq] at hx1
    have one : ∀ (i : Nat) (hi : i < 4) (x : DataW Unit × List MemPlace) (n : Int), [x0, x1, x2, x3][i]? = some x → x.1 = .lit (.int .i64 n) → l1[i]? = some (.int .i64 n) := by
      intro i hi x n hxi hxn
      have h0 := hel i hi
      rw [hxi] at h0
      obtain ⟨k, e1, e2, _⟩ := DataW.trod_int Tryd.underlying3 h0
      rw [cInt, Nat.mul_one] at e1
      have hk : k = n := by rw [e2] at hxn; simpa using hxn
      subst hk
      have e3 : l1.drop i = .int .i64 k :: l1.drop (i + 1) := by
        have := congrArg List.head? e1
        rw [List.head?_take] at this
        rw [if_neg (by omega)] at this
        have h2 : (l1.drop i).head? = some (.int .i64 k) := this
        rw [List.head?_drop] at h2
        rw [List.drop_eq_getElem_cons (List.getElem?_eq_some_iff.1 h2).1, (List.getElem?_eq_some_iff.1 h2).2]
      have := congrArg List.head? e3
      rwa [List.head?_drop] at this
    have cell : ∀ (i : Nat) v, l1[i]? = some v → W.cell? ⟨0, i, none⟩ = some v := fun i v hv => by
      have := World.var?_cell hg0 hv0 i
      simpa using this.trans (by simpa using hv)
    exact ⟨cell 0 _ (one 0 (by omega) x0 0 rfl hx1.1.1.symm), cell 1 _ (one 1 (by omega) x1 0 rfl hx1.1.2.1.symm), cell 2 _ (one 2 (by omega) x2 4 rfl hx1.1.2.2.1.symm), cell 3 _ (one 3 (by omega) x3 8 rfl hx1.1.2.2.2.1.symm)⟩
end Go.Proofs.YtdeadehcnellpaaDoor
