/-
  Parts joined: Apply16 Round16 Iter16 Move16 WideMul DivMath Sum Times FoldMem16 Great15 AheadMem15.
-/
import Derived.Below
import Derived.Laws.OwnMore
import Derived.Deep.AppendLies
import Derived.Deep.Draws
import Derived.Lib.Hide
import Derived.Laws.MakeOwn
import Derived.Laws.CopyOwn
import Derived.Laws.Rows
import Derived.Maps.AppendAt
import Derived.OwnWalk
import Derived.Laws.BitsAllLaws
import Derived.WalkKit
import Derived.Test.YtfaefpniiiandaaDoorRows
import Derived.WalkSpells
import Derived.WalkLawsBesides
import Derived.IntWalk
import Derived.Deep.MidRow
import Derived.Deep.WholeRow
import Derived.Great.BuildSlice
import Derived.Recover
import Derived.Deep.RegionHeld
import Derived.Deep.QuietTactic
import Derived.BigQuiet
import Derived.ChangeKeysEq
import Derived.Deep.RegionHeld2
import Derived.Deep.CutBlock
import Derived.Laws.Tables
import Derived.ProofKit
import Derived.OpenShut
import Derived.ShutString
import Derived.ChangeOld
import Derived.Lib.SmallJoins
import Derived.Deep.Slices
import Derived.Deep.Strs
import Derived.SizedLaws
import Derived.Laws.StructEq
import Derived.Laws.Slices
import Derived.Deep.DeepCutAuto
import Derived.Maps.OwnSet
import Derived.DeepKeys4
import Derived.WideKeyArr
import Derived.Laws.EntriesVeiled
import Derived.Deep.RegionHeld3
import Derived.WideKeyEntry
import Derived.WalkMore
import Derived.Maps.RangeWalk
import Derived.Shelf.SlMaps.Clone
import Derived.Laws.Append
import Derived.Laws.AppendOwn
import Derived.LaidMore
import Derived.Maps.OwnOps
import Derived.Laws.BytesArg
import Derived.Laws.Strings
import Derived.Lib.Strings
import Derived.Great.Walk
import Derived.Laws.Bits64b
import Derived.Laws.Externs
import Derived.LaidHandle
import Derived.LaidLaws
import Derived.RangeFuncOwn
import Derived.LaidEql
import Derived.Stop.Asserts
import Derived.RowKitTokens
import Derived.RangeFuncNested
import Derived.RangeFuncBound
import Derived.RangeFuncCalls
import Derived.RangeFuncLeaves
import Derived.Shelf.Abstract
import Derived.Shelf.RegionOpen
import Derived.OwnWalkIn
import Derived.TacticsInMore
import Derived.LoopNIn
import Derived.LoopIn
import Derived.Lib.Mul64
import Derived.Lib.BitFns
import Derived.Laws.NewBlocks
import Derived.Shelf.Small.Bits
import Derived.Test.YtfaefpniiiandaaDoorQ1
import Derived.Test.YtfaefpniiiandaaDoorQ2
import Derived.Test.YtfaefpniiiandaaDoorQ3
import Derived.Test.YtfaefpniiiandaaDoorQ4
import Derived.Test.YtfaefpniiiandaaDoorQ5
import Derived.Test.YtfaefpniiiandaaDoorQ6
import Derived.Test.YtfaefpniiiandaaDoorQ7
import Derived.Test.YtfaefpniiiandaaDoorQ8
import Derived.Test.YtfaefpniiiandaaDoorQ9
import Derived.Test.YtfaefpniiiandaaDoorQ10
/-
  Of part Apply16: what is needed here.
-/
namespace Go.Proofs.YtfaefpniiiandaaDoor
open Go.RowKit
set_option linter.unusedVariables false
set_option maxRecDepth 100000
/-- what is asked of a transaction that is applied -/
structure RdP16 (q : YRaw) (x : LReady) : Prop where
  f : RdF16 x
  pb : ∀ a ∈ x.tx.m.ins, IsByte a.p
  u : 0 ≤ x.u ∧ x.u < 18446744073709551616
  sm : q.t.q.n ≤ 65535 ∧ ∀ a ∈ x.tx.m.ins, a.acc.length ≤ 65535
  rn : q.rn ≤ 300
/-- what Apply answers, and leaves -/
def ApDone16 (w : World) (sb mb : Nat) (R : (LOut × Int) × List LHold) (e : Ending) (w' : World) : Prop :=
  ∃ A c, e = .returned (.tuple #[.agg (R.1.1.cells (.slice A R.1.1.ch.length R.1.1.ch.length)).toArray, .int .i64 R.1.2]) ∧ w'.ownsRow w.heap.size 64 66 (.slice A R.1.1.ch.length c) R.1.1.ch.length (holC R.1.1.ch) ∧ StIn w' sb mb R.2 ∧ w.grownBy w' (some mb)
theorem ap_bad16 {w w' : World} {sb mb : Nat} {L : List LHold} {x : LReady} {e : Int} (h : apply16 L x = ((out0, e), L)) (hs : StIn w' sb mb L) (hg : w.grownBy w' (some mb)) : ApDone16 w sb mb (apply16 L x) (.returned (.tuple #[.agg (out0.cells (.slice none 0 0)).toArray, .int .i64 e])) w' := by
  rw [h]
  exact ⟨none, 0, rfl, own_nilN _ _ _ _, hs, hg⟩
/-- the outcome's holdings, as they are read -/
theorem hols_in16 {w : World} {base c : Nat} {A : Option Addr} {L : List LHold} (h : w.ownsRow base 64 66 (.slice A L.length c) L.length (holC L)) (ho : ∀ x ∈ L, HoldOk x) : CsIn 66 w w.heap.size A L.length (L.map LHold.cells) := by
  obtain ⟨A', c', e, h2, _⟩ := own_form2 h
  injection e with e _ _
  subst e
  exact ⟨by rw [List.length_map], fun k hk => by obtain ⟨y, hy, rfl⟩ := List.mem_map.1 hk; exact hold_len (ho y hy).k.1 (ho y hy).a.o.1, h2⟩
theorem rd_size16 {q : YRaw} {x : LReady} (h : x.tx.m.recent.length = 32) : (Tryd.prog.info? 41).map (·.size) = some (q.cells x).length := by rw [ycells_len h]; kernel_rfl
set_option maxHeartbeats 16000000 in
theorem applyC (sb mb : Nat) (L : List LHold) (q : YRaw) (x : LReady) (B : Nat) (w : World) (hs : StIn w sb mb L) (h : ReadyIn w B q x) (hp : RdP16 q x) (hB : B ≤ w.heap.size) (hL : L.length + q.rn ≤ 5000) (ht : TypAt w) :
    Calls Tryd.prog 25 #[.pointer (some ⟨sb, 0, none⟩), .agg (q.cells x).toArray] w (ApDone16 w sb mb (apply16 L x)) := by
  have HP := Lib.hid hp
  have HB := Lib.hid hB
  have HL := Lib.hid hL
  have H32 := Lib.hid h.tx.m.recent
  have HRL := Lib.hid h.rs.len
  have HSO := Lib.hid hs.sto
  have hbw := ((Below.refl w.heap.size w).alloc (Nat.le_refl _) (.cells (q.cells x).toArray 41)).alloc (by simp) (.cells (out0.cells (.slice none 0 0)).toArray 54)
  have R3 := Lib.hid ((Row.new w 41 (q.cells x)).alloc (.cells (out0.cells (.slice none 0 0)).toArray 54))
  have R4 := Lib.hid (Row.new' (w.alloc (.cells (q.cells x).toArray 41)) 54 (out0.cells (.slice none 0 0)) (g := w.heap.size + 1) (by simp))
  have B0 := Lib.hid hbw
  have HST := Lib.hid (fun (V : World) (hb : Below w.heap.size w V) => hs.below hb)
  have HRD := Lib.hid (fun (V : World) (hb : Below w.heap.size w V) => h.below (hb.mono hB))
  have HTY := Lib.hid (fun (V : World) (hb : Below w.heap.size w V) => ht.below hb ht.pos)
  clear hbw h hp hs ht hB hL
  obtain ⟨g4, hg4⟩ : ∃ g, g = w.heap.size + 1 := ⟨_, rfl⟩
  have HG4 : Hid ((w.alloc (.cells (q.cells x).toArray 41)).heap.size = g4) := Lib.hid (by rw [hg4]; simp)
  have HG42 : Hid (w.heap.size + 1 = g4) := Lib.hid hg4.symm
  obtain ⟨g3, hg3⟩ : ∃ g, g = w.heap.size := ⟨_, rfl⟩
  have HG3 : Hid (w.heap.size = g3) := Lib.hid hg3.symm
  rw [← hg4] at R4
  rw [← hg3] at R3
  have HGL : Hid (w.heap.size ≤ g3 ∧ w.heap.size ≤ g4 ∧ g3 ≠ g4) := Lib.hid (by omega)
  clear hg3 hg4
  have R4' : Hid (Row ((w.alloc (.cells (q.cells x).toArray 41)).alloc (.cells (out0.cells (.slice none 0 0)).toArray 54)) g4 54 (out0.cells (.slice none 0 0))) := Lib.hid R4.out
  clear R4
  generalize hW0 : w.alloc (.cells (q.cells x).toArray 41) = W0 at *
  generalize hW : W0.alloc (.cells (out0.cells (.slice none 0 0)).toArray 54) = W at *
  have HW0 := Lib.hid hW0
  have HW := Lib.hid hW
  clear hW hW0
  go_enter Tryd.func25, Tryd.ntmps25
  go_upto_region 1 with ((with_reducible show wpList _ _ _ ({ dst := some 4, op := Op.alloc _, type := _, pos := _, after := _, guard := _ } :: _) _ _); go_must (refine wpList_alloc_zero rfl 54 rfl (out0.cells (.slice none 0 0)) zero_out15 ?_))
  rw [HW0.out]
  rw [HW.out]
  try rw [HG4.out]
  try rw [HG42.out]
  try rw [HG3.out]
  clear HG3 HG4 HG42 HW0 HW
  go_wp2_with ((with_reducible show wpList _ _ _ ({ dst := some 11, op := Op.load _ _, type := _, pos := _, after := _, guard := _ } :: _) _ _); go_must (refine wpList_load_whole rfl 41 (.tmp 3) rfl g3 _ (q.cells x) _ Tryd.underlying41 rfl (rd_size16 H32.out) R3.out ?_ ?_; go_simp))
  refine (loadC sb mb L q x B W (HST.out W B0.out) (HRD.out W B0.out) (Nat.le_trans HB.out B0.out.size) (by have := HP.out.rn; omega) (fun r hr => (HP.out.f.key r hr).2) HP.out.f.fee).mono ?_
  rintro e w1 ⟨hb1, hcs⟩
  have B1 := Lib.hid (B0.out.trans (hb1.mono B0.out.size))
  have R31 := Lib.hid (R3.out.below hb1 R3.out.lt)
  have R41 := Lib.hid (R4'.out.below hb1 R4'.out.lt)
  clear hb1 R3 R4' B0
  rcases hcs with ⟨hpay, rfl⟩ | ⟨hpay, gl, cap, rest, rfl, hol⟩
  · have HAP : Hid (apply16 L x = ((out0, 22), L)) := Lib.hid (by unfold apply16; rw [if_neg (by rw [hpay]; decide)])
    clear hpay
    go_wp2_with (first
      | ((with_reducible show wpList _ _ _ ({ dst := some 17, op := Op.build _ _, type := _, pos := _, after := _, guard := _ } :: _) _ _); go_must (refine wpList_plain rfl fun K hK => wp_built _ _ _ rfl (by simp only [List.map_toArray, List.map_nil]; exact built_out0) (hK _ _ ?_)))
      | ((with_reducible show wpList _ _ _ ({ dst := none, op := Op.store 54 (.tmp 4) _, type := _, pos := _, after := _, guard := _ } :: _) _ _); go_must (refine wpList_store_whole rfl 54 (.tmp 4) (.tmp 17) rfl g4 (out0.cells (.slice none 0 0)) (out0.cells (.slice none 0 0)) R41.out (size_out15 _ _) rfl (out_one15 _ rfl) ?_ ?_ ?_; go_simp; go_simp; intro w5 hr5 ht5)))
    have R5 := Lib.hid hr5
    have B5 := Lib.hid (B1.out.trans (ht5.below HGL.out.2.1))
    clear hr5 ht5
    refine bodyPost_ret (results_cell1 (h := rfl) _ w5 ⟨g4, 0, none⟩ _ _ (by rfl) (by rfl) (run_loadVar_row w5 g4 54 54 (out0.cells (.slice none 0 0)).toArray (0, 0) _ R5.out.is Tryd.underlying54 rfl (by rw [List.size_toArray]; exact size_out15 _ _))) rfl ?_
    exact ap_bad16 HAP.out (HST.out _ B5.out) (gb_of _ B5.out)
  have HPY := Lib.hid hpay
  have OL := Lib.hid hol
  have HRC := Lib.hid (runC q x B (some ⟨gl, 0, none⟩) x.roles.length x.roles.length (load15 L x) w1)
  clear hpay hol
  have HRC2 : Hid (Calls Tryd.prog 13 #[.agg (q.cells x).toArray, .slice (some ⟨gl, 0, none⟩) x.roles.length x.roles.length] w1 (RunDoneC w1 (run15 x (load15 L x)))) := Lib.hid (runC q x w1.heap.size (some ⟨gl, 0, none⟩) x.roles.length x.roles.length (load15 L x) w1 ((HRD.out w1 B1.out).more (Nat.le_trans HB.out B1.out.size)) (acc_in15 OL.out) ⟨Nat.le_refl _, by have h1 := HRL.out; have h2 := HP.out.rn; unfold maxLen; omega⟩ (Nat.le_refl _) (by have h1 := HRL.out; have h2 := HP.out.rn; omega) HP.out.pb HP.out.f.ins HP.out.u HP.out.sm (HTY.out w1 B1.out))
  clear HRC OL
  have HCH : Hid (∀ h ∈ (run15 x (load15 L x)).1.ch, HoldOk h) := Lib.hid (run_ch16 HP.out.f.key (load_ok16 HSO.out HPY.out HP.out.f) HP.out.f.ins).ok
  have HCL : Hid ((run15 x (load15 L x)).1.ch.length ≤ q.rn) := Lib.hid (by have := (run_ch16 HP.out.f.key (load_ok16 HSO.out HPY.out HP.out.f) HP.out.f.ins).len; rwa [HRL.out] at this)
  have HE := Lib.hid (run_e16 x (load15 L x))
  have HAP1 : Hid ((run15 x (load15 L x)).2 = 0 → apply16 L x = (((run15 x (load15 L x)).1, 0), commit16 L (run15 x (load15 L x)).1.ch)) := Lib.hid fun h => by unfold apply16; rw [if_pos HPY.out, if_pos h]
  have HAP2 : Hid ((run15 x (load15 L x)).2 ≠ 0 → apply16 L x = ((out0, 1), L)) := Lib.hid fun h => by unfold apply16; rw [if_pos HPY.out, if_neg h]
  clear HPY HRL
  generalize run15 x (load15 L x) = R at *
  obtain ⟨o, er⟩ := R
  go_wp2_with ((with_reducible show wpList _ _ _ ({ dst := some 20, op := Op.load _ _, type := _, pos := _, after := _, guard := _ } :: _) _ _); go_must (refine wpList_load_whole rfl 41 (.tmp 3) rfl g3 _ (q.cells x) _ Tryd.underlying41 rfl (rd_size16 H32.out) R31.out ?_ ?_; go_simp))
  refine HRC2.out.mono ?_
  rintro e w2 ⟨A, c, rfl, hox, hb2⟩
  have B2 := Lib.hid (B1.out.trans (hb2.mono B1.out.size))
  have R42 := Lib.hid (R41.out.below hb2 R41.out.lt)
  have OX2 := Lib.hid hox
  have HLW1 := Lib.hid B1.out.size
  clear hb2 hox R41 R31 B1 HRC2
  go_upto_region 5 with (first
    | ((with_reducible show wpList _ _ _ ({ dst := some 8, op := Op.alloc _, type := _, pos := _, after := _, guard := _ } :: _) _ _); go_must (refine wpList_alloc_zero rfl 54 rfl (out0.cells (.slice none 0 0)) zero_out15 ?_))
    | ((with_reducible show wpList _ _ _ ({ dst := none, op := Op.store 54 (.tmp 8) _, type := _, pos := _, after := _, guard := _ } :: _) _ _); go_must (refine wpList_store_new rfl 54 (.tmp 8) (.tmp 23) rfl (o.cells (.slice A o.ch.length o.ch.length)) (size_out15 _ _) (out_one15 _ rfl) rfl ?_ ?_ ?_; go_simp; go_simp; intro w6 hr6 hb6 hz6)))
  have R8 := Lib.hid hr6
  have B6 := Lib.hid (B2.out.trans (hb6.mono B2.out.size))
  have R46 := Lib.hid (R42.out.below hb6 R42.out.lt)
  have OX6 := Lib.hid (own_below OX2.out hb6)
  obtain ⟨g8, hg8⟩ : ∃ v, v = w2.heap.size := ⟨_, rfl⟩
  have HG8 : Hid (w.heap.size ≤ g8) := Lib.hid (by rw [hg8]; exact B2.out.size)
  rw [← hg8] at R8 ⊢
  clear hr6 hb6 hz6 hg8 R42 B2 OX2
  by_cases he : er = 0
  · subst he
    have HAP := Lib.hid (HAP1.out rfl)
    clear HAP1 HAP2 HE
    go_wp2_with ((with_reducible show wpList _ _ _ ({ dst := some 30, op := Op.load _ _, type := _, pos := _, after := _, guard := _ } :: _) _ _); go_must (refine wpList_load_whole rfl 54 (.tmp 8) rfl g8 _ (o.cells (.slice A o.ch.length o.ch.length)) _ Tryd.underlying54 rfl (size_out15 _ _) R8.out ?_ ?_; go_simp))
    refine (commitC sb mb L o A o.ch.length o.ch.length w6.heap.size w6 (HST.out _ B6.out) (hols_in16 OX6.out HCH.out) (Nat.le_refl _) HCH.out (by have h1 := HCL.out; have h2 := HL.out; omega)).mono ?_
    rintro e w7 ⟨rfl, hs7, hg7⟩
    have S7 := Lib.hid hs7
    have R87 := Lib.hid (R8.out.grown hg7 (fun e => (HST.out _ B6.out).row_ne R8.out (Option.some.inj e)))
    have R47 := Lib.hid (R46.out.grown hg7 (fun e => (HST.out _ B6.out).row_ne R46.out (Option.some.inj e)))
    have OX7 := Lib.hid (OX6.out.kept hg7 ((HST.out _ B6.out).own_ne16 OX6.out))
    have G7 := Lib.hid (gb_grown13 (gb_of (some mb) B6.out) hg7)
    have HSM : Hid (∀ g, sb ≠ g → mb ≠ g → ∀ V V', StIn V sb mb (commit16 L o.ch) → Turned V V' g → StIn V' sb mb (commit16 L o.ch)) := Lib.hid fun g h1 h2 V V' h ht => h.keep (ht.block sb h1) (ht.block mb h2)
    have HNE : Hid (sb ≠ g4 ∧ mb ≠ g4) := Lib.hid ⟨fun e => by have h1 := (HST.out _ (Below.refl _ _)).lt.1; have h2 := HGL.out; omega, fun e => by have h1 := (HST.out _ (Below.refl _ _)).lt.2; have h2 := HGL.out; omega⟩
    clear hs7 hg7 R8 R46 OX6 B6
    go_wp2_with (first
      | ((with_reducible show wpList _ _ _ ({ dst := some 32, op := Op.load _ _, type := _, pos := _, after := _, guard := _ } :: _) _ _); go_must (refine wpList_load_whole rfl 54 (.tmp 8) rfl g8 _ (o.cells (.slice A o.ch.length o.ch.length)) _ Tryd.underlying54 rfl (size_out15 _ _) R87.out ?_ ?_; go_simp))
      | ((with_reducible show wpList _ _ _ ({ dst := none, op := Op.store 54 (.tmp 4) _, type := _, pos := _, after := _, guard := _ } :: _) _ _); go_must (refine wpList_store_whole rfl 54 (.tmp 4) (.tmp 32) rfl g4 (out0.cells (.slice none 0 0)) (o.cells (.slice A o.ch.length o.ch.length)) R47.out (size_out15 _ _) rfl (out_one15 _ rfl) ?_ ?_ ?_; go_simp; go_simp; intro w9 hr9 ht9)))
    have R9 := Lib.hid hr9
    have T9 := Lib.hid ht9
    clear hr9 ht9
    refine bodyPost_ret (results_cell1 (h := rfl) _ w9 ⟨g4, 0, none⟩ _ _ (by rfl) (by rfl) (run_loadVar_row w9 g4 54 54 (o.cells (.slice A o.ch.length o.ch.length)).toArray (0, 0) _ R9.out.is Tryd.underlying54 rfl (by rw [List.size_toArray]; exact size_out15 _ _))) rfl ?_
    rw [HAP.out]
    refine ⟨A, c, rfl, own_baseR (own_turned OX7.out R47.out (by decide) T9.out) HLW1.out, HSM.out g4 HNE.out.1 HNE.out.2 _ _ S7.out T9.out, gb_turned G7.out T9.out (.inl HGL.out.2.1)⟩
  · have HAP := Lib.hid (HAP2.out he)
    obtain rfl : er = 1 := by
      rcases HE.out with h | h
      · exact absurd h he
      · injection h
    clear HAP1 HAP2 HE he
    go_wp2_with (first
      | ((with_reducible show wpList _ _ _ ({ dst := some 27, op := Op.build _ _, type := _, pos := _, after := _, guard := _ } :: _) _ _); go_must (refine wpList_plain rfl fun K hK => wp_built _ _ _ rfl (by simp only [List.map_toArray, List.map_nil]; exact built_out0) (hK _ _ ?_)))
      | ((with_reducible show wpList _ _ _ ({ dst := none, op := Op.store 54 (.tmp 4) _, type := _, pos := _, after := _, guard := _ } :: _) _ _); go_must (refine wpList_store_whole rfl 54 (.tmp 4) (.tmp 27) rfl g4 (out0.cells (.slice none 0 0)) (out0.cells (.slice none 0 0)) R46.out (size_out15 _ _) rfl (out_one15 _ rfl) ?_ ?_ ?_; go_simp; go_simp; intro w9 hr9 ht9)))
    have R9 := Lib.hid hr9
    have B9 := Lib.hid (B6.out.trans (ht9.below HGL.out.2.1))
    clear hr9 ht9
    refine bodyPost_ret (results_cell1 (h := rfl) _ w9 ⟨g4, 0, none⟩ _ _ (by rfl) (by rfl) (run_loadVar_row w9 g4 54 54 (out0.cells (.slice none 0 0)).toArray (0, 0) _ R9.out.is Tryd.underlying54 rfl (by rw [List.size_toArray]; exact size_out15 _ _))) rfl ?_
    exact ap_bad16 HAP.out (HST.out _ B9.out) (gb_of _ B9.out)
end Go.Proofs.YtfaefpniiiandaaDoor

/-
  Of part Round16: what is needed here.
-/
namespace Go.Proofs.YtfaefpniiiandaaDoor
open Go.RowKit Go.Shelf
set_option linter.unusedVariables false
set_option maxRecDepth 100000
/-- no limit, in a round or outside -/
def FW (ro : Option Nat) : Fence := { Fence.wide with round := ro }
section
variable {ro : Option Nat} {n : Nat} {P : Program} {o : Oper} {a : Act} {w : World} {K : Act → World → Prop} {Q : Exit → Act → World → Prop} {ops : Array Oper} {rest : List Oper}
theorem opIn16 (hd : ∀ c, o.op ≠ .defer c) (h : Oper.wp P o a w K Q) : Oper.wpIn (FW ro) n P o a w K Q := by
  refine ⟨fun _ _ => trivial, ?_⟩
  rw [Oper.semAt_eq _ _ _ hd]
  unfold Oper.wp at h
  generalize (execOp a.eval o).run P w = r at *
  cases r with
  | ok x w' =>
    cases x with
    | value v => exact h
    | skip => exact h
    | defer d => exact h
    | enter f args =>
      refine ⟨fun e => (by cases e), ?_⟩
      have h' := (callsIn_wide (n := n - 1)).2 h
      exact CallsIn.mono (F := Fence.wide) h' (fun e w'' he => by cases e <;> exact he)
    | row row args =>
      refine ⟨fun e => (by cases e), fun c cs _ => ?_⟩
      have h' : Rows P row args w' _ := h
      obtain ⟨v, w'', r, s⟩ := h' c cs
      exact ⟨v, w'', r, stepsIn_wide.2 s⟩
    | _ => exact (h : False).elim
  | halt x w' =>
    cases x with
    | panic v => exact h
    | _ => exact (h : False).elim
/-- one operation -/
theorem listIn16 (hd : ∀ c, o.op ≠ .defer c) (hQ : ¬ LetsOut Q) (h : ∀ K : Act → World → Prop, (∀ a' w', wpListIn (FW ro) n P ops Q rest a' w' → K a' w') → wpList P ops (Exit.then K Q) [o] a w) : wpListIn (FW ro) n P ops Q (o :: rest) a w := by
  have h := h _ (fun _ _ h => h)
  unfold wpList at h
  unfold wpListIn
  split
  · rename_i hw
    rw [if_pos hw] at h
    rcases h with h | ⟨_, a', w', h⟩
    · exact opIn16 hd (K := wpListIn (FW ro) n P ops Q rest) (by
        unfold Oper.wp at h ⊢
        generalize (execOp a.eval o).run P w = r at *
        cases r with
        | ok x w' =>
          cases x with
          | value v => exact h
          | skip => exact h
          | defer d => exact h
          | enter f args =>
            have h' : Calls P f args w' _ := h
            refine h'.mono fun e w'' he => ?_
            cases e with
            | outgrown => obtain ⟨a1, w1, h1⟩ := he; exact ⟨a1, w1, h1⟩
            | _ => exact he
          | row row args => exact h
          | _ => exact (h : False).elim
        | halt x w' => cases x <;> exact h)
    · exact absurd ⟨a', w', h⟩ hQ
  · rename_i hw
    rw [if_neg hw] at h
    exact ⟨fun _ _ => trivial, h⟩
theorem listInW16 (hd : ∀ c, o.op ≠ .defer c) (hQ : ¬ LetsOut Q) (h : ∀ K : Act → World → Prop, (∀ a' w', wpListIn Fence.wide n P ops Q rest a' w' → K a' w') → wpList P ops (Exit.then K Q) [o] a w) : wpListIn Fence.wide n P ops Q (o :: rest) a w := listIn16 (ro := none) hd hQ h
theorem listInR16 {l : Nat} (hd : ∀ c, o.op ≠ .defer c) (hQ : ¬ LetsOut Q) (h : ∀ K : Act → World → Prop, (∀ a' w', wpListIn (Fence.wide.inRound l) n P ops Q rest a' w' → K a' w') → wpList P ops (Exit.then K Q) [o] a w) : wpListIn (Fence.wide.inRound l) n P ops Q (o :: rest) a w := listIn16 (ro := some l) hd hQ h
theorem anyIn16 {md : Region.Mode} (hd : ∀ (i : Nat) (o : Oper), ops[i]? = some o → ∀ c, o.op ≠ .defer c) (hQ : ¬ LetsOut Q) : ∀ (fuel : Nat) (listed : Array Bool) (a : Act) (w : World), wpAny P md ops Q fuel listed a w → wpAnyIn (FW ro) n P md ops Q fuel listed a w
  | 0, _, _, _, h => h
  | fuel + 1, listed, a, w, h => ⟨h.1, fun i hi => by
      have h1 := h.2 i hi
      unfold wpOp at h1
      unfold wpOpIn
      cases ho : ops[i]? with
      | none =>
        rw [ho] at h1
        exact anyIn16 hd hQ fuel _ a w h1
      | some o =>
        rw [ho] at h1
        dsimp only at h1 ⊢
        split
        · rename_i hw
          rw [if_pos hw] at h1
          rcases h1 with h1 | ⟨_, h1⟩
          · exact opIn16 (hd i o ho) (by
              unfold Oper.wp at h1 ⊢
              generalize (execOp a.eval o).run P w = r at *
              cases r with
              | ok x w' =>
                cases x with
                | value v => exact anyIn16 hd hQ fuel _ _ _ h1
                | skip => exact anyIn16 hd hQ fuel _ _ _ h1
                | defer d => exact anyIn16 hd hQ fuel _ _ _ h1
                | enter f args =>
                  have h' : Calls P f args w' _ := h1
                  refine h'.mono fun e w'' he => ?_
                  cases e with
                  | returned v => exact anyIn16 hd hQ fuel _ _ _ he
                  | _ => exact he
                | row row args =>
                  have h' : Rows P row args w' _ := h1
                  exact h'.mono fun v w'' he => anyIn16 hd hQ fuel _ _ _ he
                | _ => exact (h1 : False).elim
              | halt x w' => cases x <;> exact h1)
          · exact absurd h1 hQ
        · rename_i hw
          rw [if_neg hw] at h1
          exact ⟨fun _ _ => trivial, anyIn16 hd hQ fuel _ _ _ h1⟩⟩
/-- a region that draws its order -/
theorem regionIn16 {id : Nat} {L : List Oper} {S : World → Prop} (hm : P.follows .mixedOrders = true) (hd : ∀ o ∈ L, ∀ c, o.op ≠ .defer c) (hQ : ¬ LetsOut Q)
    (h : wpAnyH P .any L.toArray Q S L.toArray.size (Array.replicate L.toArray.size false) a w.drew) : (Code.region id L.toArray true).wpIn (FW ro) n P Q a w :=
  wpIn_region_any hm (anyIn16 (fun i o ho => hd o (by simpa using List.mem_of_getElem? (by simpa using ho))) hQ _ _ _ _ (wpAny_of_held _ _ _ _ h))
theorem regionInR16 {l id : Nat} {L : List Oper} {S : World → Prop} (hm : P.follows .mixedOrders = true) (hd : ∀ o ∈ L, ∀ c, o.op ≠ .defer c) (hQ : ¬ LetsOut Q)
    (h : wpAnyH P .any L.toArray Q S L.toArray.size (Array.replicate L.toArray.size false) a w.drew) : (Code.region id L.toArray true).wpIn (Fence.wide.inRound l) n P Q a w := regionIn16 (ro := some l) hm hd hQ h
end
end Go.Proofs.YtfaefpniiiandaaDoor

/-
  Of part Iter16: what is needed here.
-/
namespace Go.Proofs.YtfaefpniiiandaaDoor
open Go.RowKit Go.Shelf
set_option linter.unusedVariables false
set_option maxRecDepth 100000
attribute [local go_sem] Oper.semAt_some
/-- a list of transactions, as it is read -/
structure RdsIn (w : World) (B : Nat) (A : Option Addr) (n : Nat) (l : List (YRaw × LReady)) : Prop where
  len : l.length = n
  each : ∀ (k : Nat) (p : YRaw × LReady), l[k]? = some p → ReadyIn w B p.1 p.2
  sees : ∀ (k : Nat) (p : YRaw × LReady), l[k]? = some p → ∃ a, A = some a ∧ a.block < B ∧ ∀ j u, (p.1.cells p.2)[j]? = some u → w.cell? ((a.add (k * 48)).add j) = some u
theorem RdsIn.keep {w w' : World} {B n : Nat} {A : Option Addr} {l : List (YRaw × LReady)} (h : RdsIn w B A n l) (hk : ∀ p : Addr, p.block < B → w'.cell? p = w.cell? p) : RdsIn w' B A n l :=
  ⟨h.len, fun k p hp => (h.each k p hp).keep hk, fun k p hp => by
    obtain ⟨a, e, hb, hc⟩ := h.sees k p hp
    exact ⟨a, e, hb, fun j u hu => (hk _ (by rw [addr_block, addr_block]; exact hb)).trans (hc j u hu)⟩⟩
theorem RdsIn.below {w w' : World} {B n : Nat} {A : Option Addr} {l : List (YRaw × LReady)} (h : RdsIn w B A n l) (hb : Below B w w') : RdsIn w' B A n l := h.keep fun _ hp => hb.cell hp
/-- the accounts when k are done -/
def sto16 (L : List LHold) (l : List (YRaw × LReady)) (k : Nat) : List LHold := (fold16 ((l.take k).map (·.2)) ⟨[], 0, 0, L⟩).L
/-- where a fold's things lie: its results, and what the function captured -/
structure FK16 where
  b4 : Nat
  b5 : Nat
  b6 : Nat
  bl : Nat
  bs : Nat
  sb : Nat
  mb : Nat
  ln : Nat
  lc : Nat
  LA : Option Addr
theorem rd_one16 {q : YRaw} {x : LReady} : ∀ u ∈ q.cells x, u.oneCell' = true := ycells_one
theorem applied16 (sb ln lc : Nat) (LA : Option Addr) (w : World) : Calls Tryd.prog 41 #[.pointer (some ⟨sb, 0, none⟩), .slice LA ln lc] w fun e w' =>
    e = .returned (.func (.func 60) #[] #[.pointer (some ⟨w.heap.size + 1, 0, none⟩), .pointer (some ⟨w.heap.size, 0, none⟩)]) ∧ w' = (w.alloc (.cells #[.pointer (some ⟨sb, 0, none⟩)] 45)).alloc (.cells #[.slice LA ln lc] 72) := by
  go_enter Tryd.func41, Tryd.ntmps41
  go_wp2
  go_ret
  exact ⟨rfl, rfl⟩
set_option maxHeartbeats 8000000 in
theorem iter16 (m n : Nat) (hn : 2 ≤ n) (hm : m = n - 1) (T : FK16) (B lp : Nat) (l : List (YRaw × LReady)) (L0 : List LHold) (w0 W : World) (hl : RdsIn w0 B T.LA T.ln l) (hB : B ≤ w0.heap.size) (hp : ∀ (k : Nat) (p : YRaw × LReady), l[k]? = some p → RdP16 p.1 p.2)
    (hlc : T.ln ≤ T.lc) (hln : T.ln ≤ 100000) (hs0 : StIn w0 T.sb T.mb L0) (hty : TypAt w0) (hlen : ∀ (k : Nat) (p : YRaw × LReady), l[k]? = some p → (sto16 L0 l k).length + p.1.rn ≤ 5000)
    (J : Nat → World → Prop) (Jx : World → Prop)
    (hJ : ∀ k V, J k V → w0.grownBy V (some T.mb) ∧ StIn V T.sb T.mb (sto16 L0 l k) ∧ Row V T.bl 72 [.slice T.LA T.ln T.lc] ∧ Row V T.bs 45 [.pointer (some ⟨T.sb, 0, none⟩)])
    (hJb : ∀ k V V', J k V → Below V.heap.size V V' → J k V')
    (hY : ∀ (k : Nat) (p : YRaw × LReady) (V V' : World) (A : Option Addr) (c : Nat), l[k]? = some p → J k V →
      V'.ownsRow V.heap.size 64 66 (.slice A (apply16 (sto16 L0 l k) p.2).1.1.ch.length c) (apply16 (sto16 L0 l k) p.2).1.1.ch.length (holC (apply16 (sto16 L0 l k) p.2).1.1.ch) → StIn V' T.sb T.mb (apply16 (sto16 L0 l k) p.2).2 → V.grownBy V' (some T.mb) →
      YieldAt Fence.wide m Tryd.prog lp #[.agg ((apply16 (sto16 L0 l k) p.2).1.1.cells (.slice A (apply16 (sto16 L0 l k) p.2).1.1.ch.length (apply16 (sto16 L0 l k) p.2).1.1.ch.length)).toArray, .int .i64 (apply16 (sto16 L0 l k) p.2).1.2] V'
        (fun e W' => (e = .returned (.bool true) ∧ J (k + 1) W') ∨ (e = .returned (.bool false) ∧ Jx W')))
    (h0 : J 0 W) :
    CallsIn Fence.wide n Tryd.prog 60 #[.func (.yield lp) #[] #[], .pointer (some ⟨T.bl, 0, none⟩), .pointer (some ⟨T.bs, 0, none⟩)] W fun e W' => (∃ v, e = .returned v) ∧ (J T.ln W' ∨ Jx W') := by
  have HL := Lib.hid hl
  have HB := Lib.hid hB
  have HP := Lib.hid hp
  have HS0 := Lib.hid hs0
  have HTY := Lib.hid hty
  have HLEN := Lib.hid hlen
  have HJ := Lib.hid hJ
  have HJB := Lib.hid hJb
  have HY := Lib.hid hY
  have H0 := Lib.hid h0
  clear hl hB hp hs0 hty hlen hJ hJb hY h0
  subst hm
  refine callsIn_of_wp Tryd.func60 rfl trivial ?_ rfl
  simp only [Tryd.ntmps60, List.size_toArray, List.length_cons, List.length_nil, Nat.reduceAdd, Nat.reduceSub, Array.replicate_succ, Array.replicate_zero, List.push_toArray, List.append_toArray, List.nil_append, List.cons_append]
  have cl : W.cell? ⟨T.bl, 0, none⟩ = some (.slice T.LA T.ln T.lc) := (HJ.out 0 W H0.out).2.2.1.cell 0
  gi_wp2_with fail
  clear cl
  gi_loopw [8] (fun i wr => ∃ k : Nat, k ≤ T.ln ∧ i = .int .i64 k ∧ J k wr) (fun i _ => T.ln - (intOf i).toNat)
  case atStart => exact ⟨0, Nat.zero_le _, rfl, H0.out⟩
  case round =>
    obtain ⟨k, hk, rfl, hj⟩ := hrel
    have JW := Lib.hid hj
    clear hj H0
    by_cases hlt : k < T.ln
    · have hlt' : (k : Int) < T.ln := by omega
      obtain ⟨p, hpk⟩ : ∃ p, l[k]? = some p := ⟨_, List.getElem?_eq_getElem (by rw [HL.out.len]; exact hlt)⟩
      have HPK := Lib.hid hpk
      obtain ⟨hg, hst, hrl, hrs⟩ := HJ.out k wr JW.out
      have KP : Hid (∀ p : Addr, p.block < B → wr.cell? p = w0.cell? p) := Lib.hid (keep16 HS0.out hst hg HB.out)
      have HBW : Hid (B ≤ wr.heap.size) := Lib.hid (Nat.le_trans HB.out hg.size)
      have hty := HTY.out
      have TY : Hid (TypAt wr) := Lib.hid (hty.keep (keep16 HS0.out hst hg (Nat.le_refl _)) hty.pos)
      obtain ⟨a, ea, hab, hcs⟩ := (HL.out.keep KP.out).sees k p hpk
      have RI : Hid (ReadyIn wr B p.1 p.2) := Lib.hid ((HL.out.keep KP.out).each k p hpk)
      have PP := Lib.hid (HP.out k p hpk)
      have LE := Lib.hid (HLEN.out k p hpk)
      have HY1 := Lib.hid (HY.out k p)
      have HCX := Lib.hid hcs
      rw [ea]
      have HSZ := Lib.hid (rd_size16 (q := p.1) RI.out.tx.m.recent)
      have HLL := Lib.hid (ycells_len (q := p.1) RI.out.tx.m.recent)
      have HONE := Lib.hid (rd_one16 (q := p.1) (x := p.2))
      have ST := Lib.hid hst
      have RS := Lib.hid hrs
      clear hg hst hrl hrs hty hcs hab hpk ea
      generalize hap : apply16 (sto16 L0 l k) p.2 = R at *
      have HAP := Lib.hid hap
      clear hap
      gi_wp2_with (first
        | ((with_reducible show wpListIn _ _ _ _ _ ({ dst := some 11, op := Op.load _ _, type := _, pos := _, after := _, guard := _ } :: _) _ _); go_must (refine listInW16 (fun _ e => by cases e) (by rintro ⟨a0, w0, h⟩; obtain ⟨⟨v, e⟩, _⟩ := h; cases e) fun K hK => ?_; refine wpList_load_at rfl 41 (.tmp 10) rfl (a.add (k * 48)) (p.1.cells p.2) _ Tryd.underlying41 rfl HSZ.out HCX.out ?_ ?_; go_simp; refine hK _ _ ?_))
        | ((with_reducible show wpListIn _ _ _ _ _ ({ dst := none, op := Op.store 41 (.tmp 5) _, type := _, pos := _, after := _, guard := _ } :: _) _ _); go_must (refine listInW16 (fun _ e => by cases e) (by rintro ⟨a0, w0, h⟩; obtain ⟨⟨v, e⟩, _⟩ := h; cases e) fun K hK => ?_; refine wpList_store_new rfl 41 (.tmp 5) (.tmp 11) rfl (p.1.cells p.2) HSZ.out HONE.out (by rw [HLL.out]; rfl) ?_ ?_ ?_; go_simp; go_simp; intro w8 hr8 hb8 hz8; refine hK _ _ ?_; have cs8 : w8.cell? ⟨T.bs, 0, none⟩ = some (.pointer (some ⟨T.sb, 0, none⟩)) := (RS.out.below hb8 RS.out.lt).cell 0))
        | ((with_reducible show wpListIn _ _ _ _ _ ({ dst := some 14, op := Op.load _ _, type := _, pos := _, after := _, guard := _ } :: _) _ _); go_must (refine listInW16 (fun _ e => by cases e) (by rintro ⟨a0, w0, h⟩; obtain ⟨⟨v, e⟩, _⟩ := h; cases e) fun K hK => ?_; refine wpList_load_whole rfl 41 (.tmp 5) rfl wr.heap.size _ (p.1.cells p.2) _ Tryd.underlying41 rfl HSZ.out hr8 ?_ ?_; go_simp; refine hK _ _ ?_)))
      have R8 := Lib.hid hr8
      have ST8 := Lib.hid (ST.out.below hb8)
      have RS8 := Lib.hid (RS.out.below hb8 RS.out.lt)
      have J8 := Lib.hid (HJB.out k _ _ JW.out hb8)
      have RI8 : Hid (ReadyIn w8 B p.1 p.2) := Lib.hid (RI.out.below (hb8.mono HBW.out))
      have TY8 : Hid (TypAt w8) := Lib.hid (TY.out.below hb8 TY.out.pos)
      have HB8 : Hid (B ≤ w8.heap.size) := Lib.hid (Nat.le_trans HBW.out hb8.size)
      clear hr8 hb8 hz8 ST RS JW
      have HAC := Lib.hid (applyC T.sb T.mb (sto16 L0 l k) p.1 p.2 B w8 ST8.out RI8.out PP.out HB8.out LE.out TY8.out)
      rw [HAP.out] at HAC
      clear HAP
      refine ⟨trivial, fun _ => by omega, (callsIn_wide.2 HAC.out).mono ?_⟩
      rintro e w9 ⟨A, c, rfl, ho9, hs9, hg9⟩
      obtain ⟨f9, t9, a9, b9, hy9, hR9⟩ := HY1.out w8 w9 A c HPK.out J8.out ho9 hs9 hg9
      clear ho9 hs9 hg9 J8 cs8 HAC
      gi_wp2_with fail
      refine ⟨fun _ => by omega, hR9.mono ?_⟩
      rintro e w10 (⟨rfl, hj10⟩ | ⟨rfl, hx10⟩)
      · have J10 := Lib.hid hj10
        clear hj10 hy9 hR9
        gi_wp2_with fail
        go_roundw
        case rel => exact ⟨k + 1, by omega, by go_num, J10.out⟩
        case measure => simp [intOf]; omega
      · have X10 := Lib.hid hx10
        clear hx10 hy9 hR9
        gi_wp2_with fail
        refine bodyPost_ret (results_none rfl _ _ _) rfl ?_
        exact ⟨⟨_, rfl⟩, .inr X10.out⟩
    · have hke : k = T.ln := by omega
      have hlt' : ¬ (k : Int) < T.ln := by omega
      rw [hke] at JW
      gi_wp2_with fail
      go_end0
      exact ⟨⟨_, rfl⟩, .inl JW.out⟩
end Go.Proofs.YtfaefpniiiandaaDoor

/-
  Of part Move16: what is needed here.
-/
namespace Go.Proofs.YtfaefpniiiandaaDoor
open Go.RowKit
set_option linter.unusedVariables false
set_option maxRecDepth 100000
def dat16x : List Int := [2, 0, 0, 0, 184, 11, 0, 0, 0, 0, 0, 0]
def in16x : LIn := ⟨2, [0, 1], dat16x⟩
def ms16x : LMsg := ⟨false, 0, 0, 0, [], zero32, [in16x], []⟩
def rd16x : LReady := ⟨[], ⟨[], ms16x⟩, ro15x, 400000, 0, -1, 5000, 0, 0⟩
theorem dat_ok16x : AllBytes dat16x := by
  have h : ∀ z ∈ dat16x, 0 ≤ z ∧ z < 256 := by decide
  exact h
theorem built_ms16x (gi : Nat) : Tryd.prog.built 33 [(4, .slice (some ⟨gi, 0, none⟩) 1 1)] = some ((q15x gi 0).t.q.cells ms16x).toArray := by kernel_rfl
theorem built_tx16x (gi : Nat) : Tryd.prog.built 35 [(1, .agg ((q15x gi 0).t.q.cells ms16x).toArray)] = some ((q15x gi 0).t.cells ⟨[], ms16x⟩).toArray := by kernel_rfl
theorem built_rd16x (gi gr : Nat) : Tryd.prog.built 41 [(1, .agg ((q15x gi 0).t.cells ⟨[], ms16x⟩).toArray), (2, .slice (some ⟨gr, 0, none⟩) 3 3), (3, .agg ([.int .u64 400000, .int .u64 0, .int .i64 (-1)] : List Value).toArray), (4, .int .u64 5000)] = some ((q15x gi gr).cells rd16x).toArray := by kernel_rfl
theorem size_rdx16 (gi gr : Nat) : (Tryd.prog.info? 41).map (·.size) = some ((q15x gi gr).cells rd16x).length := by kernel_rfl
theorem one_rdx16 (gi gr : Nat) : ∀ u ∈ (q15x gi gr).cells rd16x, u.oneCell' = true := by
  intro u hu
  unfold YRaw.cells at hu
  rcases List.mem_cons.1 hu with rfl | hu
  · rfl
  rcases List.mem_append.1 hu with hu | hu
  · exact tcells_one u hu
  rcases List.mem_cons.1 hu with rfl | hu
  · rfl
  · simp only [LReady.last, List.mem_cons, List.not_mem_nil, or_false] at hu
    rcases hu with rfl | rfl | rfl | rfl | rfl | rfl <;> rfl
/-- what move answers -/
def MvDone16 (w : World) (e : Ending) (w' : World) : Prop := ∃ gi gr, e = .returned (.agg ((q15x gi gr).cells rd16x).toArray) ∧ ReadyIn w' w'.heap.size (q15x gi gr) rd16x ∧ Below w.heap.size w w'
theorem mv_in16 {V : World} {gi gr ga gd : Nat} (hi : Row V gi 70 (ic15x ga gd)) (hr : Row V gr 62 roC15x) (ha : Row V ga 5 (bv [0, 1])) (hd : Row V gd 5 (bv dat16x)) : ReadyIn V V.heap.size (q15x gi gr) rd16x := by
  refine ⟨Sees.nil _ _ _, by simp [q15x, maxLen], ⟨⟨rfl, fun k hk => (by cases hk), Sees.nil _ _ _⟩, by simp [q15x, maxLen], ?_⟩, ?_, by simp [q15x, maxLen]⟩
  · refine ⟨rfl, ⟨rfl, fun k hk => (by cases hk), Sees.nil _ _ _⟩, ⟨rfl, fun i y hy => ?_⟩, ⟨rfl, fun i y hy => (by cases hy)⟩, by simp [q15x, maxLen], by simp [q15x, maxLen], by simp [q15x, maxLen]⟩
    have hi0 : i = 0 := by
      have := (List.getElem?_eq_some_iff.1 hy).1
      simp [rd16x, ms16x] at this
      exact this
    subst hi0
    obtain rfl : in16x = y := by simpa [rd16x, ms16x] using hy
    refine ⟨⟨gi, 0, none⟩, .slice (some ⟨ga, 0, none⟩) 2 2, .slice (some ⟨gd, 0, none⟩) 12 12, rfl, hi.lt, ?_, ?_, ?_, ?_, ?_⟩
    · exact hi.cell 0
    · exact hi.cell 1
    · exact hi.cell 2
    · exact ⟨_, 2, rfl, ha.sees0, Nat.le_refl _, by unfold maxLen; omega⟩
    · exact ⟨_, 12, rfl, hd.sees0, Nat.le_refl _, by unfold maxLen; omega⟩
  · have e : (List.map LRole.cells ro15x).flatten = roC15x := by simp [ro15x, roC15x]
    exact roles_row (l := ro15x) (ys := []) (by rw [List.append_nil, e]; exact hr) rfl ro_ok15x hr.lt
/-- what is there while it is made -/
structure MX16 (w V : World) (g3 g4 g6 g7 ga gd : Nat) : Prop where
  b : Below w.heap.size w V
  r3 : Row V g3 57 (bv (kx15 8))
  r4 : Row V g4 57 (bv (kx15 9))
  r6 : Row V g6 41 zrdC
  r7 : Row V g7 70 (ic15x ga gd)
  ra : Row V ga 5 (bv [0, 1])
  rd : Row V gd 5 (bv dat16x)
theorem MX16.below {w V V' : World} {g3 g4 g6 g7 ga gd : Nat} (m : MX16 w V g3 g4 g6 g7 ga gd) (hb : Below V.heap.size V V') : MX16 w V' g3 g4 g6 g7 ga gd :=
  ⟨m.b.trans (hb.mono m.b.size), m.r3.below hb m.r3.lt, m.r4.below hb m.r4.lt, m.r6.below hb m.r6.lt, m.r7.below hb m.r7.lt, m.ra.below hb m.ra.lt, m.rd.below hb m.rd.lt⟩
set_option maxHeartbeats 8000000 in
theorem move16 (w : World) : Calls Tryd.prog 37 #[.agg (bv (kx15 8)).toArray, .agg (bv (kx15 9)).toArray] w (MvDone16 w) := by
  have hb0 := (((Below.refl w.heap.size w).alloc (Nat.le_refl _) (.cells (bv (kx15 8)).toArray 57)).alloc (by simp) (.cells (bv (kx15 9)).toArray 57)).alloc (by simp; omega) (.cells zrdC.toArray 41)
  have r3 := ((Row.new w 57 (bv (kx15 8))).alloc (.cells (bv (kx15 9)).toArray 57)).alloc (.cells zrdC.toArray 41)
  have r4 := (Row.new' (w.alloc (.cells (bv (kx15 8)).toArray 57)) 57 (bv (kx15 9)) (g := w.heap.size + 1) (by simp)).alloc (.cells zrdC.toArray 41)
  have r6 := Row.new' ((w.alloc (.cells (bv (kx15 8)).toArray 57)).alloc (.cells (bv (kx15 9)).toArray 57)) 41 zrdC (g := w.heap.size + 1 + 1) (by simp)
  have R3 := Lib.hid r3
  have R4 := Lib.hid r4
  have R6 := Lib.hid r6
  have B0 := Lib.hid hb0
  clear r3 r4 r6 hb0
  obtain ⟨g6, hg6⟩ : ∃ g, g = w.heap.size + 1 + 1 := ⟨_, rfl⟩
  obtain ⟨g4, hg4⟩ : ∃ g, g = w.heap.size + 1 := ⟨_, rfl⟩
  obtain ⟨g3, hg3⟩ : ∃ g, g = w.heap.size := ⟨_, rfl⟩
  have HG6 : Hid (w.heap.size + 1 + 1 = g6) := Lib.hid hg6.symm
  have HG4 : Hid (w.heap.size + 1 = g4) := Lib.hid hg4.symm
  have HG3 : Hid (w.heap.size = g3) := Lib.hid hg3.symm
  have HG6a : Hid (((w.alloc (.cells (bv (kx15 8)).toArray 57)).alloc (.cells (bv (kx15 9)).toArray 57)).heap.size = g6) := Lib.hid (by rw [hg6]; simp)
  have HG4a : Hid ((w.alloc (.cells (bv (kx15 8)).toArray 57)).heap.size = g4) := Lib.hid (by rw [hg4]; simp)
  have HGN : Hid (w.heap.size ≤ g6 ∧ g3 ≠ g6 ∧ g4 ≠ g6) := Lib.hid (by omega)
  rw [← hg6] at R6
  rw [← hg4] at R4
  rw [← hg3] at R3
  clear hg6 hg4 hg3
  go_enter Tryd.func37, Tryd.ntmps37
  go_upto_region 1 with ((with_reducible show wpList _ _ _ ({ dst := some 4, op := Op.alloc _, type := _, pos := _, after := _, guard := _ } :: _) _ _); go_must (refine wpList_alloc_zero rfl 41 rfl zrdC zero_rdx ?_))
  try rw [HG6a.out]
  try rw [HG6.out]
  try rw [HG4a.out]
  try rw [HG4.out]
  try rw [HG3.out]
  generalize hW : ((w.alloc (.cells (bv (kx15 8)).toArray 57)).alloc (.cells (bv (kx15 9)).toArray 57)).alloc (.cells zrdC.toArray 41) = W at *
  clear hW HG6 HG4 HG3 HG6a HG4a
  have ra := (Row.new W 5 (bv [0, 1])).alloc (.cells (bv dat16x).toArray 5)
  have rd := Row.new' (W.alloc (.cells (bv [0, 1]).toArray 5)) 5 (bv dat16x) (g := W.heap.size + 1) (by simp)
  have hb1 := ((Below.refl W.heap.size W).alloc (Nat.le_refl _) (.cells (bv [0, 1]).toArray 5)).alloc (by simp) (.cells (bv dat16x).toArray 5)
  have RA := Lib.hid ra
  have RD := Lib.hid rd
  have B1 := Lib.hid hb1
  clear ra rd hb1
  obtain ⟨gd, hgd⟩ : ∃ g, g = W.heap.size + 1 := ⟨_, rfl⟩
  obtain ⟨ga, hga⟩ : ∃ g, g = W.heap.size := ⟨_, rfl⟩
  have HGD : Hid (W.heap.size + 1 = gd) := Lib.hid hgd.symm
  have HGA : Hid (W.heap.size = ga) := Lib.hid hga.symm
  have HAD : Hid (g6 < ga ∧ g6 < gd) := Lib.hid (by have := R6.out.lt; omega)
  rw [← hgd] at RD
  rw [← hga] at RA
  clear hgd hga
  go_upto_region 2 with (first
    | ((with_reducible show wpList _ _ _ ({ dst := some 8, op := Op.build _ _, type := _, pos := _, after := _, guard := _ } :: _) _ _); go_must (refine wpList_plain rfl fun K hK => wp_built _ _ _ rfl (by simp only [List.map_toArray, List.map_cons, List.map_nil]; rw [HGD.out, HGA.out]; exact built_in15x ga gd) (hK _ _ ?_)))
    | ((with_reducible show wpList _ _ _ ({ dst := some 5, op := Op.alloc _, type := _, pos := _, after := _, guard := _ } :: _) _ _); go_must (refine wpList_alloc_zero rfl 70 rfl (insC 0 none 0 0 none 0 0) zero_insx ?_))
    | ((with_reducible show wpList _ _ _ ({ dst := none, op := Op.store 70 _ _, type := _, pos := _, after := _, guard := _ } :: _) _ _); go_must (refine wpList_store_new rfl 70 (.tmp 5) (.tmp 8) rfl (ic15x ga gd) (by kernel_rfl) ins_one15 rfl ?_ ?_ ?_; go_simp; go_simp; intro w7 hr7 hb7 hz7)))
  try rw [HGD.out]
  try rw [HGA.out]
  obtain ⟨g7, hg7⟩ : ∃ g, g = W.heap.size + 1 + 1 := ⟨_, rfl⟩
  have HS7 : Hid (W.heap.size < g7) := Lib.hid (by omega)
  rw [World.size_alloc, World.size_alloc] at hr7
  have hr7' : Row w7 g7 70 (ic15x ga gd) := by rw [hg7]; exact hr7
  try simp only [World.size_alloc]
  rw [← hg7]
  clear hg7
  try simp only [Act.put, List.setIfInBounds_toArray, List.set_cons_zero, List.set_cons_succ]
  have hb7' : Below ((W.alloc (.cells (bv [0, 1]).toArray 5)).alloc (.cells (bv dat16x).toArray 5)).heap.size ((W.alloc (.cells (bv [0, 1]).toArray 5)).alloc (.cells (bv dat16x).toArray 5)) w7 := hb7
  have M := Lib.hid (show MX16 w w7 g3 g4 g6 g7 ga gd from ⟨(B0.out.trans (B1.out.mono B0.out.size)).trans (hb7'.mono (Nat.le_trans B0.out.size B1.out.size)), (R3.out.below B1.out R3.out.lt).below hb7' (Nat.lt_of_lt_of_le R3.out.lt B1.out.size), (R4.out.below B1.out R4.out.lt).below hb7' (Nat.lt_of_lt_of_le R4.out.lt B1.out.size), (R6.out.below B1.out R6.out.lt).below hb7' (Nat.lt_of_lt_of_le R6.out.lt B1.out.size), hr7', RA.out.below hb7' RA.out.lt, RD.out.below hb7' RD.out.lt⟩)
  have H76 : Hid (g6 < g7) := Lib.hid (by have := R6.out.lt; have := HS7.out; omega)
  have MD : Hid (MX16 w w7.drew g3 g4 g6 g7 ga gd) := Lib.hid (M.out.below ⟨rfl, rfl, rfl, Nat.le_refl _, fun _ _ => rfl⟩)
  refine wp_region_held_drew (S := fun V => Row V g3 57 (bv (kx15 8)) ∧ Row V g4 57 (bv (kx15 9)) ∧ Row V g7 70 (ic15x ga gd)) (by kernel_rfl) ⟨MD.out.r3, MD.out.r4, MD.out.r7⟩ (fun _ => ?_)
  try dsimp only [List.append]
  clear M R3 R4 R6 RA RD B0 B1 HGD HGA hr7 hr7' hb7 hb7' hz7
  generalize w7.drew = wd at *
  refine takeL (i := 0) (v := .agg (ic15x ga gd).toArray) rfl (by kernel_rfl) (by kernel_rfl) (by kernel_rfl) (fun _ _ _ h => h) (Or.inl ⟨by rfl, fun wz hwz => exec_load_at wz 70 (.tmp 5) rfl ⟨g7, 0, none⟩ (ic15x ga gd) _ Tryd.underlying70 rfl (by kernel_rfl) (fun j u hu => by rw [addr_row, Nat.zero_add, hwz.2.2.cell]; exact hu) (by go_simp)⟩) ⟨MD.out.r3, MD.out.r4, MD.out.r7⟩ ?_
  try simp only [Act.put, List.setIfInBounds_toArray, List.set_cons_zero, List.set_cons_succ]
  refine takeL (i := 4) (v := .agg (bv (kx15 8)).toArray) rfl (by kernel_rfl) (by kernel_rfl) (by kernel_rfl) (fun _ _ _ h => h) (Or.inl ⟨by rfl, fun wz hwz => exec_load_at wz 57 (.tmp 2) rfl ⟨g3, 0, none⟩ (bv (kx15 8)) _ Tryd.underlying57 rfl (by kernel_rfl) (fun j u hu => by rw [addr_row, Nat.zero_add, hwz.1.cell]; exact hu) (by go_simp)⟩) ⟨MD.out.r3, MD.out.r4, MD.out.r7⟩ ?_
  try simp only [Act.put, List.setIfInBounds_toArray, List.set_cons_zero, List.set_cons_succ]
  refine takeL (i := 5) (v := .agg (LRole.mk (kx15 8) true true).cells.toArray) rfl (by kernel_rfl) (by kernel_rfl) (by kernel_rfl) (fun _ _ _ h => h) (Or.inl ⟨by rfl, fun wz hwz => exec_built wz _ _ _ rfl (by simp only [List.map_toArray, List.map_cons, List.map_nil]; exact built_ro1)⟩) ⟨MD.out.r3, MD.out.r4, MD.out.r7⟩ ?_
  try simp only [Act.put, List.setIfInBounds_toArray, List.set_cons_zero, List.set_cons_succ]
  refine takeL (i := 6) (v := .agg (bv (kx15 9)).toArray) rfl (by kernel_rfl) (by kernel_rfl) (by kernel_rfl) (fun _ _ _ h => h) (Or.inl ⟨by rfl, fun wz hwz => exec_load_at wz 57 (.tmp 3) rfl ⟨g4, 0, none⟩ (bv (kx15 9)) _ Tryd.underlying57 rfl (by kernel_rfl) (fun j u hu => by rw [addr_row, Nat.zero_add, hwz.2.1.cell]; exact hu) (by go_simp)⟩) ⟨MD.out.r3, MD.out.r4, MD.out.r7⟩ ?_
  try simp only [Act.put, List.setIfInBounds_toArray, List.set_cons_zero, List.set_cons_succ]
  refine takeL (i := 7) (v := .agg (LRole.mk (kx15 9) false true).cells.toArray) rfl (by kernel_rfl) (by kernel_rfl) (by kernel_rfl) (fun _ _ _ h => h) (Or.inl ⟨by rfl, fun wz hwz => exec_built wz _ _ _ rfl (by simp only [List.map_toArray, List.map_cons, List.map_nil]; exact built_ro2)⟩) ⟨MD.out.r3, MD.out.r4, MD.out.r7⟩ ?_
  try simp only [Act.put, List.setIfInBounds_toArray, List.set_cons_zero, List.set_cons_succ]
  refine takeL (i := 11) (v := .agg ([.int .u64 400000, .int .u64 0, .int .i64 (-1)] : List Value).toArray) rfl (by kernel_rfl) (by kernel_rfl) (by kernel_rfl) (fun _ _ _ h => h) (Or.inl ⟨by rfl, fun wz hwz => exec_built wz _ _ _ rfl (by simp only [List.map_toArray, List.map_cons, List.map_nil]; exact built_bu15x)⟩) ⟨MD.out.r3, MD.out.r4, MD.out.r7⟩ ?_
  try simp only [Act.put, List.setIfInBounds_toArray, List.set_cons_zero, List.set_cons_succ]
  refine readyL2 (i := 1) (j := 8) rfl rfl (by kernel_rfl) (by kernel_rfl) (by kernel_rfl) (fun K hK => ?_) (fun K hK => ?_)
  · refine wp_buildOne 30 70 (.tmp 9) rfl (ic15x ga gd) _ 3 56 Tryd.underlying30 info_insx zsz_insx (by omega) (by omega) rfl (by go_simp) ?_
    have hb1 := (Below.refl wd.heap.size wd).alloc (Nat.le_refl _) (.cells (ic15x ga gd).toArray 70)
    have RI1 := Lib.hid (Row.new wd 70 (ic15x ga gd))
    obtain ⟨gi1, hgi1⟩ : ∃ g, g = wd.heap.size := ⟨_, rfl⟩
    have HI1 : Hid (g6 < gi1) := Lib.hid (by rw [hgi1]; exact MD.out.r6.lt)
    rw [← hgi1] at RI1 ⊢
    clear hgi1
    have M1 := Lib.hid (MD.out.below hb1)
    clear hb1
    generalize wd.alloc (.cells (ic15x ga gd).toArray 70) = y1 at *
    refine hK.out _ _ ⟨M1.out.r3, M1.out.r4, M1.out.r7⟩ ?_
    clear hK K
    try simp only [Act.put, List.setIfInBounds_toArray, List.set_cons_zero, List.set_cons_succ]
    refine takeL (i := 2) (v := .agg ((q15x gi1 0).t.q.cells ms16x).toArray) rfl (by kernel_rfl) (by kernel_rfl) (by kernel_rfl) (fun _ _ _ h => h) (Or.inl ⟨by rfl, fun wz hwz => exec_built wz _ _ _ rfl (by simp only [List.map_toArray, List.map_cons, List.map_nil]; exact built_ms16x _)⟩) ⟨M1.out.r3, M1.out.r4, M1.out.r7⟩ ?_
    try simp only [Act.put, List.setIfInBounds_toArray, List.set_cons_zero, List.set_cons_succ]
    refine takeL (i := 3) (v := .agg ((q15x gi1 0).t.cells ⟨[], ms16x⟩).toArray) rfl (by kernel_rfl) (by kernel_rfl) (by kernel_rfl) (fun _ _ _ h => h) (Or.inl ⟨by rfl, fun wz hwz => exec_built wz _ _ _ rfl (by simp only [List.map_toArray, List.map_cons, List.map_nil]; exact built_tx16x _)⟩) ⟨M1.out.r3, M1.out.r4, M1.out.r7⟩ ?_
    try simp only [Act.put, List.setIfInBounds_toArray, List.set_cons_zero, List.set_cons_succ]
    refine readyL (i := 8) rfl (by kernel_rfl) (by kernel_rfl) fun K hK => ?_
    go_simp
    refine (system_ _).mono ?_
    rintro e y2 ⟨rfl, hb2⟩
    have M2 := Lib.hid (M1.out.below hb2)
    have RI2 := Lib.hid (RI1.out.below hb2 RI1.out.lt)
    clear hb2
    refine hK.out _ _ ⟨M2.out.r3, M2.out.r4, M2.out.r7⟩ ?_
    clear hK K
    try simp only [Act.put, List.setIfInBounds_toArray, List.set_cons_zero, List.set_cons_succ]
    refine takeL (i := 9) (v := .agg (LRole.mk k0 false false).cells.toArray) rfl (by kernel_rfl) (by kernel_rfl) (by kernel_rfl) (fun _ _ _ h => h) (Or.inl ⟨by rfl, fun wz hwz => exec_built wz _ _ _ rfl (by simp only [List.map_toArray, List.map_cons, List.map_nil]; exact built_ro3)⟩) ⟨M2.out.r3, M2.out.r4, M2.out.r7⟩ ?_
    try simp only [Act.put, List.setIfInBounds_toArray, List.set_cons_zero, List.set_cons_succ]
    refine readyL (i := 10) rfl (by kernel_rfl) (by kernel_rfl) fun K hK => ?_
    refine wp_buildThree15 36 62 (.tmp 14) (.tmp 16) (.tmp 18) rfl (LRole.mk (kx15 8) true true).cells (LRole.mk (kx15 9) false true).cells (LRole.mk k0 false false).cells _ 34 34 Tryd.underlying36 infoR zszRx (by omega) (by omega) rfl rfl rfl (by go_simp) (by go_simp) (by go_simp) ?_
    have hb3 := (Below.refl y2.heap.size y2).alloc (Nat.le_refl _) (.cells roC15x.toArray 62)
    have RR3 := Lib.hid (Row.new y2 62 roC15x)
    obtain ⟨gr3, hgr3⟩ : ∃ g, g = y2.heap.size := ⟨_, rfl⟩
    have HR3 : Hid (g6 < gr3) := Lib.hid (by rw [hgr3]; exact M2.out.r6.lt)
    rw [← hgr3] at RR3 ⊢
    clear hgr3
    have M3 := Lib.hid (M2.out.below hb3)
    have RI3 := Lib.hid (RI2.out.below hb3 RI2.out.lt)
    clear hb3
    rw [show (LRole.mk (kx15 8) true true).cells ++ ((LRole.mk (kx15 9) false true).cells ++ (LRole.mk k0 false false).cells) = roC15x from rfl]
    generalize y2.alloc (.cells roC15x.toArray 62) = y3 at *
    refine hK.out _ _ ⟨M3.out.r3, M3.out.r4, M3.out.r7⟩ ?_
    clear hK K
    try simp only [Act.put, List.setIfInBounds_toArray, List.set_cons_zero, List.set_cons_succ]
    refine takeL (i := 12) (v := .agg ((q15x gi1 gr3).cells rd16x).toArray) rfl (by kernel_rfl) (by kernel_rfl) (by kernel_rfl) (fun _ _ _ h => h) (Or.inl ⟨by rfl, fun wz hwz => exec_built wz _ _ _ rfl (by simp only [List.map_toArray, List.map_cons, List.map_nil]; exact built_rd16x _ _)⟩) ⟨M3.out.r3, M3.out.r4, M3.out.r7⟩ ?_
    try simp only [Act.put, List.setIfInBounds_toArray, List.set_cons_zero, List.set_cons_succ]
    refine readyL (i := 13) rfl (by kernel_rfl) (by kernel_rfl) fun K hK => ?_
    refine wp_store_whole 41 (.tmp 4) (.tmp 21) rfl g6 zrdC ((q15x gi1 gr3).cells rd16x) M3.out.r6 (size_rdx16 _ _) rfl (one_rdx16 _ _) (by go_simp) (by go_simp) (fun w9 hr9 ht9 => ?_)
    have R9 := Lib.hid hr9
    have T9 := Lib.hid ht9
    clear hr9 ht9
    refine hK.out _ _ ⟨T9.out.row M3.out.r3 HGN.out.2.1, T9.out.row M3.out.r4 HGN.out.2.2, T9.out.row M3.out.r7 (by have := H76.out; omega)⟩ ?_
    clear hK K
    try simp only [Act.put]
    refine wpAnyH_done (by kernel_rfl) ?_ _
    go_wp2_with fail
    refine bodyPost_ret (results_cell_row (h := rfl) _ w9 g6 41 _ (0, 0) _ (by rfl) R9.out.is Tryd.underlying41 rfl (size_rdx16 gi1 gr3)) rfl ?_
    exact ⟨gi1, gr3, rfl, mv_in16 (T9.out.row RI3.out (by have := HI1.out; omega)) (T9.out.row RR3.out (by have := HR3.out; omega)) (T9.out.row M3.out.ra (by have := HAD.out; omega)) (T9.out.row M3.out.rd (by have := HAD.out; omega)), M3.out.b.trans (T9.out.below HGN.out.1)⟩
  · go_simp
    refine (system_ _).mono ?_
    rintro e y4 ⟨rfl, hb4⟩
    have M4 := Lib.hid (MD.out.below hb4)
    clear hb4
    refine hK.out _ _ ⟨M4.out.r3, M4.out.r4, M4.out.r7⟩ ?_
    clear hK K
    try simp only [Act.put, List.setIfInBounds_toArray, List.set_cons_zero, List.set_cons_succ]
    refine takeL (i := 9) (v := .agg (LRole.mk k0 false false).cells.toArray) rfl (by kernel_rfl) (by kernel_rfl) (by kernel_rfl) (fun _ _ _ h => h) (Or.inl ⟨by rfl, fun wz hwz => exec_built wz _ _ _ rfl (by simp only [List.map_toArray, List.map_cons, List.map_nil]; exact built_ro3)⟩) ⟨M4.out.r3, M4.out.r4, M4.out.r7⟩ ?_
    try simp only [Act.put, List.setIfInBounds_toArray, List.set_cons_zero, List.set_cons_succ]
    refine readyL2 (i := 1) (j := 10) rfl rfl (by kernel_rfl) (by kernel_rfl) (by kernel_rfl) (fun K hK => ?_) (fun K hK => ?_)
    · refine wp_buildOne 30 70 (.tmp 9) rfl (ic15x ga gd) _ 3 56 Tryd.underlying30 info_insx zsz_insx (by omega) (by omega) rfl (by go_simp) ?_
      have hb5 := (Below.refl y4.heap.size y4).alloc (Nat.le_refl _) (.cells (ic15x ga gd).toArray 70)
      have RI5 := Lib.hid (Row.new y4 70 (ic15x ga gd))
      obtain ⟨gi5, hgi5⟩ : ∃ g, g = y4.heap.size := ⟨_, rfl⟩
      have HI5 : Hid (g6 < gi5) := Lib.hid (by rw [hgi5]; exact M4.out.r6.lt)
      rw [← hgi5] at RI5 ⊢
      clear hgi5
      have M5 := Lib.hid (M4.out.below hb5)
      clear hb5
      generalize y4.alloc (.cells (ic15x ga gd).toArray 70) = y5 at *
      refine hK.out _ _ ⟨M5.out.r3, M5.out.r4, M5.out.r7⟩ ?_
      clear hK K
      try simp only [Act.put, List.setIfInBounds_toArray, List.set_cons_zero, List.set_cons_succ]
      refine takeL (i := 2) (v := .agg ((q15x gi5 0).t.q.cells ms16x).toArray) rfl (by kernel_rfl) (by kernel_rfl) (by kernel_rfl) (fun _ _ _ h => h) (Or.inl ⟨by rfl, fun wz hwz => exec_built wz _ _ _ rfl (by simp only [List.map_toArray, List.map_cons, List.map_nil]; exact built_ms16x _)⟩) ⟨M5.out.r3, M5.out.r4, M5.out.r7⟩ ?_
      try simp only [Act.put, List.setIfInBounds_toArray, List.set_cons_zero, List.set_cons_succ]
      refine takeL (i := 3) (v := .agg ((q15x gi5 0).t.cells ⟨[], ms16x⟩).toArray) rfl (by kernel_rfl) (by kernel_rfl) (by kernel_rfl) (fun _ _ _ h => h) (Or.inl ⟨by rfl, fun wz hwz => exec_built wz _ _ _ rfl (by simp only [List.map_toArray, List.map_cons, List.map_nil]; exact built_tx16x _)⟩) ⟨M5.out.r3, M5.out.r4, M5.out.r7⟩ ?_
      try simp only [Act.put, List.setIfInBounds_toArray, List.set_cons_zero, List.set_cons_succ]
      refine readyL (i := 10) rfl (by kernel_rfl) (by kernel_rfl) fun K hK => ?_
      refine wp_buildThree15 36 62 (.tmp 14) (.tmp 16) (.tmp 18) rfl (LRole.mk (kx15 8) true true).cells (LRole.mk (kx15 9) false true).cells (LRole.mk k0 false false).cells _ 34 34 Tryd.underlying36 infoR zszRx (by omega) (by omega) rfl rfl rfl (by go_simp) (by go_simp) (by go_simp) ?_
      have hb6 := (Below.refl y5.heap.size y5).alloc (Nat.le_refl _) (.cells roC15x.toArray 62)
      have RR6 := Lib.hid (Row.new y5 62 roC15x)
      obtain ⟨gr6, hgr6⟩ : ∃ g, g = y5.heap.size := ⟨_, rfl⟩
      have HR6 : Hid (g6 < gr6) := Lib.hid (by rw [hgr6]; exact M5.out.r6.lt)
      rw [← hgr6] at RR6 ⊢
      clear hgr6
      have M6 := Lib.hid (M5.out.below hb6)
      have RI6 := Lib.hid (RI5.out.below hb6 RI5.out.lt)
      clear hb6
      rw [show (LRole.mk (kx15 8) true true).cells ++ ((LRole.mk (kx15 9) false true).cells ++ (LRole.mk k0 false false).cells) = roC15x from rfl]
      generalize y5.alloc (.cells roC15x.toArray 62) = y6 at *
      refine hK.out _ _ ⟨M6.out.r3, M6.out.r4, M6.out.r7⟩ ?_
      clear hK K
      try simp only [Act.put, List.setIfInBounds_toArray, List.set_cons_zero, List.set_cons_succ]
      refine takeL (i := 12) (v := .agg ((q15x gi5 gr6).cells rd16x).toArray) rfl (by kernel_rfl) (by kernel_rfl) (by kernel_rfl) (fun _ _ _ h => h) (Or.inl ⟨by rfl, fun wz hwz => exec_built wz _ _ _ rfl (by simp only [List.map_toArray, List.map_cons, List.map_nil]; exact built_rd16x _ _)⟩) ⟨M6.out.r3, M6.out.r4, M6.out.r7⟩ ?_
      try simp only [Act.put, List.setIfInBounds_toArray, List.set_cons_zero, List.set_cons_succ]
      refine readyL (i := 13) rfl (by kernel_rfl) (by kernel_rfl) fun K hK => ?_
      refine wp_store_whole 41 (.tmp 4) (.tmp 21) rfl g6 zrdC ((q15x gi5 gr6).cells rd16x) M6.out.r6 (size_rdx16 _ _) rfl (one_rdx16 _ _) (by go_simp) (by go_simp) (fun w9 hr9 ht9 => ?_)
      have R9 := Lib.hid hr9
      have T9 := Lib.hid ht9
      clear hr9 ht9
      refine hK.out _ _ ⟨T9.out.row M6.out.r3 HGN.out.2.1, T9.out.row M6.out.r4 HGN.out.2.2, T9.out.row M6.out.r7 (by have := H76.out; omega)⟩ ?_
      clear hK K
      try simp only [Act.put]
      refine wpAnyH_done (by kernel_rfl) ?_ _
      go_wp2_with fail
      refine bodyPost_ret (results_cell_row (h := rfl) _ w9 g6 41 _ (0, 0) _ (by rfl) R9.out.is Tryd.underlying41 rfl (size_rdx16 gi5 gr6)) rfl ?_
      exact ⟨gi5, gr6, rfl, mv_in16 (T9.out.row RI6.out (by have := HI5.out; omega)) (T9.out.row RR6.out (by have := HR6.out; omega)) (T9.out.row M6.out.ra (by have := HAD.out; omega)) (T9.out.row M6.out.rd (by have := HAD.out; omega)), M6.out.b.trans (T9.out.below HGN.out.1)⟩
    · refine wp_buildThree15 36 62 (.tmp 14) (.tmp 16) (.tmp 18) rfl (LRole.mk (kx15 8) true true).cells (LRole.mk (kx15 9) false true).cells (LRole.mk k0 false false).cells _ 34 34 Tryd.underlying36 infoR zszRx (by omega) (by omega) rfl rfl rfl (by go_simp) (by go_simp) (by go_simp) ?_
      have hb7 := (Below.refl y4.heap.size y4).alloc (Nat.le_refl _) (.cells roC15x.toArray 62)
      have RR7 := Lib.hid (Row.new y4 62 roC15x)
      obtain ⟨gr7, hgr7⟩ : ∃ g, g = y4.heap.size := ⟨_, rfl⟩
      have HR7 : Hid (g6 < gr7) := Lib.hid (by rw [hgr7]; exact M4.out.r6.lt)
      rw [← hgr7] at RR7 ⊢
      clear hgr7
      have M7 := Lib.hid (M4.out.below hb7)
      clear hb7
      rw [show (LRole.mk (kx15 8) true true).cells ++ ((LRole.mk (kx15 9) false true).cells ++ (LRole.mk k0 false false).cells) = roC15x from rfl]
      generalize y4.alloc (.cells roC15x.toArray 62) = y7 at *
      refine hK.out _ _ ⟨M7.out.r3, M7.out.r4, M7.out.r7⟩ ?_
      clear hK K
      try simp only [Act.put, List.setIfInBounds_toArray, List.set_cons_zero, List.set_cons_succ]
      refine readyL (i := 1) rfl (by kernel_rfl) (by kernel_rfl) fun K hK => ?_
      refine wp_buildOne 30 70 (.tmp 9) rfl (ic15x ga gd) _ 3 56 Tryd.underlying30 info_insx zsz_insx (by omega) (by omega) rfl (by go_simp) ?_
      have hb8 := (Below.refl y7.heap.size y7).alloc (Nat.le_refl _) (.cells (ic15x ga gd).toArray 70)
      have RI8 := Lib.hid (Row.new y7 70 (ic15x ga gd))
      obtain ⟨gi8, hgi8⟩ : ∃ g, g = y7.heap.size := ⟨_, rfl⟩
      have HI8 : Hid (g6 < gi8) := Lib.hid (by rw [hgi8]; exact M7.out.r6.lt)
      rw [← hgi8] at RI8 ⊢
      clear hgi8
      have M8 := Lib.hid (M7.out.below hb8)
      have RR8 := Lib.hid (RR7.out.below hb8 RR7.out.lt)
      clear hb8
      generalize y7.alloc (.cells (ic15x ga gd).toArray 70) = y8 at *
      refine hK.out _ _ ⟨M8.out.r3, M8.out.r4, M8.out.r7⟩ ?_
      clear hK K
      try simp only [Act.put, List.setIfInBounds_toArray, List.set_cons_zero, List.set_cons_succ]
      refine takeL (i := 2) (v := .agg ((q15x gi8 0).t.q.cells ms16x).toArray) rfl (by kernel_rfl) (by kernel_rfl) (by kernel_rfl) (fun _ _ _ h => h) (Or.inl ⟨by rfl, fun wz hwz => exec_built wz _ _ _ rfl (by simp only [List.map_toArray, List.map_cons, List.map_nil]; exact built_ms16x _)⟩) ⟨M8.out.r3, M8.out.r4, M8.out.r7⟩ ?_
      try simp only [Act.put, List.setIfInBounds_toArray, List.set_cons_zero, List.set_cons_succ]
      refine takeL (i := 3) (v := .agg ((q15x gi8 0).t.cells ⟨[], ms16x⟩).toArray) rfl (by kernel_rfl) (by kernel_rfl) (by kernel_rfl) (fun _ _ _ h => h) (Or.inl ⟨by rfl, fun wz hwz => exec_built wz _ _ _ rfl (by simp only [List.map_toArray, List.map_cons, List.map_nil]; exact built_tx16x _)⟩) ⟨M8.out.r3, M8.out.r4, M8.out.r7⟩ ?_
      try simp only [Act.put, List.setIfInBounds_toArray, List.set_cons_zero, List.set_cons_succ]
      refine takeL (i := 12) (v := .agg ((q15x gi8 gr7).cells rd16x).toArray) rfl (by kernel_rfl) (by kernel_rfl) (by kernel_rfl) (fun _ _ _ h => h) (Or.inl ⟨by rfl, fun wz hwz => exec_built wz _ _ _ rfl (by simp only [List.map_toArray, List.map_cons, List.map_nil]; exact built_rd16x _ _)⟩) ⟨M8.out.r3, M8.out.r4, M8.out.r7⟩ ?_
      try simp only [Act.put, List.setIfInBounds_toArray, List.set_cons_zero, List.set_cons_succ]
      refine readyL (i := 13) rfl (by kernel_rfl) (by kernel_rfl) fun K hK => ?_
      refine wp_store_whole 41 (.tmp 4) (.tmp 21) rfl g6 zrdC ((q15x gi8 gr7).cells rd16x) M8.out.r6 (size_rdx16 _ _) rfl (one_rdx16 _ _) (by go_simp) (by go_simp) (fun w9 hr9 ht9 => ?_)
      have R9 := Lib.hid hr9
      have T9 := Lib.hid ht9
      clear hr9 ht9
      refine hK.out _ _ ⟨T9.out.row M8.out.r3 HGN.out.2.1, T9.out.row M8.out.r4 HGN.out.2.2, T9.out.row M8.out.r7 (by have := H76.out; omega)⟩ ?_
      clear hK K
      try simp only [Act.put]
      refine wpAnyH_done (by kernel_rfl) ?_ _
      go_wp2_with fail
      refine bodyPost_ret (results_cell_row (h := rfl) _ w9 g6 41 _ (0, 0) _ (by rfl) R9.out.is Tryd.underlying41 rfl (size_rdx16 gi8 gr7)) rfl ?_
      exact ⟨gi8, gr7, rfl, mv_in16 (T9.out.row RI8.out (by have := HI8.out; omega)) (T9.out.row RR8.out (by have := HR7.out; omega)) (T9.out.row M8.out.ra (by have := HAD.out; omega)) (T9.out.row M8.out.rd (by have := HAD.out; omega)), M8.out.b.trans (T9.out.below HGN.out.1)⟩
end Go.Proofs.YtfaefpniiiandaaDoor

/-
  Of part WideMul: what is needed here.
-/
namespace Go.Proofs.YtfaefpniiiandaaDoor
open Go.RowKit
set_option linter.unusedVariables false
set_option maxRecDepth 100000
/-- a number of 64 bits -/
def Word (x : Int) : Prop := 0 ≤ x ∧ x < 18446744073709551616
/-- math/bits.Add64 with no carry coming in -/
theorem add64 (x y : Int) (hx : Word x) (hy : Word y) (w : World) :
    (callFunc 62 #[.int .u64 x, .int .u64 y, .int .u64 0]).run Tryd.prog w =
      .ok (.value (.tuple #[.int .u64 ((x + y) % 18446744073709551616), .int .u64 ((x + y) / 18446744073709551616)])) w := by
  rw [run_callFunc_extern Tryd.func62 (by kernel_rfl) (by kernel_rfl) (by kernel_rfl) (e := add64Entry) (by kernel_rfl), run_add64 x y 0 hx.1 hy.1 (by omega) (by omega)]
  simp [Result.andThen]
end Go.Proofs.YtfaefpniiiandaaDoor

/-
  Of part DivMath: what is needed here.
-/
namespace Go.Proofs.YtfaefpniiiandaaDoor
open Go
set_option linter.unusedVariables false
set_option maxRecDepth 100000
section
variable {u v d v1 v0 : Int} (hu : 0 ≤ u) (huv : u < v) (hd : 0 ≤ d) (hd' : d < 4294967296) (hv : 9223372036854775808 ≤ v) (hv' : v < 18446744073709551616) (e1 : v1 = v / 4294967296) (e0 : v0 = v % 4294967296)
include hu huv hd hd' hv in
include hv in
include hv in
include e1 e0 in
include hu huv hd hd' hv hv' e1 e0 in
include hv e1 e0 in
include hu huv hd hd' hv e1 e0 in
include hu huv hd hd' hv hv' e1 e0 in
include hu huv hd hd' hv e1 e0 in
include e0 in
/-- what is left behind the digit -/
def left (u v d : Int) : Int := (u * 4294967296 + d) % v
include hv in
end
end Go.Proofs.YtfaefpniiiandaaDoor

/-
  Of part Sum: what is needed here.
-/
namespace Go.Proofs.YtfaefpniiiandaaDoor
open Go.RowKit
set_option linter.unusedVariables false
set_option maxRecDepth 100000
/-- held at the greatest -/
def cap (x : Int) : Int := if 18446744073709551615 < x then 18446744073709551615 else x
/-- what numbers come to, held -/
def held (zs : List Int) : Int := cap zs.sum
theorem cap_word {x : Int} (h : 0 ≤ x) : Word (cap x) := by unfold cap; split <;> exact ⟨by omega, by omega⟩
theorem cap_add {x y : Int} (h : 0 ≤ y) : cap (cap x + y) = cap (x + y) := by unfold cap; repeat' split <;> omega
theorem sum_nonneg {zs : List Int} (h : ∀ z ∈ zs, Word z) : 0 ≤ zs.sum := by
  induction zs with
  | nil => simp
  | cons a t ih =>
    have := (h a (by simp)).1
    have := ih (fun z hz => h z (by simp [hz]))
    simp; omega
theorem held_word {zs : List Int} (h : ∀ z ∈ zs, Word z) : Word (held zs) := cap_word (sum_nonneg h)
theorem sum_take (zs : List Int) (j : Nat) (h : j < zs.length) : (zs.take (j + 1)).sum = (zs.take j).sum + zs.getD j 0 := by
  rw [List.take_succ_eq_append_getElem h, List.sum_append, List.getD_eq_getElem?_getD, List.getElem?_eq_getElem h]
  simp
theorem word_getD {zs : List Int} (h : ∀ z ∈ zs, Word z) (j : Nat) : Word (zs.getD j 0) := by
  rw [List.getD_eq_getElem?_getD]
  by_cases hi : j < zs.length
  · rw [List.getElem?_eq_getElem hi]
    exact h _ (List.getElem_mem hi)
  · rw [List.getElem?_eq_none (by omega)]; exact ⟨by simp, by simp⟩
theorem word_take {zs : List Int} (h : ∀ z ∈ zs, Word z) (j : Nat) : ∀ z ∈ zs.take j, Word z := fun z hz => h z (List.mem_of_mem_take hz)
theorem held_take {zs : List Int} (h : ∀ z ∈ zs, Word z) (j : Nat) (hj : j < zs.length) : held (zs.take (j + 1)) = cap (held (zs.take j) + zs.getD j 0) := by
  unfold held
  rw [sum_take zs j hj, cap_add (word_getD h j).1]
theorem cv_at {k : IntKind} {zs : List Int} {i : Nat} (h : i < zs.length) : (cv k zs)[i]? = some (.int k (zs.getD i 0)) := by
  rw [show (cv k zs)[i]? = zs[i]?.map (Value.int k) by simp [cv], List.getD_eq_getElem?_getD, List.getElem?_eq_getElem h]; rfl
theorem Sees.num {w : World} {B n : Nat} {A : Option Addr} {k : IntKind} {zs : List Int} {i : Nat} (h : Sees w B A n (cv k zs)) (hi : i < n) : ∃ a, A = some a ∧ a.block < B ∧ w.cell? (a.add i) = some (.int k (zs.getD i 0)) := by
  obtain ⟨a, u, e, hb, hx, hc⟩ := h.at_ hi
  have hl : i < zs.length := by have := h.len; rw [cv_length] at this; omega
  rw [cv_at hl] at hx
  cases hx
  exact ⟨a, e, hb, hc⟩
/-- the closure -/
theorem add_ (x a : Int) (B : Nat) (w : World) (hx : Word x) (ha : Word a) (hr : Row w B 37 [.int .u64 a]) :
    Calls Tryd.prog 61 #[.int .u64 x, .pointer (some ⟨B, 0, none⟩)] w fun e w' => e = .returned (.tuple #[]) ∧ w' = w.setCell ⟨B, 0, none⟩ (.int .u64 (cap (a + x))) := by
  have c0 := hr.cell 0
  have f0 := hr.frozen 0
  simp at c0
  have s1 := add64 a x ha hx
  by_cases h : 18446744073709551615 < a + x
  · have e1 : (a + x) / 18446744073709551616 = 1 := by have := ha.2; have := hx.2; omega
    have e2 := Lib.hid (show cap (a + x) = 18446744073709551615 by unfold cap; rw [if_pos h])
    rw [e1] at s1
    clear e1 h
    go_enter Tryd.func61, Tryd.ntmps61
    go_wp2_with (simp only [s1])
    go_end0
    rw [e2.out]
    exact ⟨rfl, rfl⟩
  · have e1 : (a + x) / 18446744073709551616 = 0 := by have := ha.1; have := hx.1; omega
    have e3 : (a + x) % 18446744073709551616 = a + x := by have := ha.1; have := hx.1; omega
    have e2 := Lib.hid (show cap (a + x) = a + x by unfold cap; rw [if_neg h])
    rw [e1, e3] at s1
    clear e1 h e3
    go_enter Tryd.func61, Tryd.ntmps61
    go_wp2_with (simp only [s1])
    go_end0
    rw [e2.out]
    exact ⟨rfl, rfl⟩
set_option maxHeartbeats 1000000 in
theorem sum_ (A : Option Addr) (n c : Nat) (zs : List Int) (w : World) (S : Nat) (hx : Sees w S A n (cv .u64 zs)) (hS : S ≤ w.heap.size) (hn : n ≤ maxLen) (hz : ∀ z ∈ zs, Word z) :
    Calls Tryd.prog 42 #[.slice A n c] w fun e w' => e = .returned (.int .u64 (held zs)) ∧ Below w.heap.size w w' := by
  unfold maxLen at hn
  have lx := Lib.hid (show zs.length = n by have := hx.len; rwa [cv_length] at this)
  have hx := hx.more hS
  have b0 : Below w.heap.size w (w.alloc (.cells #[.int .u64 0] 37)) := (Below.refl _ _).alloc (Nat.le_refl _) _
  have R0 := Row.new w 37 [.int .u64 0]
  generalize hB : w.heap.size = B at *
  go_enter Tryd.func42, Tryd.ntmps42
  go_wp2
  go_loopw [6, 10] (fun _ i wr => ∃ j : Nat, j ≤ n ∧ i = .int .i64 j ∧ Row wr B 37 [.int .u64 (held (zs.take j))] ∧ Below B w wr) (fun _ i _ => n - (intOf i).toNat)
  case atStart => exact ⟨0, Nat.zero_le _, rfl, by simpa [held, cap] using R0, b0⟩
  case round =>
    obtain ⟨j, hj, rfl, hr, hbr⟩ := hrel
    by_cases hlt : j < n
    · obtain ⟨a, rfl, ha, hca⟩ := (hx.below hbr).num hlt
      have wz := word_getD hz j
      have E := Lib.hid (held_take hz j (by have := lx.out; omega))
      have C := add_ (zs.getD j 0) (held (zs.take j)) B wr wz (held_word (word_take hz j)) hr
      have M := Lib.hid hr
      clear hr wz
      generalize zs.getD j 0 = z at *
      generalize held (zs.take j) = hd at *
      go_wp2_with fail
      refine C.mono ?_
      rintro e w1 ⟨rfl, rfl⟩
      have R1 := M.out.set_ 0 (.int .u64 (cap (hd + z)))
      rw [← E.out] at R1
      go_wp2
      go_roundw
      case rel =>
        refine ⟨j + 1, by omega, by go_num, ?_, hbr.setCell (Nat.le_refl _) _⟩
        rw [E.out] at R1 ⊢
        exact R1
      case measure => simp [intOf]; omega
    · have hj : j = n := by omega
      have hn : ¬ n < n := by omega
      subst hj
      have E := Lib.hid (show held (zs.take j) = held zs by rw [List.take_of_length_le (by have := lx.out; omega)])
      have c0 := hr.cell 0
      simp at c0
      clear hr
      go_wp2
      go_ret
      rw [E.out]
      exact ⟨rfl, hbr⟩
end Go.Proofs.YtfaefpniiiandaaDoor

/-
  Of part Times: what is needed here.
-/
namespace Go.Proofs.YtfaefpniiiandaaDoor
open Go.RowKit
set_option linter.unusedVariables false
set_option maxRecDepth 100000
/-- two numbers, built in place, summed -/
theorem sum_two (x y : Int) (g : Nat) (w : World) (hx : Word x) (hy : Word y) (hr : Row w g 37 [.int .u64 x, .int .u64 y]) :
    Calls Tryd.prog 42 #[.slice (some ⟨g, 0, none⟩) 2 2] w fun e w' => e = .returned (.int .u64 (cap (x + y))) ∧ Below w.heap.size w w' := by
  have hs := hr.sees0
  refine (sum_ _ 2 2 [x, y] w _ hs (Nat.le_refl _) (by simp [maxLen]) ?_).mono ?_
  · intro z hz
    simp at hz
    rcases hz with rfl | rfl
    · exact hx
    · exact hy
  · rintro e w' ⟨rfl, hb⟩
    exact ⟨by simp [held], hb⟩
end Go.Proofs.YtfaefpniiiandaaDoor

/-
  Of part FoldMem16: what is needed here.
-/
namespace Go.Proofs.YtfaefpniiiandaaDoor
open Go.RowKit Go.Shelf
set_option linter.unusedVariables false
set_option maxRecDepth 100000
/-- no operation defers -/
def noDefer16 (L : List Oper) : Bool := L.all fun o => match o.op with | .defer _ => false | _ => true
theorem noDefer_of16 {L : List Oper} (h : noDefer16 L = true) : ∀ o ∈ L, ∀ c, o.op ≠ .defer c := fun o ho c e => by
  have := List.all_eq_true.1 h o ho
  rw [e] at this
  cases this
/-- outcomes, and where their holdings lie -/
def oC16 (p : LOut × Option Addr) : List Value := p.1.cells (.slice p.2 p.1.ch.length p.1.ch.length)
def osC16 (os : List (LOut × Option Addr)) : List Value := (os.map oC16).flatten
theorem osC_snoc16 (os : List (LOut × Option Addr)) (p : LOut × Option Addr) : osC16 (os ++ [p]) = osC16 os ++ oC16 p := by simp [osC16]
theorem info_out16 : (Tryd.prog.info? 54).map (fun i => (i.zero, i.size, i.bytes)) = some (some (.agg (out0.cells (.slice none 0 0)).toArray), 6, 64) := by kernel_rfl
theorem zsz_out16 : (Value.agg (out0.cells (.slice none 0 0)).toArray).cells.size = 6 := by kernel_rfl
theorem oC_one16 (p : LOut × Option Addr) : ∀ u ∈ oC16 p, u.oneCell' = true := out_one15 _ rfl
theorem cap_sat16 (n : Int) : sat16 n = cap n := by
  unfold sat16 cap
  split <;> split <;> omega
/-- an outcome's holdings, a row of the call's own -/
def Hol16 (V : World) (base : Nat) (p : LOut × Option Addr) : Prop := ∃ c, V.ownsRow base 64 66 (.slice p.2 p.1.ch.length c) p.1.ch.length (holC p.1.ch)
/-- what there is while a fold goes on, but for the outcomes' list -/
structure FC16 (T : FK16) (w0 V : World) (v : Value) (os : List (LOut × Option Addr)) (fees e : Int) (L : List LHold) : Prop where
  g : w0.grownBy V (some T.mb)
  st : StIn V T.sb T.mb L
  r4 : Row V T.b4 76 [v]
  r5 : Row V T.b5 37 [.int .u64 fees]
  r6 : Row V T.b6 50 [.int .i64 e]
  rl : Row V T.bl 72 [.slice T.LA T.ln T.lc]
  rs : Row V T.bs 45 [.pointer (some ⟨T.sb, 0, none⟩)]
  hol : ∀ p ∈ os, Hol16 V w0.heap.size p
  lo : w0.heap.size ≤ T.b4 ∧ w0.heap.size ≤ T.b5 ∧ w0.heap.size ≤ T.b6
  sl : T.sb < w0.heap.size
/-- a block that holds neither cells nor a map -/
def Odd16 (V : World) (x : Nat) : Prop := ∃ o, V.heap[x]? = some o ∧ o.isCells = false ∧ ∀ es cl, o ≠ .map es cl
theorem row_odd16 {V : World} {g t x : Nat} {xs : List Value} (h : Row V g t xs) (hx : Odd16 V x) : g ≠ x := fun e => by
  subst e
  obtain ⟨o, ho, hc, _⟩ := hx
  rw [h.is] at ho
  cases ho
  cases hc
theorem own_odd16 {V : World} {base size n x : Nat} {e : TypeId} {u : Value} {xs : List Value} (h : V.ownsRow base e size u n xs) (hx : Odd16 V x) : u.ownBlock ≠ some x := fun e => by
  obtain ⟨cur, hc⟩ := own_is h e
  obtain ⟨o, ho, hk, _⟩ := hx
  rw [hc] at ho
  cases ho
  cases hk
theorem st_odd16 {V : World} {sb mb x : Nat} {L : List LHold} (h : StIn V sb mb L) (hx : Odd16 V x) : sb ≠ x ∧ mb ≠ x := ⟨row_odd16 h.row hx, fun e => by
  subst e
  obtain ⟨o, ho, _, hm⟩ := hx
  obtain ⟨es, cl, hh⟩ := h.heap
  rw [hh] at ho
  exact hm es cl (Option.some.inj ho).symm⟩
theorem row_far16 {V : World} {g k t u : Nat} {xs ys : List Value} (h : Row V g t xs) (k' : Row V k u ys) (hne : t ≠ u) : g ≠ k := fun e => by
  subst e
  have := h.is.symm.trans k'.is
  injection this with this
  injection this with _ this _
  exact hne this
section
variable {T : FK16} {w0 V V' : World} {v : Value} {os : List (LOut × Option Addr)} {fees e : Int} {L : List LHold}
/-- a step that leaves rows, lists and the store alone -/
theorem FC16.move {r : Option Nat} (h : FC16 T w0 V v os fees e L) (hg : V.grownBy V' r) (hr : ∀ {g t xs}, Row V g t xs → t ≠ 54 → some g ≠ r) (ho : ∀ p ∈ os, ∀ c, V.ownsRow w0.heap.size 64 66 (.slice p.2 p.1.ch.length c) p.1.ch.length (holC p.1.ch) → (Value.slice p.2 p.1.ch.length c).ownBlock = none ∨ (Value.slice p.2 p.1.ch.length c).ownBlock ≠ r)
    (hm : some T.mb ≠ r) (hlo : ∀ x, r = some x → w0.heap.size ≤ x) : FC16 T w0 V' v os fees e L := by
  refine ⟨⟨hg.os.trans h.g.os, hg.tape.trans h.g.tape, hg.output.trans h.g.output, Nat.le_trans h.g.size hg.size, fun k hk hne => ?_⟩, h.st.keep (hg.block _ h.st.lt.1 (hr h.st.row (by decide))) (hg.block _ h.st.lt.2 hm), h.r4.grown hg (hr h.r4 (by decide)), h.r5.grown hg (hr h.r5 (by decide)), h.r6.grown hg (hr h.r6 (by decide)), h.rl.grown hg (hr h.rl (by decide)), h.rs.grown hg (hr h.rs (by decide)), fun p hp => ?_, h.lo, h.sl⟩
  · exact (hg.block k (Nat.lt_of_lt_of_le hk h.g.size) (fun e => by have := hlo k e.symm; omega)).trans (h.g.block k hk hne)
  · obtain ⟨c, hc⟩ := h.hol p hp
    exact ⟨c, hc.kept hg (ho p hp c hc)⟩
theorem FC16.odd {x : Nat} (h : FC16 T w0 V v os fees e L) (hg : V.grownBy V' (some x)) (hx : Odd16 V x) (hlo : w0.heap.size ≤ x) : FC16 T w0 V' v os fees e L :=
  h.move hg (fun hr _ e => row_odd16 hr hx (Option.some.inj e)) (fun p hp c hc => .inr (own_odd16 hc hx)) (fun e => (st_odd16 h.st hx).2 (Option.some.inj e)) (fun y e => by cases e; exact hlo)
theorem FC16.below (h : FC16 T w0 V v os fees e L) (hb : Below V.heap.size V V') : FC16 T w0 V' v os fees e L :=
  h.move (r := none) (gb_of none hb) (fun _ _ e => by cases e) (fun p hp c hc => by cases (Value.slice p.2 p.1.ch.length c).ownBlock <;> simp) (fun e => by cases e) (fun y e => by cases e)
theorem FC16.grew {n : Nat} {u : Value} {xs : List Value} (h : FC16 T w0 V v os fees e L) (ho : V.ownsRow w0.heap.size 54 6 u n xs) (hg : V.grownBy V' u.ownBlock) : FC16 T w0 V' v os fees e L :=
  h.move hg (fun hr hne => own_row_neN ho hr (Ne.symm hne)) (fun p hp c hc => by
      by_cases hn : (Value.slice p.2 p.1.ch.length c).ownBlock = none
      · exact .inl hn
      refine .inr (fun e => ?_)
      cases hb : u.ownBlock with
      | none => exact hn (e.trans hb)
      | some k =>
        obtain ⟨cur, h1⟩ := own_is ho hb
        obtain ⟨cur', h2⟩ := own_is hc (e.trans hb)
        rw [h1] at h2
        injection h2 with h2
        injection h2 with _ h2 _
        exact absurd h2 (by decide)) (fun e => by
      rcases h.st.own_ne16 ho with h1 | h1
      · rw [h1] at e; cases e
      · exact h1 e.symm) (fun x e => (ho.lt x e).1)
/-- a transaction was applied -/
theorem FC16.applied {L' : List LHold} (h : FC16 T w0 V v os fees e L) (hs : StIn V' T.sb T.mb L') (hg : V.grownBy V' (some T.mb)) : FC16 T w0 V' v os fees e L' := by
  have hr : ∀ {g t xs}, Row V g t xs → Row V' g t xs := fun hr => hr.grown hg (fun e => h.st.row_ne hr (Option.some.inj e))
  exact ⟨gb_grown13 h.g hg, hs, hr h.r4, hr h.r5, hr h.r6, hr h.rl, hr h.rs, fun p hp => by obtain ⟨c, hc⟩ := h.hol p hp; exact ⟨c, hc.kept hg (h.st.own_ne16 hc)⟩, h.lo, h.sl⟩
theorem hol_turned16 {g t : Nat} {xs : List Value} {base : Nat} {p : LOut × Option Addr} (h : Hol16 V base p) (hr : Row V g t xs) (hne : 64 ≠ t) (ht : Turned V V' g) : Hol16 V' base p := by
  obtain ⟨c, hc⟩ := h
  exact ⟨c, own_turned hc hr hne ht⟩
theorem FC16.set4 (h : FC16 T w0 V v os fees e L) (u : Value) : FC16 T w0 (V.setCell ⟨T.b4, 0, none⟩ u) u os fees e L := by
  have ht := turned_setCell V ⟨T.b4, 0, none⟩ u
  have hr : ∀ {g t xs}, Row V g t xs → t ≠ 76 → Row (V.setCell ⟨T.b4, 0, none⟩ u) g t xs := fun hr hne => ht.row hr (row_far16 hr h.r4 hne)
  exact ⟨gb_turned h.g ht (.inl h.lo.1), h.st.keep (ht.block _ (row_far16 h.st.row h.r4 (by decide))) (ht.block _ (h.st.row_ne h.r4).symm), h.r4.set_ 0 u, hr h.r5 (by decide), hr h.r6 (by decide), hr h.rl (by decide), hr h.rs (by decide), fun p hp => hol_turned16 (h.hol p hp) h.r4 (by decide) ht, h.lo, h.sl⟩
theorem FC16.set5 (h : FC16 T w0 V v os fees e L) (f : Int) : FC16 T w0 (V.setCell ⟨T.b5, 0, none⟩ (.int .u64 f)) v os f e L := by
  have ht := turned_setCell V ⟨T.b5, 0, none⟩ (.int .u64 f)
  have hr : ∀ {g t xs}, Row V g t xs → t ≠ 37 → Row (V.setCell ⟨T.b5, 0, none⟩ (.int .u64 f)) g t xs := fun hr hne => ht.row hr (row_far16 hr h.r5 hne)
  exact ⟨gb_turned h.g ht (.inl h.lo.2.1), h.st.keep (ht.block _ (row_far16 h.st.row h.r5 (by decide))) (ht.block _ (h.st.row_ne h.r5).symm), hr h.r4 (by decide), h.r5.set_ 0 _, hr h.r6 (by decide), hr h.rl (by decide), hr h.rs (by decide), fun p hp => hol_turned16 (h.hol p hp) h.r5 (by decide) ht, h.lo, h.sl⟩
theorem FC16.set6 (h : FC16 T w0 V v os fees e L) (f : Int) : FC16 T w0 (V.setCell ⟨T.b6, 0, none⟩ (.int .i64 f)) v os fees f L := by
  have ht := turned_setCell V ⟨T.b6, 0, none⟩ (.int .i64 f)
  have hr : ∀ {g t xs}, Row V g t xs → t ≠ 50 → Row (V.setCell ⟨T.b6, 0, none⟩ (.int .i64 f)) g t xs := fun hr hne => ht.row hr (row_far16 hr h.r6 hne)
  exact ⟨gb_turned h.g ht (.inl h.lo.2.2), h.st.keep (ht.block _ (row_far16 h.st.row h.r6 (by decide))) (ht.block _ (h.st.row_ne h.r6).symm), hr h.r4 (by decide), hr h.r5 (by decide), h.r6.set_ 0 _, hr h.rl (by decide), hr h.rs (by decide), fun p hp => hol_turned16 (h.hol p hp) h.r6 (by decide) ht, h.lo, h.sl⟩
/-- with the list -/
def FB16 (T : FK16) (w0 V : World) (os : List (LOut × Option Addr)) (fees e : Int) (L : List LHold) : Prop := ∃ v, FC16 T w0 V v os fees e L ∧ V.ownsRow w0.heap.size 54 6 v os.length (osC16 os)
theorem FB16.odd {x : Nat} (h : FB16 T w0 V os fees e L) (hg : V.grownBy V' (some x)) (hx : Odd16 V x) (hlo : w0.heap.size ≤ x) : FB16 T w0 V' os fees e L := by
  obtain ⟨v, h1, h2⟩ := h
  exact ⟨v, h1.odd hg hx hlo, h2.kept hg (.inr (own_odd16 h2 hx))⟩
theorem FB16.below (h : FB16 T w0 V os fees e L) (hb : Below V.heap.size V V') : FB16 T w0 V' os fees e L := by
  obtain ⟨v, h1, h2⟩ := h
  exact ⟨v, h1.below hb, own_below h2 hb⟩
theorem FB16.applied {L' : List LHold} (h : FB16 T w0 V os fees e L) (hs : StIn V' T.sb T.mb L') (hg : V.grownBy V' (some T.mb)) : FB16 T w0 V' os fees e L' := by
  obtain ⟨v, h1, h2⟩ := h
  exact ⟨v, h1.applied hs hg, h2.kept hg (h1.st.own_ne16 h2)⟩
end
theorem clip16 (A : Option Addr) (n c : Nat) (w : World) (hnc : n ≤ c) (hc : c ≤ maxLen) :
    Calls Tryd.prog 43 #[.slice A n c] w fun e w' => e = .returned (.slice A n n) ∧ w = w' := by
  unfold maxLen at hc
  go_enter Tryd.func43, Tryd.ntmps43
  go_wp2
  go_ret
  exact ⟨rfl, rfl⟩
theorem results_cells16 {P : Program} {fn : Func} {p0 p1 p2 : Tmp} {t0 t1 t2 : TypeId} (h : fn.results = #[.cell p0 t0, .cell p1 t1, .cell p2 t2]) (tmps : Array Value) (w : World) (a0 a1 a2 : Addr) (v0 v1 v2 : Value)
    (h0 : tmps.getD p0 undef = .pointer (some a0)) (h1 : tmps.getD p1 undef = .pointer (some a1)) (h2 : tmps.getD p2 undef = .pointer (some a2))
    (l0 : (loadVar t0 a0).run P w = .ok v0 w) (l1 : (loadVar t1 a1).run P w = .ok v1 w) (l2 : (loadVar t2 a2).run P w = .ok v2 w) :
    (results fn tmps).run P w = .ok (.tuple #[v0, v1, v2]) w := by
  have h0' : tmps[p0]?.getD undef = .pointer (some a0) := by simpa using h0
  have h1' : tmps[p1]?.getD undef = .pointer (some a1) := by simpa using h1
  have h2' : tmps[p2]?.getD undef = .pointer (some a2) := by simpa using h2
  simp [results, h, h0', h1', h2', asAddr, l0, l1, l2]
theorem load4_16 {V : World} {g : Nat} {v : Value} (h : Row V g 76 [v]) : (loadVar 76 ⟨g, 0, none⟩).run Tryd.prog V = .ok v V := by
  have c := h.cell 0
  unfold loadVar
  go_simp
theorem load5_16 {V : World} {g : Nat} {v : Value} (h : Row V g 37 [v]) : (loadVar 37 ⟨g, 0, none⟩).run Tryd.prog V = .ok v V := by
  have c := h.cell 0
  unfold loadVar
  go_simp
theorem load6_16 {V : World} {g : Nat} {v : Value} (h : Row V g 50 [v]) : (loadVar 50 ⟨g, 0, none⟩).run Tryd.prog V = .ok v V := by
  have c := h.cell 0
  unfold loadVar
  go_simp
end Go.Proofs.YtfaefpniiiandaaDoor

/-
  Of part Great15: what is needed here.
-/
namespace Go.Proofs.YtfaefpniiiandaaDoor
open Go.RowKit
set_option linter.unusedVariables false
set_option maxRecDepth 100000
theorem cells15_38 {q : Raw} {m : LMsg} (h : m.recent.length = 32) : (q.cells m)[38]? = some (.slice q.LA q.ln q.lc) := by
  simp [Raw.cells, bv_length, h]
theorem inSize15_succ {l : List LIn} {k : Nat} {x : LIn} (h : l[k]? = some x) : inSize (l.take (k + 1)) = inSize (l.take k) + (x.acc.length + x.dat.length) := by
  unfold inSize
  rw [List.take_add_one, h]
  simp
theorem lookSize15_succ {l : List LLook} {k : Nat} {x : LLook} (h : l[k]? = some x) : lookSize (l.take (k + 1)) = lookSize (l.take k) + (x.wr.length + x.rd.length) := by
  unfold lookSize
  rw [List.take_add_one, h]
  simp
theorem below_dn15 {B : Nat} {w V : World} (h : Below B w V) (j : Nat) : Below B w (V.drewN j) := h.trans ⟨rfl, rfl, rfl, Nat.le_refl _, fun _ _ => rfl⟩
def tot15 (x : LReady) : Nat := x.bytes.length + x.roles.length + x.tx.sigs.length + x.tx.m.keys.length + x.tx.m.ins.length + x.tx.m.looks.length + inSize x.tx.m.ins + lookSize x.tx.m.looks
/-- not too great to be gone through -/
structure Fw15 (x : LReady) : Prop where
  t : tot15 x ≤ 10000
  n : x.tx.m.ins.length ≤ 200
  r : x.roles.length ≤ 300
theorem Fw15.acc {x : LReady} (h : Fw15 x) {a : LIn} (ha : a ∈ x.tx.m.ins) : a.acc.length ≤ 10000 ∧ a.dat.length ≤ 10000 := by
  have h1 := size_mem ha
  have h2 := h.t
  unfold tot15 at h2
  omega
/-- no list of it is longer than memory is wide -/
structure Wide15 (x : LReady) : Prop where
  m : Sized x.tx.m
  b : x.bytes.length ≤ 140737488355328
  r : x.roles.length ≤ 140737488355328
  s : x.tx.sigs.length ≤ 140737488355328
/-- what Great tells -/
def GrDone15 (x : LReady) (w : World) (e : Ending) (w' : World) : Prop := (∃ b, e = .returned (.bool b) ∧ (b = false → Fw15 x)) ∧ Below w.heap.size w w'
set_option maxHeartbeats 4000000 in
theorem great15 (q : YRaw) (x : LReady) (B : Nat) (w : World) (h : ReadyIn w B q x) (hB : B ≤ w.heap.size) (hs : Wide15 x) :
    Calls Tryd.prog 8 #[.agg (q.cells x).toArray] w (GrDone15 x w) := by
  obtain ⟨BA, bn, bc, ⟨SA, sn, sc, ⟨KA, kn, kc, IA, n, ic, LA, ln, lc⟩⟩, RA, rn, rc⟩ := q
  have hrow := Row.new w 41 (YRaw.cells ⟨BA, bn, bc, ⟨SA, sn, sc, ⟨KA, kn, kc, IA, n, ic, LA, ln, lc⟩⟩, RA, rn, rc⟩ x)
  have hb0 := (Below.refl w.heap.size w).alloc (Nat.le_refl _) (.cells (YRaw.cells ⟨BA, bn, bc, ⟨SA, sn, sc, ⟨KA, kn, kc, IA, n, ic, LA, ln, lc⟩⟩, RA, rn, rc⟩ x).toArray 41)
  have H32 := h.tx.m.recent
  have d0 : (w.alloc (.cells (YRaw.cells ⟨BA, bn, bc, ⟨SA, sn, sc, ⟨KA, kn, kc, IA, n, ic, LA, ln, lc⟩⟩, RA, rn, rc⟩ x).toArray 41)).cell? ⟨w.heap.size, 0, none⟩ = some (.slice BA bn bc) := hrow.cell 0
  have d1 : (w.alloc (.cells (YRaw.cells ⟨BA, bn, bc, ⟨SA, sn, sc, ⟨KA, kn, kc, IA, n, ic, LA, ln, lc⟩⟩, RA, rn, rc⟩ x).toArray 41)).cell? ⟨w.heap.size, 1, none⟩ = some (.slice SA sn sc) := hrow.cell 1
  have d6 : (w.alloc (.cells (YRaw.cells ⟨BA, bn, bc, ⟨SA, sn, sc, ⟨KA, kn, kc, IA, n, ic, LA, ln, lc⟩⟩, RA, rn, rc⟩ x).toArray 41)).cell? ⟨w.heap.size, 6, none⟩ = some (.slice KA kn kc) := hrow.cell 6
  have d39 : (w.alloc (.cells (YRaw.cells ⟨BA, bn, bc, ⟨SA, sn, sc, ⟨KA, kn, kc, IA, n, ic, LA, ln, lc⟩⟩, RA, rn, rc⟩ x).toArray 41)).cell? ⟨w.heap.size, 39, none⟩ = some (.slice IA n ic) := (hrow.cell 39).trans (ycells_39 H32)
  have d40 : (w.alloc (.cells (YRaw.cells ⟨BA, bn, bc, ⟨SA, sn, sc, ⟨KA, kn, kc, IA, n, ic, LA, ln, lc⟩⟩, RA, rn, rc⟩ x).toArray 41)).cell? ⟨w.heap.size, 40, none⟩ = some (.slice LA ln lc) := (hrow.cell 40).trans (ycells_t (j := 39) ((tcells_m 38).trans (cells15_38 H32)))
  have d41 : (w.alloc (.cells (YRaw.cells ⟨BA, bn, bc, ⟨SA, sn, sc, ⟨KA, kn, kc, IA, n, ic, LA, ln, lc⟩⟩, RA, rn, rc⟩ x).toArray 41)).cell? ⟨w.heap.size, 41, none⟩ = some (.slice RA rn rc) := (hrow.cell 41).trans (ycells_41 H32 0)
  have lb : x.bytes.length = bn := by have := h.bs.len; rwa [bv_length] at this
  have lr : x.roles.length = rn := h.rs.len
  have lsg : x.tx.sigs.length = sn := h.tx.sigs.len
  have lk : x.tx.m.keys.length = kn := h.tx.m.keys.len
  have li : x.tx.m.ins.length = n := h.tx.m.ins.len
  have ll : x.tx.m.looks.length = ln := h.tx.m.looks.len
  have k1 := hs.m.keys
  have k2 := hs.m.ins
  have k3 := hs.m.looks
  have k4 := hs.b
  have k5 := hs.r
  have k6 := hs.s
  rw [lk] at k1
  rw [li] at k2
  rw [ll] at k3
  rw [lb] at k4
  rw [lr] at k5
  rw [lsg] at k6
  have HM := Lib.hid ((h.below (hb0.mono hB)).tx.m)
  have HSZ := Lib.hid hs.m
  have HB0 := Lib.hid hb0
  have HT : Hid (tot15 x = bn + rn + sn + kn + n + ln + inSize x.tx.m.ins + lookSize x.tx.m.looks) := Lib.hid (by unfold tot15; rw [lb, lr, lsg, lk, li, ll])
  have HLI := Lib.hid li
  have HLR := Lib.hid lr
  have HLL := Lib.hid ll
  clear hrow h hs hb0 H32 lb lr lsg lk li ll
  generalize YRaw.cells ⟨BA, bn, bc, ⟨SA, sn, sc, ⟨KA, kn, kc, IA, n, ic, LA, ln, lc⟩⟩, RA, rn, rc⟩ x = cs at *
  go_enter Tryd.func8, Tryd.ntmps8
  go_upto_region 1 with fail
  generalize (w.alloc (Obj.cells cs.toArray 41)) = W0 at *
  obtain ⟨g1, hg1⟩ : ∃ g, g = w.heap.size := ⟨_, rfl⟩
  have HG1 := Lib.hid hg1
  rw [← hg1] at d0 d1 d6 d39 d40 d41 ⊢
  clear hg1
  go_wp2_with fail
  go_loopw [3, 4] (fun nn i wr => ∃ (k j s : Nat), k ≤ n ∧ i = .int .i64 k ∧ nn = .int .i64 s ∧ wr = W0.drewN j ∧ s = bn + rn + sn + kn + n + ln + inSize (x.tx.m.ins.take k) ∧ s ≤ 1900000000000000) (fun nn i _ => n - (intOf i).toNat)
  case atStart => exact ⟨0, 0, bn + rn + sn + kn + n + ln, Nat.zero_le _, rfl, by first | rfl | go_num, rfl, by simp [inSize], by omega⟩
  case round =>
    obtain ⟨k, j, s, hk, rfl, rfl, rfl, hsum, hs9⟩ := hrel
    have HS := Lib.hid hsum
    clear hsum
    by_cases hgo : k < n ∧ s < 20000
    · obtain ⟨hlt, hs3⟩ := hgo
      obtain ⟨a, y, va, vd, rfl, hab, hx, hat⟩ := HM.out.ins.get hlt
      obtain ⟨A1, c1, rfl, _, _, _⟩ := hat.acc.is
      obtain ⟨A2, c2, rfl, _, _, _⟩ := hat.dat.is
      have e1 : W0.cell? ⟨(a.add (k * 3)).block, (a.add (k * 3)).off + 1, none⟩ = some (.slice A1 y.acc.length c1) := hat.cells 1 _ rfl
      have e2 : W0.cell? ⟨(a.add (k * 3)).block, (a.add (k * 3)).off + 2, none⟩ = some (.slice A2 y.dat.length c2) := hat.cells 2 _ rfl
      have l1 := (HSZ.out.inl y (List.mem_of_getElem? hx)).1
      have l2 := (HSZ.out.inl y (List.mem_of_getElem? hx)).2
      have HX := Lib.hid (inSize15_succ hx)
      clear hat hx
      go_wp2_with fail
      go_quiet (fail)
      go_wp2_with fail
      go_roundw
      case rel => exact ⟨k + 1, j + nq, s + y.acc.length + y.dat.length, by omega, by go_num, by go_num, by simp, by have := HS.out; have := HX.out; omega, by omega⟩
      case measure => simp [intOf]; omega
    · have HGO : Hid (20000 ≤ s ∨ s = bn + rn + sn + kn + n + ln + inSize x.tx.m.ins) := by
        refine Lib.hid ?_
        by_cases h3 : s < 20000
        · right
          have hkn : k = n := by
            have : ¬ k < n := fun h => hgo ⟨h, h3⟩
            omega
          have := HS.out
          rwa [hkn, List.take_of_length_le (by rw [HLI.out]; exact Nat.le_refl _)] at this
        · left; omega
      have hdec : (k < n ∧ ¬ s < 20000) ∨ ¬ k < n := by
        by_cases h : k < n
        · exact .inl ⟨h, fun h3 => hgo ⟨h, h3⟩⟩
        · exact .inr h
      clear HS hgo
      rcases hdec with ⟨hd1, hd2⟩ | hd1
      all_goals
        (go_wp2_with fail
         go_loopw [3, 5] (fun nn i wr => ∃ (k j s : Nat), k ≤ ln ∧ i = .int .i64 k ∧ nn = .int .i64 s ∧ wr = W0.drewN j ∧ (20000 ≤ s ∨ s = bn + rn + sn + kn + n + ln + inSize x.tx.m.ins + lookSize (x.tx.m.looks.take k)) ∧ s ≤ 1900000000000000) (fun nn i _ => ln - (intOf i).toNat)
         case atStart => exact ⟨0, j, s, Nat.zero_le _, rfl, rfl, rfl, by simpa [lookSize] using HGO.out, hs9⟩
         case round =>
          clear HGO hd1
          try clear hd2
          clear hs9 hk
          obtain ⟨k, j, s, hk, rfl, rfl, rfl, hsum, hs9⟩ := hrel
          have HS := Lib.hid hsum
          clear hsum
          by_cases hgo : k < ln ∧ s < 20000
          · obtain ⟨hlt, hs3⟩ := hgo
            obtain ⟨a, y, va, vd, rfl, hab, hx, hat⟩ := HM.out.looks.get hlt
            have hc1 : W0.cell? ((a.add (k * 34)).add 32) = some va := hat.cells 32 va (by rw [List.getElem?_append_right (by rw [bv_length, hat.len]; exact Nat.le_refl _), bv_length, hat.len]; rfl)
            have hc2 : W0.cell? ((a.add (k * 34)).add 33) = some vd := hat.cells 33 vd (by rw [List.getElem?_append_right (by rw [bv_length, hat.len]; omega), bv_length, hat.len]; rfl)
            obtain ⟨A1, c1, rfl, _, _, _⟩ := hat.wr.is
            obtain ⟨A2, c2, rfl, _, _, _⟩ := hat.rd.is
            have e1 : W0.cell? ⟨(a.add (k * 34)).block, (a.add (k * 34)).off + 32, none⟩ = some (.slice A1 y.wr.length c1) := hc1
            have e2 : W0.cell? ⟨(a.add (k * 34)).block, (a.add (k * 34)).off + 33, none⟩ = some (.slice A2 y.rd.length c2) := hc2
            have l1 := (HSZ.out.lol y (List.mem_of_getElem? hx)).1
            have l2 := (HSZ.out.lol y (List.mem_of_getElem? hx)).2
            have HX := Lib.hid (lookSize15_succ hx)
            clear hat hx hc1 hc2
            go_wp2_with fail
            go_quiet (fail)
            go_wp2_with fail
            go_roundw
            case rel =>
              refine ⟨k + 1, j + nq, s + y.wr.length + y.rd.length, by omega, by go_num, by go_num, by simp, ?_, by omega⟩
              have h1 := HS.out
              have h2 := HX.out
              omega
            case measure => simp [intOf]; omega
          · have HT2 : Hid (s ≤ 10000 → tot15 x ≤ 10000) := by
              refine Lib.hid fun h3 => ?_
              have hkn : k = ln := by
                have : ¬ k < ln := fun h => hgo ⟨h, by omega⟩
                omega
              have h1 := HS.out
              rw [hkn, List.take_of_length_le (by rw [HLL.out]; exact Nat.le_refl _)] at h1
              have h2 := HT.out
              omega
            have hdec : (k < ln ∧ ¬ s < 20000) ∨ ¬ k < ln := by
              by_cases h : k < ln
              · exact .inl ⟨h, fun h3 => hgo ⟨h, h3⟩⟩
              · exact .inr h
            clear HS hgo
            rcases hdec with ⟨hd1, hd2⟩ | hd1
            · have h10 : 10000 < s := by omega
              have hI : (10000 : Int) < s := by omega
              go_wp2_with fail
              go_ret
              exact ⟨⟨true, rfl, fun hb => by cases hb⟩, below_dn15 HB0.out j⟩
            · by_cases h10 : 10000 < s
              · have hI : (10000 : Int) < s := by omega
                go_wp2_with fail
                go_ret
                exact ⟨⟨true, rfl, fun hb => by cases hb⟩, below_dn15 HB0.out j⟩
              have hJ10 : (s : Int) ≤ 10000 := by omega
              by_cases hn2 : 200 < n
              · have hI : (200 : Int) < n := by omega
                go_wp2_with fail
                go_ret
                exact ⟨⟨true, rfl, fun hb => by cases hb⟩, below_dn15 HB0.out j⟩
              have hJn : (n : Int) ≤ 200 := by omega
              by_cases hr3 : 300 < rn
              · have hI : (300 : Int) < rn := by omega
                go_wp2_with fail
                go_ret
                exact ⟨⟨true, rfl, fun hb => by cases hb⟩, below_dn15 HB0.out j⟩
              have hJr : (rn : Int) ≤ 300 := by omega
              have HFEW : Hid (Fw15 x) := Lib.hid ⟨HT2.out (by omega), by rw [HLI.out]; omega, by rw [HLR.out]; omega⟩
              go_wp2_with fail
              go_ret
              exact ⟨⟨_, rfl, fun _ => HFEW.out⟩, below_dn15 HB0.out j⟩)
end Go.Proofs.YtfaefpniiiandaaDoor

/-
  Of part AheadMem15: what is needed here.
-/
namespace Go.Proofs.YtfaefpniiiandaaDoor
open Go.RowKit
set_option linter.unusedVariables false
set_option maxRecDepth 100000
/-- three that may come up -/
theorem ready15 {P : Program} {L : List Oper} {Q : Exit → Act → World → Prop} {md : Region.Mode} {S : World → Prop} {i j k : Nat} {o o' o'' : Oper} {fuel : Nat} {listed : Array Bool} {a : Act} {w : World} (ho : L[i]? = some o) (ho' : L[j]? = some o') (ho'' : L[k]? = some o'') (hr : Region.ready md L.toArray listed = [i, j, k])
    (hw : Region.wanted o (yielded L.toArray a.tmps) = true) (hw' : Region.wanted o' (yielded L.toArray a.tmps) = true) (hw'' : Region.wanted o'' (yielded L.toArray a.tmps) = true)
    (h : ∀ K' : Act → World → Prop, Shut (∀ a w, S w → wpAnyH P md L.toArray Q S fuel (listed.setIfInBounds i true) a w → K' a w) → Oper.wp P o a w K' Q)
    (h' : ∀ K' : Act → World → Prop, Shut (∀ a w, S w → wpAnyH P md L.toArray Q S fuel (listed.setIfInBounds j true) a w → K' a w) → Oper.wp P o' a w K' Q)
    (h'' : ∀ K' : Act → World → Prop, Shut (∀ a w, S w → wpAnyH P md L.toArray Q S fuel (listed.setIfInBounds k true) a w → K' a w) → Oper.wp P o'' a w K' Q) : wpAnyH P md L.toArray Q S (fuel + 1) listed a w :=
  wpAnyH_ready hr (by simp) (AllReadyH.cons (by simpa using ho) (fun K hK => by
    rw [if_pos hw]
    exact h K (fun a w hS hW => hK a w hS fun _ => hW)) (AllReadyH.cons (by simpa using ho') (fun K hK => by
    rw [if_pos hw']
    exact h' K (fun a w hS hW => hK a w hS fun _ => hW)) (AllReadyH.cons (by simpa using ho'') (fun K hK => by
    rw [if_pos hw'']
    exact h'' K (fun a w hS hW => hK a w hS fun _ => hW)) AllReadyH.nil)))
end Go.Proofs.YtfaefpniiiandaaDoor
