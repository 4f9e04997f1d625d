/-
  Parts joined: TwoWalk17.
-/
import Derived.Below
import Derived.Laws.OwnMore
import Derived.Deep.AppendLies
import Derived.Deep.Draws
import Derived.Lib.Hide
import Derived.Laws.BitsAllLaws
import Derived.WalkSmall
import Derived.Laws.MakeOwn
import Derived.Laws.CopyOwn
import Derived.Laws.Rows
import Derived.Maps.AppendAt
import Derived.OwnWalk
import Derived.WalkKit
import Derived.Test.YtkhcgclnmdgpbaaRows
import Derived.WalkSpells
import Derived.WalkLawsBesides
import Derived.IntWalk
import Derived.Deep.MidRow
import Derived.Deep.WholeRow
import Derived.Great.BuildSlice
import Derived.Recover
import Derived.Deep.RegionHeld
import Derived.Deep.QuietTactic
import Derived.BigQuiet
import Derived.Deep.RegionHeld2
import Derived.Deep.CutBlock
import Derived.Laws.Tables
import Derived.ChangeKeysEq
import Derived.ProofKit
import Derived.OpenShut
import Derived.ShutString
import Derived.ChangeOld
import Derived.Lib.SmallJoins
import Derived.Laws.Slices
import Derived.Deep.Slices
import Derived.Deep.Strs
import Derived.SizedLaws
import Derived.Laws.StructEq
import Derived.Deep.DeepCutAuto
import Derived.Laws.EntriesVeiled
import Derived.Deep.RegionHeld3
import Derived.Maps.OwnSet
import Derived.DeepKeys4
import Derived.WideKeyArr
import Derived.WideKeyEntry
import Derived.Shelf.SlMaps.Clone
import Derived.Laws.Append
import Derived.Laws.AppendOwn
import Derived.WalkMore
import Derived.LaidMore
import Derived.Test.YtkhcgclnmdgpbaaZ1
import Derived.Test.YtkhcgclnmdgpbaaZ2
/-
  Of part TwoWalk17: what is needed here.
-/
namespace Go.Proofs.Ytkhcgclnmdgpbaa
open Go.RowKit
set_option linter.unusedVariables false
set_option maxRecDepth 100000
theorem built_pr17 (x y : Int) : Try.prog.built 59 [(0, .int .u64 x), (1, .int .u64 y)] = some [Value.int .u64 x, .int .u64 y].toArray := by kernel_rfl
theorem lst_none17 : Lst17 none17 0 := ⟨fun k hk => absurd hk (Nat.not_lt_zero k), rfl⟩
def val17p (x y z : Int) (c : Int) : Int × Int := if c = 0 then (x, y) else (z, y)
/-- two slabs: what is whose -/
structure Two17 (val : Int → Int × Int) (w V : World) (n1 n2 sb gb sd gd : Nat) (P : Nat → Prop) (f : F17) : Prop where
  b : Below w.heap.size w V
  s : SlabP17 val V P sb gb 3 f
  d : SlabP17 val V (fun k => n1 ≤ k ∧ k < n2) sd gd 3 none17
  lo : ∀ k, P k → w.heap.size ≤ k ∧ k < V.heap.size ∧ ¬ (n1 ≤ k ∧ k < n2)
  sd1 : n1 ≤ sd ∧ sd < n2
  n2 : n2 ≤ V.heap.size
  nw : w.heap.size ≤ n1
section
variable {val : Int → Int × Int} {w V V' : World} {n1 n2 sb gb sd gd : Nat} {P : Nat → Prop} {f f' : F17}
theorem Two17.below (h : Two17 val w V n1 n2 sb gb sd gd P f) (hb : Below V.heap.size V V') : Two17 val w V' n1 n2 sb gb sd gd P f :=
  ⟨h.b.trans (hb.mono h.b.size), h.s.below hb, h.d.below hb, fun k hk => ⟨(h.lo k hk).1, Nat.lt_of_lt_of_le (h.lo k hk).2.1 hb.size, (h.lo k hk).2.2⟩, h.sd1, Nat.le_trans h.n2 hb.size, h.nw⟩
theorem Two17.ext (h : Two17 val w V n1 n2 sb gb sd gd P f) : SlabP17 val V (fun k => P k ∨ V.heap.size ≤ k) sb gb 3 f := h.s.mono fun k _ hk => .inl hk
/-- the first one was written -/
theorem Two17.wrote (h : Two17 val w V n1 n2 sb gb sd gd P f) (hs : SlabP17 val V' (fun k => P k ∨ V.heap.size ≤ k) sb gb 3 f') (ho : Only17 (fun k => P k ∨ V.heap.size ≤ k) V V') :
    Two17 val w V' n1 n2 sb gb sd gd (fun k => (P k ∨ V.heap.size ≤ k) ∧ k < V'.heap.size) f' := by
  have hn2 := h.n2
  have hws := h.b.size
  refine ⟨h.b.trans (ho.below (fun k hk => ?_) h.b.size), hs.mono fun k hk hp => ⟨hp, hk⟩, h.d.keep (ho.block sd (by have := h.sd1; omega) fun e => ?_) fun k hk hp => ho.block k hk fun e => ?_, fun k hk => ⟨?_, hk.2, fun e => ?_⟩, h.sd1, Nat.le_trans h.n2 ho.size, h.nw⟩
  · rcases hk with hk | hk
    · exact (h.lo k hk).1
    · omega
  · rcases e with e | e
    · exact (h.lo sd e).2.2 h.sd1
    · have := h.sd1; omega
  · rcases e with e | e
    · exact (h.lo k e).2.2 hp
    · omega
  · rcases hk.1 with hk | hk
    · exact (h.lo k hk).1
    · omega
  · rcases hk.1 with hk | hk
    · exact (h.lo k hk).2.2 e
    · omega
/-- another block, that neither has, is written -/
theorem Two17.turned {g : Nat} (h : Two17 val w V n1 n2 sb gb sd gd P f) (ht : Turned V V' g) (hg : ¬ P g) (h2 : n2 ≤ g) (hsg : sb ≠ g) : Two17 val w V' n1 n2 sb gb sd gd P f := by
  have h3 := h.nw
  have h4 := h.sd1
  refine ⟨h.b.trans (ht.below (by omega)), h.s.keep (ht.block sb hsg) fun k _ hp => ht.block k fun e => hg (by rw [← e]; exact hp), h.d.keep (ht.block sd (by omega)) fun k _ hp => ht.block k (by omega), fun k hk => ⟨(h.lo k hk).1, by rw [ht.size]; exact (h.lo k hk).2.1, (h.lo k hk).2.2⟩, h.sd1, by rw [ht.size]; exact h.n2, h.nw⟩
end
set_option maxHeartbeats 8000000 in
theorem twoWalk17 (x y : Int) (w : World) : Calls Try.prog 6 #[.int .u64 x, .int .u64 y] w fun e w' => e = .returned (.bool true) ∧ Below w.heap.size w w' := by
  obtain ⟨z, hz⟩ : ∃ z, IntKind.u64.wrap (x + 1) = z := ⟨_, rfl⟩
  obtain ⟨val, hval⟩ : ∃ v, v = val17p x y z := ⟨_, rfl⟩
  have HV0 : Hid (val 0 = (x, y)) := Lib.hid (by rw [hval]; rfl)
  have HV1 : Hid (val 1 = (z, y)) := Lib.hid (by rw [hval]; rfl)
  clear hval
  go_enter Try.func6, Try.ntmps6
  go_wp2_with fail
  refine (newP17 (val := val) (w := w) (P := fun k => w.heap.size ≤ k) 3 3 rfl (by omega) (fun k hk => hk)).mono ?_
  rintro e w1 ⟨sb, gb, rfl, hs1, hsl, hgl, hb1⟩
  have HS1 := Lib.hid hs1
  have HB1 := Lib.hid hb1
  clear hs1 hb1 hsl hgl
  go_wp2_with fail
  refine (newP17 (val := val) (w := w1) (P := fun k => w1.heap.size ≤ k) 3 3 rfl (by omega) (fun k hk => hk)).mono ?_
  rintro e w2 ⟨sd, gd, rfl, hs2, hsl, hgl, hb2⟩
  have T2 : Hid (Two17 val w w2 w1.heap.size w2.heap.size sb gb sd gd (fun k => w.heap.size ≤ k ∧ k < w1.heap.size) none17) := Lib.hid ⟨HB1.out.trans (hb2.mono HB1.out.size), (HS1.out.mono fun k hk hp => ⟨hp, hk⟩).below hb2, hs2.mono fun k hk hp => ⟨hp, hk⟩, fun k hk => ⟨hk.1, Nat.lt_of_lt_of_le hk.2 hb2.size, fun e => by omega⟩, ⟨hsl, hs2.top.lt⟩, Nat.le_refl _, HB1.out.size⟩
  have HSB : Hid (sb < w1.heap.size) := Lib.hid HS1.out.top.lt
  obtain ⟨n2, hn2⟩ : ∃ n, n = w2.heap.size := ⟨_, rfl⟩
  have HN2 : Hid (w2.heap.size = n2) := Lib.hid hn2.symm
  rw [← hn2] at T2
  obtain ⟨n1, hn1⟩ : ∃ n, n = w1.heap.size := ⟨_, rfl⟩
  rw [← hn1] at T2 HSB
  have HP1 : Hid (∀ k, (fun k => w.heap.size ≤ k ∧ k < n1) k → k < n2) := Lib.hid fun k hk => by have h5 := HB1.out.size; have h6 : k < n1 := hk.2; have := hb2.size; omega
  have HP1b : Hid (∀ k, (fun k => w.heap.size ≤ k ∧ k < n1) k → k < n1) := Lib.hid fun k hk => hk.2
  have HN12 : Hid (n1 ≤ n2) := Lib.hid (by have := hb2.size; omega)
  generalize (fun k => w.heap.size ≤ k ∧ k < n1) = P1 at *
  clear hs2 hsl hgl hb2 HS1 HB1 hn2 hn1
  go_upto_region 6 with (first
    | ((with_reducible show wpList _ _ _ ({ dst := some 33, op := Op.build _ _, type := _, pos := _, after := _, guard := _ } :: _) _ _); go_must (refine wpList_plain rfl fun K hK => wp_built _ _ _ rfl (by simp only [List.map_toArray, List.map_cons, List.map_nil]; exact (built_pr17 _ _)) (hK _ _ ?_)))
    | ((with_reducible show wpList _ _ _ ({ dst := some 9, op := Op.alloc _, type := _, pos := _, after := _, guard := _ } :: _) _ _); go_must (refine wpList_alloc_zero rfl 59 rfl [.int .u64 0, .int .u64 0] zero_pr17 ?_))
    | ((with_reducible show wpList _ _ _ ({ dst := none, op := Op.store 59 (.tmp 9) _, type := _, pos := _, after := _, guard := _ } :: _) _ _); go_must (refine wpList_store_new rfl 59 (.tmp 9) (.tmp 33) rfl [.int .u64 x, .int .u64 y] (size_pr17 _ _) (pr_one17 _ _) rfl ?_ ?_ ?_; go_simp; go_simp; intro w3 hr3 hb3 hz3)))
  rw [HN2.out] at hr3 ⊢
  have T3 := Lib.hid (T2.out.below hb3)
  have R3 := Lib.hid hr3
  have HN3 : Hid (n2 < w3.heap.size) := Lib.hid hr3.lt
  have h14 : (1 : Int) ≤ 4096 := by omega
  clear hr3 hb3 hz3 T2
  go_wp2_with (first
    | ((with_reducible show wpList _ _ _ ({ dst := some 36, op := Op.load _ _, type := _, pos := _, after := _, guard := _ } :: _) _ _); go_must (refine wpList_load_whole rfl 59 (.tmp 9) rfl n2 _ [.int .u64 x, .int .u64 y] _ Try.underlying59 rfl (size_pr17 _ _) R3.out ?_ ?_; go_simp))
    | fail)
  refine (putP17 T3.out.ext 0 0 x y HV0.out lst_none17 (by omega) (fun k hk => .inr hk)).mono ?_
  rintro e w4 ⟨rfl, hs, ho⟩
  have T4 := Lib.hid (T3.out.wrote hs ho)
  have R4 : Hid (Row w4 n2 59 [.int .u64 x, .int .u64 y]) := Lib.hid ⟨(ho.block n2 R3.out.lt (fun e => by
    rcases e with e | e
    · have := HP1.out n2 e; omega
    · have := R3.out.lt; omega)).trans R3.out.is⟩
  have HZ34 : Hid (w3.heap.size ≤ w4.heap.size) := Lib.hid ho.size
  have HP4 : Hid (∀ k, (fun k => (P1 k ∨ w3.heap.size ≤ k) ∧ k < w4.heap.size) k → (k < n1 ∨ w3.heap.size ≤ k) ∧ k < w4.heap.size) := Lib.hid fun k hk => ⟨by
    rcases hk.1 with h5 | h5
    · exact .inl (HP1b.out k h5)
    · exact .inr h5, hk.2⟩
  generalize (fun k => (P1 k ∨ w3.heap.size ≤ k) ∧ k < w4.heap.size) = P4 at *
  clear hs ho T3 R3
  have oc4 : w4.cell? ⟨n2, 0, none⟩ = some (.int .u64 x) := R4.out.cell 0
  have fr4 := R4.out.frozen 0
  go_upto_region 8 with fail
  have T5 : Hid (Two17 val w (w4.setCell ⟨n2, 0, none⟩ (.int .u64 z)) n1 n2 sb gb sd gd P4 (up17 none17 0 (some 0))) := Lib.hid (T4.out.turned (g := n2) (turned_setCell w4 ⟨n2, 0, none⟩ (.int .u64 z)) (fun e => by have h5 := HP4.out n2 e; have h6 := HN3.out; have h7 := HN12.out; omega) (Nat.le_refl _) (by have h5 := HSB.out; have h6 := HN12.out; omega))
  have R5 : Hid (Row (w4.setCell ⟨n2, 0, none⟩ (.int .u64 z)) n2 59 [.int .u64 z, .int .u64 y]) := Lib.hid (R4.out.set_ 0 _)
  have HZ5 : Hid (w4.heap.size ≤ (w4.setCell ⟨n2, 0, none⟩ (.int .u64 z)).heap.size) := Lib.hid (by simp)
  generalize w4.setCell ⟨n2, 0, none⟩ (.int .u64 z) = w5 at *
  clear oc4 fr4 T4 R4 hz
  go_wp2_with fail
  refine (getP17 T5.out.s 0 0 0 x y rfl (by omega) rfl HV0.out).mono ?_
  rintro e w6 ⟨rfl, hb6⟩
  have T6 := Lib.hid (T5.out.below hb6)
  have R6 := Lib.hid (R5.out.below hb6 R5.out.lt)
  have HZ6 := Lib.hid (Nat.le_trans HZ5.out hb6.size)
  clear hb6 T5 R5 HZ5
  go_upto_region 9 with (first
    | ((with_reducible show wpList _ _ _ ({ dst := some 12, op := Op.alloc _, type := _, pos := _, after := _, guard := _ } :: _) _ _); go_must (refine wpList_alloc_zero rfl 59 rfl [.int .u64 0, .int .u64 0] zero_pr17 ?_))
    | ((with_reducible show wpList _ _ _ ({ dst := none, op := Op.store 59 (.tmp 12) _, type := _, pos := _, after := _, guard := _ } :: _) _ _); go_must (refine wpList_store_new rfl 59 (.tmp 12) (.tmp 48) rfl [.int .u64 x, .int .u64 y] (size_pr17 _ _) (pr_one17 _ _) rfl ?_ ?_ ?_; go_simp; go_simp; intro w7 hr7 hb7 hz7)))
  have T7 := Lib.hid (T6.out.below hb7)
  have R7 := Lib.hid (R6.out.below hb7 R6.out.lt)
  obtain ⟨gu, hgu⟩ : ∃ g, g = w6.heap.size := ⟨_, rfl⟩
  rw [← hgu] at hr7 ⊢
  have U7 := Lib.hid hr7
  have HGU : Hid (w4.heap.size ≤ gu) := Lib.hid (by rw [hgu]; exact HZ6.out)
  have HGW : Hid (w7.heap.size = gu + 1) := Lib.hid (by rw [hgu]; exact (by first | exact hz7 | omega | simpa using hz7))
  clear hr7 hb7 hz7 T6 R6 hgu
  go_wp2_with (first
    | ((with_reducible show wpList _ _ _ ({ dst := some 57, op := Op.load _ _, type := _, pos := _, after := _, guard := _ } :: _) _ _); go_must (refine BigFrame.wpList_want (by kernel_rfl) fun K hK => ?_; unfold Oper.wp; rw [exec_load_at w7 59 (.tmp 12) rfl ⟨gu, 0, none⟩ [.int .u64 x, .int .u64 y] _ Try.underlying59 rfl (size_pr17 _ _) (fun k u hu => by rw [addr_row, Nat.zero_add]; exact (U7.out.cell k).trans hu) (by go_simp)]; refine hK _ _ ?_))
    | ((with_reducible show wpList _ _ _ ({ dst := some 60, op := Op.build _ _, type := _, pos := _, after := _, guard := _ } :: _) _ _); go_must (refine BigFrame.wpList_want (by kernel_rfl) fun K hK => wp_built _ _ _ rfl (by simp only [List.map_toArray, List.map_cons, List.map_nil]; exact (built_pr17 _ _)) (hK _ _ ?_)))
    | ((with_reducible show wpList _ _ _ ({ dst := some 61, op := Op.binOp _ _ _ _ _, type := _, pos := _, after := _, guard := _ } :: _) _ _); go_must (refine BigFrame.wpList_want (by kernel_rfl) fun K hK => ?_; unfold Oper.wp; rw [exec_bin17 w7 .neq 59 (.tmp 57) (.tmp 60) guard_pr17 rfl (by go_simp) (by go_simp) (pr_neq17 x y w7)]; refine hK _ _ ?_))
    | fail)
  refine (lenP17 T7.out.d).mono ?_
  rintro e w8 ⟨rfl, hb8⟩
  rw [show cnt17 none17 3 = 0 from rfl]
  have T8 := Lib.hid (T7.out.below hb8)
  have R8 := Lib.hid (R7.out.below hb8 R7.out.lt)
  have U8 := Lib.hid (U7.out.below hb8 U7.out.lt)
  clear hb8 T7 R7 U7
  go_wp2_with (first
    | ((with_reducible show wpList _ _ _ ({ dst := some 70, op := Op.load _ _, type := _, pos := _, after := _, guard := _ } :: _) _ _); go_must (refine wpList_load_whole rfl 59 (.tmp 9) rfl n2 _ [.int .u64 z, .int .u64 y] _ Try.underlying59 rfl (size_pr17 _ _) R8.out ?_ ?_; go_simp))
    | fail)
  refine (setP17 T8.out.ext 0 0 0 1 z y rfl (by omega) rfl HV1.out (fun k hk => .inr hk)).mono ?_
  rintro e w9 ⟨rfl, hs, ho⟩
  have T9 := Lib.hid (T8.out.wrote hs ho)
  have NP2 : Hid (¬ P4 n2) := Lib.hid fun e => by have h5 := HP4.out n2 e; have h6 := HN3.out; have h7 := HN12.out; omega
  have NPU : Hid (¬ P4 gu) := Lib.hid fun e => by have h5 := HP4.out gu e; have h6 := HGU.out; omega
  have R9 : Hid (Row w9 n2 59 [.int .u64 z, .int .u64 y]) := Lib.hid ⟨(ho.block n2 R8.out.lt (fun e => by
    rcases e with e | e
    · exact NP2.out e
    · have := R8.out.lt; omega)).trans R8.out.is⟩
  have U9 : Hid (Row w9 gu 59 [.int .u64 x, .int .u64 y]) := Lib.hid ⟨(ho.block gu U8.out.lt (fun e => by
    rcases e with e | e
    · exact NPU.out e
    · have := U8.out.lt; omega)).trans U8.out.is⟩
  have NQU : Hid (¬ (fun k => (P4 k ∨ w8.heap.size ≤ k) ∧ k < w9.heap.size) gu) := Lib.hid fun e => by
    rcases e.1 with e | e
    · exact NPU.out e
    · have := U8.out.lt; omega
  have HNG : Hid (n2 < gu) := Lib.hid (by have h5 := HN3.out; have h6 := HZ34.out; have h7 := HGU.out; omega)
  have HSG : Hid (sb ≠ gu) := Lib.hid (by have h5 := HSB.out; have h6 := HN12.out; have h7 := HNG.out; omega)
  generalize (fun k => (P4 k ∨ w8.heap.size ≤ k) ∧ k < w9.heap.size) = P9 at *
  clear hs ho T8 R8 U8
  go_wp2_with fail
  refine (getP17 T9.out.s 0 0 1 z y rfl (by omega) rfl HV1.out).mono ?_
  rintro e w10 ⟨rfl, hb10⟩
  have T10 := Lib.hid (T9.out.below hb10)
  have R10 := Lib.hid (R9.out.below hb10 R9.out.lt)
  have U10 := Lib.hid (U9.out.below hb10 U9.out.lt)
  clear hb10 T9 R9 U9
  go_upto_region 13 with (first
    | ((with_reducible show wpList _ _ _ ({ dst := none, op := Op.store 59 (.tmp 12) _, type := _, pos := _, after := _, guard := _ } :: _) _ _); go_must (refine wpList_store_whole rfl 59 (.tmp 12) (.tmp 76) rfl gu [.int .u64 x, .int .u64 y] [.int .u64 z, .int .u64 y] U10.out (size_pr17 _ _) rfl (pr_one17 _ _) ?_ ?_ ?_; go_simp; go_simp; intro w11 hr11 ht11)))
  have T11 := Lib.hid (T10.out.turned ht11 NQU.out (Nat.le_of_lt HNG.out) HSG.out)
  have R11 : Hid (Row w11 n2 59 [.int .u64 z, .int .u64 y]) := Lib.hid ⟨(ht11.block n2 (by have := HNG.out; omega)).trans R10.out.is⟩
  have U11 := Lib.hid hr11
  clear hr11 ht11 T10 R10 U10
  go_wp2_with fail
  refine (get_noP17 T11.out.d 0 0 rfl (by omega) rfl).mono ?_
  rintro e w12 ⟨rfl, hb12⟩
  have T12 := Lib.hid (T11.out.below hb12)
  have R12 := Lib.hid (R11.out.below hb12 R11.out.lt)
  have U12 := Lib.hid (U11.out.below hb12 U11.out.lt)
  clear hb12 T11 R11 U11
  go_upto_region 14 with (first
    | ((with_reducible show wpList _ _ _ ({ dst := some 15, op := Op.alloc _, type := _, pos := _, after := _, guard := _ } :: _) _ _); go_must (refine wpList_alloc_zero rfl 59 rfl [.int .u64 0, .int .u64 0] zero_pr17 ?_))
    | ((with_reducible show wpList _ _ _ ({ dst := none, op := Op.store 59 (.tmp 15) _, type := _, pos := _, after := _, guard := _ } :: _) _ _); go_must (refine wpList_store_new rfl 59 (.tmp 15) (.tmp 82) rfl [.int .u64 0, .int .u64 0] (size_pr17 _ _) (pr_one17 _ _) rfl ?_ ?_ ?_; go_simp; go_simp; intro w13 hr13 hb13 hz13)))
  have B13 := Lib.hid (T12.out.below hb13).b
  have R13 := Lib.hid (R12.out.below hb13 R12.out.lt)
  have U13 := Lib.hid (U12.out.below hb13 U12.out.lt)
  clear hr13 hb13 hz13 T12 R12 U12
  go_wp2_with (first
    | ((with_reducible show wpList _ _ _ ({ dst := some 87, op := Op.load _ _, type := _, pos := _, after := _, guard := _ } :: _) _ _); go_must (refine BigFrame.wpList_want (by kernel_rfl) fun K hK => ?_; unfold Oper.wp; rw [exec_load_at w13 59 (.tmp 12) rfl ⟨gu, 0, none⟩ [.int .u64 z, .int .u64 y] _ Try.underlying59 rfl (size_pr17 _ _) (fun k u hu => by rw [addr_row, Nat.zero_add]; exact (U13.out.cell k).trans hu) (by go_simp)]; refine hK _ _ ?_))
    | ((with_reducible show wpList _ _ _ ({ dst := some 88, op := Op.load _ _, type := _, pos := _, after := _, guard := _ } :: _) _ _); go_must (refine BigFrame.wpList_want (by kernel_rfl) fun K hK => ?_; unfold Oper.wp; rw [exec_load_at w13 59 (.tmp 9) rfl ⟨n2, 0, none⟩ [.int .u64 z, .int .u64 y] _ Try.underlying59 rfl (size_pr17 _ _) (fun k u hu => by rw [addr_row, Nat.zero_add]; exact (R13.out.cell k).trans hu) (by go_simp)]; refine hK _ _ ?_))
    | ((with_reducible show wpList _ _ _ ({ dst := some 89, op := Op.binOp _ _ _ _ _, type := _, pos := _, after := _, guard := _ } :: _) _ _); go_must (refine BigFrame.wpList_want (by kernel_rfl) fun K hK => ?_; unfold Oper.wp; rw [exec_bin17 w13 .eql 59 (.tmp 87) (.tmp 88) guard_pr17 rfl (by go_simp) (by go_simp) (pr_eql17 z y w13)]; refine hK _ _ ?_))
    | fail)
  refine (lives17 _).mono ?_
  rintro e w14 ⟨rfl, hb14⟩
  have B14 := Lib.hid (B13.out.trans (hb14.mono B13.out.size))
  clear hb14
  go_wp2_with fail
  go_ret
  exact ⟨rfl, B14.out⟩
end Go.Proofs.Ytkhcgclnmdgpbaa
