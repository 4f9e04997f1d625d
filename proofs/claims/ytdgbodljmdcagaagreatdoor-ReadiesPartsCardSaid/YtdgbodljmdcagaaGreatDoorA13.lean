/-
  Parts joined: Told11 Pay10 App11 RolePg11 ReadyPg11 Of11 RefReg.
-/
import Derived.Test.YtdgbodljmdcagaaGreatDoorChecked
import Derived.WalkKit
import Derived.LaidEql
import Derived.Stop.Asserts
import Derived.RowKitTokens
import Derived.Lib.IfaceEq
import Derived.Lib.Hide
import Derived.Below
import Derived.Laws.OwnMore
import Derived.Deep.AppendLies
import Derived.Deep.Draws
import Derived.Laws.MakeOwn
import Derived.Laws.CopyOwn
import Derived.Laws.Rows
import Derived.Maps.AppendAt
import Derived.OwnWalk
import Derived.Laws.BitsAllLaws
import Derived.Test.YtdgbodljmdcagaaGreatDoorRows
import Derived.WalkSpells
import Derived.WalkLawsBesides
import Derived.IntWalk
import Derived.Deep.QuietTactic
import Derived.BigQuiet
import Derived.Deep.MidRow
import Derived.Deep.WholeRow
import Derived.Great.BuildSlice
import Derived.Recover
import Derived.Deep.RegionHeld
import Derived.ChangeKeysEq
import Derived.Deep.RegionHeld2
import Derived.Deep.CutBlock
import Derived.Laws.Tables
import Derived.ProofKit
import Derived.OpenShut
import Derived.ShutString
import Derived.ChangeOld
import Derived.Lib.SmallJoins
import Derived.Deep.Slices
import Derived.Deep.Strs
import Derived.SizedLaws
import Derived.Laws.StructEq
import Derived.Laws.Slices
import Derived.Defers
import Derived.Deep.DeepCutAuto
import Derived.Laws.EntriesVeiled
import Derived.Deep.RegionHeld3
import Derived.Maps.OwnSet
import Derived.DeepKeys4
import Derived.WideKeyArr
import Derived.WideKeyEntry
import Derived.Shelf.SlMaps.Clone
import Derived.Lib.Mul64
import Derived.Laws.Bits64b
import Derived.Laws.Externs
import Derived.Lib.BitFns
import Derived.Shelf.Small.Bits
import Derived.Laws.NewBlocks
import Derived.Laws.Append
import Derived.Laws.AppendOwn
import Derived.RangeFuncNested
import Derived.RangeFuncBound
import Derived.RangeFuncCalls
import Derived.RangeFuncLeaves
import Derived.Shelf.Abstract
import Derived.Shelf.RegionOpen
import Derived.OwnWalkIn
import Derived.TacticsInMore
import Derived.LoopNIn
import Derived.LoopIn
import Derived.LaidMore
import Derived.Deep.RegionWith
import Derived.Test.YtdgbodljmdcagaaGreatDoorA1
import Derived.Test.YtdgbodljmdcagaaGreatDoorA2
import Derived.Test.YtdgbodljmdcagaaGreatDoorA3
import Derived.Test.YtdgbodljmdcagaaGreatDoorA4
import Derived.Test.YtdgbodljmdcagaaGreatDoorA5
import Derived.Test.YtdgbodljmdcagaaGreatDoorA6
import Derived.Test.YtdgbodljmdcagaaGreatDoorA7
import Derived.Test.YtdgbodljmdcagaaGreatDoorA8
import Derived.Test.YtdgbodljmdcagaaGreatDoorA9
import Derived.Test.YtdgbodljmdcagaaGreatDoorA10
import Derived.Test.YtdgbodljmdcagaaGreatDoorA11
import Derived.Test.YtdgbodljmdcagaaGreatDoorA12
/-
  Of part Told11: what is needed here.
-/
set_option linter.unusedSimpArgs false
namespace Go.Proofs.YtdgbodljmdcagaaGreatDoor
open Go.RowKit
set_option linter.unusedVariables false
set_option maxRecDepth 100000
def xU (x : LTx) : Int := units8 (all8 x.m.keys x.m.ins)
def xP (x : LTx) : Int := (all8 x.m.keys x.m.ins).p.getD 0
def xBad (x : LTx) : Int := (all8 x.m.keys x.m.ins).bad
def xFee (x : LTx) : Int := fee10 x.sigs.length (xP x) (xU x)
def xCost (x : LTx) (l : List LRole) : Int := cost9 x.sigs.length (dat9 x.m.ins) (wrK l).length (xU x)
def xPri (x : LTx) (l : List LRole) : Int := pri10 x.sigs.length (xP x) (xU x) (xCost x l)
def xReady (zs : List Int) (x : LTx) (l : List LRole) : LReady := ⟨zs, x, l, xU x, xP x, xBad x, xFee x, xCost x l, xPri x l⟩
/-- all that is told of a packet -/
def rdX (ts : List LTab) (zs : List Int) : LReady := if rdErr ts zs = 0 then xReady zs (wireX zs) (rdRoles ts zs) else zReady
theorem rdX_no {ts : List LTab} {zs : List Int} (h : rdErr ts zs ≠ 0) : rdX ts zs = zReady := by unfold rdX; rw [if_neg h]
theorem rdX_ok {ts : List LTab} {zs : List Int} (h : rdErr ts zs = 0) : rdX ts zs = xReady zs (wireX zs) (rdRoles ts zs) := by unfold rdX; rw [if_pos h]
theorem bytes11 {l : List Int} (h : AllBytes l) : Bytes l := by
  intro i
  rcases Nat.lt_or_ge i l.length with hi | hi
  · rw [List.getD_eq_getElem?_getD, List.getElem?_eq_getElem hi]; exact h _ (List.getElem_mem hi)
  · rw [List.getD_eq_getElem?_getD, List.getElem?_eq_none hi]; exact ⟨Int.le_refl _, by decide⟩
/-- of what came as a packet each number has room -/
structure Few11 (x : LTx) : Prop where
  sigs : x.sigs.length ≤ 1232
  ins : x.m.ins.length ≤ 1232
  dat : dat9 x.m.ins ≤ 1232
  total : total x.m ≤ 1232
  u : 0 ≤ xU x ∧ xU x ≤ 1400000
  p : Word (xP x)
  fee : Word (xFee x)
theorem Few11.uw {x : LTx} (h : Few11 x) : Word (xU x) := ⟨h.u.1, by have := h.u.2; omega⟩
theorem Few11.cost {x : LTx} (h : Few11 x) (l : List LRole) (hl : l.length ≤ 70000) : Word (xCost x l) := by
  unfold xCost
  have h1 := h.sigs
  have h2 := h.u.1
  have h3 := wrK_le l
  rw [cost9_is (by omega) (by omega) (by omega)]
  exact cap_word (by omega)
theorem few11 {zs : List Int} {x : LTx} (h : Got11 zs x) : Few11 x := by
  have ht := h.total
  have hd := dat9_le x.m.ins
  have hi : ∀ i ∈ x.m.ins, Bytes (i.dat.drop 1) := fun i hi => bytes11 fun z hz => (h.wf.m.ins i hi).2.2 z (List.mem_of_mem_drop hz)
  have ok := run8_ok (keys := x.m.keys) hi x.m.ins.length (Nat.le_refl _)
  have hu : 0 ≤ xU x ∧ xU x ≤ 1400000 := ⟨units8_pos ok, units8_le _⟩
  have hp : Word (xP x) := price_in ok
  have hs := h.sigs
  refine ⟨hs, by unfold total at ht; omega, by unfold total at ht; omega, ht, hu, hp, fee10_word (by omega) hp ⟨hu.1, by have := hu.2; omega⟩⟩
/-- the chapter's example, as bytes -/
def xEx : LTx := xTx xks 1 0
theorem xEx_fits : TFits xEx := by
  refine ⟨by decide, .inr ⟨rfl, by decide⟩, by decide, by decide, by decide, fun i hi => ?_, fun i hi => by cases hi⟩
  simp [xEx, xTx] at hi
  subst hi
  decide
theorem xEx_wf : xEx.Wf := ⟨fun s hs => by
    simp [xEx, xTx] at hs
    subst hs
    exact ⟨rfl, fun z hz => by rw [List.eq_of_mem_replicate hz]; unfold IsByte; omega⟩,
  x_wf xks xks_ok 1 0 (by unfold IsByte; omega) (by unfold IsByte; omega)⟩
theorem xEx_len : (encTx xEx).length ≤ 1232 := by decide +kernel
theorem xEx_w : wTx (encTx xEx) = .ok xEx := wTx_put xEx_fits xEx_wf xEx_len
theorem xEx_err : wErr (encTx xEx) = 0 := by rw [wErr_ok xEx_w]; exact chk_a
theorem xEx_wire : wireX (encTx xEx) = xEx := by unfold wireX wx; rw [if_pos xEx_err, xEx_w]
theorem xEx_rd : rdErr [] (encTx xEx) = 0 := by
  unfold rdErr
  rw [if_neg (by simp [xEx_err]), xEx_wire]
  decide +kernel
theorem xEx_told : rdX [] (encTx xEx) = ⟨encTx xEx, xEx, rdRoles [] (encTx xEx), 200000, 0, -1, 5000, 200000 + 720 + 600, 12417⟩ := by
  rw [rdX_ok xEx_rd, xEx_wire]
  have hr : rdRoles [] (encTx xEx) = rolesL xEx.m [] [] := by unfold rdRoles; rw [xEx_wire]; rfl
  rw [hr]
  have e1 : xU xEx = 200000 := by decide +kernel
  have e2 : xP xEx = 0 := by decide +kernel
  have e3 : xBad xEx = -1 := by decide +kernel
  have e4 : xFee xEx = 5000 := by unfold xFee; rw [e1, e2]; decide +kernel
  have e5 : xCost xEx (rolesL xEx.m [] []) = 200000 + 720 + 600 := by decide +kernel
  have e6 : xPri xEx (rolesL xEx.m [] []) = 12417 := by unfold xPri; rw [e1, e2, e5]; decide +kernel
  unfold xReady
  rw [e1, e2, e3, e4, e5, e6]
theorem xEx_roles : (rdRoles [] (encTx xEx)).length = 2 := by
  rw [rdRoles_len xEx_rd, xEx_wire]
  exact tot_a
/-- one byte that is none -/
theorem xNo_err : wErr [0] = 5 := by decide +kernel
end Go.Proofs.YtdgbodljmdcagaaGreatDoor

/-
  Of part Pay10: what is needed here.
-/
namespace Go.Proofs.YtdgbodljmdcagaaGreatDoor
open Go.RowKit
set_option linter.unusedVariables false
set_option maxRecDepth 100000
/-- a payment's cells -/
def pay10 (n u p b : Int) : Value := .agg #[.int .i64 n, .int .u64 u, .int .u64 p, .int .i64 b]
theorem base_times (n : Int) (w : World) (h1 : n < 9223372036854775808) :
    Calls Tryz.prog 78 #[.int .u64 (max n 0), .int .u64 5000, .int .u64 1, .bool false] w fun e w' => e = .returned (.int .u64 (base10 n)) ∧ Below w.heap.size w w' :=
  times_ (max n 0) 5000 1 false w ⟨by omega, by omega⟩ ⟨by decide, by decide⟩ ⟨by decide, by decide⟩
theorem offer_times (u p : Int) (w : World) (hu : Word u) (hp : Word p) :
    Calls Tryz.prog 78 #[.int .u64 p, .int .u64 u, .int .u64 1000000, .bool true] w fun e w' => e = .returned (.int .u64 (offer10 p u)) ∧ Below w.heap.size w w' :=
  times_ p u 1000000 true w hp hu ⟨by decide, by decide⟩
set_option maxHeartbeats 1000000 in
/-- what signatures pay -/
theorem base_ (n u p b : Int) (w : World) (h0 : -9223372036854775808 ≤ n) (h1 : n < 9223372036854775808) :
    Calls Tryz.prog 73 #[pay10 n u p b] w fun e w' => e = .returned (.int .u64 (base10 n)) ∧ Below w.heap.size w w' := by
  unfold pay10
  have hb0 := (Below.refl w.heap.size w).alloc (Nat.le_refl _) (.cells #[.int .i64 n, .int .u64 u, .int .u64 p, .int .i64 b] 135)
  have T := fun w => base_times n w h1
  have e64 : IntKind.u64.wrap (max n 0) = max n 0 := IntWalk.u64_in _ (by omega)
  go_enter Tryz.func73, Tryz.ntmps73
  go_wp2_with fail
  refine (T _).mono ?_
  rintro e w1 ⟨rfl, hb⟩
  have HB := Lib.hid (hb0.trans (hb.mono hb0.size))
  clear hb hb0
  go_wp2
  go_ret
  exact ⟨rfl, HB.out⟩
set_option maxHeartbeats 1000000 in
/-- what a budget offers -/
theorem offer_ (n u p b : Int) (w : World) (hu : Word u) (hp : Word p) :
    Calls Tryz.prog 74 #[pay10 n u p b] w fun e w' => e = .returned (.int .u64 (offer10 p u)) ∧ Below w.heap.size w w' := by
  unfold pay10
  have hb0 := (Below.refl w.heap.size w).alloc (Nat.le_refl _) (.cells #[.int .i64 n, .int .u64 u, .int .u64 p, .int .i64 b] 135)
  have T := fun w => offer_times u p w hu hp
  go_enter Tryz.func74, Tryz.ntmps74
  go_wp2_with fail
  refine (T _).mono ?_
  rintro e w1 ⟨rfl, hb⟩
  have HB := Lib.hid (hb0.trans (hb.mono hb0.size))
  clear hb hb0
  go_wp2
  go_ret
  exact ⟨rfl, HB.out⟩
set_option maxHeartbeats 1000000 in
/-- half of what signatures pay -/
theorem half_ (n u p b : Int) (w : World) (h0 : -9223372036854775808 ≤ n) (h1 : n < 9223372036854775808) :
    Calls Tryz.prog 79 #[pay10 n u p b] w fun e w' => e = .returned (.int .u64 (base10 n / 2)) ∧ Below w.heap.size w w' := by
  have T := fun w => base_ n u p b w h0 h1
  have wb := base10_word (n := n) (by omega)
  have wb0 := wb.1
  have wb1 := wb.2
  unfold pay10 at *
  have hb0 := (Below.refl w.heap.size w).alloc (Nat.le_refl _) (.cells #[.int .i64 n, .int .u64 u, .int .u64 p, .int .i64 b] 135)
  generalize base10 n = q at *
  go_enter Tryz.func79, Tryz.ntmps79
  go_wp2_with fail
  refine (T _).mono ?_
  rintro e w1 ⟨rfl, hb⟩
  have HB := Lib.hid (hb0.trans (hb.mono hb0.size))
  clear hb hb0
  go_wp2
  go_ret
  exact ⟨rfl, HB.out⟩
/-- a method of a payment, asked as a value -/
def meth10 (f : FuncId) (v : Value) : Value := .func (.func f) #[v] #[]
set_option maxHeartbeats 1000000 in
/-- two parts, summed up -/
theorem together_ (f f' : FuncId) (v : Value) (x y : Int) (A : Option Addr) (c B : Nat) (w : World) (hx : Sees w B A 2 [meth10 f v, meth10 f' v]) (hB : B ≤ w.heap.size) (wx : Word x) (wy : Word y)
    (en : ∀ w, (callFunc f #[v]).run Tryz.prog w = .ok (.enter f #[v]) w) (en' : ∀ w, (callFunc f' #[v]).run Tryz.prog w = .ok (.enter f' #[v]) w)
    (hf : ∀ w, Calls Tryz.prog f #[v] w fun e w' => e = .returned (.int .u64 x) ∧ Below w.heap.size w w')
    (hf' : ∀ w, Calls Tryz.prog f' #[v] w fun e w' => e = .returned (.int .u64 y) ∧ Below w.heap.size w w') :
    Calls Tryz.prog 72 #[.slice A 2 c] w fun e w' => e = .returned (.int .u64 (cap (x + y))) ∧ Below w.heap.size w w' := by
  obtain ⟨a, u0, rfl, hab, e0, c0⟩ := hx.at_ (k := 0) (by omega)
  cases e0
  obtain ⟨a', u1, ea, _, e1, c1⟩ := hx.at_ (k := 1) (by omega)
  cases ea
  cases e1
  have C0 := Lib.hid (fun w' (hb : Below w.heap.size w w') => (hb.cell (p := a.add 0) (by rw [addr_block]; omega)).trans c0)
  have C1 := Lib.hid (fun w' (hb : Below w.heap.size w w') => (hb.cell (p := a.add 1) (by rw [addr_block]; omega)).trans c1)
  clear c0 c1 hx hB hab
  have wc := cap_word (x := x) wx.1
  have e2 := Lib.hid (show cap (cap x + y) = cap (x + y) from cap_add wy.1)
  have e3 := Lib.hid (show cap (0 + x) = cap x by rw [Int.zero_add])
  unfold meth10 at *
  go_enter Tryz.func72, Tryz.ntmps72
  go_wp2_with fail
  go_loopw [3, 5, 8] (fun s _ i wr => ∃ j : Nat, j ≤ 2 ∧ i = .int .i64 j ∧ Below w.heap.size w wr ∧ (j = 0 → s = .int .u64 0) ∧ (j = 1 → s = .int .u64 (cap x)) ∧ (j = 2 → s = .int .u64 (cap (x + y)))) (fun _ _ i _ => 2 - (intOf i).toNat)
  case atStart => exact ⟨0, Nat.zero_le _, rfl, Below.refl _ _, fun _ => rfl, fun h => (by cases h), fun h => (by cases h)⟩
  case round =>
    obtain ⟨j, hj, rfl, hbr, s0, s1, s2⟩ := hrel
    obtain rfl | rfl | rfl : j = 0 ∨ j = 1 ∨ j = 2 := by omega
    · obtain rfl := s0 rfl
      clear s0 s1 s2
      have c0 : wr.cell? a = some (Value.func (Fn.func f) #[v] #[]) := C0.out _ hbr
      go_wp2_with fail
      refine (hf _).mono ?_
      rintro e w1 ⟨rfl, hb⟩
      have B1 := Lib.hid (hbr.trans (hb.mono hbr.size))
      clear hb c0
      go_wp2_with fail
      refine (sum_two 0 x _ _ ⟨by decide, by decide⟩ wx (Row.new' _ _ _ (by simp))).mono ?_
      rintro e w2 ⟨rfl, hb⟩
      have h4 := B1.out.alloc B1.out.size (.cells #[.int .u64 0, .int .u64 x] 44)
      have B2 := Lib.hid (h4.trans (hb.mono h4.size))
      clear hb h4 B1
      rw [e3.out]
      go_wp2
      go_roundw
      case rel => exact ⟨1, by omega, by go_num, B2.out, fun h => (by cases h), fun _ => rfl, fun h => (by cases h)⟩
      case measure => simp [intOf]
    · obtain rfl := s1 rfl
      clear s0 s1 s2
      have c0 : wr.cell? ⟨a.block, a.off + 1, none⟩ = some (Value.func (Fn.func f') #[v] #[]) := C1.out _ hbr
      go_wp2_with fail
      refine (hf' _).mono ?_
      rintro e w1 ⟨rfl, hb⟩
      have B1 := Lib.hid (hbr.trans (hb.mono hbr.size))
      clear hb c0
      go_wp2_with fail
      refine (sum_two (cap x) y _ _ wc wy (Row.new' _ _ _ (by simp))).mono ?_
      rintro e w2 ⟨rfl, hb⟩
      have h4 := B1.out.alloc B1.out.size (.cells #[.int .u64 (cap x), .int .u64 y] 44)
      have B2 := Lib.hid (h4.trans (hb.mono h4.size))
      clear hb h4 B1
      rw [e2.out]
      go_wp2
      go_roundw
      case rel => exact ⟨2, by omega, by go_num, B2.out, fun h => (by cases h), fun h => (by cases h), fun _ => rfl⟩
      case measure => simp [intOf]
    · obtain rfl := s2 rfl
      clear s0 s1 s2
      go_wp2
      go_ret
      exact ⟨rfl, hbr⟩
/-- a budget's cells -/
def bud10 (u p b : Int) : Value := .agg #[.int .u64 u, .int .u64 p, .int .i64 b]
set_option maxHeartbeats 1000000 in
/-- priorities.Fee -/
theorem fee_ (n u p b : Int) (w : World) (h0 : -9223372036854775808 ≤ n) (h1 : n < 9223372036854775808) (hu : Word u) (hp : Word p) :
    Calls Tryz.prog 28 #[.int .i64 n, bud10 u p b] w fun e w' => e = .returned (.int .u64 (fee10 n p u)) ∧ Below w.heap.size w w' := by
  have T := fun A c B w hx hB => together_ 73 74 (pay10 n u p b) (base10 n) (offer10 p u) A c B w hx hB (base10_word (by omega)) (offer10_word hp hu)
    (fun w => by kernel_rfl) (fun w => by kernel_rfl) (fun w => base_ n u p b w h0 h1) (fun w => offer_ n u p b w hu hp)
  have E := Lib.hid (show cap (base10 n + offer10 p u) = fee10 n p u from rfl)
  rw [E.out] at T
  unfold bud10
  unfold pay10 meth10 at T
  have hb0 := (Below.refl w.heap.size w).alloc (Nat.le_refl _) (.cells #[.int .u64 u, .int .u64 p, .int .i64 b] 46)
  clear h0 h1 hu hp
  go_enter Tryz.func28, Tryz.ntmps28
  go_wp2_with fail
  refine (T _ _ _ _ (Row.new' _ _ _ (by simp)).sees0 (Nat.le_refl _)).mono ?_
  rintro e w1 ⟨rfl, hb⟩
  have hb1 := (hb0.alloc hb0.size (.cells #[.int .i64 n, .int .u64 u, .int .u64 p, .int .i64 b] 135))
  have hb2 := (hb1.alloc hb1.size (.cells #[.func (.func 73) #[.agg #[.int .i64 n, .int .u64 u, .int .u64 p, .int .i64 b]] #[], .func (.func 74) #[.agg #[.int .i64 n, .int .u64 u, .int .u64 p, .int .i64 b]] #[]] 137))
  have HB := Lib.hid (hb2.trans (hb.mono hb2.size))
  clear hb hb0 hb1 hb2 T
  go_wp2
  go_ret
  exact ⟨rfl, HB.out⟩
set_option maxHeartbeats 1000000 in
/-- priorities.Of -/
theorem pri_ (n u p b k : Int) (w : World) (h0 : -9223372036854775808 ≤ n) (h1 : n < 9223372036854775808) (hu : Word u) (hp : Word p) (hk : Word k) :
    Calls Tryz.prog 31 #[.int .i64 n, bud10 u p b, .int .u64 k] w fun e w' => e = .returned (.int .u64 (pri10 n p u k)) ∧ Below w.heap.size w w' := by
  have T := fun A c B w hx hB => together_ 79 74 (pay10 n u p b) (base10 n / 2) (offer10 p u) A c B w hx hB (half_word (base10_word (by omega))) (offer10_word hp hu)
    (fun w => by kernel_rfl) (fun w => by kernel_rfl) (fun w => half_ n u p b w h0 h1) (fun w => offer_ n u p b w hu hp)
  have E := Lib.hid (show times (cap (base10 n / 2 + offer10 p u)) 1000000 (cap (k + 1)) false = pri10 n p u k from rfl)
  have X := fun w => times_ (cap (base10 n / 2 + offer10 p u)) 1000000 (cap (k + 1)) false w (pays10_word (n := n) (by omega) hp hu) ⟨by decide, by decide⟩ (next10_word hk)
  rw [E.out] at X
  have hk' := Lib.hid hk
  unfold bud10
  unfold pay10 meth10 at T
  have hb0 := (Below.refl w.heap.size w).alloc (Nat.le_refl _) (.cells #[.int .u64 u, .int .u64 p, .int .i64 b] 46)
  clear h0 h1 hu hp hk E
  generalize cap (base10 n / 2 + offer10 p u) = q at *
  generalize pri10 n p u k = r at *
  go_enter Tryz.func31, Tryz.ntmps31
  go_wp2_with fail
  refine (T _ _ _ _ (Row.new' _ _ _ (by simp)).sees0 (Nat.le_refl _)).mono ?_
  rintro e w1 ⟨rfl, hb⟩
  have hb1 := (hb0.alloc hb0.size (.cells #[.int .i64 n, .int .u64 u, .int .u64 p, .int .i64 b] 135))
  have hb2 := (hb1.alloc hb1.size (.cells #[.func (.func 79) #[.agg #[.int .i64 n, .int .u64 u, .int .u64 p, .int .i64 b]] #[], .func (.func 74) #[.agg #[.int .i64 n, .int .u64 u, .int .u64 p, .int .i64 b]] #[]] 137))
  have HB := Lib.hid (hb2.trans (hb.mono hb2.size))
  clear hb hb0 hb1 hb2 T
  go_wp2_with fail
  refine (sum_two k 1 _ _ hk'.out ⟨by decide, by decide⟩ (Row.new' _ _ _ (by simp))).mono ?_
  rintro e w2 ⟨rfl, hb⟩
  have hb1 := (HB.out.alloc HB.out.size (.cells #[.int .u64 k, .int .u64 1] 44))
  have HB2 := Lib.hid (hb1.trans (hb.mono hb1.size))
  clear hb hb1 HB
  generalize cap (k + 1) = d at *
  go_wp2_with fail
  refine (X _).mono ?_
  rintro e w3 ⟨rfl, hb⟩
  have HB3 := Lib.hid (HB2.out.trans (hb.mono HB2.out.size))
  clear hb HB2
  go_wp2
  go_ret
  exact ⟨rfl, HB3.out⟩
end Go.Proofs.YtdgbodljmdcagaaGreatDoor

/-
  Of part App11: what is needed here.
-/
namespace Go.Proofs.YtdgbodljmdcagaaGreatDoor
open Go.RowKit
set_option linter.unusedVariables false
set_option maxRecDepth 100000
/-- all that lay there lies as it lay, but for block g -/
structure But11 (g : Nat) (w V : World) : Prop where
  size : w.heap.size ≤ V.heap.size
  block : ∀ k, k < w.heap.size → k ≠ g → V.heap[k]? = w.heap[k]?
theorem But11.refl (g : Nat) (w : World) : But11 g w w := ⟨Nat.le_refl _, fun _ _ _ => rfl⟩
theorem But11.below {g B : Nat} {w V V' : World} (h : But11 g w V) (hb : Below B V V') (hB : w.heap.size ≤ B) : But11 g w V' := ⟨Nat.le_trans h.size hb.size, fun k hk hn => (hb.block k (Nat.lt_of_lt_of_le hk hB)).trans (h.block k hk hn)⟩
theorem But11.turned {g : Nat} {w V V' : World} (h : But11 g w V) (ht : Turned V V' g) : But11 g w V' := ⟨by rw [ht.size]; exact h.size, fun k hk hn => (ht.block k hn).trans (h.block k hk hn)⟩
theorem But11.drew {g : Nat} {w V : World} (h : But11 g w V) : But11 g w V.drew := ⟨h.size, h.block⟩
/-- the cells up to a place -/
def Low11 (g K : Nat) (C : List Value) (V : World) : Prop := ∀ j v, j < K → C[j]? = some v → V.cell? ⟨g, j, none⟩ = some v
theorem Low11.row {g K t : Nat} {C : List Value} {V : World} (h : Row V g t C) : Low11 g K C V := fun j v _ hv => (h.cell j).trans hv
def YRaw.pre (q : YRaw) (x : LReady) : List Value := .slice q.BA q.bn q.bc :: (q.t.cells x.tx ++ [.slice q.RA q.rn q.rc])
theorem ycells_split (q : YRaw) (x : LReady) : q.cells x = q.pre x ++ x.last := by simp [YRaw.cells, YRaw.pre]
theorem ypre_len {q : YRaw} {x : LReady} (h : x.tx.m.recent.length = 32) : (q.pre x).length = 42 := by simp [YRaw.pre, tcells_len h]
/-- what is told of it -/
def told11 (x : LReady) : LReady := ⟨x.bytes, x.tx, x.roles, xU x.tx, xP x.tx, xBad x.tx, xFee x.tx, xCost x.tx x.roles, xPri x.tx x.roles⟩
theorem ycells_bud {q : YRaw} {x : LReady} (h : x.tx.m.recent.length = 32) (a b c : Int) : (q.cells x).take 42 ++ [.int .u64 a, .int .u64 b, .int .i64 c] ++ (q.cells x).drop (42 + [Value.int .u64 a, .int .u64 b, .int .i64 c].length) = q.cells { x with u := a, p := b, bad := c } := by
  rw [ycells_split, ycells_split, List.take_left' (ypre_len h), ← List.drop_drop, List.drop_left' (ypre_len h)]
  simp [LReady.last, YRaw.pre]
theorem ycells_set {q : YRaw} {x : LReady} (h : x.tx.m.recent.length = 32) (i : Nat) (v : Value) : (q.cells x).set (42 + i) v = q.pre x ++ x.last.set i v := by
  rw [ycells_split, List.set_append_right _ _ (by rw [ypre_len h]; omega), ypre_len h]
  congr 2
  omega
theorem ycells_low {q : YRaw} {x : LReady} (h : x.tx.m.recent.length = 32) (i : Nat) : (q.cells x)[42 + i]? = x.last[i]? := by
  rw [ycells_split, List.getElem?_append_right (by rw [ypre_len h]; omega), ypre_len h]
  congr 1
  omega
set_option maxRecDepth 100000 in
set_option maxHeartbeats 8000000 in
theorem appraise11 (g : Nat) (q : YRaw) (x : LReady) (w : World) (hr : Row w g 48 (q.cells x)) (hre : x.tx.m.recent.length = 32) (few : Few11 x.tx) (hw : x.tx.Wf) (hrn : x.roles.length ≤ 70000)
    (hin : ∀ V, But11 g w V → TxIn V V.heap.size q.t x.tx ∧ RolesIn V V.heap.size q.RA q.rn x.roles ∧ LenAt V) :
    Calls Tryz.prog 43 #[.pointer (some ⟨g, 0, none⟩)] w fun e w' => e = .returned (.tuple #[]) ∧ Row w' g 48 (q.cells (told11 x)) ∧ But11 g w w' ∧ Below g w w' := by
  obtain ⟨i1, i2, i3⟩ := hin w (But11.refl _ _)
  have hsl := i1.sigs.len
  have hil := i1.m.ins.len
  have hrl := i2.len
  have HGL := Lib.hid hr.lt
  have HW := Lib.hid (fun (V : World) (hb : But11 g w V) => written_ q.RA q.rn q.rc V.heap.size x.roles V (hin V hb).2.1 (Nat.le_refl _) (by omega))
  have HBU := Lib.hid (fun (V : World) (hb : But11 g w V) => ofB_ q.t.q x.tx.m V.heap.size V (hin V hb).1.m (Nat.le_refl _) (fun i hi => ⟨(hw.m.ins i hi).1, (hw.m.ins i hi).2.2⟩) (by have := few.ins; omega) (hin V hb).2.2)
  have hu := few.uw
  have hp := few.p
  have HFE := Lib.hid (fun (V : World) => fee_ (x.tx.sigs.length : Int) (xU x.tx) (xP x.tx) (xBad x.tx) V (by have := few.sigs; omega) (by have := few.sigs; omega) hu hp)
  have HCO := Lib.hid (fun (V : World) (hb : But11 g w V) => cost_ (q.t.cells x.tx) x.tx.sigs.length q.t.q.n q.t.SA q.t.q.IA q.t.sc q.t.q.ic V.heap.size x.tx.m.ins ((wrK x.roles).length : Int) (xU x.tx) V (tcells_len hre) (by rw [hsl]; rfl) ((tcells_m 37).trans (cells_37 hre)) (hin V hb).1.m.ins (Nat.le_refl _) (by have := few.sigs; omega) (by have := few.ins; omega) (by have := few.dat; omega) (by omega) (by have := wrK_le x.roles; omega) hu)
  have HPR := Lib.hid (fun (V : World) => pri_ (x.tx.sigs.length : Int) (xU x.tx) (xP x.tx) (xBad x.tx) (xCost x.tx x.roles) V (by have := few.sigs; omega) (by have := few.sigs; omega) hu hp (few.cost _ hrn))
  have E1 : Hid (bud8 (all8 x.tx.m.keys x.tx.m.ins) = [.int .u64 (xU x.tx), .int .u64 (xP x.tx), .int .i64 (xBad x.tx)]) := Lib.hid rfl
  have E2 : Hid (cost9 x.tx.sigs.length (dat9 x.tx.m.ins) ((wrK x.roles).length : Int) (xU x.tx) = xCost x.tx x.roles) := Lib.hid rfl
  have E3 : Hid (fee10 (x.tx.sigs.length : Int) (xP x.tx) (xU x.tx) = xFee x.tx) := Lib.hid rfl
  have E4 : Hid (pri10 (x.tx.sigs.length : Int) (xP x.tx) (xU x.tx) (xCost x.tx x.roles) = xPri x.tx x.roles) := Lib.hid rfl
  rw [E1.out] at HBU
  rw [E2.out] at HCO
  rw [E3.out] at HFE
  rw [E4.out] at HPR
  clear E1 E2 E3 E4
  have HRE := Lib.hid hre
  obtain ⟨x1, hx1⟩ : ∃ x1 : LReady, x1 = { x with u := xU x.tx, p := xP x.tx, bad := xBad x.tx } := ⟨_, rfl⟩
  obtain ⟨x2, hx2⟩ : ∃ x2 : LReady, x2 = { x1 with fee := xFee x.tx } := ⟨_, rfl⟩
  obtain ⟨x3, hx3⟩ : ∃ x3 : LReady, x3 = { x2 with cost := xCost x.tx x.roles } := ⟨_, rfl⟩
  have h4 : { x3 with pri := xPri x.tx x.roles } = told11 x := by rw [hx3, hx2, hx1]; rfl
  have Y1 : Hid ((q.cells x).take 42 ++ [.int .u64 (xU x.tx), .int .u64 (xP x.tx), .int .i64 (xBad x.tx)] ++ (q.cells x).drop (42 + [Value.int .u64 (xU x.tx), .int .u64 (xP x.tx), .int .i64 (xBad x.tx)].length) = q.cells x1) := Lib.hid (by rw [ycells_bud hre, hx1])
  have Y2 : Hid ((q.cells x1).set 45 (.int .u64 (xFee x.tx)) = q.cells x2) := Lib.hid (by
    rw [show 45 = 42 + 3 from rfl, ycells_set (by rw [hx1]; exact hre), ycells_split q x2, hx2]
    rfl)
  have Y3 : Hid ((q.cells x2).set 46 (.int .u64 (xCost x.tx x.roles)) = q.cells x3) := Lib.hid (by
    rw [show 46 = 42 + 4 from rfl, ycells_set (by rw [hx2, hx1]; exact hre), ycells_split q x3, hx3]
    rfl)
  have Y4 : Hid ((q.cells x3).set 47 (.int .u64 (xPri x.tx x.roles)) = q.cells (told11 x)) := Lib.hid (by
    rw [show 47 = 42 + 5 from rfl, ycells_set (by rw [hx3, hx2, hx1]; exact hre), ycells_split q (told11 x), ← h4]
    rfl)
  have HL : Hid ((q.cells x).length = 48) := Lib.hid (ycells_len hre)
  have C1 : Hid ((q.cells x)[1]? = some (.slice q.t.SA q.t.sn q.t.sc)) := Lib.hid (ycells_t (j := 0) rfl)
  have C41 : Hid ((q.cells x)[41]? = some (.slice q.RA q.rn q.rc)) := Lib.hid ((ycells_41 hre 0).trans rfl)
  have HM : Hid (∀ j u, (q.t.q.cells x.tx.m)[j]? = some u → (q.cells x)[2 + j]? = some u) := Lib.hid fun j u hu => by
    have := ycells_t (q := q) (x := x) (j := 1 + j) ((tcells_m j).trans hu)
    rwa [← Nat.add_assoc] at this
  have HMS := Lib.hid (show (Tryz.prog.info? 40).map (·.size) = some (q.t.q.cells x.tx.m).length by rw [size_msg, cells_len hre])
  have G1 : Hid (∀ j v, j < 3 → ([.int .u64 (xU x.tx), .int .u64 (xP x.tx), .int .i64 (xBad x.tx)] : List Value)[j]? = some v → (q.cells x1)[42 + j]? = some v ∧ (q.cells x3)[42 + j]? = some v) := Lib.hid fun j v hj hv => by
    rw [ycells_low (by rw [hx1]; exact hre), ycells_low (by rw [hx3, hx2, hx1]; exact hre), hx3, hx2, hx1]
    rcases (show j = 0 ∨ j = 1 ∨ j = 2 by omega) with rfl | rfl | rfl <;> exact ⟨hv, hv⟩
  have G2 : Hid ((q.cells x2)[42]? = some (.int .u64 (xU x.tx))) := Lib.hid (by rw [show 42 = 42 + 0 from rfl, ycells_low (by rw [hx2, hx1]; exact hre), hx2, hx1]; rfl)
  have G3 : Hid ((q.cells x3)[46]? = some (.int .u64 (xCost x.tx x.roles))) := Lib.hid (by rw [show 46 = 42 + 4 from rfl, ycells_low (by rw [hx3, hx2, hx1]; exact hre), hx3]; rfl)
  have HT2 : Hid (∀ j u, (q.t.cells x.tx)[j]? = some u → (q.cells x2)[1 + j]? = some u) := Lib.hid fun j u hu => ycells_t (by rw [hx2, hx1]; exact hu)
  have HTL : Hid ((q.t.cells x.tx).length = 40) := Lib.hid (tcells_len hre)
  have HTS := Lib.hid (show (Tryz.prog.info? 42).map (·.size) = some (q.t.cells x.tx).length by rw [size_tx, tcells_len hre])
  have F1 : Hid (∃ v, (q.cells x1)[45]? = some v) := Lib.hid ⟨_, by rw [show 45 = 42 + 3 from rfl, ycells_low (by rw [hx1]; exact hre)]; rfl⟩
  have F2 : Hid (∃ v, (q.cells x2)[46]? = some v) := Lib.hid ⟨_, by rw [show 46 = 42 + 4 from rfl, ycells_low (by rw [hx2, hx1]; exact hre)]; rfl⟩
  have F3 : Hid (∃ v, (q.cells x3)[47]? = some v) := Lib.hid ⟨_, by rw [show 47 = 42 + 5 from rfl, ycells_low (by rw [hx3, hx2, hx1]; exact hre)]; rfl⟩
  have HBS := Lib.hid (size_bud (xU x.tx) (xP x.tx) (xBad x.tx))
  have HB1 := Lib.hid (bud_one (xU x.tx) (xP x.tx) (xBad x.tx))
  have HSN : Hid (q.t.sn = x.tx.sigs.length) := Lib.hid hsl.symm
  have WN : Hid ((wrK x.roles).length ≤ 70000) := Lib.hid (by have := wrK_le x.roles; omega)
  have SN : Hid (x.tx.sigs.length ≤ 1232) := Lib.hid few.sigs
  have R0 := Lib.hid hr
  unfold bud10 at HFE HPR
  clear i1 i2 i3 hsl hil hrl hu hp hre few hw hrn hin hr h4 hx1 hx2 hx3 HRE
  generalize q.cells (told11 x) = CT at *
  generalize q.cells x1 = CX1 at *
  generalize q.cells x2 = CX2 at *
  generalize q.cells x3 = CX3 at *
  generalize q.cells x = CX at *
  generalize q.t.cells x.tx = TC at *
  generalize q.t.q.cells x.tx.m = MC at *
  generalize xPri x.tx x.roles = vr at *
  generalize xCost x.tx x.roles = vc at *
  generalize xFee x.tx = vf at *
  generalize xBad x.tx = vb at *
  generalize xP x.tx = vp at *
  generalize xU x.tx = vu at *
  obtain ⟨BA, bn, bc, ⟨SA, sn, sc, mq⟩, RA, rn, rc⟩ := q
  dsimp only at *
  rw [← HSN.out] at HFE HPR SN
  clear HSN
  have hb0 : Below g w w := Below.refl _ _
  go_enter Tryz.func43, Tryz.ntmps43
  go_wp2_with fail
  have HS := Lib.hid (Low11.row (K := 48) R0.out.drew)
  refine wp_region_held_drew (S := Low11 g 48 CX) (by kernel_rfl) HS.out (fun _ => ?_)
  refine takeL (i := 0) (v := ?_) rfl (by kernel_rfl) (by kernel_rfl) (by kernel_rfl) (fun _ _ _ h => h) (Or.inl ⟨by rfl, ?_⟩) HS.out ?_
  rotate_left
  · intro wz hwz
    go_simp
    try with_reducible rfl
  try simp only [Act.put, List.setIfInBounds_toArray, List.set_cons_zero, List.set_cons_succ]
  refine takeL (i := 1) (v := ?_) rfl (by kernel_rfl) (by kernel_rfl) (by kernel_rfl) (fun _ _ _ h => h) (Or.inl ⟨by rfl, ?_⟩) HS.out ?_
  rotate_left
  · intro wz hwz
    go_simp
    try with_reducible rfl
  try simp only [Act.put, List.setIfInBounds_toArray, List.set_cons_zero, List.set_cons_succ]
  refine takeL (i := 2) (v := ?_) rfl (by kernel_rfl) (by kernel_rfl) (by kernel_rfl) (fun _ _ _ h => h) (Or.inl ⟨by rfl, ?_⟩) HS.out ?_
  rotate_left
  · intro wz hwz
    go_simp
    try with_reducible rfl
  try simp only [Act.put, List.setIfInBounds_toArray, List.set_cons_zero, List.set_cons_succ]
  refine takeL (i := 3) (v := ?_) rfl (by kernel_rfl) (by kernel_rfl) (by kernel_rfl) (fun _ _ _ h => h) (Or.inl ⟨by rfl, ?_⟩) HS.out ?_
  rotate_left
  · intro wz hwz
    go_simp
    try with_reducible rfl
  try simp only [Act.put, List.setIfInBounds_toArray, List.set_cons_zero, List.set_cons_succ]
  refine takeL (i := 4) (v := ?_) rfl (by kernel_rfl) (by kernel_rfl) (by kernel_rfl) (fun _ _ _ h => h) (Or.inl ⟨by rfl, ?_⟩) HS.out ?_
  rotate_left
  · intro wz hwz
    have q1 : wz.cell? ⟨g, 1, none⟩ = some (.slice SA sn sc) := hwz 1 _ (by omega) (C1.out)
    go_simp
    try with_reducible rfl
  try simp only [Act.put, List.setIfInBounds_toArray, List.set_cons_zero, List.set_cons_succ]
  refine takeL (i := 5) (v := ?_) rfl (by kernel_rfl) (by kernel_rfl) (by kernel_rfl) (fun _ _ _ h => h) (Or.inl ⟨by rfl, ?_⟩) HS.out ?_
  rotate_left
  · intro wz hwz
    go_simp
    try with_reducible rfl
  try simp only [Act.put, List.setIfInBounds_toArray, List.set_cons_zero, List.set_cons_succ]
  refine takeL (i := 6) (v := ?_) rfl (by kernel_rfl) (by kernel_rfl) (by kernel_rfl) (fun _ _ _ h => h) (Or.inl ⟨by rfl, ?_⟩) HS.out ?_
  rotate_left
  · intro wz hwz
    go_simp
    try with_reducible rfl
  try simp only [Act.put, List.setIfInBounds_toArray, List.set_cons_zero, List.set_cons_succ]
  refine takeL (i := 7) (v := ?_) rfl (by kernel_rfl) (by kernel_rfl) (by kernel_rfl) (fun _ _ _ h => h) (Or.inl ⟨by rfl, ?_⟩) HS.out ?_
  rotate_left
  · intro wz hwz
    go_simp
    try with_reducible rfl
  try simp only [Act.put, List.setIfInBounds_toArray, List.set_cons_zero, List.set_cons_succ]
  refine takeL (i := 8) (v := ?_) rfl (by kernel_rfl) (by kernel_rfl) (by kernel_rfl) (fun _ _ _ h => h) (Or.inl ⟨by rfl, ?_⟩) HS.out ?_
  rotate_left
  · intro wz hwz
    go_simp
    try with_reducible rfl
  try simp only [Act.put, List.setIfInBounds_toArray, List.set_cons_zero, List.set_cons_succ]
  refine takeL (i := 9) (v := ?_) rfl (by kernel_rfl) (by kernel_rfl) (by kernel_rfl) (fun _ _ _ h => h) (Or.inl ⟨by rfl, ?_⟩) HS.out ?_
  rotate_left
  · intro wz hwz
    have q41 : wz.cell? ⟨g, 41, none⟩ = some (.slice RA rn rc) := hwz 41 _ (by omega) (C41.out)
    go_simp
    try with_reducible rfl
  try simp only [Act.put, List.setIfInBounds_toArray, List.set_cons_zero, List.set_cons_succ]
  refine readyL (i := 10) rfl (by kernel_rfl) (by kernel_rfl) fun K hK => ?_
  go_simp
  have N0 := (But11.refl g w).drew
  refine (HW.out _ N0).mono ?_
  rintro e w1 ⟨hb, A1, c1, rfl, _⟩
  have N1 := Lib.hid (N0.below hb (Nat.le_refl _))
  have R1 := Lib.hid (R0.out.drew.below hb R0.out.drew.lt)
  have B1 := Lib.hid (show Below g w w1 from ⟨hb.os, hb.tape, hb.output, hb.size, fun k hk => hb.block k (Nat.lt_trans hk HGL.out)⟩)
  have HS1 := Lib.hid (Low11.row (K := 48) R1.out)
  clear hb N0 hb0
  refine hK.out _ _ HS1.out ?_
  clear hK K
  try simp only [Act.put, List.setIfInBounds_toArray, List.set_cons_zero, List.set_cons_succ]
  refine takeL (i := 11) (v := ?_) rfl (by kernel_rfl) (by kernel_rfl) (by kernel_rfl) (fun _ _ _ h => h) (Or.inl ⟨by rfl, ?_⟩) HS1.out ?_
  rotate_left
  · intro wz hwz
    go_simp
    try with_reducible rfl
  try simp only [Act.put, List.setIfInBounds_toArray, List.set_cons_zero, List.set_cons_succ]
  refine takeL (i := 12) (v := ?_) rfl (by kernel_rfl) (by kernel_rfl) (by kernel_rfl) (fun _ _ _ h => h) (Or.inl ⟨by rfl, ?_⟩) HS1.out ?_
  rotate_left
  · intro wz hwz
    go_simp
    try with_reducible rfl
  try simp only [Act.put, List.setIfInBounds_toArray, List.set_cons_zero, List.set_cons_succ]
  refine takeL (i := 13) (v := ?_) rfl (by kernel_rfl) (by kernel_rfl) (by kernel_rfl) (fun _ _ _ h => h) (Or.inl ⟨by rfl, ?_⟩) HS1.out ?_
  rotate_left
  · intro wz hwz
    go_simp
    try with_reducible rfl
  try simp only [Act.put, List.setIfInBounds_toArray, List.set_cons_zero, List.set_cons_succ]
  refine wpAnyH_done (by kernel_rfl) ?_ _
  go_wp2_with ((with_reducible show wpList _ _ _ ({ dst := some 21, op := Op.load _ _, type := _, pos := _, after := _, guard := _ } :: _) _ _); go_must (refine wpList_load_at rfl 40 (.tmp 20) rfl ⟨g, 2, none⟩ MC _ Tryz.underlying40 rfl HMS.out (fun j u hu => by rw [addr_row]; exact (R1.out.cell (2 + j)).trans (HM.out j u hu)) ?_ ?_; go_simp))
  refine (HBU.out _ N1.out).mono ?_
  rintro e w2 ⟨rfl, hb⟩
  have N2 := Lib.hid (N1.out.below hb N1.out.size)
  have R2 := Lib.hid (R1.out.below hb R1.out.lt)
  have B2 := Lib.hid (B1.out.trans (hb.mono (Nat.le_of_lt R1.out.lt)))
  clear hb N1 B1 HS1 R1
  go_upto_region 2 with ((with_reducible show wpList _ _ _ ({ dst := none, op := Op.store 46 _ _, type := _, pos := _, after := _, guard := _ } :: _) _ _); go_must (refine wpList_store_part rfl 46 (.tmp 24) (.tmp 22) rfl g 48 42 CX _ R2.out HBS.out (by rw [HL.out]; simp) HB1.out ?_ ?_ ?_; go_simp; go_simp; intro w3 hr3 ht3))
  rw [Y1.out] at hr3
  have N3 := Lib.hid (N2.out.turned ht3)
  have R3 := Lib.hid hr3
  have B3 := Lib.hid (B2.out.trans (ht3.below (Nat.le_refl _)))
  clear hr3 ht3 N2 R2 B2
  obtain ⟨v45, hv45⟩ := F1.out
  go_wp2_with ((with_reducible show wpList _ _ _ ({ dst := some 30, op := Op.load _ _, type := _, pos := _, after := _, guard := _ } :: _) _ _); go_must (refine wpList_load_at rfl 46 (.tmp 29) rfl ⟨g, 42, none⟩ [.int .u64 vu, .int .u64 vp, .int .i64 vb] _ Tryz.underlying46 rfl HBS.out (fun j u hu => by rw [addr_row]; exact (R3.out.cell (42 + j)).trans (G1.out j u (by have := (List.getElem?_eq_some_iff.1 hu).1; simpa using this) hu).1) ?_ ?_; go_simp))
  refine (HFE.out _).mono ?_
  rintro e w4 ⟨rfl, hb⟩
  have N4 := Lib.hid (N3.out.below hb N3.out.size)
  have R4 := Lib.hid (R3.out.below hb R3.out.lt)
  have B4 := Lib.hid (B3.out.trans (hb.mono (Nat.le_of_lt R3.out.lt)))
  clear hb N3 R3 B3
  have c45 : w4.cell? ⟨g, 45, none⟩ = some v45 := (R4.out.cell 45).trans hv45
  have f45 : w4.frozen? ⟨g, 45, none⟩ = false := R4.out.frozen 45
  go_upto_region 3 with fail
  have r5 := R4.out.set_ 45 (.int .u64 vf)
  rw [Y2.out] at r5
  have ht5 := turned_setCell w4 ⟨g, 45, none⟩ (.int .u64 vf)
  generalize w4.setCell ⟨g, 45, none⟩ (.int .u64 vf) = w5 at *
  have N5 := Lib.hid (N4.out.turned ht5)
  have R5 := Lib.hid r5
  have B5 := Lib.hid (B4.out.trans (ht5.below (Nat.le_refl _)))
  clear r5 ht5 N4 R4 B4 c45 f45 hv45
  have HS := Lib.hid (Low11.row (K := 46) R5.out.drew)
  have C42 := G2
  refine wp_region_held_drew (S := Low11 g 46 CX2) (by kernel_rfl) HS.out (fun _ => ?_)
  refine takeL (i := 0) (v := ?_) rfl (by kernel_rfl) (by kernel_rfl) (by kernel_rfl) (fun _ _ _ h => h) (Or.inl ⟨by rfl, ?_⟩) HS.out ?_
  rotate_left
  · intro wz hwz
    go_simp
    try with_reducible rfl
  try simp only [Act.put, List.setIfInBounds_toArray, List.set_cons_zero, List.set_cons_succ]
  refine takeL (i := 1) (v := ?_) rfl (by kernel_rfl) (by kernel_rfl) (by kernel_rfl) (fun _ _ _ h => h) (Or.inl ⟨by rfl, ?_⟩) HS.out ?_
  rotate_left
  · intro wz hwz
    go_simp
    try with_reducible rfl
  try simp only [Act.put, List.setIfInBounds_toArray, List.set_cons_zero, List.set_cons_succ]
  refine takeL (i := 2) (v := ?_) rfl (by kernel_rfl) (by kernel_rfl) (by kernel_rfl) (fun _ _ _ h => h) (Or.inl ⟨by rfl, ?_⟩) HS.out ?_
  rotate_left
  · intro wz hwz
    go_simp
    try with_reducible rfl
  try simp only [Act.put, List.setIfInBounds_toArray, List.set_cons_zero, List.set_cons_succ]
  refine takeL (i := 3) (v := ?_) rfl (by kernel_rfl) (by kernel_rfl) (by kernel_rfl) (fun _ _ _ h => h) (Or.inl ⟨by rfl, ?_⟩) HS.out ?_
  rotate_left
  · intro wz hwz
    go_simp
    try with_reducible rfl
  try simp only [Act.put, List.setIfInBounds_toArray, List.set_cons_zero, List.set_cons_succ]
  refine takeL (i := 4) (v := .agg TC.toArray) rfl (by kernel_rfl) (by kernel_rfl) (by kernel_rfl) (fun _ _ _ h => h) (Or.inl ⟨by rfl, fun wz hwz => exec_load_at wz 42 (.tmp 37) rfl ⟨g, 1, none⟩ TC _ Tryz.underlying42 rfl HTS.out (fun j u hu => by rw [addr_row]; exact hwz (1 + j) u (by have := (List.getElem?_eq_some_iff.1 hu).1; have := HTL.out; omega) (HT2.out j u hu)) (by go_simp)⟩) HS.out ?_
  try simp only [Act.put, List.setIfInBounds_toArray, List.set_cons_zero, List.set_cons_succ]
  refine takeL (i := 5) (v := ?_) rfl (by kernel_rfl) (by kernel_rfl) (by kernel_rfl) (fun _ _ _ h => h) (Or.inl ⟨by rfl, ?_⟩) HS.out ?_
  rotate_left
  · intro wz hwz
    go_simp
    try with_reducible rfl
  try simp only [Act.put, List.setIfInBounds_toArray, List.set_cons_zero, List.set_cons_succ]
  refine takeL (i := 6) (v := ?_) rfl (by kernel_rfl) (by kernel_rfl) (by kernel_rfl) (fun _ _ _ h => h) (Or.inl ⟨by rfl, ?_⟩) HS.out ?_
  rotate_left
  · intro wz hwz
    go_simp
    try with_reducible rfl
  try simp only [Act.put, List.setIfInBounds_toArray, List.set_cons_zero, List.set_cons_succ]
  refine takeL (i := 7) (v := ?_) rfl (by kernel_rfl) (by kernel_rfl) (by kernel_rfl) (fun _ _ _ h => h) (Or.inl ⟨by rfl, ?_⟩) HS.out ?_
  rotate_left
  · intro wz hwz
    go_simp
    try with_reducible rfl
  try simp only [Act.put, List.setIfInBounds_toArray, List.set_cons_zero, List.set_cons_succ]
  refine takeL (i := 8) (v := ?_) rfl (by kernel_rfl) (by kernel_rfl) (by kernel_rfl) (fun _ _ _ h => h) (Or.inl ⟨by rfl, ?_⟩) HS.out ?_
  rotate_left
  · intro wz hwz
    go_simp
    try with_reducible rfl
  try simp only [Act.put, List.setIfInBounds_toArray, List.set_cons_zero, List.set_cons_succ]
  refine takeL (i := 9) (v := ?_) rfl (by kernel_rfl) (by kernel_rfl) (by kernel_rfl) (fun _ _ _ h => h) (Or.inl ⟨by rfl, ?_⟩) HS.out ?_
  rotate_left
  · intro wz hwz
    go_simp
    try with_reducible rfl
  try simp only [Act.put, List.setIfInBounds_toArray, List.set_cons_zero, List.set_cons_succ]
  refine takeL (i := 10) (v := ?_) rfl (by kernel_rfl) (by kernel_rfl) (by kernel_rfl) (fun _ _ _ h => h) (Or.inl ⟨by rfl, ?_⟩) HS.out ?_
  rotate_left
  · intro wz hwz
    have q42 : wz.cell? ⟨g, 42, none⟩ = some (.int .u64 vu) := hwz 42 _ (by omega) (C42.out)
    go_simp
    try with_reducible rfl
  try simp only [Act.put, List.setIfInBounds_toArray, List.set_cons_zero, List.set_cons_succ]
  refine readyL (i := 11) rfl (by kernel_rfl) (by kernel_rfl) fun K hK => ?_
  go_simp
  refine (HCO.out _ N5.out.drew).mono ?_
  rintro e w6 ⟨rfl, hb⟩
  have N6 := Lib.hid (N5.out.drew.below hb N5.out.size)
  have R6 := Lib.hid (R5.out.drew.below hb R5.out.drew.lt)
  have B6 := Lib.hid (show Below g w w6 from B5.out.drew.trans (hb.mono (Nat.le_of_lt R5.out.lt)))
  have HS6 := Lib.hid (Low11.row (K := 46) R6.out)
  clear hb N5 R5 B5 HS
  obtain ⟨v46, hv46⟩ := F2.out
  refine hK.out _ _ HS6.out ?_
  clear hK K
  try simp only [Act.put, List.setIfInBounds_toArray, List.set_cons_zero, List.set_cons_succ]
  refine takeL (i := 12) (v := ?_) rfl (by kernel_rfl) (by kernel_rfl) (by kernel_rfl) (fun _ _ _ h => h) (Or.inl ⟨by rfl, ?_⟩) HS6.out ?_
  rotate_left
  · intro wz hwz
    go_simp
    try with_reducible rfl
  try simp only [Act.put, List.setIfInBounds_toArray, List.set_cons_zero, List.set_cons_succ]
  refine takeL (i := 13) (v := ?_) rfl (by kernel_rfl) (by kernel_rfl) (by kernel_rfl) (fun _ _ _ h => h) (Or.inl ⟨by rfl, ?_⟩) HS6.out ?_
  rotate_left
  · intro wz hwz
    go_simp
    try with_reducible rfl
  try simp only [Act.put, List.setIfInBounds_toArray, List.set_cons_zero, List.set_cons_succ]
  refine readyL (i := 14) rfl (by kernel_rfl) (by kernel_rfl) fun K hK => ?_
  have c46 : w6.cell? ⟨g, 46, none⟩ = some v46 := (R6.out.cell 46).trans hv46
  have f46 : w6.frozen? ⟨g, 46, none⟩ = false := R6.out.frozen 46
  go_simp
  have r7 := R6.out.set_ 46 (.int .u64 vc)
  rw [Y3.out] at r7
  have ht7 := turned_setCell w6 ⟨g, 46, none⟩ (.int .u64 vc)
  have HS7 : Low11 g 46 CX2 (w6.setCell ⟨g, 46, none⟩ (.int .u64 vc)) := fun j v hj hv => by
    have := R6.out.set_ 46 (.int .u64 vc)
    rw [this.cell, List.getElem?_set_ne (by omega)]
    exact hv
  refine hK.out _ _ HS7 ?_
  clear hK K HS7
  try simp only [Act.put, List.setIfInBounds_toArray, List.set_cons_zero, List.set_cons_succ]
  generalize w6.setCell ⟨g, 46, none⟩ (.int .u64 vc) = w7 at *
  have N7 := Lib.hid (N6.out.turned ht7)
  have R7 := Lib.hid r7
  have B7 := Lib.hid (B6.out.trans (ht7.below (Nat.le_refl _)))
  clear r7 ht7 N6 R6 B6 HS6 c46 f46 hv46
  refine wpAnyH_done (by kernel_rfl) ?_ _
  go_wp2_with fail
  have HS := Lib.hid (Low11.row (K := 47) R7.out.drew)
  have C46 := G3
  refine wp_region_held_drew (S := Low11 g 47 CX3) (by kernel_rfl) HS.out (fun _ => ?_)
  refine takeL (i := 0) (v := ?_) rfl (by kernel_rfl) (by kernel_rfl) (by kernel_rfl) (fun _ _ _ h => h) (Or.inl ⟨by rfl, ?_⟩) HS.out ?_
  rotate_left
  · intro wz hwz
    go_simp
    try with_reducible rfl
  try simp only [Act.put, List.setIfInBounds_toArray, List.set_cons_zero, List.set_cons_succ]
  refine takeL (i := 1) (v := ?_) rfl (by kernel_rfl) (by kernel_rfl) (by kernel_rfl) (fun _ _ _ h => h) (Or.inl ⟨by rfl, ?_⟩) HS.out ?_
  rotate_left
  · intro wz hwz
    go_simp
    try with_reducible rfl
  try simp only [Act.put, List.setIfInBounds_toArray, List.set_cons_zero, List.set_cons_succ]
  refine takeL (i := 2) (v := ?_) rfl (by kernel_rfl) (by kernel_rfl) (by kernel_rfl) (fun _ _ _ h => h) (Or.inl ⟨by rfl, ?_⟩) HS.out ?_
  rotate_left
  · intro wz hwz
    go_simp
    try with_reducible rfl
  try simp only [Act.put, List.setIfInBounds_toArray, List.set_cons_zero, List.set_cons_succ]
  refine takeL (i := 3) (v := ?_) rfl (by kernel_rfl) (by kernel_rfl) (by kernel_rfl) (fun _ _ _ h => h) (Or.inl ⟨by rfl, ?_⟩) HS.out ?_
  rotate_left
  · intro wz hwz
    go_simp
    try with_reducible rfl
  try simp only [Act.put, List.setIfInBounds_toArray, List.set_cons_zero, List.set_cons_succ]
  refine takeL (i := 4) (v := ?_) rfl (by kernel_rfl) (by kernel_rfl) (by kernel_rfl) (fun _ _ _ h => h) (Or.inl ⟨by rfl, ?_⟩) HS.out ?_
  rotate_left
  · intro wz hwz
    go_simp
    try with_reducible rfl
  try simp only [Act.put, List.setIfInBounds_toArray, List.set_cons_zero, List.set_cons_succ]
  refine takeL (i := 5) (v := .agg ([.int .u64 vu, .int .u64 vp, .int .i64 vb] : List Value).toArray) rfl (by kernel_rfl) (by kernel_rfl) (by kernel_rfl) (fun _ _ _ h => h) (Or.inl ⟨by rfl, fun wz hwz => exec_load_at wz 46 (.tmp 52) rfl ⟨g, 42, none⟩ [.int .u64 vu, .int .u64 vp, .int .i64 vb] _ Tryz.underlying46 rfl HBS.out (fun j u hu => by have hj : j < 3 := (by have := (List.getElem?_eq_some_iff.1 hu).1; simpa using this); rw [addr_row]; exact hwz (42 + j) u (by omega) (G1.out j u hj hu).2) (by go_simp)⟩) HS.out ?_
  try simp only [Act.put, List.setIfInBounds_toArray, List.set_cons_zero, List.set_cons_succ]
  refine takeL (i := 6) (v := ?_) rfl (by kernel_rfl) (by kernel_rfl) (by kernel_rfl) (fun _ _ _ h => h) (Or.inl ⟨by rfl, ?_⟩) HS.out ?_
  rotate_left
  · intro wz hwz
    go_simp
    try with_reducible rfl
  try simp only [Act.put, List.setIfInBounds_toArray, List.set_cons_zero, List.set_cons_succ]
  refine takeL (i := 7) (v := ?_) rfl (by kernel_rfl) (by kernel_rfl) (by kernel_rfl) (fun _ _ _ h => h) (Or.inl ⟨by rfl, ?_⟩) HS.out ?_
  rotate_left
  · intro wz hwz
    go_simp
    try with_reducible rfl
  try simp only [Act.put, List.setIfInBounds_toArray, List.set_cons_zero, List.set_cons_succ]
  refine takeL (i := 8) (v := ?_) rfl (by kernel_rfl) (by kernel_rfl) (by kernel_rfl) (fun _ _ _ h => h) (Or.inl ⟨by rfl, ?_⟩) HS.out ?_
  rotate_left
  · intro wz hwz
    go_simp
    try with_reducible rfl
  try simp only [Act.put, List.setIfInBounds_toArray, List.set_cons_zero, List.set_cons_succ]
  refine takeL (i := 9) (v := ?_) rfl (by kernel_rfl) (by kernel_rfl) (by kernel_rfl) (fun _ _ _ h => h) (Or.inl ⟨by rfl, ?_⟩) HS.out ?_
  rotate_left
  · intro wz hwz
    have q46 : wz.cell? ⟨g, 46, none⟩ = some (.int .u64 vc) := hwz 46 _ (by omega) (C46.out)
    go_simp
    try with_reducible rfl
  try simp only [Act.put, List.setIfInBounds_toArray, List.set_cons_zero, List.set_cons_succ]
  refine readyL (i := 10) rfl (by kernel_rfl) (by kernel_rfl) fun K hK => ?_
  go_simp
  refine (HPR.out _).mono ?_
  rintro e w8 ⟨rfl, hb⟩
  have N8 := Lib.hid (N7.out.drew.below hb N7.out.size)
  have R8 := Lib.hid (R7.out.drew.below hb R7.out.drew.lt)
  have B8 := Lib.hid (show Below g w w8 from B7.out.drew.trans (hb.mono (Nat.le_of_lt R7.out.lt)))
  have HS8 := Lib.hid (Low11.row (K := 47) R8.out)
  clear hb N7 R7 B7 HS
  obtain ⟨v47, hv47⟩ := F3.out
  refine hK.out _ _ HS8.out ?_
  clear hK K
  try simp only [Act.put, List.setIfInBounds_toArray, List.set_cons_zero, List.set_cons_succ]
  refine takeL (i := 11) (v := ?_) rfl (by kernel_rfl) (by kernel_rfl) (by kernel_rfl) (fun _ _ _ h => h) (Or.inl ⟨by rfl, ?_⟩) HS8.out ?_
  rotate_left
  · intro wz hwz
    go_simp
    try with_reducible rfl
  try simp only [Act.put, List.setIfInBounds_toArray, List.set_cons_zero, List.set_cons_succ]
  refine takeL (i := 12) (v := ?_) rfl (by kernel_rfl) (by kernel_rfl) (by kernel_rfl) (fun _ _ _ h => h) (Or.inl ⟨by rfl, ?_⟩) HS8.out ?_
  rotate_left
  · intro wz hwz
    go_simp
    try with_reducible rfl
  try simp only [Act.put, List.setIfInBounds_toArray, List.set_cons_zero, List.set_cons_succ]
  refine readyL (i := 13) rfl (by kernel_rfl) (by kernel_rfl) fun K hK => ?_
  have c47 : w8.cell? ⟨g, 47, none⟩ = some v47 := (R8.out.cell 47).trans hv47
  have f47 : w8.frozen? ⟨g, 47, none⟩ = false := R8.out.frozen 47
  go_simp
  have r9 := R8.out.set_ 47 (.int .u64 vr)
  rw [Y4.out] at r9
  have ht9 := turned_setCell w8 ⟨g, 47, none⟩ (.int .u64 vr)
  have HS9 : Low11 g 47 CX3 (w8.setCell ⟨g, 47, none⟩ (.int .u64 vr)) := fun j v hj hv => by
    have := R8.out.set_ 47 (.int .u64 vr)
    rw [this.cell, List.getElem?_set_ne (by omega)]
    exact hv
  refine hK.out _ _ HS9 ?_
  clear hK K HS9
  try simp only [Act.put, List.setIfInBounds_toArray, List.set_cons_zero, List.set_cons_succ]
  generalize w8.setCell ⟨g, 47, none⟩ (.int .u64 vr) = w9 at *
  refine wpAnyH_done (by kernel_rfl) ?_ _
  go_wp2_with fail
  refine bodyPost_end (results_none rfl _ _ _) rfl ?_
  exact ⟨rfl, r9, N8.out.turned ht9, B8.out.trans (ht9.below (Nat.le_refl _))⟩
end Go.Proofs.YtdgbodljmdcagaaGreatDoor

/-
  Of part RolePg11: what is needed here.
-/
namespace Go.Proofs.YtdgbodljmdcagaaGreatDoor
open Go.RowKit
set_option linter.unusedVariables false
set_option maxRecDepth 100000
structure ROut (w : World) (lo hi : Nat) (A : Option Addr) (n : Nat) (l : List LRole) (S : Sl) : Prop where
  val : Value.slice A n n = S.val
  sz : S.n = n ∧ S.c = n
  fit : SlFit w (S, Kd.r)
  is : RolesIn w hi A n l
  most : n ≤ maxLen
  low : ∀ g, S.A = some g → lo ≤ g ∧ g < hi
theorem roles_out {w : World} {base n c : Nat} {A : Option Addr} {l : List LRole} (h : w.ownsRow base 101 34 (.slice A n c) n (cellsR l)) (hl : l.length = n) (hok : ∀ r ∈ l, RoleOk r) : ∃ S, ROut w base w.heap.size A n l S := by
  obtain ⟨A', c', hv, hs, hc, hm, hlt⟩ := own_form2 h
  injection hv with e1 _ e3
  subst e1 e3
  have hin : RolesIn w w.heap.size A n l := ⟨⟨by rw [List.length_map]; exact hl, fun k hk => by
    obtain ⟨r, hr, rfl⟩ := List.mem_map.1 hk
    exact role_len (hok r hr).1, hs⟩, hok⟩
  rcases h.2 with ⟨h1, h2⟩ | ⟨g, cap, cur, h1, hg, hh, h2, h3, h4, h5⟩
  · injection h1 with e1 e2 e3
    subst e1 e2 e3
    exact ⟨⟨none, 0, 0⟩, rfl, ⟨rfl, rfl⟩, ⟨rfl, rfl⟩, hin, by unfold maxLen; omega, fun g e => by cases e⟩
  · injection h1 with e1 e2 e3
    subst e1 e3
    refine ⟨⟨some g, n, n⟩, rfl, ⟨rfl, rfl⟩, ⟨Nat.le_refl _, ?_, cur.toList, ⟨show w.heap[g]? = some (.cells cur.toList.toArray 101) by simpa using hh⟩, ?_, fun h => absurd h (by show ¬ (34 : Nat) < 34; omega)⟩, hin, by omega, fun g' e => ?_⟩
    · show n ≤ _
      unfold maxLen at hm
      omega
    · show n * 34 ≤ _
      have : cur.toList.length = c * 34 := by simpa using h4
      rw [this]
      exact Nat.mul_le_mul_right _ hc
    · cases e
      exact ⟨hg, (Array.getElem?_eq_some_iff.1 hh).1⟩
theorem ROut.below {w w' : World} {lo hi n : Nat} {A : Option Addr} {l : List LRole} {S : Sl} (h : ROut w lo hi A n l S) (hb : Below hi w w') : ROut w' lo hi A n l S :=
  ⟨h.val, h.sz, h.fit.keep fun g hg => hb.block g (h.low g hg).2, h.is.below hb, h.most, h.low⟩
theorem ROut.more {w : World} {lo lo' hi hi' n : Nat} {A : Option Addr} {l : List LRole} {S : Sl} (h : ROut w lo hi A n l S) (h1 : lo' ≤ lo) (h2 : hi ≤ hi') : ROut w lo' hi' A n l S :=
  ⟨h.val, h.sz, h.fit, h.is.more h2, h.most, fun g hg => ⟨Nat.le_trans h1 (h.low g hg).1, Nat.lt_of_lt_of_le (h.low g hg).2 h2⟩⟩
end Go.Proofs.YtdgbodljmdcagaaGreatDoor

/-
  Of part ReadyPg11: what is needed here.
-/
namespace Go.Proofs.YtdgbodljmdcagaaGreatDoor
open Go.RowKit
set_option linter.unusedVariables false
set_option maxRecDepth 100000
theorem blocks_y (Bs Rs S K : Sl) (iv : Nat → Sl × Sl) (n : Nat) (lv : Nat → Sl × Sl) (m : Nat) :
    blocks (yPages Bs Rs S K iv n lv m) = blocks [(Bs, Kd.b)] ++ (blocks (txPages S K iv n lv m) ++ blocks [(Rs, Kd.r)]) := by
  unfold yPages
  rw [blocks_app, blocks_app]
theorem blocks_one_pair (y : Sl × Kd) : (blocks [y]).Pairwise (· ≠ ·) := by
  unfold blocks
  cases h : y.1.A <;> simp [h]
/-- its pages, out of its parts': no two of them lie in one block -/
theorem YPages.of {w : World} {lo hi lo' hi' : Nat} {q : YRaw} {x : LReady} {Bs Rs S K I L : Sl} {iv lv : Nat → Sl × Sl}
    (hb : Value.slice q.BA q.bn q.bc = Bs.val) (hr : Value.slice q.RA q.rn q.rc = Rs.val) (ht : TxPages w lo' hi' q.t x.tx S K I L iv lv) (h1 : lo ≤ lo') (h2 : hi' ≤ hi)
    (fb : SlFit w (Bs, Kd.b)) (fr : SlFit w (Rs, Kd.r))
    (gb : ∀ g, Bs.A = some g → lo ≤ g ∧ g < hi ∧ (g < lo' ∨ hi' ≤ g)) (gr : ∀ g, Rs.A = some g → lo ≤ g ∧ g < hi ∧ (g < lo' ∨ hi' ≤ g)) (ne : ∀ g, Bs.A = some g → Rs.A ≠ some g) :
    YPages w lo hi q x Bs Rs S K I L iv lv := by
  refine ⟨hb, hr, ⟨lo', hi', h1, h2, ht⟩, fb, fr, ?_, fun g hg => ?_⟩
  · rw [blocks_y, List.pairwise_append, List.pairwise_append]
    refine ⟨blocks_one_pair _, ⟨ht.rise.imp fun h => Nat.ne_of_lt h, blocks_one_pair _, fun a ha b hb' e => ?_⟩, fun a ha b hb' e => ?_⟩
    · subst e
      have := blocks_one _ a hb'
      have := (gr a this).2.2
      have := ht.low a ha
      omega
    · subst e
      have h3 := blocks_one _ a ha
      rcases List.mem_append.1 hb' with h4 | h4
      · have := (gb a h3).2.2
        have := ht.low a h4
        omega
      · exact ne a h3 (blocks_one _ a h4)
  · rw [blocks_y] at hg
    rcases List.mem_append.1 hg with h | h
    · have := gb g (blocks_one _ g h); omega
    rcases List.mem_append.1 h with h | h
    · have := ht.low g h; omega
    · have := gr g (blocks_one _ g h); omega
theorem YPages.below {w w' : World} {lo hi : Nat} {q : YRaw} {x : LReady} {Bs Rs S K I L : Sl} {iv lv : Nat → Sl × Sl} (h : YPages w lo hi q x Bs Rs S K I L iv lv) (hb : Below hi w w') : YPages w' lo hi q x Bs Rs S K I L iv lv := by
  have hlow := h.low
  rw [blocks_y] at hlow
  obtain ⟨lo', hi', h1, h2, h3⟩ := h.t
  refine ⟨h.b, h.r, ⟨lo', hi', h1, h2, h3.below (hb.mono h2)⟩, h.fb.keep fun g hg => hb.block g (hlow g ?_).2, h.fr.keep fun g hg => hb.block g (hlow g ?_).2, h.ne, h.low⟩
  · refine List.mem_append_left _ ?_
    unfold blocks
    have hg : Bs.A = some g := hg
    simp [hg]
  · refine List.mem_append_right _ (List.mem_append_right _ ?_)
    unfold blocks
    have hg : Rs.A = some g := hg
    simp [hg]
/-- what is answered: its lists, its pages -/
structure RdV (w : World) (lo hi : Nat) (q : YRaw) (x : LReady) : Prop where
  le : lo ≤ hi
  is : ReadyIn w hi q x
  few : x.tx.m.ins.length ≤ 65535 ∧ x.tx.m.looks.length ≤ 65535
  pg : ∃ Bs Rs S K I L iv lv, YPages w lo hi q x Bs Rs S K I L iv lv
theorem RdV.below {w w' : World} {lo hi : Nat} {q : YRaw} {x : LReady} (h : RdV w lo hi q x) (hb : Below hi w w') : RdV w' lo hi q x := by
  obtain ⟨Bs, Rs, S, K, I, L, iv, lv, hp⟩ := h.pg
  exact ⟨h.le, h.is.below hb, h.few, ⟨Bs, Rs, S, K, I, L, iv, lv, hp.below hb⟩⟩
/-- nothing is told -/
theorem RdV.zero (w : World) (lo hi : Nat) (h : lo ≤ hi) : RdV w lo hi zYRaw zReady := by
  obtain ⟨s, hs⟩ : ∃ s, s = zRaw := ⟨_, rfl⟩
  refine ⟨h, zReady_in w hi, by decide, ⟨none, 0, 0⟩, ⟨none, 0, 0⟩, ⟨none, 0, 0⟩, ⟨none, 0, 0⟩, ⟨none, 0, 0⟩, ⟨none, 0, 0⟩, fun _ => (⟨none, 0, 0⟩, ⟨none, 0, 0⟩), fun _ => (⟨none, 0, 0⟩, ⟨none, 0, 0⟩), ?_⟩
  exact YPages.of (lo' := hi) (hi' := hi) rfl rfl (zPages w hi hi) h (Nat.le_refl _) ⟨rfl, rfl⟩ ⟨rfl, rfl⟩ (fun g e => by cases e) (fun g e => by cases e) (fun g e => by cases e)
def RdDone (w : World) (ts : List LTab) (zs : List Int) (e : Ending) (w' : World) : Prop :=
  ∃ q, e = .returned (.tuple #[.agg (YRaw.cells q (rdX ts zs)).toArray, .int .i64 (rdErr ts zs)]) ∧ RdV w' w.heap.size w'.heap.size q (rdX ts zs) ∧ Below w.heap.size w w'
/-- where it is no more than told -/
theorem RdDone.no {w w' : World} {ts : List LTab} {zs : List Int} {c : Int} (hc : rdErr ts zs = c) (h0 : c ≠ 0) (hb : Below w.heap.size w w') : RdDone w ts zs (.returned (.tuple #[.agg (YRaw.cells zYRaw zReady).toArray, .int .i64 c])) w' := by
  have e : rdX ts zs = zReady := rdX_no (by rw [hc]; exact h0)
  exact ⟨zYRaw, by rw [hc, e], by rw [e]; exact RdV.zero _ _ _ hb.size, hb⟩
end Go.Proofs.YtdgbodljmdcagaaGreatDoor

/-
  Of part Of11: what is needed here.
-/
namespace Go.Proofs.YtdgbodljmdcagaaGreatDoor
open Go.RowKit
set_option linter.unusedVariables false
set_option maxRecDepth 100000
/-- what Of keeps: what it tells, its error, what is wrong -/
structure Three11 (g : Nat) (C : List Value) (v : Int) (V : World) : Prop where
  r0 : Row V g 48 C
  r1 : Row V (g + 1) 49 [.int .i64 0]
  r2 : Row V (g + 2) 49 [.int .i64 v]
section
variable {g : Nat} {C C' : List Value} {v v' : Int} {V V' : World}
theorem Three11.below {B : Nat} (h : Three11 g C v V) (hb : Below B V V') (hB : g + 2 < B) : Three11 g C v V' := ⟨h.r0.below hb (by omega), h.r1.below hb (by omega), h.r2.below hb hB⟩
theorem Three11.part (h : Three11 g C v V) (ht : Turned V V' g) (hr : Row V' g 48 C') : Three11 g C' v V' := ⟨hr, ht.row h.r1 (by omega), ht.row h.r2 (by omega)⟩
theorem Three11.wrong (h : Three11 g C v V) (v' : Int) : Three11 g C v' (V.setCell ⟨g + 1 + 1, 0, none⟩ (.int .i64 v')) :=
  ⟨h.r0.far (show g ≠ g + 1 + 1 by omega) _, h.r1.far (show g + 1 ≠ g + 1 + 1 by omega) _, h.r2.set_ 0 (.int .i64 v')⟩
theorem Three11.cell (h : Three11 g C v V) (i : Nat) (u : Value) : Three11 g (C.set i u) v (V.setCell ⟨g, i, none⟩ u) :=
  ⟨h.r0.set_ i u, h.r1.far (show g + 1 ≠ g by omega) _, h.r2.far (show g + 2 ≠ g by omega) _⟩
theorem Three11.lt (h : Three11 g C v V) : g + 2 < V.heap.size := h.r2.lt
end
theorem ycells_tx {q : YRaw} {x : LReady} {s : TRaw} {t : LTx} (h : x.tx.m.recent.length = 32) (h' : t.m.recent.length = 32) :
    (q.cells x).take 1 ++ s.cells t ++ (q.cells x).drop (1 + (s.cells t).length) = YRaw.cells { q with t := s } { x with tx := t } := by
  have h1 : (q.t.cells x.tx).length = 40 := tcells_len h
  have h2 : (s.cells t).length = 40 := tcells_len h'
  rw [h2]
  unfold YRaw.cells
  simp only [List.take_succ_cons, List.take_zero, List.cons_append, List.nil_append]
  rw [show 1 + 40 = 40 + 1 from rfl, List.drop_succ_cons, List.drop_left' h1]
  rfl
theorem ycells_r {q : YRaw} {x : LReady} (h : x.tx.m.recent.length = 32) (A : Option Addr) (n c : Nat) (l : List LRole) :
    (q.cells x).set 41 (.slice A n c) = YRaw.cells { q with RA := A, rn := n, rc := c } { x with roles := l } := by
  have h1 : (q.t.cells x.tx).length = 40 := tcells_len h
  unfold YRaw.cells
  rw [show 41 = 40 + 1 from rfl, List.set_cons_succ, List.set_append_right _ _ (by omega), h1]
  rfl
/-- what Of knows ahead of its last step: the lists of what it tells -/
structure Lists11 (g lo hi base : Nat) (s : TRaw) (x : LTx) (A : Option Addr) (c : Nat) (l : List LRole) (V : World) : Prop where
  tx : TxV V lo hi s x
  rs : V.ownsRow base 101 34 (.slice A l.length c) l.length (cellsR l)
  low : g + 2 < lo ∧ hi ≤ base ∧ hi ≤ V.heap.size
theorem Lists11.keep {g lo hi base c : Nat} {s : TRaw} {x : LTx} {A : Option Addr} {l : List LRole} {V V' : World} (h : Lists11 g lo hi base s x A c l V) (hz : V.heap.size ≤ V'.heap.size) (hk : ∀ k, g + 2 < k → k < V.heap.size → V'.heap[k]? = V.heap[k]?) : Lists11 g lo hi base s x A c l V' := by
  obtain ⟨l1, l2, l3⟩ := h.low
  refine ⟨h.tx.stay hz fun k a b => hk k (by omega) (by omega), own_keep h.rs fun k hk' => ?_, l1, l2, by omega⟩
  have := h.rs.lt k hk'
  obtain ⟨mid, e1, e2, _⟩ := h.tx.is
  exact hk k (by omega) (by omega)
/-- what is answered, out of its lists -/
theorem rdDone_of {w V : World} {ts : List LTab} {zs : List Int} {x : LTx} {s : TRaw} {lo hi base c gb n : Nat} {A : Option Addr} {l : List LRole} (h0 : rdErr ts zs = 0) (hx : rdX ts zs = xReady zs x l)
    (hL : Lists11 w.heap.size lo hi base s x A c l V) (hrow : Row V gb 5 (bv zs)) (hgb : ∀ k, (Value.slice A l.length c).ownBlock = some k → k < gb) (hg1 : hi ≤ gb) (hn : zs.length = n) (hm : n ≤ maxLen) (few : Few11 x) (hok : ∀ r ∈ l, RoleOk r) (hb : Below w.heap.size w V) :
    RdDone w ts zs (.returned (.tuple #[.agg (YRaw.cells ⟨some ⟨gb, 0, none⟩, n, n, s, A, l.length, l.length⟩ (xReady zs x l)).toArray, .int .i64 0])) V := by
  subst hn
  obtain ⟨l1, l2, l3⟩ := hL.low
  obtain ⟨S, hS⟩ := roles_out hL.rs rfl hok
  have hA : A = S.A.map fun g => ⟨g, 0, none⟩ := by
    have := hS.val
    unfold Sl.val at this
    injection this
  have hlt := hrow.lt
  obtain ⟨Sa, K, I, L, iv, lv, hp⟩ := hL.tx.pages
  refine ⟨⟨some ⟨gb, 0, none⟩, zs.length, zs.length, s, A, l.length, l.length⟩, by rw [hx, h0], ⟨hb.size, ?_, ?_, ⟨some gb, zs.length, zs.length⟩, S, Sa, K, I, L, iv, lv, ?_⟩, hb⟩
  · rw [hx]
    refine ⟨?_, ⟨Nat.le_refl _, hm⟩, (hL.tx.in_).more l3, hS.is, ⟨Nat.le_refl _, hS.most⟩⟩
    exact ⟨by rw [bv_length]; rfl, fun i u hu => ⟨_, rfl, hlt, by rw [addr_row, Nat.zero_add, hrow.cell]; exact hu⟩⟩
  · rw [hx]
    exact ⟨by have := few.ins; show x.m.ins.length ≤ 65535; omega, by have := few.total; unfold total at this; show x.m.looks.length ≤ 65535; omega⟩
  · rw [hx]
    refine YPages.of (lo' := lo) (hi' := hi) rfl hS.val hp (by omega) l3 ?_ hS.fit ?_ ?_ ?_
    · exact ⟨Nat.le_refl _, by have := hm; unfold maxLen at this; show zs.length ≤ _; omega, bv zs, hrow, by show zs.length * 1 ≤ _; rw [bv_length]; omega, fun h => absurd h (by show ¬ (34 : Nat) < 1; omega)⟩
    · intro g e
      cases e
      obtain ⟨mid, e1, e2, _⟩ := hL.tx.is
      exact ⟨by omega, hlt, .inr hg1⟩
    · intro g e
      have := hS.low g e
      obtain ⟨mid, e1, e2, _⟩ := hL.tx.is
      exact ⟨by omega, this.2, .inr (by omega)⟩
    · intro g e e'
      cases e
      have := hgb gb (by rw [hA, e']; rfl)
      omega
set_option maxRecDepth 100000 in
set_option maxHeartbeats 8000000 in
/-- readies.Of where there is no registry -/
theorem ofNo11 (v : Value) (A : Option Addr) (n c : Nat) (w : World) (hv : ∀ V, Below w.heap.size w V → NoReg V v) :
    Calls Tryz.prog 12 #[.slice A n c, v] w fun e w' => e = .returned (.tuple #[.agg yzero.toArray, .int .i64 2]) ∧ Below w.heap.size w w' := by
  have hmf : ∀ (fn : Fn) (first cap : Array Value) (w : World), (Instr.makeFunc fn first cap).run Tryz.prog w = .ok (.func fn first cap) w := fun _ _ _ _ => rfl
  obtain ⟨W, HX, hb0, h30⟩ : ∃ W, Hid (∀ z, z = yzero.toArray → ((w.alloc (.cells z 48)).alloc (.cells #[.int .i64 0] 49)).alloc (.cells #[.int .i64 0] 49) = W) ∧ Below w.heap.size w W ∧ Three11 w.heap.size yzero 0 W := by
    refine ⟨_, Lib.hid fun z h => by rw [h], (((Below.refl w.heap.size w).alloc (Nat.le_refl _) _).alloc (by simp) _).alloc (by simp; omega) _, ((Row.new w 48 yzero).alloc _).alloc _, (Row.new' (w.alloc (.cells yzero.toArray 48)) 49 [.int .i64 0] (by simp)).alloc _, Row.new' _ 49 [.int .i64 0] (by simp)⟩
  have HTH := Lib.hid (thereNo11 v W (hv W hb0))
  have HF := Lib.hid (fun w => failed11 2 w)
  rw [show decide ((2 : Int) ≠ 0) = true from rfl] at HF
  have HEND := Lib.hid (fun V C cc u (hl : C.length = 48) h1 (h : Three11 w.heap.size C cc V) => endRd11 w.heap.size C cc 0 u V hl h1 h.r0 h.r1 h.r2)
  have B0 := Lib.hid hb0
  have T0 := Lib.hid h30
  clear hb0 h30 hv
  go_enter_defers Tryz.func12, Tryz.ntmps12
  go_upto_region 3 with fail
  rw [HX.out]
  rotate_left
  · kernel_rfl
  clear HX
  have c2 : W.cell? ⟨w.heap.size + 1 + 1, 0, none⟩ = some (.int .i64 0) := T0.out.r2.cell 0
  have f2 : W.frozen? ⟨w.heap.size + 1 + 1, 0, none⟩ = false := T0.out.r2.frozen 0
  go_upto_region 4 with (go_at_call 39; refine HTH.out.mono ?_; rintro e w' ⟨rfl, hw⟩; obtain rfl := hw.symm)
  have T1 := Lib.hid (T0.out.wrong 2)
  have B1 := Lib.hid (B0.out.trans ((turned_setCell W ⟨w.heap.size + 1 + 1, 0, none⟩ (.int .i64 2)).below (show w.heap.size ≤ w.heap.size + 1 + 1 by omega)))
  clear c2 f2
  generalize W.setCell ⟨w.heap.size + 1 + 1, 0, none⟩ (.int .i64 2) = w2 at *
  have c2 : w2.cell? ⟨w.heap.size + 1 + 1, 0, none⟩ = some (.int .i64 2) := T1.out.r2.cell 0
  go_wp2_with (go_at_call 40; refine (HF.out _).mono ?_; rintro e w' ⟨rfl, hw⟩; obtain rfl := hw.symm)
  refine leaves_cons (f := 37) (args := #[.pointer (some ⟨w.heap.size, 0, none⟩), .pointer (some ⟨w.heap.size + 1 + 1, 0, none⟩), .pointer (some ⟨w.heap.size + 1, 0, none⟩)]) (by simp) (by simp [go_sem]) ?_
  refine (HEND.out w2 _ _ _ yzero_len yzero_one T1.out).mono ?_
  rintro e u' w9 ⟨rfl, ⟨rfl, h0, h1, hb9⟩, hs9, hk9⟩
  rw [if_neg (by decide)] at h0
  refine ⟨_, results_two11 (h := rfl) _ w9 ⟨w.heap.size, 0, none⟩ ⟨w.heap.size + 1, 0, none⟩ _ _ (by rfl) (by rfl) (run_loadVar_row w9 w.heap.size 48 48 yzero.toArray (0, 0) _ h0.is Tryz.underlying48 rfl (by rw [List.size_toArray]; exact (by rw [yzero_len]; exact size_ready))) (run_loadVar_one w9 _ 49 _ _ Tryz.underlying49 rfl (h1.cell 0)), ?_⟩
  exact ⟨rfl, B1.out.trans hb9⟩
set_option maxRecDepth 100000 in
set_option maxHeartbeats 16000000 in
theorem of11 (rb mb hi k : Nat) (ts : List LTab) (A : Option Addr) (n c B : Nat) (zs : List Int) (w : World) (hr : Reg w rb mb hi k ts) (hg : TsB11 ts) (hs : Sees w B A n (bv zs)) (hB : B ≤ w.heap.size) (hnc : n ≤ c) (hc : c ≤ maxLen) (hz : AllBytes zs) (hl : LenAt w) :
    Calls Tryz.prog 12 #[.slice A n c, .pointer (some ⟨rb, 0, none⟩)] w (RdDone w ts zs) := by
  have hmf : ∀ (fn : Fn) (first cap : Array Value) (w : World), (Instr.makeFunc fn first cap).run Tryz.prog w = .ok (.func fn first cap) w := fun _ _ _ _ => rfl
  obtain ⟨W, HX, hb0, h30, hz0⟩ : ∃ W, Hid (∀ z, z = yzero.toArray → ((w.alloc (.cells z 48)).alloc (.cells #[.int .i64 0] 49)).alloc (.cells #[.int .i64 0] 49) = W) ∧ Below w.heap.size w W ∧ Three11 w.heap.size yzero 0 W ∧ W.heap.size = w.heap.size + 3 := by
    refine ⟨_, Lib.hid fun z h => by rw [h], (((Below.refl w.heap.size w).alloc (Nat.le_refl _) _).alloc (by simp) _).alloc (by simp; omega) _, ⟨((Row.new w 48 yzero).alloc _).alloc _, (Row.new' (w.alloc (.cells yzero.toArray 48)) 49 [.int .i64 0] (by simp)).alloc _, Row.new' _ 49 [.int .i64 0] (by simp)⟩, by simp⟩
  have hnz : zs.length = n := by have := hs.len; rwa [bv_length] at this
  have HTH := Lib.hid (fun (V : World) (hb : Below w.heap.size w V) => thereYes11 rb mb hi k ts V (hr.below (hb.mono hr.lt.2.2)))
  have HWI := Lib.hid (fun (V : World) (hb : Below w.heap.size w V) => wire_ A n c B zs V (hs.below (hb.mono hB)) (Nat.le_trans hB hb.size) hnc hc hz)
  have HCA := Lib.hid (fun (V : World) (hb : Below w.heap.size w V) q m B' hm hB' hs hw => cast11 q m rb mb hi k ts B' V (hr.below (hb.mono hr.lt.2.2)) hg hm hB' hs hw)
  have HCP := Lib.hid (fun (V : World) (hb : Below w.heap.size w V) h1 hn => copied11 A n c B zs V (hs.below (hb.mono hB)) (Nat.le_trans hB hb.size) h1 hn)
  have HLE := Lib.hid (fun (V : World) (hb : Below w.heap.size w V) => hl.below hb hl.pos)
  have HEND := Lib.hid (fun V C cc u (hl : C.length = 48) h1 (h : Three11 w.heap.size C cc V) => endRd11 w.heap.size C cc 0 u V hl h1 h.r0 h.r1 h.r2)
  have HPOS := Lib.hid hl.pos
  have HZ := Lib.hid hz
  have HG := Lib.hid hg
  have HNZ := Lib.hid hnz
  have HNM := Lib.hid (show n ≤ maxLen by omega)
  have B0 := Lib.hid hb0
  have T0 := Lib.hid h30
  have Z0 := Lib.hid hz0
  clear hb0 h30 hz0 hr hg hs hB hnc hc hz hl hnz
  go_enter_defers Tryz.func12, Tryz.ntmps12
  go_upto_region 3 with fail
  rw [HX.out]
  rotate_left
  · kernel_rfl
  clear HX
  go_wp2_with fail
  refine (HTH.out _ B0.out).mono ?_
  rintro e w1 ⟨rfl, hb⟩
  have T1 := Lib.hid (T0.out.below hb T0.out.lt)
  have B1 := Lib.hid (B0.out.trans (hb.mono B0.out.size))
  clear hb B0 T0 HTH
  have c2 : w1.cell? ⟨w.heap.size + 1 + 1, 0, none⟩ = some (.int .i64 0) := T1.out.r2.cell 0
  have f2 : w1.frozen? ⟨w.heap.size + 1 + 1, 0, none⟩ = false := T1.out.r2.frozen 0
  go_upto_region 4 with fail
  have T2 := Lib.hid (T1.out.wrong 0)
  have B2 := Lib.hid (B1.out.trans ((turned_setCell w1 ⟨w.heap.size + 1 + 1, 0, none⟩ (.int .i64 0)).below (show w.heap.size ≤ w.heap.size + 1 + 1 by omega)))
  clear c2 f2 T1 B1
  generalize w1.setCell ⟨w.heap.size + 1 + 1, 0, none⟩ (.int .i64 0) = w2 at *
  have c2 : w2.cell? ⟨w.heap.size + 1 + 1, 0, none⟩ = some (.int .i64 0) := T2.out.r2.cell 0
  have HF := Lib.hid (fun w => failed11 0 w)
  rw [show decide ((0 : Int) ≠ 0) = false from rfl] at HF
  go_wp2_with (go_at_call 40; refine (HF.out _).mono ?_; rintro e w' ⟨rfl, hw⟩; obtain rfl := hw.symm)
  refine (HWI.out _ B2.out).mono ?_
  clear c2 HF HWI
  rintro e w3 (⟨x, s, lo, hp, hk, rfl, hlo, hv, hb⟩ | ⟨hn, rfl, hb⟩)
  · have hg11 := got11 HZ.out hp
    have few := few11 hg11
    have h0w : wErr zs = 0 := by rw [wErr_ok hp]; exact hk
    have hwx : wireX zs = x := by unfold wireX wx; rw [if_pos h0w, hp]
    have HRD : Hid (rdErr ts zs = castErr ts x.m) := Lib.hid (by rw [rdErr_cast h0w, hwx])
    have HRR : Hid (castErr ts x.m = 0 → rdX ts zs = xReady zs x (castRoles ts x.m)) := Lib.hid fun h => by
      rw [rdX_ok (by rw [HRD.out]; exact h), hwx]
      have : rdRoles ts zs = castRoles ts x.m := by unfold rdRoles castRoles; rw [hwx]
      rw [this]
    have HOK := Lib.hid (castRoles_ok (ts := ts) HG.out hg11.wf.m)
    have h1n : 1 ≤ n ∧ n ≤ 1232 := by
      have h1 := hg11.len
      have h2 : zs ≠ [] := fun e => by rw [e, show wTx [] = .error 5 from rfl] at hp; cases hp
      have h3 := List.length_pos_iff.2 h2
      have h4 := HNZ.out
      omega
    have hr3 := tcells_len (s := s) (x := x) hv.in_.m.recent
    have HRC := Lib.hid hv.in_.m.recent
    have HSZ := Lib.hid (show (Tryz.prog.info? 42).map (·.size) = some (TRaw.cells s x).length by rw [size_tx, hr3])
    have HTL := Lib.hid hr3
    have HCO := Lib.hid (tcells_one (s := s) (x := x))
    have T3 := Lib.hid (T2.out.below hb T2.out.lt)
    have B3 := Lib.hid (B2.out.trans (hb.mono B2.out.size))
    have HLO : Hid (w.heap.size + 2 < lo) := Lib.hid (by have := T2.out.lt; omega)
    have HV := Lib.hid hv
    have HG11 := Lib.hid hg11
    have FEW := Lib.hid few
    have H1N := Lib.hid h1n
    clear hg11 few h0w hwx hr3 hb hlo hv hp hk T2 B2 h1n
    have HF := Lib.hid (fun w => failed11 0 w)
    rw [show decide ((0 : Int) ≠ 0) = false from rfl] at HF
    obtain ⟨cs, hcs⟩ : ∃ cs, cs = TRaw.cells s x := ⟨_, rfl⟩
    have CS := Lib.hid hcs
    rw [← hcs] at HSZ HTL HCO ⊢
    clear hcs
    go_upto_region 6 with ((with_reducible show wpList _ _ _ ({ dst := none, op := Op.store 42 _ _, type := _, pos := _, after := _, guard := _ } :: _) _ _); go_must (refine wpList_store_part rfl 42 (.tmp 17) (.tmp 15) rfl w.heap.size 48 1 yzero cs T3.out.r0 HSZ.out (by rw [yzero_len, HTL.out]; omega) HCO.out ?_ ?_ ?_; go_simp; (go_simp; try kernel_rfl); intro w4 hr4 ht4; have c2 : w4.cell? ⟨w.heap.size + 1 + 1, 0, none⟩ = some (.int .i64 0) := (ht4.row T3.out.r2 (show w.heap.size + 2 ≠ w.heap.size by omega)).cell 0; have f2 : w4.frozen? ⟨w.heap.size + 1 + 1, 0, none⟩ = false := (ht4.row T3.out.r2 (show w.heap.size + 2 ≠ w.heap.size by omega)).frozen 0))
    obtain ⟨q1, hq1⟩ : ∃ q1 : YRaw, q1 = { zYRaw with t := s } := ⟨_, rfl⟩
    obtain ⟨x1, hx1⟩ : ∃ x1 : LReady, x1 = { zReady with tx := x } := ⟨_, rfl⟩
    have e4 : yzero.take 1 ++ cs ++ yzero.drop (1 + cs.length) = q1.cells x1 := by
      rw [CS.out, hq1, hx1]
      exact ycells_tx (q := zYRaw) (x := zReady) (s := s) (t := x) rfl HRC.out
    rw [e4] at hr4
    have T4 := Lib.hid (T3.out.part ht4 hr4)
    have B4 := Lib.hid (B3.out.trans (ht4.below (Nat.le_refl _)))
    have V4 := Lib.hid (HV.out.stay (w' := w4) (by rw [ht4.size]; exact Nat.le_refl _) fun k a b => ht4.block k (by have := HLO.out; omega))
    have Z4 : Hid (w4.heap.size = w3.heap.size) := Lib.hid ht4.size
    clear hr4 ht4 e4 T3 B3 HV
    have T5 := Lib.hid (T4.out.wrong 0)
    have ht5 := turned_setCell w4 ⟨w.heap.size + 1 + 1, 0, none⟩ (.int .i64 0)
    have B5 := Lib.hid (B4.out.trans (ht5.below (show w.heap.size ≤ w.heap.size + 1 + 1 by omega)))
    have V5 := Lib.hid (V4.out.stay (by rw [ht5.size]; exact Nat.le_refl _) fun k a b => ht5.block k (show k ≠ w.heap.size + 1 + 1 by have := HLO.out; omega))
    have Z5 := Lib.hid (ht5.size.trans Z4.out)
    clear c2 f2 T4 B4 V4 Z4 ht5
    generalize w4.setCell ⟨w.heap.size + 1 + 1, 0, none⟩ (.int .i64 0) = w5 at *
    have c2 : w5.cell? ⟨w.heap.size + 1 + 1, 0, none⟩ = some (.int .i64 0) := T5.out.r2.cell 0
    have HMC : Hid (∀ j u, (s.q.cells x.m)[j]? = some u → w5.cell? ⟨w.heap.size, 2 + j, none⟩ = some u) := Lib.hid fun j u hu => by
      rw [T5.out.r0.cell, hq1, hx1]
      have := ycells_t (q := { zYRaw with t := s }) (x := { zReady with tx := x }) (j := 1 + j) ((tcells_m j).trans hu)
      rwa [← Nat.add_assoc] at this
    have HMS := Lib.hid (show (Tryz.prog.info? 40).map (·.size) = some (s.q.cells x.m).length by rw [size_msg, cells_len HRC.out])
    go_wp2_with (first
      | (go_at_call 40; refine (HF.out _).mono ?_; rintro e w' ⟨rfl, hw⟩; obtain rfl := hw.symm)
      | ((with_reducible show wpList _ _ _ ({ dst := some 23, op := Op.load _ _, type := _, pos := _, after := _, guard := _ } :: _) _ _); go_must (refine wpList_load_at rfl 40 (.tmp 22) rfl ⟨w.heap.size, 2, none⟩ (s.q.cells x.m) _ Tryz.underlying40 rfl HMS.out (fun j u hu => by rw [addr_row]; exact HMC.out j u hu) ?_ ?_; go_simp)))
    refine (HCA.out w5 B5.out s.q x.m w3.heap.size V5.out.in_.m (by rw [Z5.out]; exact Nat.le_refl _) HG11.out.small HG11.out.wf.m).mono ?_
    rintro e w6 ⟨hb, hq⟩
    have T6 := Lib.hid (T5.out.below hb T5.out.lt)
    have B6 := Lib.hid (B5.out.trans (hb.mono B5.out.size))
    have V6 := Lib.hid (V5.out.stay hb.size fun k a b => hb.block k (by rw [Z5.out]; exact b))
    have Z6 : Hid (w3.heap.size ≤ w5.heap.size ∧ w5.heap.size ≤ w6.heap.size) := Lib.hid ⟨Nat.le_of_eq Z5.out.symm, hb.size⟩
    have HC41 : Hid ((q1.cells x1)[41]? = some (.slice none 0 0)) := Lib.hid (by rw [hq1, hx1]; exact (ycells_41 HRC.out 0).trans rfl)
    clear hb c2 T5 B5 V5 Z5 HMC HMS HCA HF
    have c2 : w6.cell? ⟨w.heap.size + 1 + 1, 0, none⟩ = some (.int .i64 0) := T6.out.r2.cell 0
    have f2 : w6.frozen? ⟨w.heap.size + 1 + 1, 0, none⟩ = false := T6.out.r2.frozen 0
    have c41 : w6.cell? ⟨w.heap.size, 41, none⟩ = some (.slice none 0 0) := (T6.out.r0.cell 41).trans HC41.out
    have f41 : w6.frozen? ⟨w.heap.size, 41, none⟩ = false := T6.out.r0.frozen 41
    by_cases hce : castErr ts x.m = 0
    · rw [if_pos hce] at hq
      obtain ⟨RA, rc, rfl, ho⟩ := hq
      have HCE := Lib.hid hce
      have HO := Lib.hid ho
      have HF := Lib.hid (fun w => failed11 0 w)
      rw [show decide ((0 : Int) ≠ 0) = false from rfl] at HF
      clear hce ho
      obtain ⟨l, hl⟩ : ∃ l, l = castRoles ts x.m := ⟨_, rfl⟩
      have HLR := Lib.hid hl
      rw [← hl] at HO HOK HRR ⊢
      clear hl
      go_upto_region 8 with fail
      obtain ⟨q2, hq2⟩ : ∃ q2 : YRaw, q2 = { q1 with RA := RA, rn := l.length, rc := l.length } := ⟨_, rfl⟩
      obtain ⟨x2, hx2⟩ : ∃ x2 : LReady, x2 = { x1 with roles := l } := ⟨_, rfl⟩
      have T7 := T6.out.cell 41 (.slice RA l.length l.length)
      have e7 : (q1.cells x1).set 41 (.slice RA l.length l.length) = q2.cells x2 := by rw [hq2, hx2]; exact ycells_r (by rw [hx1]; exact HRC.out) _ _ _ _
      rw [e7] at T7
      have ht7 := turned_setCell w6 ⟨w.heap.size, 41, none⟩ (.slice RA l.length l.length)
      have ht8 := turned_setCell (w6.setCell ⟨w.heap.size, 41, none⟩ (.slice RA l.length l.length)) ⟨w.heap.size + 1 + 1, 0, none⟩ (.int .i64 0)
      have T8 := Lib.hid (T7.wrong 0)
      have B8 := Lib.hid ((B6.out.trans (ht7.below (Nat.le_refl _))).trans (ht8.below (show w.heap.size ≤ w.heap.size + 1 + 1 by omega)))
      have L6 : Lists11 w.heap.size lo w3.heap.size w5.heap.size s x RA rc l w6 := ⟨V6.out, HO.out, HLO.out, Z6.out.1, Nat.le_trans Z6.out.1 Z6.out.2⟩
      have L8 := Lib.hid (L6.keep (by rw [ht8.size, ht7.size]; exact Nat.le_refl _) fun k a b => (ht8.block k (show k ≠ w.heap.size + 1 + 1 by omega)).trans (ht7.block k (show k ≠ w.heap.size by omega)))
      clear c2 f2 c41 f41 T6 B6 V6 e7 T7 ht7 ht8 L6 HO HC41
      generalize (w6.setCell ⟨w.heap.size, 41, none⟩ (.slice RA l.length l.length)).setCell ⟨w.heap.size + 1 + 1, 0, none⟩ (.int .i64 0) = w8 at *
      have c2 : w8.cell? ⟨w.heap.size + 1 + 1, 0, none⟩ = some (.int .i64 0) := T8.out.r2.cell 0
      go_wp2_with (go_at_call 40; refine (HF.out _).mono ?_; rintro e w' ⟨rfl, hw⟩; obtain rfl := hw.symm)
      refine (HCP.out w8 B8.out H1N.out.1 H1N.out.2).mono ?_
      rintro e w9 ⟨rfl, hrow, hb⟩
      have T9 := Lib.hid (T8.out.below hb T8.out.lt)
      have B9 := Lib.hid (B8.out.trans (hb.mono B8.out.size))
      have L9 := Lib.hid (L8.out.keep hb.size fun k a b => hb.block k b)
      have R9 := Lib.hid hrow
      have HGB : Hid (∀ k, (Value.slice RA l.length rc).ownBlock = some k → k < w8.heap.size) := Lib.hid fun k hk => (L8.out.rs.lt k hk).2
      have HHI : Hid (w3.heap.size ≤ w8.heap.size ∧ w.heap.size + 2 < w8.heap.size) := Lib.hid ⟨L8.out.low.2.2, T8.out.lt⟩
      have HC0 : Hid ((q2.cells x2)[0]? = some (.slice none 0 0)) := Lib.hid (by rw [hq2, hq1]; rfl)
      clear hb hrow c2 HF HCP T8 B8 L8
      have c0 : w9.cell? ⟨w.heap.size, 0, none⟩ = some (.slice none 0 0) := (T9.out.r0.cell 0).trans HC0.out
      have f0 : w9.frozen? ⟨w.heap.size, 0, none⟩ = false := T9.out.r0.frozen 0
      go_upto_region 10 with fail
      obtain ⟨q3, hq3⟩ : ∃ q3 : YRaw, q3 = { q2 with BA := some ⟨w8.heap.size, 0, none⟩, bn := n, bc := n } := ⟨_, rfl⟩
      have T10 := T9.out.cell 0 (.slice (some ⟨w8.heap.size, 0, none⟩) n n)
      have e10 : (q2.cells x2).set 0 (.slice (some ⟨w8.heap.size, 0, none⟩) n n) = q3.cells x2 := by rw [hq3]; rfl
      rw [e10] at T10
      have ht10 := turned_setCell w9 ⟨w.heap.size, 0, none⟩ (.slice (some ⟨w8.heap.size, 0, none⟩) n n)
      have T10 := Lib.hid T10
      have B10 := Lib.hid (B9.out.trans (ht10.below (Nat.le_refl _)))
      have L10 := Lib.hid (L9.out.keep (by rw [ht10.size]; exact Nat.le_refl _) fun k a b => ht10.block k (show k ≠ w.heap.size by omega))
      have R10 := Lib.hid (ht10.row R9.out (show w8.heap.size ≠ w.heap.size by have := HHI.out.2; omega))
      clear c0 f0 T9 B9 L9 R9 e10 ht10 HC0
      generalize w9.setCell ⟨w.heap.size, 0, none⟩ (.slice (some ⟨w8.heap.size, 0, none⟩) n n) = w10 at *
      have hx2t : x2.tx = x := by rw [hx2, hx1]
      have hx2r : x2.roles = l := by rw [hx2]
      have HAP := Lib.hid (appraise11 w.heap.size q3 x2 w10 T10.out.r0 (by rw [hx2t]; exact HRC.out) (by rw [hx2t]; exact FEW.out) (by rw [hx2t]; exact HG11.out.wf) (by
          rw [hx2r]
          have h1 := rdRoles_most (ts := ts) HZ.out (by rw [HRD.out]; exact HCE.out)
          have h2 := HRR.out HCE.out
          rw [rdX_ok (by rw [HRD.out]; exact HCE.out)] at h2
          have h3 : rdRoles ts zs = l := congrArg LReady.roles h2
          rw [h3] at h1
          omega) fun V hV => by
        have hk : Lists11 w.heap.size lo w3.heap.size w5.heap.size s x RA rc l V := L10.out.keep hV.size fun k a b => hV.block k b (by omega)
        obtain ⟨S, hS⟩ := roles_out hk.rs rfl HOK.out
        rw [hx2t, hx2r, hq3, hq2, hq1]
        exact ⟨(hk.tx.in_).more hk.low.2.2, hS.is, (HLE.out w10 B10.out).keep fun p hp => World.cell?_of_block (by rw [hp]; exact hV.block 0 (by have := T10.out.lt; omega) (Nat.ne_of_lt HPOS.out))⟩)
      clear HLE HPOS
      go_wp2_with fail
      refine HAP.out.mono ?_
      rintro e w11 ⟨rfl, hr11, hN, hb⟩
      have e11 : q3.cells (told11 x2) = YRaw.cells ⟨some ⟨w8.heap.size, 0, none⟩, n, n, s, RA, l.length, l.length⟩ (xReady zs x l) := by
        unfold told11 xReady
        rw [hx2t, hx2r, hq3, hq2, hq1]
        rfl
      have HCL := Lib.hid (ycells_len (q := ⟨some ⟨w8.heap.size, 0, none⟩, n, n, s, RA, l.length, l.length⟩) (x := xReady zs x l) HRC.out)
      have HC1 := Lib.hid (ycells_one (q := ⟨some ⟨w8.heap.size, 0, none⟩, n, n, s, RA, l.length, l.length⟩) (x := xReady zs x l))
      rw [e11] at hr11
      have T11 : Three11 w.heap.size (YRaw.cells ⟨some ⟨w8.heap.size, 0, none⟩, n, n, s, RA, l.length, l.length⟩ (xReady zs x l)) 0 w11 :=
        ⟨hr11, ⟨(hN.block _ T10.out.r1.lt (by omega)).trans T10.out.r1.is⟩, ⟨(hN.block _ T10.out.r2.lt (by omega)).trans T10.out.r2.is⟩⟩
      have T11 := Lib.hid T11
      have L11 := Lib.hid (L10.out.keep hN.size fun k a b => hN.block k b (by omega))
      have R11 : Hid (Row w11 w8.heap.size 5 (bv zs)) := Lib.hid ⟨(hN.block _ R10.out.lt (by have := HHI.out.2; omega)).trans R10.out.is⟩
      have B11 := Lib.hid (B10.out.trans hb)
      have HFIN : Hid (∀ V, Lists11 w.heap.size lo w3.heap.size w5.heap.size s x RA rc l V → Row V w8.heap.size 5 (bv zs) → Below w.heap.size w V → RdDone w ts zs (.returned (.tuple #[.agg (YRaw.cells ⟨some ⟨w8.heap.size, 0, none⟩, n, n, s, RA, l.length, l.length⟩ (xReady zs x l)).toArray, .int .i64 0])) V) := Lib.hid fun V h1 h2 h3 =>
        rdDone_of (by rw [HRD.out]; exact HCE.out) (HRR.out HCE.out) h1 h2 HGB.out HHI.out.1 HNZ.out HNM.out FEW.out HOK.out h3
      clear hr11 hN hb e11 L10 R10 B10 T10 HAP hx2t hx2r hq1 hq2 hq3 hx1 hx2
      generalize YRaw.cells ⟨some ⟨w8.heap.size, 0, none⟩, n, n, s, RA, l.length, l.length⟩ (xReady zs x l) = CF at *
      go_wp2_with fail
      refine leaves_cons (f := 37) (args := #[.pointer (some ⟨w.heap.size, 0, none⟩), .pointer (some ⟨w.heap.size + 1 + 1, 0, none⟩), .pointer (some ⟨w.heap.size + 1, 0, none⟩)]) (by simp) (by simp [go_sem]) ?_
      refine (HEND.out w11 _ _ _ HCL.out HC1.out T11.out).mono ?_
      rintro e u' w12 ⟨rfl, ⟨rfl, h0, h1, hb9⟩, hs9, hk9⟩
      rw [if_pos rfl] at h0
      refine ⟨_, results_two11 (h := rfl) _ w12 ⟨w.heap.size, 0, none⟩ ⟨w.heap.size + 1, 0, none⟩ _ _ (by rfl) (by rfl) (run_loadVar_row w12 w.heap.size 48 48 CF.toArray (0, 0) _ h0.is Tryz.underlying48 rfl (by rw [List.size_toArray]; exact (by rw [HCL.out]; exact size_ready))) (run_loadVar_one w12 _ 49 _ _ Tryz.underlying49 rfl (h1.cell 0)), ?_⟩
      refine HFIN.out w12 (L11.out.keep hs9 fun k a b => hk9 k b (by omega) (by omega)) ⟨(hk9 _ R11.out.lt (by have := HHI.out.2; omega) (by have := HHI.out.2; omega)).trans R11.out.is⟩ (B11.out.trans hb9)
    · rw [if_neg hce] at hq
      subst hq
      have HF := Lib.hid (fun w => failed11 (castErr ts x.m) w)
      rw [decide_eq_true hce] at HF
      have HCE := Lib.hid hce
      have e7 : (q1.cells x1).set 41 (.slice none 0 0) = YRaw.cells { q1 with RA := none, rn := 0, rc := 0 } { x1 with roles := [] } := ycells_r (by rw [hx1]; exact HRC.out) _ _ _ _
      have HCL := Lib.hid (ycells_len (q := { q1 with RA := none, rn := 0, rc := 0 }) (x := { x1 with roles := [] }) (by rw [hx1]; exact HRC.out))
      have HC1 := Lib.hid (ycells_one (q := { q1 with RA := none, rn := 0, rc := 0 }) (x := { x1 with roles := [] }))
      clear hce
      generalize castErr ts x.m = ce at *
      go_upto_region 8 with fail
      have T7 := T6.out.cell 41 (.slice none 0 0)
      rw [e7] at T7
      have ht7 := turned_setCell w6 ⟨w.heap.size, 41, none⟩ (.slice none 0 0)
      have ht8 := turned_setCell (w6.setCell ⟨w.heap.size, 41, none⟩ (.slice none 0 0)) ⟨w.heap.size + 1 + 1, 0, none⟩ (.int .i64 ce)
      have T8 := Lib.hid (T7.wrong ce)
      have B8 := Lib.hid ((B6.out.trans (ht7.below (Nat.le_refl _))).trans (ht8.below (show w.heap.size ≤ w.heap.size + 1 + 1 by omega)))
      clear c2 f2 c41 f41 T6 B6 V6 e7 T7 ht7 ht8
      generalize (w6.setCell ⟨w.heap.size, 41, none⟩ (.slice none 0 0)).setCell ⟨w.heap.size + 1 + 1, 0, none⟩ (.int .i64 ce) = w8 at *
      have c2 : w8.cell? ⟨w.heap.size + 1 + 1, 0, none⟩ = some (.int .i64 ce) := T8.out.r2.cell 0
      go_wp2_with (go_at_call 40; refine (HF.out _).mono ?_; rintro e w' ⟨rfl, hw⟩; obtain rfl := hw.symm)
      refine leaves_cons (f := 37) (args := #[.pointer (some ⟨w.heap.size, 0, none⟩), .pointer (some ⟨w.heap.size + 1 + 1, 0, none⟩), .pointer (some ⟨w.heap.size + 1, 0, none⟩)]) (by simp) (by simp [go_sem]) ?_
      refine (HEND.out w8 _ _ _ HCL.out HC1.out T8.out).mono ?_
      rintro e u' w9 ⟨rfl, ⟨rfl, h0, h1, hb9⟩, hs9, hk9⟩
      rw [if_neg HCE.out] at h0
      refine ⟨_, results_two11 (h := rfl) _ w9 ⟨w.heap.size, 0, none⟩ ⟨w.heap.size + 1, 0, none⟩ _ _ (by rfl) (by rfl) (run_loadVar_row w9 w.heap.size 48 48 yzero.toArray (0, 0) _ h0.is Tryz.underlying48 rfl (by rw [List.size_toArray]; exact (by rw [yzero_len]; exact size_ready))) (run_loadVar_one w9 _ 49 _ _ Tryz.underlying49 rfl (h1.cell 0)), ?_⟩
      exact RdDone.no HRD.out HCE.out (B8.out.trans hb9)
  · have HN := Lib.hid hn
    have T3 := Lib.hid (T2.out.below hb T2.out.lt)
    have B3 := Lib.hid (B2.out.trans (hb.mono B2.out.size))
    have HF := Lib.hid (fun w => failed11 (wErr zs) w)
    rw [decide_eq_true hn] at HF
    clear hb hn T2 B2
    go_upto_region 6 with ((with_reducible show wpList _ _ _ ({ dst := none, op := Op.store 42 _ _, type := _, pos := _, after := _, guard := _ } :: _) _ _); go_must (refine wpList_store_part rfl 42 (.tmp 17) (.tmp 15) rfl w.heap.size 48 1 yzero tzero T3.out.r0 size_tz (by rw [yzero_len, tzero_len11]; omega) tzero_one ?_ ?_ ?_; go_simp; (go_simp; try kernel_rfl); intro w4 hr4 ht4; have c2 : w4.cell? ⟨w.heap.size + 1 + 1, 0, none⟩ = some (.int .i64 0) := (ht4.row T3.out.r2 (show w.heap.size + 2 ≠ w.heap.size by omega)).cell 0; have f2 : w4.frozen? ⟨w.heap.size + 1 + 1, 0, none⟩ = false := (ht4.row T3.out.r2 (show w.heap.size + 2 ≠ w.heap.size by omega)).frozen 0))
    have e4 : yzero.take 1 ++ tzero ++ yzero.drop (1 + tzero.length) = yzero := by
      have := ycells_tx (q := zYRaw) (x := zReady) (s := zRaw) (t := zTx) rfl rfl
      exact this
    rw [e4] at hr4
    have T4 := Lib.hid (T3.out.part ht4 hr4)
    have B4 := Lib.hid (B3.out.trans (ht4.below (Nat.le_refl _)))
    clear hr4 ht4 e4 T3 B3
    have T5 := Lib.hid (T4.out.wrong (wErr zs))
    have B5 := Lib.hid (B4.out.trans ((turned_setCell w4 ⟨w.heap.size + 1 + 1, 0, none⟩ (.int .i64 (wErr zs))).below (show w.heap.size ≤ w.heap.size + 1 + 1 by omega)))
    clear c2 f2 T4 B4
    generalize w4.setCell ⟨w.heap.size + 1 + 1, 0, none⟩ (.int .i64 (wErr zs)) = w5 at *
    have c2 : w5.cell? ⟨w.heap.size + 1 + 1, 0, none⟩ = some (.int .i64 (wErr zs)) := T5.out.r2.cell 0
    go_wp2_with (go_at_call 40; refine (HF.out _).mono ?_; rintro e w' ⟨rfl, hw⟩; obtain rfl := hw.symm)
    refine leaves_cons (f := 37) (args := #[.pointer (some ⟨w.heap.size, 0, none⟩), .pointer (some ⟨w.heap.size + 1 + 1, 0, none⟩), .pointer (some ⟨w.heap.size + 1, 0, none⟩)]) (by simp) (by simp [go_sem]) ?_
    refine (HEND.out w5 _ _ _ yzero_len yzero_one T5.out).mono ?_
    rintro e u' w9 ⟨rfl, ⟨rfl, h0, h1, hb9⟩, hs9, hk9⟩
    rw [if_neg HN.out] at h0
    refine ⟨_, results_two11 (h := rfl) _ w9 ⟨w.heap.size, 0, none⟩ ⟨w.heap.size + 1, 0, none⟩ _ _ (by rfl) (by rfl) (run_loadVar_row w9 w.heap.size 48 48 yzero.toArray (0, 0) _ h0.is Tryz.underlying48 rfl (by rw [List.size_toArray]; exact (by rw [yzero_len]; exact size_ready))) (run_loadVar_one w9 _ 49 _ _ Tryz.underlying49 rfl (h1.cell 0)), ?_⟩
    exact RdDone.no (rdErr_wire HN.out) HN.out (B5.out.trans hb9)
end Go.Proofs.YtdgbodljmdcagaaGreatDoor

/-
  Of part RefReg: what is needed here.
-/
namespace Go.Proofs.YtdgbodljmdcagaaGreatDoor
open Go.RowKit
set_option linter.unusedVariables false
set_option maxRecDepth 100000
/-- a table's cells; its list lies in a block of its own, of which S holds -/
def ET (S : Nat → Prop) (w : World) (B : Nat) (cs : List Value) (t : LTab) : Prop :=
  t.key.length = 32 ∧ ∃ g c rest, cs = bv t.key ++ [.slice (some ⟨g, 0, none⟩) t.keys.length c] ∧ Row w g 78 (bv t.keys.flatten ++ rest) ∧ (t.keys.length ≤ c ∧ c ≤ maxLen) ∧ S g
/-- keys' blocks stay -/
def KeepKeys (w w' : World) : Prop := ∀ g xs, Row w g 78 xs → Row w' g 78 xs
structure RReg (w : World) (pb base : Nat) (v : Value) (ts : List LTab) (S : Nat → Prop) : Prop where
  row : Row w pb 85 [v]
  tabs : ∃ css, w.ownsRow base 147 33 v ts.length css.flatten ∧ Elems 33 (ET S) w 0 ts css
  good : TsOk ts
section
variable {w w' : World} {pb base : Nat} {v : Value} {ts : List LTab} {S S' : Nat → Prop}
theorem KeepKeys.below (hb : Below w.heap.size w w') : KeepKeys w w' := fun g xs hr => hr.below hb hr.lt
theorem ET.keep {B : Nat} {cs : List Value} {t : LTab} (h : ET S w B cs t) (hk : KeepKeys w w') (hS : ∀ g, g < w.heap.size → S g → S' g) : ET S' w' B cs t := by
  obtain ⟨h1, g, c, rest, h2, h3, h4, h5⟩ := h
  exact ⟨h1, g, c, rest, h2, hk g _ h3, h4, hS g h3.lt h5⟩
theorem RReg.keep (h : RReg w pb base v ts S) (hk : KeepKeys w w') (hp : w'.heap[pb]? = w.heap[pb]?) (ho : ∀ g, v.ownBlock = some g → w'.heap[g]? = w.heap[g]?) : RReg w' pb base v ts S := by
  obtain ⟨css, h1, h2⟩ := h.tabs
  exact ⟨⟨hp.trans h.row.is⟩, ⟨css, own_keep h1 ho, h2.map fun cs x hx => ET.keep hx hk fun _ _ hs => hs⟩, h.good⟩
theorem RReg.below (h : RReg w pb base v ts S) (hb : Below w.heap.size w w') : RReg w' pb base v ts S := by
  obtain ⟨css, h1, h2⟩ := h.tabs
  exact h.keep (KeepKeys.below hb) (hb.block pb h.row.lt) fun g e => hb.block g (h1.lt g e).2
theorem Elems.turn {α : Type} {size : Nat} {E E' : World → Nat → List Value → α → Prop} {w w' : World} {B B' : Nat} {l : List α} {css : List (List Value)} (h : Elems size E w B l css) (hm : ∀ cs x, E w B cs x → E' w' B' cs x) : Elems size E' w' B' l css :=
  ⟨h.len, fun i x cs hx hcs => by
    obtain ⟨a, b⟩ := h.at_ i x cs hx hcs
    exact ⟨hm _ _ a, b⟩⟩
theorem RReg.weak (h : RReg w pb base v ts S) (hS : ∀ g, g < w.heap.size → S g → S' g) : RReg w pb base v ts S' := by
  obtain ⟨css, h1, h2⟩ := h.tabs
  exact ⟨h.row, ⟨css, h1, h2.turn fun cs x hx => ET.keep hx (fun _ _ hr => hr) hS⟩, h.good⟩
/-- the list, as it is read -/
theorem RReg.open_ (h : RReg w pb base v ts S) : ∃ A c css, v = .slice A ts.length c ∧ Sees w w.heap.size A (ts.length * 33) css.flatten ∧ Elems 33 (ET S) w 0 ts css ∧ ts.length ≤ c ∧ c ≤ maxLen := by
  obtain ⟨css, h1, h2⟩ := h.tabs
  obtain ⟨A, c, hv, hs, hc, hm, _⟩ := own_form2 h1
  exact ⟨A, c, css, hv, hs, h2, hc, hm⟩
end
theorem findT_append {ts us : List LTab} {x : List Int} {l : List (List Int)} (h : findT ts x = some l) : findT (ts ++ us) x = some l := by
  unfold findT at *
  rw [List.find?_append]
  obtain ⟨t, ht, rfl⟩ := Option.map_eq_some_iff.1 h
  rw [ht]
  rfl
theorem findT_hit {ts : List LTab} {x : List Int} {k : Nat} {t : LTab} (ht : ts[k]? = some t) (h : findT (ts.take k) x = none) (he : t.key = x) : findT ts x = some t.keys := by
  have h1 : findT (ts.take (k + 1)) x = some t.keys := by
    rw [List.take_add_one, ht]
    show findT (ts.take k ++ [t]) x = _
    rw [findT_snoc, h]
    simp [he]
  have := findT_append (us := ts.drop (k + 1)) h1
  rwa [List.take_append_drop] at this
theorem findT_miss {ts : List LTab} {x : List Int} {k : Nat} {t : LTab} (ht : ts[k]? = some t) (h : findT (ts.take k) x = none) (he : t.key ≠ x) : findT (ts.take (k + 1)) x = none := by
  rw [List.take_add_one, ht]
  show findT (ts.take k ++ [t]) x = _
  rw [findT_snoc, h]
  simp [he]
/-- what Find answers -/
def RFDone (w : World) (ts : List LTab) (x : List Int) (e : Ending) (w' : World) : Prop :=
  ∃ A n c, e = .returned (.tuple #[.slice A n c, .int .i64 (fErr ts x)]) ∧ KeysIn w' w'.heap.size A n (fKeys ts x) ∧ n ≤ 256 ∧ Below w.heap.size w w' ∧ ∀ a, A = some a → w.heap.size ≤ a.block
set_option maxRecDepth 100000 in
set_option maxHeartbeats 4000000 in
theorem refFind (pb base : Nat) (v : Value) (ts : List LTab) (S : Nat → Prop) (x : List Int) (w : World) (h : RReg w pb base v ts S) (hx : KeyOk x) (hn : ts.length ≤ 1000) :
    Calls Tryz.prog 82 #[.pointer (some ⟨pb, 0, none⟩), .agg (bv x).toArray] w (RFDone w ts x) := by
  have hb0 : Below w.heap.size w (w.alloc (.cells (bv x).toArray 78)) := (Below.refl _ _).alloc (Nat.le_refl _) _
  have RX := Lib.hid (Row.new w 78 (bv x))
  have HSZ := Lib.hid (show (Tryz.prog.info? 78).map (·.size) = some (bv x).length by rw [bv_length, hx.1]; exact size_key)
  have HB0 := Lib.hid hb0
  have hR := h.below hb0
  have HR := Lib.hid hR
  obtain ⟨A, c, css, rfl, hse, hel, hc1, hc2⟩ := hR.open_
  have SE := Lib.hid hse
  have EL' := Lib.hid hel
  have HX := Lib.hid hx
  have HN := Lib.hid (And.intro hc1 hc2)
  have c0 : (w.alloc (.cells (bv x).toArray 78)).cell? ⟨pb, 0, none⟩ = some (.slice A ts.length c) := hR.row.cell 0
  clear h hb0 hR hse hel hx hc1 hc2
  obtain ⟨X, hX⟩ : ∃ X, X = bv x := ⟨_, rfl⟩
  have HXX := Lib.hid hX
  rw [← hX] at RX HSZ HB0 HR SE EL' c0 ⊢
  clear hX
  generalize hWW : w.alloc (.cells X.toArray 78) = W at *
  have HWW := Lib.hid hWW
  clear hWW
  obtain ⟨n, hnn⟩ : ∃ n, n = ts.length := ⟨_, rfl⟩
  have LN := Lib.hid hnn
  rw [← hnn] at SE c0 HN hn
  clear hnn
  go_enter Tryz.func82, Tryz.ntmps82
  go_upto_region 1 with fail
  rw [HWW.out]
  go_wp2_with fail
  go_loopw [6] (fun i wr => ∃ k j : Nat, k ≤ n ∧ i = .int .i64 k ∧ findT (ts.take k) x = none ∧ wr = W.drewN j) (fun i _ => n - (intOf i).toNat)
  case atStart => exact ⟨0, 0, Nat.zero_le _, rfl, rfl, rfl⟩
  case round =>
    obtain ⟨k, j, hk, rfl, hnone, rfl⟩ := hrel
    have HNO := Lib.hid hnone
    clear hnone
    by_cases hlt : k < n
    · obtain ⟨a, t, cs, rfl, hab, ht, hcs, ⟨e1, g, gc, rest, e2, e3, ⟨e4, e5⟩, e6⟩, e7, e8, _⟩ := EL'.out.get (by rw [← LN.out]; exact SE.out) (by rw [← LN.out]; exact hlt) (by omega)
      subst e2
      have HT := Lib.hid ht
      have CA : Hid (∀ j u, (bv t.key)[j]? = some u → W.cell? ((a.add (k * 33)).add j) = some u) := Lib.hid fun j u hu => e8 j u (by rw [List.getElem?_append_left (List.getElem?_eq_some_iff.1 hu).1]; exact hu)
      have HSX := Lib.hid (show (Tryz.prog.info? 78).map (·.size) = some (bv t.key).length by rw [size_key, bv_length, e1])
      have NQ : ∀ w, (binOp .eql 78 (.agg (bv t.key).toArray) (.agg X.toArray)).run Tryz.prog w = .ok (.bool (decide (t.key = x))) w := fun w => by rw [HXX.out]; exact key_eql e1 HX.out.1 w
      have c32 : W.cell? ⟨(a.add (k * 33)).block, (a.add (k * 33)).off + 32, none⟩ = some (.slice (some ⟨g, 0, none⟩) t.keys.length gc) := e8 32 _ (by rw [List.getElem?_append_right (by rw [bv_length, e1]; exact Nat.le_refl _), bv_length, e1]; rfl)
      have RG := Lib.hid e3
      obtain ⟨h32, h1, h256⟩ := (show (∀ y ∈ t.keys, y.length = 32) ∧ 1 ≤ t.keys.length ∧ t.keys.length ≤ 256 from ⟨(HR.out.good t (List.mem_of_getElem? ht)).keys, (HR.out.good t (List.mem_of_getElem? ht)).one, (HR.out.good t (List.mem_of_getElem? ht)).most⟩)
      have H32 := Lib.hid h32
      have KI := Lib.hid (keys_row RG.out rfl h32 RG.out.lt)
      clear ht hcs e1 e3 e4 e5 e6 e7 e8 hab h32
      generalize bv t.key = Y at *
      by_cases hyy : t.key = x
      · rw [decide_eq_true hyy] at NQ
        have HF := Lib.hid (findT_hit HT.out HNO.out hyy)
        clear hyy
        generalize hm : t.keys.length = m at *
        go_wp2_with fail
        refine wp_region_quiet_lit (by kernel_rfl) (by kernel_rfl) ?_
        repeat (first
          | ((with_reducible show wpQuiet _ _ _ _ ({ dst := some 23, op := Op.load _ _, type := _, pos := _, after := _, guard := _ } :: _) _); go_must (refine quiet_load_at (by kernel_rfl) 78 (.tmp 22) rfl (a.add (k * 33)) Y _ Tryz.underlying78 rfl HSX.out (by rintro _ ⟨nq, rfl⟩; exact CA.out) ?_ ?_; go_simp; go_simp))
          | ((with_reducible show wpQuiet _ _ _ _ ({ dst := some 24, op := Op.load _ _, type := _, pos := _, after := _, guard := _ } :: _) _); go_must (refine quiet_load_at (by kernel_rfl) 78 (.tmp 3) rfl ⟨w.heap.size, 0, none⟩ X _ Tryz.underlying78 rfl HSZ.out (by rintro _ ⟨nq, rfl⟩; exact fun j v hv => by rw [addr_row, Nat.zero_add]; exact (RX.out.cell j).trans hv) ?_ ?_; go_simp; go_simp))
          | go_big_quiet_step (fail))
        refine wpQuiet_nil ?_
        intro nq
        have HSG : Hid (Sees (W.drewN (j + nq)) W.heap.size (some ⟨g, 0, none⟩) (m * 32) (bv t.keys.flatten)) := Lib.hid (KI.out.sees.keep fun p hp => rfl)
        have HB2 : Hid (Below w.heap.size w (W.drewN (j + nq))) := Lib.hid (below_drewN HB0.out (j + nq))
        have HE : Hid (fErr ts x = 0) := Lib.hid (by unfold fErr; rw [HF.out]; rfl)
        have HKK : Hid (fKeys ts x = t.keys) := Lib.hid (by unfold fKeys; rw [HF.out]; rfl)
        have HM := Lib.hid hm
        clear hm
        go_wp2_with ((with_reducible show wpList _ _ _ ({ dst := some 34, op := _, type := _, pos := _, after := _, guard := _ } :: _) _ _); go_must (refine wpList_appendN rfl (.const (.slice none 0 0)) (.tmp 33) 34 78 _ 32 32 rfl Tryz.underlying34 info_key zsz6 (by omega) (.slice none 0 0) 0 [] w.heap.size _ (some ⟨g, 0, none⟩) m gc (bv t.keys.flatten) rfl (World.ownsRow_nil _ _ _ _) ?_ HSG.out (bv_one _) (by unfold maxLen; omega) (by omega) HB2.out.size ?_; go_simp; intro v1 u1 ho1 hg1; rw [Nat.zero_add, List.nil_append] at ho1; obtain ⟨A1, c1, rfl, hs1, _, _, hlo1⟩ := own_form2 ho1; have SE1 := Lib.hid hs1; have GB := Lib.hid (hg1.below (World.ownsRow_nil _ _ 78 32) (Nat.le_refl _)); have LO1 := Lib.hid hlo1; clear ho1 hg1 hs1 hlo1))
        go_ret2
        refine ⟨A1, m, c1, by rw [HE.out]; rfl, ?_, h256, HB2.out.trans (GB.out.mono HB2.out.size), fun a' ha => by subst ha; exact (LO1.out _ rfl).1⟩
        rw [HKK.out]
        exact ⟨HM.out, H32.out, SE1.out⟩
      · rw [decide_eq_false hyy] at NQ
        have HF := Lib.hid (findT_miss HT.out HNO.out hyy)
        clear hyy c32
        go_wp2_with fail
        refine wp_region_quiet_lit (by kernel_rfl) (by kernel_rfl) ?_
        repeat (first
          | ((with_reducible show wpQuiet _ _ _ _ ({ dst := some 23, op := Op.load _ _, type := _, pos := _, after := _, guard := _ } :: _) _); go_must (refine quiet_load_at (by kernel_rfl) 78 (.tmp 22) rfl (a.add (k * 33)) Y _ Tryz.underlying78 rfl HSX.out (by rintro _ ⟨nq, rfl⟩; exact CA.out) ?_ ?_; go_simp; go_simp))
          | ((with_reducible show wpQuiet _ _ _ _ ({ dst := some 24, op := Op.load _ _, type := _, pos := _, after := _, guard := _ } :: _) _); go_must (refine quiet_load_at (by kernel_rfl) 78 (.tmp 3) rfl ⟨w.heap.size, 0, none⟩ X _ Tryz.underlying78 rfl HSZ.out (by rintro _ ⟨nq, rfl⟩; exact fun j v hv => by rw [addr_row, Nat.zero_add]; exact (RX.out.cell j).trans hv) ?_ ?_; go_simp; go_simp))
          | go_big_quiet_step (fail))
        refine wpQuiet_nil ?_
        intro nq
        go_wp2_with fail
        go_roundw
        case rel => exact ⟨k + 1, j + nq, by omega, by go_num, HF.out, by simp⟩
        case measure => simp [intOf]; omega
    · have hkn : k = n := by omega
      have HF : Hid (findT ts x = none) := Lib.hid (by have := HNO.out; rwa [hkn, LN.out, List.take_length] at this)
      have HE : Hid (fErr ts x = 11) := Lib.hid (by unfold fErr; rw [HF.out]; rfl)
      have HKK : Hid (fKeys ts x = []) := Lib.hid (by unfold fKeys; rw [HF.out]; rfl)
      clear hkn
      go_wp2_with fail
      go_ret2
      refine ⟨none, 0, 0, by rw [HE.out]; rfl, ?_, by omega, below_drewN HB0.out j, fun a' ha => by cases ha⟩
      rw [HKK.out]
      exact ⟨rfl, by simp, Sees.nil _ _ _⟩
end Go.Proofs.YtdgbodljmdcagaaGreatDoor
