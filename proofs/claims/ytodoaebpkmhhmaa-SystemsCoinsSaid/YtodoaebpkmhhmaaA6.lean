/-
  Parts joined: RefDeed14.
-/
import Derived.Below
import Derived.Laws.OwnMore
import Derived.Deep.AppendLies
import Derived.Deep.Draws
import Derived.Lib.Hide
import Derived.Laws.MakeOwn
import Derived.Laws.CopyOwn
import Derived.Laws.Rows
import Derived.Laws.BitsAllLaws
import Derived.WalkKit
import Derived.Test.YtodoaebpkmhhmaaRows
import Derived.WalkSpells
import Derived.WalkLawsBesides
import Derived.IntWalk
import Derived.Deep.MidRow
import Derived.Deep.WholeRow
import Derived.Maps.AppendAt
import Derived.OwnWalk
import Derived.Great.BuildSlice
import Derived.Recover
import Derived.Deep.RegionHeld
import Derived.Deep.QuietTactic
import Derived.BigQuiet
import Derived.ChangeKeysEq
import Derived.ProofKit
import Derived.OpenShut
import Derived.ShutString
import Derived.ChangeOld
import Derived.Lib.SmallJoins
import Derived.Deep.Slices
import Derived.Deep.Strs
import Derived.SizedLaws
import Derived.Deep.RegionHeld2
import Derived.Deep.CutBlock
import Derived.Laws.Tables
import Derived.Laws.StructEq
import Derived.Laws.Slices
import Derived.Deep.DeepCutAuto
import Derived.Laws.EntriesVeiled
import Derived.Deep.RegionHeld3
import Derived.Maps.OwnSet
import Derived.DeepKeys4
import Derived.WideKeyArr
import Derived.WideKeyEntry
import Derived.WalkMore
import Derived.Test.YtodoaebpkmhhmaaA1
import Derived.Test.YtodoaebpkmhhmaaA2
import Derived.Test.YtodoaebpkmhhmaaA3
import Derived.Test.YtodoaebpkmhhmaaA4
import Derived.Test.YtodoaebpkmhhmaaA5
/-
  Of part RefDeed14: what is needed here.
-/
namespace Go.Proofs.Ytodoaebpkmhhmaa
open Go.RowKit
set_option linter.unusedVariables false
set_option maxRecDepth 100000
theorem plc_conv {F : Nat} {args : Array Value} {w : World} {x : LAsk} {r : List LRole} {acc : List Int} {a b : Nat} (h : Calls Try.prog F args w (PlcDone w x r acc)) (hp : plc14 x r acc = 0) (ha : acc.getD 0 0 = a) (hb : acc.getD (need14 x - 1) 0 = b) :
    Calls Try.prog F args w fun e w' => e = .returned (.tuple #[.int .i64 a, .int .i64 b, .int .i64 0]) ∧ Below w.heap.size w w' := by
  have e : PlcDone w x r acc = fun e w' => e = .returned (.tuple #[.int .i64 a, .int .i64 b, .int .i64 0]) ∧ Below w.heap.size w w' := by
    unfold PlcDone plcA plcB
    rw [hp, if_pos rfl, if_pos rfl, ha, hb]
  rw [e] at h
  exact h
theorem do_is {l : List LAcc} {r : List LRole} {acc dat : List Int} {x : LAsk} {a b : Nat} (hn : l.length = r.length) (hdat : dat14 dat = some x) (hp : plc14 x r acc = 0) (ha : acc.getD 0 0 = a) (hb : acc.getD (need14 x - 1) 0 = b) : do14 l r acc dat = deed14 l x a b := by
  unfold do14
  rw [if_neg (by omega), hdat]
  dsimp only
  rw [if_neg (by rw [hp]; simp), ha, hb, Int.toNat_natCast, Int.toNat_natCast]
theorem own_out14 {w : World} {base n : Nat} {v : Value} {L : List LAcc} (h : w.ownsRow base 48 34 v n (accsC L)) (hn : L.length = n) (h0 : 0 < n) (ho : ∀ x ∈ L, AccOk x) : ∃ g cap rest, v = .slice (some ⟨g, 0, none⟩) n cap ∧ OutAt w base g cap n rest L := by
  rcases h.2 with ⟨_, e⟩ | ⟨g, cap, cur, hv, hg, hh, h1, h2, h3, h4⟩
  · omega
  · have e : cur.toList = accsC L ++ cur.toList.drop (n * 34) := by rw [← h4, List.take_append_drop]
    refine ⟨g, cap, cur.toList.drop (n * 34), hv, ⟨⟨?_⟩, hg, hn, ⟨h1, h2⟩, ?_, ho⟩⟩
    · rw [hh, ← e]
    · rw [← e, Array.length_toList, h3]
theorem do_good14 {w w' : World} {R : Res14} {v : Value} {L : List LAcc} {n : Int} (h : R = ⟨0, L, n⟩) (ho : OA14 w' w.heap.size v L) (hb : Below w.heap.size w w') : DoDone w R (.returned (.tuple #[v, .int .u64 n, .int .i64 0])) w' := by
  subst h
  exact ⟨_, rfl, ho, hb⟩
theorem acc_setC14 (a : LAcc) (z : Int) : a.cells.set 0 (.int .u64 z) = (LAcc.mk z a.o a.s).cells := rfl
theorem acc_setS14 {a : LAcc} (h : a.o.length = 32) (z : Int) : a.cells.set 33 (.int .u64 z) = (LAcc.mk a.c a.o z).cells := by
  unfold LAcc.cells
  rw [show (33 : Nat) = 32 + 1 from rfl, List.set_cons_succ, List.set_append_right _ _ (by rw [bv_length, h]; omega), bv_length, h]
  rfl
theorem acc_setO14 {a : LAcc} (h : a.o.length = 32) {o : List Int} (ho : o.length = 32) : a.cells.take 1 ++ bv o ++ a.cells.drop (1 + (bv o).length) = (LAcc.mk a.c o a.s).cells := by
  unfold LAcc.cells
  rw [bv_length, ho, show (1 + 32 : Nat) = 32 + 1 from rfl, List.drop_succ_cons, List.drop_append, bv_length, h]
  simp [bv_length, h]
theorem accs_whole14 {a : LAcc} (h : a.o.length = 32) {y : LAcc} (hy : y.o.length = 32) : a.cells.take 0 ++ y.cells ++ a.cells.drop (0 + y.cells.length) = y.cells := by
  rw [List.take_zero, List.nil_append, Nat.zero_add, List.drop_of_length_le (by rw [acc_len h, acc_len hy]; exact Nat.le_refl _), List.append_nil]
theorem built_acc14 (c s : Int) {o : List Int} (ho : o.length = 32) : Try.prog.built 48 [(0, .int .u64 c), (1, .agg (bv o).toArray), (2, .int .u64 s)] = some (LAcc.mk c o s).cells.toArray := by
  have e : ∀ f : Fin 32 → Int, Try.prog.built 48 [(0, .int .u64 c), (1, .agg (bv (List.ofFn f)).toArray), (2, .int .u64 s)] = some (LAcc.mk c (List.ofFn f) s).cells.toArray := fun f => by kernel_rfl
  have h : o = List.ofFn fun i : Fin 32 => o.getD i.1 0 := by
    apply List.ext_getElem
    · rw [List.length_ofFn, ho]
    · intro i h1 h2
      rw [List.getElem_ofFn, List.getD_eq_getElem?_getD, List.getElem?_eq_getElem h1]
      rfl
  rw [h]
  exact e _
/-- what lies there while the list is written -/
structure PD (w V : World) (g g9 cap n : Nat) (rest : List Value) (x : LAsk) (out : List LAcc) : Prop where
  b : Below w.heap.size w V
  o : OutAt V w.heap.size g cap n rest out
  r9 : Row V g9 77 (askC x)
  ne : g9 ≠ g
section
variable {w V V' : World} {g g9 cap n k : Nat} {rest : List Value} {x : LAsk} {out : List LAcc}
theorem PD.below (h : PD w V g g9 cap n rest x out) (hb : Below V.heap.size V V') : PD w V' g g9 cap n rest x out := ⟨h.b.trans (hb.mono h.b.size), h.o.below hb, h.r9.below hb h.r9.lt, h.ne⟩
theorem PD.drewN (h : PD w V g g9 cap n rest x out) (q : Nat) : PD w (V.drewN q) g g9 cap n rest x out :=
  ⟨h.b.trans ⟨rfl, rfl, rfl, Nat.le_refl _, fun _ _ => rfl⟩, ⟨h.o.row.drewN q, h.o.lo, h.o.len, h.o.room, h.o.all, h.o.ok⟩, h.r9.drewN q, h.ne⟩
theorem PD.drew (h : PD w V g g9 cap n rest x out) : PD w V.drew g g9 cap n rest x out :=
  ⟨h.b.trans ⟨rfl, rfl, rfl, Nat.le_refl _, fun _ _ => rfl⟩, ⟨h.o.row.drew, h.o.lo, h.o.len, h.o.room, h.o.all, h.o.ok⟩, h.r9.drew, h.ne⟩
theorem PD.part (h : PD w V g g9 cap n rest x out) (hk : k < n) {o : Nat} {cs : List Value} {y : LAcc} (hy : AccOk y) (hc : (getA out k).cells.take o ++ cs ++ (getA out k).cells.drop (o + cs.length) = y.cells) (ho : o + cs.length ≤ 34)
    (hr : Row V' g 48 ((accsC out ++ rest).take (k * 34 + o) ++ cs ++ (accsC out ++ rest).drop (k * 34 + o + cs.length))) (ht : Turned V V' g) : PD w V' g g9 cap n rest x (out.set k y) :=
  ⟨h.b.trans (ht.below h.o.lo), h.o.part hk hy hc ho hr, ht.row h.r9 h.ne, h.ne⟩
theorem PD.one (h : PD w V g g9 cap n rest x out) (hk : k < n) {o : Nat} {u : Value} {y : LAcc} (hy : AccOk y) (ho : o < 34) (hc : (getA out k).cells.set o u = y.cells) : PD w (V.setCell ⟨g, k * 34 + o, none⟩ u) g g9 cap n rest x (out.set k y) :=
  ⟨h.b.trans ((turned_setCell V ⟨g, k * 34 + o, none⟩ u).below h.o.lo), h.o.one hk hy ho hc, (turned_setCell V ⟨g, k * 34 + o, none⟩ u).row h.r9 h.ne, h.ne⟩
theorem PD.c (h : PD w V g g9 cap n rest x out) (hk : k < n) : V.cell? ⟨g, k * 34, none⟩ = some (.int .u64 (getA out k).c) := h.o.cell hk (acc_c _)
theorem PD.s (h : PD w V g g9 cap n rest x out) (hk : k < n) : V.cell? ⟨g, k * 34 + 33, none⟩ = some (.int .u64 (getA out k).s) := h.o.cell hk (acc_s (getA_ok h.o.ok k).o.1)
theorem PD.own (h : PD w V g g9 cap n rest x out) (hk : k < n) : ∀ j u, (bv (getA out k).o)[j]? = some u → V.cell? ((⟨g, k * 34 + 1, none⟩ : Addr).add j) = some u := fun j u hu => by
  rw [addr_row, Nat.add_assoc]
  exact h.o.cell hk (acc_o hu)
theorem PD.all (h : PD w V g g9 cap n rest x out) (hk : k < n) : ∀ j u, (getA out k).cells[j]? = some u → V.cell? ((⟨g, k * 34, none⟩ : Addr).add j) = some u := fun j u hu => by
  rw [addr_row]
  exact h.o.cell hk hu
theorem PD.x0 (h : PD w V g g9 cap n rest x out) : V.cell? ⟨g9, 0, none⟩ = some (.int .u64 x.tag) := h.r9.cell 0
theorem PD.x1 (h : PD w V g g9 cap n rest x out) : V.cell? ⟨g9, 1, none⟩ = some (.int .u64 x.coins) := h.r9.cell 1
theorem PD.x2 (h : PD w V g g9 cap n rest x out) : V.cell? ⟨g9, 2, none⟩ = some (.int .u64 x.space) := h.r9.cell 2
theorem PD.xo (h : PD w V g g9 cap n rest x out) : ∀ j u, (bv x.owner)[j]? = some u → V.cell? ((⟨g9, 3, none⟩ : Addr).add j) = some u := fun j u hu => by
  rw [addr_row, h.r9.cell, Nat.add_comm]
  exact hu
theorem PD.fz (h : PD w V g g9 cap n rest x out) (i : Nat) : V.frozen? ⟨g, i, none⟩ = false := h.o.row.frozen i
theorem PD.room (h : PD w V g g9 cap n rest x out) (hk : k < n) : k * 34 + 34 ≤ (accsC out ++ rest).length := by
  rw [h.o.all]
  have := Nat.mul_le_mul_right 34 (show k + 1 ≤ cap from Nat.le_trans hk h.o.room.1)
  omega
theorem PD.done (h : PD w V g g9 cap n rest x out) : OA14 V w.heap.size (.slice (some ⟨g, 0, none⟩) n cap) out := h.o.done
end
set_option maxHeartbeats 8000000 in
theorem make_there (l : List LAcc) (r : List LRole) (p : Int) (IA : Option Addr) (n c : Nat) (D : Option Addr) (dn dc : Nat) (acc dat : List Int) (LA : Option Addr) (ln lc : Nat) (RA : Option Addr) (rn rc : Nat) (B : Nat) (w : World)
    (hl : AccsIn w B LA ln l) (hlc : ln ≤ lc) (hr : RolesIn w B RA rn r) (hi : InsAt14 w B p IA n c D dn dc acc dat) (hB : B ≤ w.heap.size) (hn : n ≤ 100000) (hln : ln ≤ 100000) (hrn : rn ≤ 100000) (heq : ln = rn) (x : LAsk) (hdat : dat14 dat = some x) (hp : plc14 x r acc = 0) (a b : Nat) (ha : acc.getD 0 0 = a) (hb : acc.getD (need14 x - 1) 0 = b) (han : a < ln) (hbn : b < ln) (ht : x.tag = 0) (h1 : getA l b ≠ blank13) :
    Calls Try.prog 13 #[.slice LA ln lc, .slice RA rn rc, .agg (insC p IA n c D dn dc).toArray] w (DoDone w (do14 l r acc dat)) := by
  have HAN := Lib.hid han
  have HBN := Lib.hid hbn
  have HD : Hid (do14 l r acc dat = bad14 12) := Lib.hid (by
    rw [do_is (by rw [hl.len, hr.len]; exact heq) hdat hp ha hb]
    rw [deed14, if_pos ht]
    unfold make14
    rw [if_pos h1])
  have HAO := Lib.hid (dat14_ok hi.db hdat)
  have HPC := Lib.hid (show ∀ (F : Nat) (args : Array Value) (w : World), Calls Try.prog F args w (PlcDone w x r acc) → Calls Try.prog F args w fun e w' => e = .returned (.tuple #[.int .i64 a, .int .i64 b, .int .i64 0]) ∧ Below w.heap.size w w' from fun _ _ _ h => plc_conv h hp ha hb)
  have HT := Lib.hid ht
  have HLO := Lib.hid hl.ok
  subst heq
  clear hp ha hb ht
  have HLL := Lib.hid hl.len
  have HLR := Lib.hid hr.len
  have hbw := (Below.refl w.heap.size w).alloc (Nat.le_refl _) (.cells (insC p IA n c D dn dc).toArray 26)
  have HBW := Lib.hid hbw
  have R5 := Lib.hid (Row.new w 26 (insC p IA n c D dn dc))
  have HL := Lib.hid (hl.below (hbw.mono hB))
  have HR := Lib.hid (hr.below (hbw.mono hB))
  have HI := Lib.hid (hi.below (hbw.mono hB))
  have HB := Lib.hid hB
  clear hbw hl hr hi
  obtain ⟨g5, hg5⟩ : ∃ g, g = w.heap.size := ⟨_, rfl⟩
  have HG5 : Hid (w.heap.size = g5) := Lib.hid hg5.symm
  rw [← hg5] at R5
  clear hg5
  generalize hW : w.alloc (.cells (insC p IA n c D dn dc).toArray 26) = W at *
  have HW := Lib.hid hW
  clear hW
  go_enter Try.func13, Try.ntmps13
  go_upto_region 1 with fail
  try rw [HG5.out]
  rw [HW.out]
  clear HG5 HW
  have c52 : W.cell? ⟨g5, 2, none⟩ = some (.slice D dn dc) := R5.out.cell 2
  have HDA := Lib.hid (refData14 D dn dc B dat W HI.out.dSees (Nat.le_trans HB.out HBW.out.size) HI.out.dc.1 HI.out.dc.2 HI.out.db)
  rw [hdat] at HDA
  go_upto_region 3 with fail
  go_wp2_with fail
  clear c52
  refine HDA.out.mono ?_
  rintro e w1 ⟨rfl, hb1⟩
  have B1 := Lib.hid hb1
  clear hb1 HDA
  go_upto_region 6 with (first
    | ((with_reducible show wpList _ _ _ ({ dst := some 9, op := Op.alloc _, type := _, pos := _, after := _, guard := _ } :: _) _ _); go_must (refine wpList_alloc_zero rfl 77 rfl (askC ask0) zero_ask ?_))
    | ((with_reducible show wpList _ _ _ ({ dst := none, op := Op.store 77 _ _, type := _, pos := _, after := _, guard := _ } :: _) _ _); go_must (refine wpList_store_new rfl 77 (.tmp 9) (.tmp 24) rfl (askC ((some x).getD ask0)) (size_ask HAO.out.o.1) (ask_one _) ((show (askC ask0).toArray.size = 35 from rfl).trans (ask_len HAO.out.o.1).symm) ?_ ?_ ?_; go_simp; go_simp; intro w2 hr2 hb2 hz2)))
  have R9 := Lib.hid hr2
  have B2 := Lib.hid (HBW.out.trans ((B1.out.trans (hb2.mono B1.out.size)).mono HBW.out.size))
  have R52 := Lib.hid (R5.out.below (B1.out.trans (hb2.mono B1.out.size)) R5.out.lt)
  have HK := Lib.hid (show Below B W w2 from (B1.out.trans (hb2.mono B1.out.size)).mono (Nat.le_trans HB.out HBW.out.size))
  have HP := Lib.hid (HPC.out _ _ _ (refPlaces14 x HAO.out p IA n c D dn dc acc RA ln rc r B w2 (HI.out.aSees.below HK.out) HI.out.ab (HR.out.below HK.out) (Nat.le_trans HB.out B2.out.size) hn hln))
  obtain ⟨g9, hg9⟩ : ∃ g, g = w1.heap.size := ⟨_, rfl⟩
  have HG9 : Hid (w.heap.size ≤ g9) := Lib.hid (by have := HBW.out.size; have := B1.out.size; omega)
  rw [← hg9] at R9 ⊢
  clear hr2 hb2 hz2 hg9 B1
  go_wp2_with (first
    | ((with_reducible show wpList _ _ _ ({ dst := some 29, op := Op.load _ _, type := _, pos := _, after := _, guard := _ } :: _) _ _); go_must (refine wpList_load_whole rfl 77 (.tmp 9) rfl g9 77 (askC x) _ Try.underlying77 rfl (size_ask HAO.out.o.1) R9.out ?_ ?_; go_simp))
    | ((with_reducible show wpList _ _ _ ({ dst := some 31, op := Op.load _ _, type := _, pos := _, after := _, guard := _ } :: _) _ _); go_must (refine wpList_load_whole rfl 26 (.tmp 5) rfl g5 26 (insC p IA n c D dn dc) _ Try.underlying26 rfl (by kernel_rfl) R52.out ?_ ?_; go_simp)))
  refine HP.out.mono ?_
  rintro e w3 ⟨rfl, hb3⟩
  have B3 := Lib.hid (B2.out.trans (hb3.mono B2.out.size))
  have R93 := Lib.hid (R9.out.below hb3 R9.out.lt)
  have HK3 := Lib.hid (show Below B W w3 from HK.out.trans (hb3.mono (Nat.le_trans HB.out B2.out.size)))
  clear hb3 HP R9 R52 B2 HK HPC
  have HLS := Lib.hid (HL.out.below HK3.out).sees
  have HLT := Lib.hid R93.out.lt
  go_upto_region 10 with (first
    | ((with_reducible show wpList _ _ _ ({ dst := some 40, op := _, type := _, pos := _, after := _, guard := _ } :: _) _ _); go_must (refine wpList_appendN rfl (.const (.slice none 0 0)) (.tmp 39) 22 48 _ 34 48 rfl Try.underlying22 infoAc14 zszAc14 (by omega) (.slice none 0 0) 0 [] w3.heap.size B LA ln lc (accsC l) rfl (own_nilN _ _ _ _) ?_ HLS.out (accsC_one _) (by unfold maxLen; omega) (by omega) (Nat.le_refl _) ?_; go_simp; intro v4 w4 ho4 hg4)))
  rw [Nat.zero_add, List.nil_append] at ho4
  obtain ⟨g, cap, rest, rfl, hO⟩ := own_out14 ho4 HLL.out (by omega) HLO.out
  have hb4 := hg4.below (own_nilN w3 w3.heap.size 48 34) (Nat.le_refl _)
  have P4 : Hid (PD w w4 g g9 cap ln rest x l) := Lib.hid ⟨B3.out.trans (hb4.mono B3.out.size), hO.low (B3.out.size), R93.out.below hb4 R93.out.lt, by have := hO.lo; have := HLT.out; omega⟩
  clear ho4 hg4 hO hb4 HLS HLT R93 HK3 B3
  have HCC := Lib.hid P4.out.o.room.1
  have c90 : w4.cell? ⟨g9, 0, none⟩ = some (.int .u64 0) := P4.out.x0.trans (by rw [HT.out])
  have NE := Lib.hid (fun w => acc_neq (getA_ok P4.out.o.ok b).o.1 (show blank13.o.length = 32 from rfl) w)
  rw [decide_eq_false h1] at NE
  clear h1
  have ne1 := NE.out
  go_wp2_with (first
    | ((with_reducible show wpList _ _ _ ({ dst := some 63, op := Op.load _ _, type := _, pos := _, after := _, guard := _ } :: _) _ _); go_must (refine wpList_load_at rfl 48 (.tmp 62) rfl ⟨g, b * 34, none⟩ (getA l b).cells _ Try.underlying48 rfl (size_acc (getA_ok P4.out.o.ok _).o.1) (P4.out.all HBN.out) ?_ ?_; go_simp))
    | ((with_reducible show wpList _ _ _ ({ dst := some 64, op := Op.build _ _, type := _, pos := _, after := _, guard := _ } :: _) _ _); go_must (refine wpList_plain rfl fun K hK => wp_built _ _ _ rfl (by simp only [List.map_toArray, List.map_nil]; exact built_blank) (hK _ _ ?_))))
  go_ret3
  exact do_ends HD.out P4.out.b
set_option maxHeartbeats 8000000 in
theorem make_owner (l : List LAcc) (r : List LRole) (p : Int) (IA : Option Addr) (n c : Nat) (D : Option Addr) (dn dc : Nat) (acc dat : List Int) (LA : Option Addr) (ln lc : Nat) (RA : Option Addr) (rn rc : Nat) (B : Nat) (w : World)
    (hl : AccsIn w B LA ln l) (hlc : ln ≤ lc) (hr : RolesIn w B RA rn r) (hi : InsAt14 w B p IA n c D dn dc acc dat) (hB : B ≤ w.heap.size) (hn : n ≤ 100000) (hln : ln ≤ 100000) (hrn : rn ≤ 100000) (heq : ln = rn) (x : LAsk) (hdat : dat14 dat = some x) (hp : plc14 x r acc = 0) (a b : Nat) (ha : acc.getD 0 0 = a) (hb : acc.getD (need14 x - 1) 0 = b) (han : a < ln) (hbn : b < ln) (ht : x.tag = 0) (h1 : getA l b = blank13) (h2 : ¬ plain14 (getA l a)) :
    Calls Try.prog 13 #[.slice LA ln lc, .slice RA rn rc, .agg (insC p IA n c D dn dc).toArray] w (DoDone w (do14 l r acc dat)) := by
  have HAN := Lib.hid han
  have HBN := Lib.hid hbn
  have HD : Hid (do14 l r acc dat = bad14 16) := Lib.hid (by
    rw [do_is (by rw [hl.len, hr.len]; exact heq) hdat hp ha hb]
    rw [deed14, if_pos ht]
    unfold make14
    rw [if_neg (by simpa using h1), if_pos h2])
  have HAO := Lib.hid (dat14_ok hi.db hdat)
  have HPC := Lib.hid (show ∀ (F : Nat) (args : Array Value) (w : World), Calls Try.prog F args w (PlcDone w x r acc) → Calls Try.prog F args w fun e w' => e = .returned (.tuple #[.int .i64 a, .int .i64 b, .int .i64 0]) ∧ Below w.heap.size w w' from fun _ _ _ h => plc_conv h hp ha hb)
  have HT := Lib.hid ht
  have HLO := Lib.hid hl.ok
  subst heq
  clear hp ha hb ht
  have HLL := Lib.hid hl.len
  have HLR := Lib.hid hr.len
  have hbw := (Below.refl w.heap.size w).alloc (Nat.le_refl _) (.cells (insC p IA n c D dn dc).toArray 26)
  have HBW := Lib.hid hbw
  have R5 := Lib.hid (Row.new w 26 (insC p IA n c D dn dc))
  have HL := Lib.hid (hl.below (hbw.mono hB))
  have HR := Lib.hid (hr.below (hbw.mono hB))
  have HI := Lib.hid (hi.below (hbw.mono hB))
  have HB := Lib.hid hB
  clear hbw hl hr hi
  obtain ⟨g5, hg5⟩ : ∃ g, g = w.heap.size := ⟨_, rfl⟩
  have HG5 : Hid (w.heap.size = g5) := Lib.hid hg5.symm
  rw [← hg5] at R5
  clear hg5
  generalize hW : w.alloc (.cells (insC p IA n c D dn dc).toArray 26) = W at *
  have HW := Lib.hid hW
  clear hW
  go_enter Try.func13, Try.ntmps13
  go_upto_region 1 with fail
  try rw [HG5.out]
  rw [HW.out]
  clear HG5 HW
  have c52 : W.cell? ⟨g5, 2, none⟩ = some (.slice D dn dc) := R5.out.cell 2
  have HDA := Lib.hid (refData14 D dn dc B dat W HI.out.dSees (Nat.le_trans HB.out HBW.out.size) HI.out.dc.1 HI.out.dc.2 HI.out.db)
  rw [hdat] at HDA
  go_upto_region 3 with fail
  go_wp2_with fail
  clear c52
  refine HDA.out.mono ?_
  rintro e w1 ⟨rfl, hb1⟩
  have B1 := Lib.hid hb1
  clear hb1 HDA
  go_upto_region 6 with (first
    | ((with_reducible show wpList _ _ _ ({ dst := some 9, op := Op.alloc _, type := _, pos := _, after := _, guard := _ } :: _) _ _); go_must (refine wpList_alloc_zero rfl 77 rfl (askC ask0) zero_ask ?_))
    | ((with_reducible show wpList _ _ _ ({ dst := none, op := Op.store 77 _ _, type := _, pos := _, after := _, guard := _ } :: _) _ _); go_must (refine wpList_store_new rfl 77 (.tmp 9) (.tmp 24) rfl (askC ((some x).getD ask0)) (size_ask HAO.out.o.1) (ask_one _) ((show (askC ask0).toArray.size = 35 from rfl).trans (ask_len HAO.out.o.1).symm) ?_ ?_ ?_; go_simp; go_simp; intro w2 hr2 hb2 hz2)))
  have R9 := Lib.hid hr2
  have B2 := Lib.hid (HBW.out.trans ((B1.out.trans (hb2.mono B1.out.size)).mono HBW.out.size))
  have R52 := Lib.hid (R5.out.below (B1.out.trans (hb2.mono B1.out.size)) R5.out.lt)
  have HK := Lib.hid (show Below B W w2 from (B1.out.trans (hb2.mono B1.out.size)).mono (Nat.le_trans HB.out HBW.out.size))
  have HP := Lib.hid (HPC.out _ _ _ (refPlaces14 x HAO.out p IA n c D dn dc acc RA ln rc r B w2 (HI.out.aSees.below HK.out) HI.out.ab (HR.out.below HK.out) (Nat.le_trans HB.out B2.out.size) hn hln))
  obtain ⟨g9, hg9⟩ : ∃ g, g = w1.heap.size := ⟨_, rfl⟩
  have HG9 : Hid (w.heap.size ≤ g9) := Lib.hid (by have := HBW.out.size; have := B1.out.size; omega)
  rw [← hg9] at R9 ⊢
  clear hr2 hb2 hz2 hg9 B1
  go_wp2_with (first
    | ((with_reducible show wpList _ _ _ ({ dst := some 29, op := Op.load _ _, type := _, pos := _, after := _, guard := _ } :: _) _ _); go_must (refine wpList_load_whole rfl 77 (.tmp 9) rfl g9 77 (askC x) _ Try.underlying77 rfl (size_ask HAO.out.o.1) R9.out ?_ ?_; go_simp))
    | ((with_reducible show wpList _ _ _ ({ dst := some 31, op := Op.load _ _, type := _, pos := _, after := _, guard := _ } :: _) _ _); go_must (refine wpList_load_whole rfl 26 (.tmp 5) rfl g5 26 (insC p IA n c D dn dc) _ Try.underlying26 rfl (by kernel_rfl) R52.out ?_ ?_; go_simp)))
  refine HP.out.mono ?_
  rintro e w3 ⟨rfl, hb3⟩
  have B3 := Lib.hid (B2.out.trans (hb3.mono B2.out.size))
  have R93 := Lib.hid (R9.out.below hb3 R9.out.lt)
  have HK3 := Lib.hid (show Below B W w3 from HK.out.trans (hb3.mono (Nat.le_trans HB.out B2.out.size)))
  clear hb3 HP R9 R52 B2 HK HPC
  have HLS := Lib.hid (HL.out.below HK3.out).sees
  have HLT := Lib.hid R93.out.lt
  go_upto_region 10 with (first
    | ((with_reducible show wpList _ _ _ ({ dst := some 40, op := _, type := _, pos := _, after := _, guard := _ } :: _) _ _); go_must (refine wpList_appendN rfl (.const (.slice none 0 0)) (.tmp 39) 22 48 _ 34 48 rfl Try.underlying22 infoAc14 zszAc14 (by omega) (.slice none 0 0) 0 [] w3.heap.size B LA ln lc (accsC l) rfl (own_nilN _ _ _ _) ?_ HLS.out (accsC_one _) (by unfold maxLen; omega) (by omega) (Nat.le_refl _) ?_; go_simp; intro v4 w4 ho4 hg4)))
  rw [Nat.zero_add, List.nil_append] at ho4
  obtain ⟨g, cap, rest, rfl, hO⟩ := own_out14 ho4 HLL.out (by omega) HLO.out
  have hb4 := hg4.below (own_nilN w3 w3.heap.size 48 34) (Nat.le_refl _)
  have P4 : Hid (PD w w4 g g9 cap ln rest x l) := Lib.hid ⟨B3.out.trans (hb4.mono B3.out.size), hO.low (B3.out.size), R93.out.below hb4 R93.out.lt, by have := hO.lo; have := HLT.out; omega⟩
  clear ho4 hg4 hO hb4 HLS HLT R93 HK3 B3
  have HCC := Lib.hid P4.out.o.room.1
  have c90 : w4.cell? ⟨g9, 0, none⟩ = some (.int .u64 0) := P4.out.x0.trans (by rw [HT.out])
  have NE := Lib.hid (fun w => acc_neq (getA_ok P4.out.o.ok b).o.1 (show blank13.o.length = 32 from rfl) w)
  rw [decide_eq_true h1] at NE
  clear h1
  have ne1 := NE.out
  have HPL := Lib.hid (refPlain14 (getA l a) w4 (getA_ok P4.out.o.ok a))
  rw [decide_eq_false h2] at HPL
  clear h2
  go_wp2_with (first
    | ((with_reducible show wpList _ _ _ ({ dst := some 69, op := Op.load _ _, type := _, pos := _, after := _, guard := _ } :: _) _ _); go_must (refine wpList_load_at rfl 48 (.tmp 68) rfl ⟨g, a * 34, none⟩ (getA l a).cells _ Try.underlying48 rfl (size_acc (getA_ok P4.out.o.ok _).o.1) (P4.out.all HAN.out) ?_ ?_; go_simp))
    | ((with_reducible show wpList _ _ _ ({ dst := some 63, op := Op.load _ _, type := _, pos := _, after := _, guard := _ } :: _) _ _); go_must (refine wpList_load_at rfl 48 (.tmp 62) rfl ⟨g, b * 34, none⟩ (getA l b).cells _ Try.underlying48 rfl (size_acc (getA_ok P4.out.o.ok _).o.1) (P4.out.all HBN.out) ?_ ?_; go_simp))
    | ((with_reducible show wpList _ _ _ ({ dst := some 64, op := Op.build _ _, type := _, pos := _, after := _, guard := _ } :: _) _ _); go_must (refine wpList_plain rfl fun K hK => wp_built _ _ _ rfl (by simp only [List.map_toArray, List.map_nil]; exact built_blank) (hK _ _ ?_))))
  refine HPL.out.mono ?_
  rintro e w5 ⟨rfl, hb5⟩
  have P5 := Lib.hid (P4.out.below hb5)
  clear hb5 HPL P4
  go_wp2_with fail
  go_ret3
  exact do_ends HD.out P5.out.b
set_option maxHeartbeats 8000000 in
theorem make_limit (l : List LAcc) (r : List LRole) (p : Int) (IA : Option Addr) (n c : Nat) (D : Option Addr) (dn dc : Nat) (acc dat : List Int) (LA : Option Addr) (ln lc : Nat) (RA : Option Addr) (rn rc : Nat) (B : Nat) (w : World)
    (hl : AccsIn w B LA ln l) (hlc : ln ≤ lc) (hr : RolesIn w B RA rn r) (hi : InsAt14 w B p IA n c D dn dc acc dat) (hB : B ≤ w.heap.size) (hn : n ≤ 100000) (hln : ln ≤ 100000) (hrn : rn ≤ 100000) (heq : ln = rn) (x : LAsk) (hdat : dat14 dat = some x) (hp : plc14 x r acc = 0) (a b : Nat) (ha : acc.getD 0 0 = a) (hb : acc.getD (need14 x - 1) 0 = b) (han : a < ln) (hbn : b < ln) (ht : x.tag = 0) (h1 : getA l b = blank13) (h2 : plain14 (getA l a)) (h3 : 1048576 < x.space) :
    Calls Try.prog 13 #[.slice LA ln lc, .slice RA rn rc, .agg (insC p IA n c D dn dc).toArray] w (DoDone w (do14 l r acc dat)) := by
  have HAN := Lib.hid han
  have HBN := Lib.hid hbn
  have HD : Hid (do14 l r acc dat = bad14 3) := Lib.hid (by
    rw [do_is (by rw [hl.len, hr.len]; exact heq) hdat hp ha hb]
    rw [deed14, if_pos ht]
    unfold make14
    rw [if_neg (by simpa using h1), if_neg (by simpa using h2), if_pos h3])
  have HAO := Lib.hid (dat14_ok hi.db hdat)
  have HPC := Lib.hid (show ∀ (F : Nat) (args : Array Value) (w : World), Calls Try.prog F args w (PlcDone w x r acc) → Calls Try.prog F args w fun e w' => e = .returned (.tuple #[.int .i64 a, .int .i64 b, .int .i64 0]) ∧ Below w.heap.size w w' from fun _ _ _ h => plc_conv h hp ha hb)
  have HT := Lib.hid ht
  have HLO := Lib.hid hl.ok
  subst heq
  clear hp ha hb ht
  have HLL := Lib.hid hl.len
  have HLR := Lib.hid hr.len
  have hbw := (Below.refl w.heap.size w).alloc (Nat.le_refl _) (.cells (insC p IA n c D dn dc).toArray 26)
  have HBW := Lib.hid hbw
  have R5 := Lib.hid (Row.new w 26 (insC p IA n c D dn dc))
  have HL := Lib.hid (hl.below (hbw.mono hB))
  have HR := Lib.hid (hr.below (hbw.mono hB))
  have HI := Lib.hid (hi.below (hbw.mono hB))
  have HB := Lib.hid hB
  clear hbw hl hr hi
  obtain ⟨g5, hg5⟩ : ∃ g, g = w.heap.size := ⟨_, rfl⟩
  have HG5 : Hid (w.heap.size = g5) := Lib.hid hg5.symm
  rw [← hg5] at R5
  clear hg5
  generalize hW : w.alloc (.cells (insC p IA n c D dn dc).toArray 26) = W at *
  have HW := Lib.hid hW
  clear hW
  go_enter Try.func13, Try.ntmps13
  go_upto_region 1 with fail
  try rw [HG5.out]
  rw [HW.out]
  clear HG5 HW
  have c52 : W.cell? ⟨g5, 2, none⟩ = some (.slice D dn dc) := R5.out.cell 2
  have HDA := Lib.hid (refData14 D dn dc B dat W HI.out.dSees (Nat.le_trans HB.out HBW.out.size) HI.out.dc.1 HI.out.dc.2 HI.out.db)
  rw [hdat] at HDA
  go_upto_region 3 with fail
  go_wp2_with fail
  clear c52
  refine HDA.out.mono ?_
  rintro e w1 ⟨rfl, hb1⟩
  have B1 := Lib.hid hb1
  clear hb1 HDA
  go_upto_region 6 with (first
    | ((with_reducible show wpList _ _ _ ({ dst := some 9, op := Op.alloc _, type := _, pos := _, after := _, guard := _ } :: _) _ _); go_must (refine wpList_alloc_zero rfl 77 rfl (askC ask0) zero_ask ?_))
    | ((with_reducible show wpList _ _ _ ({ dst := none, op := Op.store 77 _ _, type := _, pos := _, after := _, guard := _ } :: _) _ _); go_must (refine wpList_store_new rfl 77 (.tmp 9) (.tmp 24) rfl (askC ((some x).getD ask0)) (size_ask HAO.out.o.1) (ask_one _) ((show (askC ask0).toArray.size = 35 from rfl).trans (ask_len HAO.out.o.1).symm) ?_ ?_ ?_; go_simp; go_simp; intro w2 hr2 hb2 hz2)))
  have R9 := Lib.hid hr2
  have B2 := Lib.hid (HBW.out.trans ((B1.out.trans (hb2.mono B1.out.size)).mono HBW.out.size))
  have R52 := Lib.hid (R5.out.below (B1.out.trans (hb2.mono B1.out.size)) R5.out.lt)
  have HK := Lib.hid (show Below B W w2 from (B1.out.trans (hb2.mono B1.out.size)).mono (Nat.le_trans HB.out HBW.out.size))
  have HP := Lib.hid (HPC.out _ _ _ (refPlaces14 x HAO.out p IA n c D dn dc acc RA ln rc r B w2 (HI.out.aSees.below HK.out) HI.out.ab (HR.out.below HK.out) (Nat.le_trans HB.out B2.out.size) hn hln))
  obtain ⟨g9, hg9⟩ : ∃ g, g = w1.heap.size := ⟨_, rfl⟩
  have HG9 : Hid (w.heap.size ≤ g9) := Lib.hid (by have := HBW.out.size; have := B1.out.size; omega)
  rw [← hg9] at R9 ⊢
  clear hr2 hb2 hz2 hg9 B1
  go_wp2_with (first
    | ((with_reducible show wpList _ _ _ ({ dst := some 29, op := Op.load _ _, type := _, pos := _, after := _, guard := _ } :: _) _ _); go_must (refine wpList_load_whole rfl 77 (.tmp 9) rfl g9 77 (askC x) _ Try.underlying77 rfl (size_ask HAO.out.o.1) R9.out ?_ ?_; go_simp))
    | ((with_reducible show wpList _ _ _ ({ dst := some 31, op := Op.load _ _, type := _, pos := _, after := _, guard := _ } :: _) _ _); go_must (refine wpList_load_whole rfl 26 (.tmp 5) rfl g5 26 (insC p IA n c D dn dc) _ Try.underlying26 rfl (by kernel_rfl) R52.out ?_ ?_; go_simp)))
  refine HP.out.mono ?_
  rintro e w3 ⟨rfl, hb3⟩
  have B3 := Lib.hid (B2.out.trans (hb3.mono B2.out.size))
  have R93 := Lib.hid (R9.out.below hb3 R9.out.lt)
  have HK3 := Lib.hid (show Below B W w3 from HK.out.trans (hb3.mono (Nat.le_trans HB.out B2.out.size)))
  clear hb3 HP R9 R52 B2 HK HPC
  have HLS := Lib.hid (HL.out.below HK3.out).sees
  have HLT := Lib.hid R93.out.lt
  go_upto_region 10 with (first
    | ((with_reducible show wpList _ _ _ ({ dst := some 40, op := _, type := _, pos := _, after := _, guard := _ } :: _) _ _); go_must (refine wpList_appendN rfl (.const (.slice none 0 0)) (.tmp 39) 22 48 _ 34 48 rfl Try.underlying22 infoAc14 zszAc14 (by omega) (.slice none 0 0) 0 [] w3.heap.size B LA ln lc (accsC l) rfl (own_nilN _ _ _ _) ?_ HLS.out (accsC_one _) (by unfold maxLen; omega) (by omega) (Nat.le_refl _) ?_; go_simp; intro v4 w4 ho4 hg4)))
  rw [Nat.zero_add, List.nil_append] at ho4
  obtain ⟨g, cap, rest, rfl, hO⟩ := own_out14 ho4 HLL.out (by omega) HLO.out
  have hb4 := hg4.below (own_nilN w3 w3.heap.size 48 34) (Nat.le_refl _)
  have P4 : Hid (PD w w4 g g9 cap ln rest x l) := Lib.hid ⟨B3.out.trans (hb4.mono B3.out.size), hO.low (B3.out.size), R93.out.below hb4 R93.out.lt, by have := hO.lo; have := HLT.out; omega⟩
  clear ho4 hg4 hO hb4 HLS HLT R93 HK3 B3
  have HCC := Lib.hid P4.out.o.room.1
  have c90 : w4.cell? ⟨g9, 0, none⟩ = some (.int .u64 0) := P4.out.x0.trans (by rw [HT.out])
  have NE := Lib.hid (fun w => acc_neq (getA_ok P4.out.o.ok b).o.1 (show blank13.o.length = 32 from rfl) w)
  rw [decide_eq_true h1] at NE
  clear h1
  have ne1 := NE.out
  have HPL := Lib.hid (refPlain14 (getA l a) w4 (getA_ok P4.out.o.ok a))
  rw [decide_eq_true h2] at HPL
  clear h2
  go_wp2_with (first
    | ((with_reducible show wpList _ _ _ ({ dst := some 69, op := Op.load _ _, type := _, pos := _, after := _, guard := _ } :: _) _ _); go_must (refine wpList_load_at rfl 48 (.tmp 68) rfl ⟨g, a * 34, none⟩ (getA l a).cells _ Try.underlying48 rfl (size_acc (getA_ok P4.out.o.ok _).o.1) (P4.out.all HAN.out) ?_ ?_; go_simp))
    | ((with_reducible show wpList _ _ _ ({ dst := some 63, op := Op.load _ _, type := _, pos := _, after := _, guard := _ } :: _) _ _); go_must (refine wpList_load_at rfl 48 (.tmp 62) rfl ⟨g, b * 34, none⟩ (getA l b).cells _ Try.underlying48 rfl (size_acc (getA_ok P4.out.o.ok _).o.1) (P4.out.all HBN.out) ?_ ?_; go_simp))
    | ((with_reducible show wpList _ _ _ ({ dst := some 64, op := Op.build _ _, type := _, pos := _, after := _, guard := _ } :: _) _ _); go_must (refine wpList_plain rfl fun K hK => wp_built _ _ _ rfl (by simp only [List.map_toArray, List.map_nil]; exact built_blank) (hK _ _ ?_))))
  refine HPL.out.mono ?_
  rintro e w5 ⟨rfl, hb5⟩
  have P5 := Lib.hid (P4.out.below hb5)
  clear hb5 HPL P4
  have c92 := P5.out.x2
  go_wp2_with fail
  go_ret3
  exact do_ends HD.out P5.out.b
set_option maxHeartbeats 8000000 in
theorem make_funds (l : List LAcc) (r : List LRole) (p : Int) (IA : Option Addr) (n c : Nat) (D : Option Addr) (dn dc : Nat) (acc dat : List Int) (LA : Option Addr) (ln lc : Nat) (RA : Option Addr) (rn rc : Nat) (B : Nat) (w : World)
    (hl : AccsIn w B LA ln l) (hlc : ln ≤ lc) (hr : RolesIn w B RA rn r) (hi : InsAt14 w B p IA n c D dn dc acc dat) (hB : B ≤ w.heap.size) (hn : n ≤ 100000) (hln : ln ≤ 100000) (hrn : rn ≤ 100000) (heq : ln = rn) (x : LAsk) (hdat : dat14 dat = some x) (hp : plc14 x r acc = 0) (a b : Nat) (ha : acc.getD 0 0 = a) (hb : acc.getD (need14 x - 1) 0 = b) (han : a < ln) (hbn : b < ln) (ht : x.tag = 0) (h1 : getA l b = blank13) (h2 : plain14 (getA l a)) (h3 : ¬ 1048576 < x.space) (h4 : (getA l a).c < x.coins) :
    Calls Try.prog 13 #[.slice LA ln lc, .slice RA rn rc, .agg (insC p IA n c D dn dc).toArray] w (DoDone w (do14 l r acc dat)) := by
  have HAN := Lib.hid han
  have HBN := Lib.hid hbn
  have HD : Hid (do14 l r acc dat = bad14 17) := Lib.hid (by
    rw [do_is (by rw [hl.len, hr.len]; exact heq) hdat hp ha hb]
    rw [deed14, if_pos ht]
    unfold make14
    rw [if_neg (by simpa using h1), if_neg (by simpa using h2), if_neg h3, if_pos h4])
  have HAO := Lib.hid (dat14_ok hi.db hdat)
  have HPC := Lib.hid (show ∀ (F : Nat) (args : Array Value) (w : World), Calls Try.prog F args w (PlcDone w x r acc) → Calls Try.prog F args w fun e w' => e = .returned (.tuple #[.int .i64 a, .int .i64 b, .int .i64 0]) ∧ Below w.heap.size w w' from fun _ _ _ h => plc_conv h hp ha hb)
  have HT := Lib.hid ht
  have HLO := Lib.hid hl.ok
  subst heq
  clear hp ha hb ht
  have HLL := Lib.hid hl.len
  have HLR := Lib.hid hr.len
  have hbw := (Below.refl w.heap.size w).alloc (Nat.le_refl _) (.cells (insC p IA n c D dn dc).toArray 26)
  have HBW := Lib.hid hbw
  have R5 := Lib.hid (Row.new w 26 (insC p IA n c D dn dc))
  have HL := Lib.hid (hl.below (hbw.mono hB))
  have HR := Lib.hid (hr.below (hbw.mono hB))
  have HI := Lib.hid (hi.below (hbw.mono hB))
  have HB := Lib.hid hB
  clear hbw hl hr hi
  obtain ⟨g5, hg5⟩ : ∃ g, g = w.heap.size := ⟨_, rfl⟩
  have HG5 : Hid (w.heap.size = g5) := Lib.hid hg5.symm
  rw [← hg5] at R5
  clear hg5
  generalize hW : w.alloc (.cells (insC p IA n c D dn dc).toArray 26) = W at *
  have HW := Lib.hid hW
  clear hW
  go_enter Try.func13, Try.ntmps13
  go_upto_region 1 with fail
  try rw [HG5.out]
  rw [HW.out]
  clear HG5 HW
  have c52 : W.cell? ⟨g5, 2, none⟩ = some (.slice D dn dc) := R5.out.cell 2
  have HDA := Lib.hid (refData14 D dn dc B dat W HI.out.dSees (Nat.le_trans HB.out HBW.out.size) HI.out.dc.1 HI.out.dc.2 HI.out.db)
  rw [hdat] at HDA
  go_upto_region 3 with fail
  go_wp2_with fail
  clear c52
  refine HDA.out.mono ?_
  rintro e w1 ⟨rfl, hb1⟩
  have B1 := Lib.hid hb1
  clear hb1 HDA
  go_upto_region 6 with (first
    | ((with_reducible show wpList _ _ _ ({ dst := some 9, op := Op.alloc _, type := _, pos := _, after := _, guard := _ } :: _) _ _); go_must (refine wpList_alloc_zero rfl 77 rfl (askC ask0) zero_ask ?_))
    | ((with_reducible show wpList _ _ _ ({ dst := none, op := Op.store 77 _ _, type := _, pos := _, after := _, guard := _ } :: _) _ _); go_must (refine wpList_store_new rfl 77 (.tmp 9) (.tmp 24) rfl (askC ((some x).getD ask0)) (size_ask HAO.out.o.1) (ask_one _) ((show (askC ask0).toArray.size = 35 from rfl).trans (ask_len HAO.out.o.1).symm) ?_ ?_ ?_; go_simp; go_simp; intro w2 hr2 hb2 hz2)))
  have R9 := Lib.hid hr2
  have B2 := Lib.hid (HBW.out.trans ((B1.out.trans (hb2.mono B1.out.size)).mono HBW.out.size))
  have R52 := Lib.hid (R5.out.below (B1.out.trans (hb2.mono B1.out.size)) R5.out.lt)
  have HK := Lib.hid (show Below B W w2 from (B1.out.trans (hb2.mono B1.out.size)).mono (Nat.le_trans HB.out HBW.out.size))
  have HP := Lib.hid (HPC.out _ _ _ (refPlaces14 x HAO.out p IA n c D dn dc acc RA ln rc r B w2 (HI.out.aSees.below HK.out) HI.out.ab (HR.out.below HK.out) (Nat.le_trans HB.out B2.out.size) hn hln))
  obtain ⟨g9, hg9⟩ : ∃ g, g = w1.heap.size := ⟨_, rfl⟩
  have HG9 : Hid (w.heap.size ≤ g9) := Lib.hid (by have := HBW.out.size; have := B1.out.size; omega)
  rw [← hg9] at R9 ⊢
  clear hr2 hb2 hz2 hg9 B1
  go_wp2_with (first
    | ((with_reducible show wpList _ _ _ ({ dst := some 29, op := Op.load _ _, type := _, pos := _, after := _, guard := _ } :: _) _ _); go_must (refine wpList_load_whole rfl 77 (.tmp 9) rfl g9 77 (askC x) _ Try.underlying77 rfl (size_ask HAO.out.o.1) R9.out ?_ ?_; go_simp))
    | ((with_reducible show wpList _ _ _ ({ dst := some 31, op := Op.load _ _, type := _, pos := _, after := _, guard := _ } :: _) _ _); go_must (refine wpList_load_whole rfl 26 (.tmp 5) rfl g5 26 (insC p IA n c D dn dc) _ Try.underlying26 rfl (by kernel_rfl) R52.out ?_ ?_; go_simp)))
  refine HP.out.mono ?_
  rintro e w3 ⟨rfl, hb3⟩
  have B3 := Lib.hid (B2.out.trans (hb3.mono B2.out.size))
  have R93 := Lib.hid (R9.out.below hb3 R9.out.lt)
  have HK3 := Lib.hid (show Below B W w3 from HK.out.trans (hb3.mono (Nat.le_trans HB.out B2.out.size)))
  clear hb3 HP R9 R52 B2 HK HPC
  have HLS := Lib.hid (HL.out.below HK3.out).sees
  have HLT := Lib.hid R93.out.lt
  go_upto_region 10 with (first
    | ((with_reducible show wpList _ _ _ ({ dst := some 40, op := _, type := _, pos := _, after := _, guard := _ } :: _) _ _); go_must (refine wpList_appendN rfl (.const (.slice none 0 0)) (.tmp 39) 22 48 _ 34 48 rfl Try.underlying22 infoAc14 zszAc14 (by omega) (.slice none 0 0) 0 [] w3.heap.size B LA ln lc (accsC l) rfl (own_nilN _ _ _ _) ?_ HLS.out (accsC_one _) (by unfold maxLen; omega) (by omega) (Nat.le_refl _) ?_; go_simp; intro v4 w4 ho4 hg4)))
  rw [Nat.zero_add, List.nil_append] at ho4
  obtain ⟨g, cap, rest, rfl, hO⟩ := own_out14 ho4 HLL.out (by omega) HLO.out
  have hb4 := hg4.below (own_nilN w3 w3.heap.size 48 34) (Nat.le_refl _)
  have P4 : Hid (PD w w4 g g9 cap ln rest x l) := Lib.hid ⟨B3.out.trans (hb4.mono B3.out.size), hO.low (B3.out.size), R93.out.below hb4 R93.out.lt, by have := hO.lo; have := HLT.out; omega⟩
  clear ho4 hg4 hO hb4 HLS HLT R93 HK3 B3
  have HCC := Lib.hid P4.out.o.room.1
  have c90 : w4.cell? ⟨g9, 0, none⟩ = some (.int .u64 0) := P4.out.x0.trans (by rw [HT.out])
  have NE := Lib.hid (fun w => acc_neq (getA_ok P4.out.o.ok b).o.1 (show blank13.o.length = 32 from rfl) w)
  rw [decide_eq_true h1] at NE
  clear h1
  have ne1 := NE.out
  have HPL := Lib.hid (refPlain14 (getA l a) w4 (getA_ok P4.out.o.ok a))
  rw [decide_eq_true h2] at HPL
  clear h2
  go_wp2_with (first
    | ((with_reducible show wpList _ _ _ ({ dst := some 69, op := Op.load _ _, type := _, pos := _, after := _, guard := _ } :: _) _ _); go_must (refine wpList_load_at rfl 48 (.tmp 68) rfl ⟨g, a * 34, none⟩ (getA l a).cells _ Try.underlying48 rfl (size_acc (getA_ok P4.out.o.ok _).o.1) (P4.out.all HAN.out) ?_ ?_; go_simp))
    | ((with_reducible show wpList _ _ _ ({ dst := some 63, op := Op.load _ _, type := _, pos := _, after := _, guard := _ } :: _) _ _); go_must (refine wpList_load_at rfl 48 (.tmp 62) rfl ⟨g, b * 34, none⟩ (getA l b).cells _ Try.underlying48 rfl (size_acc (getA_ok P4.out.o.ok _).o.1) (P4.out.all HBN.out) ?_ ?_; go_simp))
    | ((with_reducible show wpList _ _ _ ({ dst := some 64, op := Op.build _ _, type := _, pos := _, after := _, guard := _ } :: _) _ _); go_must (refine wpList_plain rfl fun K hK => wp_built _ _ _ rfl (by simp only [List.map_toArray, List.map_nil]; exact built_blank) (hK _ _ ?_))))
  refine HPL.out.mono ?_
  rintro e w5 ⟨rfl, hb5⟩
  have P5 := Lib.hid (P4.out.below hb5)
  clear hb5 HPL P4
  have c92 := P5.out.x2
  have c91 := P5.out.x1
  have cac := P5.out.c HAN.out
  go_upto_region 23 with fail
  clear c92
  go_quiet (fail)
  go_wp2_with fail
  go_ret3
  exact do_ends HD.out (P5.out.drewN nq).b
set_option maxHeartbeats 8000000 in
theorem make_good (l : List LAcc) (r : List LRole) (p : Int) (IA : Option Addr) (n c : Nat) (D : Option Addr) (dn dc : Nat) (acc dat : List Int) (LA : Option Addr) (ln lc : Nat) (RA : Option Addr) (rn rc : Nat) (B : Nat) (w : World)
    (hl : AccsIn w B LA ln l) (hlc : ln ≤ lc) (hr : RolesIn w B RA rn r) (hi : InsAt14 w B p IA n c D dn dc acc dat) (hB : B ≤ w.heap.size) (hn : n ≤ 100000) (hln : ln ≤ 100000) (hrn : rn ≤ 100000) (heq : ln = rn) (x : LAsk) (hdat : dat14 dat = some x) (hp : plc14 x r acc = 0) (a b : Nat) (ha : acc.getD 0 0 = a) (hb : acc.getD (need14 x - 1) 0 = b) (han : a < ln) (hbn : b < ln) (ht : x.tag = 0) (h1 : getA l b = blank13) (h2 : plain14 (getA l a)) (h3 : ¬ 1048576 < x.space) (h4 : ¬ (getA l a).c < x.coins) :
    Calls Try.prog 13 #[.slice LA ln lc, .slice RA rn rc, .agg (insC p IA n c D dn dc).toArray] w (DoDone w (do14 l r acc dat)) := by
  have HAN := Lib.hid han
  have HBN := Lib.hid hbn
  have HD : Hid (do14 l r acc dat = ⟨0, (l.set a ⟨(getA l a).c - x.coins, (getA l a).o, (getA l a).s⟩).set b ⟨x.coins, x.owner, x.space⟩, x.space⟩) := Lib.hid (by
    rw [do_is (by rw [hl.len, hr.len]; exact heq) hdat hp ha hb]
    rw [deed14, if_pos ht]
    unfold make14
    rw [if_neg (by simpa using h1), if_neg (by simpa using h2), if_neg h3, if_neg h4])
  have HAO := Lib.hid (dat14_ok hi.db hdat)
  have HPC := Lib.hid (show ∀ (F : Nat) (args : Array Value) (w : World), Calls Try.prog F args w (PlcDone w x r acc) → Calls Try.prog F args w fun e w' => e = .returned (.tuple #[.int .i64 a, .int .i64 b, .int .i64 0]) ∧ Below w.heap.size w w' from fun _ _ _ h => plc_conv h hp ha hb)
  have HT := Lib.hid ht
  have HLO := Lib.hid hl.ok
  subst heq
  clear hp ha hb ht
  have HLL := Lib.hid hl.len
  have HLR := Lib.hid hr.len
  have hbw := (Below.refl w.heap.size w).alloc (Nat.le_refl _) (.cells (insC p IA n c D dn dc).toArray 26)
  have HBW := Lib.hid hbw
  have R5 := Lib.hid (Row.new w 26 (insC p IA n c D dn dc))
  have HL := Lib.hid (hl.below (hbw.mono hB))
  have HR := Lib.hid (hr.below (hbw.mono hB))
  have HI := Lib.hid (hi.below (hbw.mono hB))
  have HB := Lib.hid hB
  clear hbw hl hr hi
  obtain ⟨g5, hg5⟩ : ∃ g, g = w.heap.size := ⟨_, rfl⟩
  have HG5 : Hid (w.heap.size = g5) := Lib.hid hg5.symm
  rw [← hg5] at R5
  clear hg5
  generalize hW : w.alloc (.cells (insC p IA n c D dn dc).toArray 26) = W at *
  have HW := Lib.hid hW
  clear hW
  go_enter Try.func13, Try.ntmps13
  go_upto_region 1 with fail
  try rw [HG5.out]
  rw [HW.out]
  clear HG5 HW
  have c52 : W.cell? ⟨g5, 2, none⟩ = some (.slice D dn dc) := R5.out.cell 2
  have HDA := Lib.hid (refData14 D dn dc B dat W HI.out.dSees (Nat.le_trans HB.out HBW.out.size) HI.out.dc.1 HI.out.dc.2 HI.out.db)
  rw [hdat] at HDA
  go_upto_region 3 with fail
  go_wp2_with fail
  clear c52
  refine HDA.out.mono ?_
  rintro e w1 ⟨rfl, hb1⟩
  have B1 := Lib.hid hb1
  clear hb1 HDA
  go_upto_region 6 with (first
    | ((with_reducible show wpList _ _ _ ({ dst := some 9, op := Op.alloc _, type := _, pos := _, after := _, guard := _ } :: _) _ _); go_must (refine wpList_alloc_zero rfl 77 rfl (askC ask0) zero_ask ?_))
    | ((with_reducible show wpList _ _ _ ({ dst := none, op := Op.store 77 _ _, type := _, pos := _, after := _, guard := _ } :: _) _ _); go_must (refine wpList_store_new rfl 77 (.tmp 9) (.tmp 24) rfl (askC ((some x).getD ask0)) (size_ask HAO.out.o.1) (ask_one _) ((show (askC ask0).toArray.size = 35 from rfl).trans (ask_len HAO.out.o.1).symm) ?_ ?_ ?_; go_simp; go_simp; intro w2 hr2 hb2 hz2)))
  have R9 := Lib.hid hr2
  have B2 := Lib.hid (HBW.out.trans ((B1.out.trans (hb2.mono B1.out.size)).mono HBW.out.size))
  have R52 := Lib.hid (R5.out.below (B1.out.trans (hb2.mono B1.out.size)) R5.out.lt)
  have HK := Lib.hid (show Below B W w2 from (B1.out.trans (hb2.mono B1.out.size)).mono (Nat.le_trans HB.out HBW.out.size))
  have HP := Lib.hid (HPC.out _ _ _ (refPlaces14 x HAO.out p IA n c D dn dc acc RA ln rc r B w2 (HI.out.aSees.below HK.out) HI.out.ab (HR.out.below HK.out) (Nat.le_trans HB.out B2.out.size) hn hln))
  obtain ⟨g9, hg9⟩ : ∃ g, g = w1.heap.size := ⟨_, rfl⟩
  have HG9 : Hid (w.heap.size ≤ g9) := Lib.hid (by have := HBW.out.size; have := B1.out.size; omega)
  rw [← hg9] at R9 ⊢
  clear hr2 hb2 hz2 hg9 B1
  go_wp2_with (first
    | ((with_reducible show wpList _ _ _ ({ dst := some 29, op := Op.load _ _, type := _, pos := _, after := _, guard := _ } :: _) _ _); go_must (refine wpList_load_whole rfl 77 (.tmp 9) rfl g9 77 (askC x) _ Try.underlying77 rfl (size_ask HAO.out.o.1) R9.out ?_ ?_; go_simp))
    | ((with_reducible show wpList _ _ _ ({ dst := some 31, op := Op.load _ _, type := _, pos := _, after := _, guard := _ } :: _) _ _); go_must (refine wpList_load_whole rfl 26 (.tmp 5) rfl g5 26 (insC p IA n c D dn dc) _ Try.underlying26 rfl (by kernel_rfl) R52.out ?_ ?_; go_simp)))
  refine HP.out.mono ?_
  rintro e w3 ⟨rfl, hb3⟩
  have B3 := Lib.hid (B2.out.trans (hb3.mono B2.out.size))
  have R93 := Lib.hid (R9.out.below hb3 R9.out.lt)
  have HK3 := Lib.hid (show Below B W w3 from HK.out.trans (hb3.mono (Nat.le_trans HB.out B2.out.size)))
  clear hb3 HP R9 R52 B2 HK HPC
  have HLS := Lib.hid (HL.out.below HK3.out).sees
  have HLT := Lib.hid R93.out.lt
  go_upto_region 10 with (first
    | ((with_reducible show wpList _ _ _ ({ dst := some 40, op := _, type := _, pos := _, after := _, guard := _ } :: _) _ _); go_must (refine wpList_appendN rfl (.const (.slice none 0 0)) (.tmp 39) 22 48 _ 34 48 rfl Try.underlying22 infoAc14 zszAc14 (by omega) (.slice none 0 0) 0 [] w3.heap.size B LA ln lc (accsC l) rfl (own_nilN _ _ _ _) ?_ HLS.out (accsC_one _) (by unfold maxLen; omega) (by omega) (Nat.le_refl _) ?_; go_simp; intro v4 w4 ho4 hg4)))
  rw [Nat.zero_add, List.nil_append] at ho4
  obtain ⟨g, cap, rest, rfl, hO⟩ := own_out14 ho4 HLL.out (by omega) HLO.out
  have hb4 := hg4.below (own_nilN w3 w3.heap.size 48 34) (Nat.le_refl _)
  have P4 : Hid (PD w w4 g g9 cap ln rest x l) := Lib.hid ⟨B3.out.trans (hb4.mono B3.out.size), hO.low (B3.out.size), R93.out.below hb4 R93.out.lt, by have := hO.lo; have := HLT.out; omega⟩
  clear ho4 hg4 hO hb4 HLS HLT R93 HK3 B3
  have HCC := Lib.hid P4.out.o.room.1
  have c90 : w4.cell? ⟨g9, 0, none⟩ = some (.int .u64 0) := P4.out.x0.trans (by rw [HT.out])
  have NE := Lib.hid (fun w => acc_neq (getA_ok P4.out.o.ok b).o.1 (show blank13.o.length = 32 from rfl) w)
  rw [decide_eq_true h1] at NE
  clear h1
  have ne1 := NE.out
  have HPL := Lib.hid (refPlain14 (getA l a) w4 (getA_ok P4.out.o.ok a))
  rw [decide_eq_true h2] at HPL
  clear h2
  go_wp2_with (first
    | ((with_reducible show wpList _ _ _ ({ dst := some 69, op := Op.load _ _, type := _, pos := _, after := _, guard := _ } :: _) _ _); go_must (refine wpList_load_at rfl 48 (.tmp 68) rfl ⟨g, a * 34, none⟩ (getA l a).cells _ Try.underlying48 rfl (size_acc (getA_ok P4.out.o.ok _).o.1) (P4.out.all HAN.out) ?_ ?_; go_simp))
    | ((with_reducible show wpList _ _ _ ({ dst := some 63, op := Op.load _ _, type := _, pos := _, after := _, guard := _ } :: _) _ _); go_must (refine wpList_load_at rfl 48 (.tmp 62) rfl ⟨g, b * 34, none⟩ (getA l b).cells _ Try.underlying48 rfl (size_acc (getA_ok P4.out.o.ok _).o.1) (P4.out.all HBN.out) ?_ ?_; go_simp))
    | ((with_reducible show wpList _ _ _ ({ dst := some 64, op := Op.build _ _, type := _, pos := _, after := _, guard := _ } :: _) _ _); go_must (refine wpList_plain rfl fun K hK => wp_built _ _ _ rfl (by simp only [List.map_toArray, List.map_nil]; exact built_blank) (hK _ _ ?_))))
  refine HPL.out.mono ?_
  rintro e w5 ⟨rfl, hb5⟩
  have P5 := Lib.hid (P4.out.below hb5)
  clear hb5 HPL P4
  have c92 := P5.out.x2
  have c91 := P5.out.x1
  have cac := P5.out.c HAN.out
  go_upto_region 23 with fail
  clear c92
  go_quiet (fail)
  go_upto_region 25 with fail
  have fac := P5.out.fz (a * 34)
  go_region
  have E1 : IntKind.u64.wrap ((getA l a).c - x.coins) = (getA l a).c - x.coins := by rw [IntKind.wrap_u64]; have := (getA_ok P5.out.o.ok a).c; have := HAO.out.c; omega
  have P6 := Lib.hid (show PD w ((w5.drewN (nq + 1)).setCell ⟨g, a * 34, none⟩ (.int .u64 ((getA l a).c - x.coins))) g g9 cap ln rest x (l.set a ⟨(getA l a).c - x.coins, (getA l a).o, (getA l a).s⟩) from (P5.out.drewN (nq + 1)).one HAN.out (o := 0) (y := ⟨(getA l a).c - x.coins, (getA l a).o, (getA l a).s⟩) ⟨by have := (getA_ok P5.out.o.ok a).c; have := HAO.out.c; constructor <;> dsimp only <;> omega, (getA_ok P5.out.o.ok a).o, (getA_ok P5.out.o.ok a).s⟩ (by decide) (acc_setC14 _ _))
  rw [E1]
  clear E1 P5 c91 cac fac
  obtain ⟨out, hout⟩ : ∃ out, out = l.set a ⟨(getA l a).c - x.coins, (getA l a).o, (getA l a).s⟩ := ⟨_, rfl⟩
  rw [← hout] at P6 HD
  generalize hW6 : (w5.drewN (nq + 1)).setCell ⟨g, a * 34, none⟩ (.int .u64 ((getA l a).c - x.coins)) = w6 at *
  clear hW6 hout
  have c91 := P6.out.x1
  have c92 := P6.out.x2
  have HBU := Lib.hid (built_acc14 x.coins x.space HAO.out.o.1)
  go_upto_region 41 with (first
    | ((with_reducible show wpList _ _ _ ({ dst := some 100, op := Op.load _ _, type := _, pos := _, after := _, guard := _ } :: _) _ _); go_must (refine wpList_load_at rfl 46 (.tmp 99) rfl ⟨g9, 3, none⟩ (bv x.owner) _ Try.underlying46 rfl (by rw [size_key, bv_length, HAO.out.o.1]) P6.out.xo ?_ ?_; go_simp))
    | ((with_reducible show wpList _ _ _ ({ dst := some 103, op := Op.build _ _, type := _, pos := _, after := _, guard := _ } :: _) _ _); go_must (refine wpList_plain rfl fun K hK => wp_built _ _ _ rfl (by simp only [List.map_toArray, List.map_cons, List.map_nil]; exact HBU.out) (hK _ _ ?_)))
    | ((with_reducible show wpList _ _ _ ({ dst := none, op := Op.store 48 _ _, type := _, pos := _, after := _, guard := _ } :: _) _ _); go_must (refine wpList_store_part rfl 48 (.tmp 104) (.tmp 103) rfl g 48 (b * 34 + 0) (accsC out ++ rest) (LAcc.mk x.coins x.owner x.space).cells P6.out.o.row (size_acc HAO.out.o.1) (by rw [acc_len HAO.out.o.1]; exact P6.out.room HBN.out) (acc_one _) ?_ ?_ ?_; go_simp; go_simp; intro w7 hr7 ht7)))
  have P7 := Lib.hid (P6.out.part HBN.out (o := 0) (y := ⟨x.coins, x.owner, x.space⟩) ⟨HAO.out.c, HAO.out.o, HAO.out.s⟩ (accs_whole14 (getA_ok P6.out.o.ok b).o.1 HAO.out.o.1) (by rw [acc_len HAO.out.o.1]; decide) hr7 ht7)
  clear hr7 ht7 c91 c92 P6
  have c92 := P7.out.x2
  go_quiet (fail)
  go_wp2_with fail
  go_ret3
  exact do_good14 HD.out (P7.out.drewN _).done (P7.out.drewN _).b
set_option maxHeartbeats 8000000 in
theorem assign_owner (l : List LAcc) (r : List LRole) (p : Int) (IA : Option Addr) (n c : Nat) (D : Option Addr) (dn dc : Nat) (acc dat : List Int) (LA : Option Addr) (ln lc : Nat) (RA : Option Addr) (rn rc : Nat) (B : Nat) (w : World)
    (hl : AccsIn w B LA ln l) (hlc : ln ≤ lc) (hr : RolesIn w B RA rn r) (hi : InsAt14 w B p IA n c D dn dc acc dat) (hB : B ≤ w.heap.size) (hn : n ≤ 100000) (hln : ln ≤ 100000) (hrn : rn ≤ 100000) (heq : ln = rn) (x : LAsk) (hdat : dat14 dat = some x) (hp : plc14 x r acc = 0) (a b : Nat) (ha : acc.getD 0 0 = a) (hb : acc.getD (need14 x - 1) 0 = b) (han : a < ln) (hbn : b < ln) (ht : x.tag = 1) (h1 : (getA l a).o ≠ key0) :
    Calls Try.prog 13 #[.slice LA ln lc, .slice RA rn rc, .agg (insC p IA n c D dn dc).toArray] w (DoDone w (do14 l r acc dat)) := by
  have HAN := Lib.hid han
  have HBN := Lib.hid hbn
  have HD : Hid (do14 l r acc dat = bad14 16) := Lib.hid (by
    rw [do_is (by rw [hl.len, hr.len]; exact heq) hdat hp ha hb]
    rw [deed14, if_neg (by rw [ht]; decide), if_pos ht]
    unfold assign14
    rw [if_pos h1])
  have HAO := Lib.hid (dat14_ok hi.db hdat)
  have HPC := Lib.hid (show ∀ (F : Nat) (args : Array Value) (w : World), Calls Try.prog F args w (PlcDone w x r acc) → Calls Try.prog F args w fun e w' => e = .returned (.tuple #[.int .i64 a, .int .i64 b, .int .i64 0]) ∧ Below w.heap.size w w' from fun _ _ _ h => plc_conv h hp ha hb)
  have HT := Lib.hid ht
  have HLO := Lib.hid hl.ok
  subst heq
  clear hp ha hb ht
  have HLL := Lib.hid hl.len
  have HLR := Lib.hid hr.len
  have hbw := (Below.refl w.heap.size w).alloc (Nat.le_refl _) (.cells (insC p IA n c D dn dc).toArray 26)
  have HBW := Lib.hid hbw
  have R5 := Lib.hid (Row.new w 26 (insC p IA n c D dn dc))
  have HL := Lib.hid (hl.below (hbw.mono hB))
  have HR := Lib.hid (hr.below (hbw.mono hB))
  have HI := Lib.hid (hi.below (hbw.mono hB))
  have HB := Lib.hid hB
  clear hbw hl hr hi
  obtain ⟨g5, hg5⟩ : ∃ g, g = w.heap.size := ⟨_, rfl⟩
  have HG5 : Hid (w.heap.size = g5) := Lib.hid hg5.symm
  rw [← hg5] at R5
  clear hg5
  generalize hW : w.alloc (.cells (insC p IA n c D dn dc).toArray 26) = W at *
  have HW := Lib.hid hW
  clear hW
  go_enter Try.func13, Try.ntmps13
  go_upto_region 1 with fail
  try rw [HG5.out]
  rw [HW.out]
  clear HG5 HW
  have c52 : W.cell? ⟨g5, 2, none⟩ = some (.slice D dn dc) := R5.out.cell 2
  have HDA := Lib.hid (refData14 D dn dc B dat W HI.out.dSees (Nat.le_trans HB.out HBW.out.size) HI.out.dc.1 HI.out.dc.2 HI.out.db)
  rw [hdat] at HDA
  go_upto_region 3 with fail
  go_wp2_with fail
  clear c52
  refine HDA.out.mono ?_
  rintro e w1 ⟨rfl, hb1⟩
  have B1 := Lib.hid hb1
  clear hb1 HDA
  go_upto_region 6 with (first
    | ((with_reducible show wpList _ _ _ ({ dst := some 9, op := Op.alloc _, type := _, pos := _, after := _, guard := _ } :: _) _ _); go_must (refine wpList_alloc_zero rfl 77 rfl (askC ask0) zero_ask ?_))
    | ((with_reducible show wpList _ _ _ ({ dst := none, op := Op.store 77 _ _, type := _, pos := _, after := _, guard := _ } :: _) _ _); go_must (refine wpList_store_new rfl 77 (.tmp 9) (.tmp 24) rfl (askC ((some x).getD ask0)) (size_ask HAO.out.o.1) (ask_one _) ((show (askC ask0).toArray.size = 35 from rfl).trans (ask_len HAO.out.o.1).symm) ?_ ?_ ?_; go_simp; go_simp; intro w2 hr2 hb2 hz2)))
  have R9 := Lib.hid hr2
  have B2 := Lib.hid (HBW.out.trans ((B1.out.trans (hb2.mono B1.out.size)).mono HBW.out.size))
  have R52 := Lib.hid (R5.out.below (B1.out.trans (hb2.mono B1.out.size)) R5.out.lt)
  have HK := Lib.hid (show Below B W w2 from (B1.out.trans (hb2.mono B1.out.size)).mono (Nat.le_trans HB.out HBW.out.size))
  have HP := Lib.hid (HPC.out _ _ _ (refPlaces14 x HAO.out p IA n c D dn dc acc RA ln rc r B w2 (HI.out.aSees.below HK.out) HI.out.ab (HR.out.below HK.out) (Nat.le_trans HB.out B2.out.size) hn hln))
  obtain ⟨g9, hg9⟩ : ∃ g, g = w1.heap.size := ⟨_, rfl⟩
  have HG9 : Hid (w.heap.size ≤ g9) := Lib.hid (by have := HBW.out.size; have := B1.out.size; omega)
  rw [← hg9] at R9 ⊢
  clear hr2 hb2 hz2 hg9 B1
  go_wp2_with (first
    | ((with_reducible show wpList _ _ _ ({ dst := some 29, op := Op.load _ _, type := _, pos := _, after := _, guard := _ } :: _) _ _); go_must (refine wpList_load_whole rfl 77 (.tmp 9) rfl g9 77 (askC x) _ Try.underlying77 rfl (size_ask HAO.out.o.1) R9.out ?_ ?_; go_simp))
    | ((with_reducible show wpList _ _ _ ({ dst := some 31, op := Op.load _ _, type := _, pos := _, after := _, guard := _ } :: _) _ _); go_must (refine wpList_load_whole rfl 26 (.tmp 5) rfl g5 26 (insC p IA n c D dn dc) _ Try.underlying26 rfl (by kernel_rfl) R52.out ?_ ?_; go_simp)))
  refine HP.out.mono ?_
  rintro e w3 ⟨rfl, hb3⟩
  have B3 := Lib.hid (B2.out.trans (hb3.mono B2.out.size))
  have R93 := Lib.hid (R9.out.below hb3 R9.out.lt)
  have HK3 := Lib.hid (show Below B W w3 from HK.out.trans (hb3.mono (Nat.le_trans HB.out B2.out.size)))
  clear hb3 HP R9 R52 B2 HK HPC
  have HLS := Lib.hid (HL.out.below HK3.out).sees
  have HLT := Lib.hid R93.out.lt
  go_upto_region 10 with (first
    | ((with_reducible show wpList _ _ _ ({ dst := some 40, op := _, type := _, pos := _, after := _, guard := _ } :: _) _ _); go_must (refine wpList_appendN rfl (.const (.slice none 0 0)) (.tmp 39) 22 48 _ 34 48 rfl Try.underlying22 infoAc14 zszAc14 (by omega) (.slice none 0 0) 0 [] w3.heap.size B LA ln lc (accsC l) rfl (own_nilN _ _ _ _) ?_ HLS.out (accsC_one _) (by unfold maxLen; omega) (by omega) (Nat.le_refl _) ?_; go_simp; intro v4 w4 ho4 hg4)))
  rw [Nat.zero_add, List.nil_append] at ho4
  obtain ⟨g, cap, rest, rfl, hO⟩ := own_out14 ho4 HLL.out (by omega) HLO.out
  have hb4 := hg4.below (own_nilN w3 w3.heap.size 48 34) (Nat.le_refl _)
  have P4 : Hid (PD w w4 g g9 cap ln rest x l) := Lib.hid ⟨B3.out.trans (hb4.mono B3.out.size), hO.low (B3.out.size), R93.out.below hb4 R93.out.lt, by have := hO.lo; have := HLT.out; omega⟩
  clear ho4 hg4 hO hb4 HLS HLT R93 HK3 B3
  have HCC := Lib.hid P4.out.o.room.1
  have c90 : w4.cell? ⟨g9, 0, none⟩ = some (.int .u64 1) := P4.out.x0.trans (by rw [HT.out])
  have NE := Lib.hid (fun w => key_neq (getA_ok P4.out.o.ok a).o.1 key0_ok.1 w)
  rw [decide_eq_false h1] at NE
  clear h1
  have ne1 := NE.out
  go_wp2_with (first
    | ((with_reducible show wpList _ _ _ ({ dst := some 111, op := Op.load _ _, type := _, pos := _, after := _, guard := _ } :: _) _ _); go_must (refine wpList_load_at rfl 46 (.tmp 110) rfl ⟨g, a * 34 + 1, none⟩ (bv (getA l a).o) _ Try.underlying46 rfl (by rw [size_key, bv_length, (getA_ok P4.out.o.ok _).o.1]) (P4.out.own HAN.out) ?_ ?_; go_simp))
    | ((with_reducible show wpList _ _ _ ({ dst := some 112, op := Op.build _ _, type := _, pos := _, after := _, guard := _ } :: _) _ _); go_must (refine wpList_plain rfl fun K hK => wp_built _ _ _ rfl (by simp only [List.map_toArray, List.map_nil]; exact built_key14) (hK _ _ ?_))))
  go_ret3
  exact do_ends HD.out P4.out.b
set_option maxHeartbeats 8000000 in
theorem assign_good (l : List LAcc) (r : List LRole) (p : Int) (IA : Option Addr) (n c : Nat) (D : Option Addr) (dn dc : Nat) (acc dat : List Int) (LA : Option Addr) (ln lc : Nat) (RA : Option Addr) (rn rc : Nat) (B : Nat) (w : World)
    (hl : AccsIn w B LA ln l) (hlc : ln ≤ lc) (hr : RolesIn w B RA rn r) (hi : InsAt14 w B p IA n c D dn dc acc dat) (hB : B ≤ w.heap.size) (hn : n ≤ 100000) (hln : ln ≤ 100000) (hrn : rn ≤ 100000) (heq : ln = rn) (x : LAsk) (hdat : dat14 dat = some x) (hp : plc14 x r acc = 0) (a b : Nat) (ha : acc.getD 0 0 = a) (hb : acc.getD (need14 x - 1) 0 = b) (han : a < ln) (hbn : b < ln) (ht : x.tag = 1) (h1 : (getA l a).o = key0) :
    Calls Try.prog 13 #[.slice LA ln lc, .slice RA rn rc, .agg (insC p IA n c D dn dc).toArray] w (DoDone w (do14 l r acc dat)) := by
  have HAN := Lib.hid han
  have HBN := Lib.hid hbn
  have HD : Hid (do14 l r acc dat = ⟨0, l.set a ⟨(getA l a).c, x.owner, (getA l a).s⟩, 0⟩) := Lib.hid (by
    rw [do_is (by rw [hl.len, hr.len]; exact heq) hdat hp ha hb]
    rw [deed14, if_neg (by rw [ht]; decide), if_pos ht]
    unfold assign14
    rw [if_neg (by simpa using h1)])
  have HAO := Lib.hid (dat14_ok hi.db hdat)
  have HPC := Lib.hid (show ∀ (F : Nat) (args : Array Value) (w : World), Calls Try.prog F args w (PlcDone w x r acc) → Calls Try.prog F args w fun e w' => e = .returned (.tuple #[.int .i64 a, .int .i64 b, .int .i64 0]) ∧ Below w.heap.size w w' from fun _ _ _ h => plc_conv h hp ha hb)
  have HT := Lib.hid ht
  have HLO := Lib.hid hl.ok
  subst heq
  clear hp ha hb ht
  have HLL := Lib.hid hl.len
  have HLR := Lib.hid hr.len
  have hbw := (Below.refl w.heap.size w).alloc (Nat.le_refl _) (.cells (insC p IA n c D dn dc).toArray 26)
  have HBW := Lib.hid hbw
  have R5 := Lib.hid (Row.new w 26 (insC p IA n c D dn dc))
  have HL := Lib.hid (hl.below (hbw.mono hB))
  have HR := Lib.hid (hr.below (hbw.mono hB))
  have HI := Lib.hid (hi.below (hbw.mono hB))
  have HB := Lib.hid hB
  clear hbw hl hr hi
  obtain ⟨g5, hg5⟩ : ∃ g, g = w.heap.size := ⟨_, rfl⟩
  have HG5 : Hid (w.heap.size = g5) := Lib.hid hg5.symm
  rw [← hg5] at R5
  clear hg5
  generalize hW : w.alloc (.cells (insC p IA n c D dn dc).toArray 26) = W at *
  have HW := Lib.hid hW
  clear hW
  go_enter Try.func13, Try.ntmps13
  go_upto_region 1 with fail
  try rw [HG5.out]
  rw [HW.out]
  clear HG5 HW
  have c52 : W.cell? ⟨g5, 2, none⟩ = some (.slice D dn dc) := R5.out.cell 2
  have HDA := Lib.hid (refData14 D dn dc B dat W HI.out.dSees (Nat.le_trans HB.out HBW.out.size) HI.out.dc.1 HI.out.dc.2 HI.out.db)
  rw [hdat] at HDA
  go_upto_region 3 with fail
  go_wp2_with fail
  clear c52
  refine HDA.out.mono ?_
  rintro e w1 ⟨rfl, hb1⟩
  have B1 := Lib.hid hb1
  clear hb1 HDA
  go_upto_region 6 with (first
    | ((with_reducible show wpList _ _ _ ({ dst := some 9, op := Op.alloc _, type := _, pos := _, after := _, guard := _ } :: _) _ _); go_must (refine wpList_alloc_zero rfl 77 rfl (askC ask0) zero_ask ?_))
    | ((with_reducible show wpList _ _ _ ({ dst := none, op := Op.store 77 _ _, type := _, pos := _, after := _, guard := _ } :: _) _ _); go_must (refine wpList_store_new rfl 77 (.tmp 9) (.tmp 24) rfl (askC ((some x).getD ask0)) (size_ask HAO.out.o.1) (ask_one _) ((show (askC ask0).toArray.size = 35 from rfl).trans (ask_len HAO.out.o.1).symm) ?_ ?_ ?_; go_simp; go_simp; intro w2 hr2 hb2 hz2)))
  have R9 := Lib.hid hr2
  have B2 := Lib.hid (HBW.out.trans ((B1.out.trans (hb2.mono B1.out.size)).mono HBW.out.size))
  have R52 := Lib.hid (R5.out.below (B1.out.trans (hb2.mono B1.out.size)) R5.out.lt)
  have HK := Lib.hid (show Below B W w2 from (B1.out.trans (hb2.mono B1.out.size)).mono (Nat.le_trans HB.out HBW.out.size))
  have HP := Lib.hid (HPC.out _ _ _ (refPlaces14 x HAO.out p IA n c D dn dc acc RA ln rc r B w2 (HI.out.aSees.below HK.out) HI.out.ab (HR.out.below HK.out) (Nat.le_trans HB.out B2.out.size) hn hln))
  obtain ⟨g9, hg9⟩ : ∃ g, g = w1.heap.size := ⟨_, rfl⟩
  have HG9 : Hid (w.heap.size ≤ g9) := Lib.hid (by have := HBW.out.size; have := B1.out.size; omega)
  rw [← hg9] at R9 ⊢
  clear hr2 hb2 hz2 hg9 B1
  go_wp2_with (first
    | ((with_reducible show wpList _ _ _ ({ dst := some 29, op := Op.load _ _, type := _, pos := _, after := _, guard := _ } :: _) _ _); go_must (refine wpList_load_whole rfl 77 (.tmp 9) rfl g9 77 (askC x) _ Try.underlying77 rfl (size_ask HAO.out.o.1) R9.out ?_ ?_; go_simp))
    | ((with_reducible show wpList _ _ _ ({ dst := some 31, op := Op.load _ _, type := _, pos := _, after := _, guard := _ } :: _) _ _); go_must (refine wpList_load_whole rfl 26 (.tmp 5) rfl g5 26 (insC p IA n c D dn dc) _ Try.underlying26 rfl (by kernel_rfl) R52.out ?_ ?_; go_simp)))
  refine HP.out.mono ?_
  rintro e w3 ⟨rfl, hb3⟩
  have B3 := Lib.hid (B2.out.trans (hb3.mono B2.out.size))
  have R93 := Lib.hid (R9.out.below hb3 R9.out.lt)
  have HK3 := Lib.hid (show Below B W w3 from HK.out.trans (hb3.mono (Nat.le_trans HB.out B2.out.size)))
  clear hb3 HP R9 R52 B2 HK HPC
  have HLS := Lib.hid (HL.out.below HK3.out).sees
  have HLT := Lib.hid R93.out.lt
  go_upto_region 10 with (first
    | ((with_reducible show wpList _ _ _ ({ dst := some 40, op := _, type := _, pos := _, after := _, guard := _ } :: _) _ _); go_must (refine wpList_appendN rfl (.const (.slice none 0 0)) (.tmp 39) 22 48 _ 34 48 rfl Try.underlying22 infoAc14 zszAc14 (by omega) (.slice none 0 0) 0 [] w3.heap.size B LA ln lc (accsC l) rfl (own_nilN _ _ _ _) ?_ HLS.out (accsC_one _) (by unfold maxLen; omega) (by omega) (Nat.le_refl _) ?_; go_simp; intro v4 w4 ho4 hg4)))
  rw [Nat.zero_add, List.nil_append] at ho4
  obtain ⟨g, cap, rest, rfl, hO⟩ := own_out14 ho4 HLL.out (by omega) HLO.out
  have hb4 := hg4.below (own_nilN w3 w3.heap.size 48 34) (Nat.le_refl _)
  have P4 : Hid (PD w w4 g g9 cap ln rest x l) := Lib.hid ⟨B3.out.trans (hb4.mono B3.out.size), hO.low (B3.out.size), R93.out.below hb4 R93.out.lt, by have := hO.lo; have := HLT.out; omega⟩
  clear ho4 hg4 hO hb4 HLS HLT R93 HK3 B3
  have HCC := Lib.hid P4.out.o.room.1
  have c90 : w4.cell? ⟨g9, 0, none⟩ = some (.int .u64 1) := P4.out.x0.trans (by rw [HT.out])
  have NE := Lib.hid (fun w => key_neq (getA_ok P4.out.o.ok a).o.1 key0_ok.1 w)
  rw [decide_eq_true h1] at NE
  clear h1
  have ne1 := NE.out
  go_upto_region 41 with (first
    | ((with_reducible show wpList _ _ _ ({ dst := some 111, op := Op.load _ _, type := _, pos := _, after := _, guard := _ } :: _) _ _); go_must (refine wpList_load_at rfl 46 (.tmp 110) rfl ⟨g, a * 34 + 1, none⟩ (bv (getA l a).o) _ Try.underlying46 rfl (by rw [size_key, bv_length, (getA_ok P4.out.o.ok _).o.1]) (P4.out.own HAN.out) ?_ ?_; go_simp))
    | ((with_reducible show wpList _ _ _ ({ dst := some 112, op := Op.build _ _, type := _, pos := _, after := _, guard := _ } :: _) _ _); go_must (refine wpList_plain rfl fun K hK => wp_built _ _ _ rfl (by simp only [List.map_toArray, List.map_nil]; exact built_key14) (hK _ _ ?_)))
    | ((with_reducible show wpList _ _ _ ({ dst := some 117, op := Op.load _ _, type := _, pos := _, after := _, guard := _ } :: _) _ _); go_must (refine wpList_load_at rfl 46 (.tmp 116) rfl ⟨g9, 3, none⟩ (bv x.owner) _ Try.underlying46 rfl (by rw [size_key, bv_length, HAO.out.o.1]) P4.out.xo ?_ ?_; go_simp))
    | ((with_reducible show wpList _ _ _ ({ dst := none, op := Op.store 46 _ _, type := _, pos := _, after := _, guard := _ } :: _) _ _); go_must (refine wpList_store_part rfl 46 (.tmp 119) (.tmp 117) rfl g 48 (a * 34 + 1) (accsC l ++ rest) (bv x.owner) P4.out.o.row (by rw [size_key, bv_length, HAO.out.o.1]) (by have := P4.out.room HAN.out; rw [bv_length, HAO.out.o.1]; omega) (bv_one _) ?_ ?_ ?_; go_simp; go_simp; intro w7 hr7 ht7)))
  have P7 := Lib.hid (P4.out.part HAN.out (o := 1) (y := ⟨(getA l a).c, x.owner, (getA l a).s⟩) ⟨(getA_ok P4.out.o.ok a).c, HAO.out.o, (getA_ok P4.out.o.ok a).s⟩ (acc_setO14 (getA_ok P4.out.o.ok a).o.1 HAO.out.o.1) (by rw [bv_length, HAO.out.o.1]; decide) hr7 ht7)
  clear hr7 ht7 c90 P4
  have c92 : w7.cell? ⟨g9, 2, none⟩ = some (.int .u64 0) := P7.out.x2.trans (by rw [HAO.out.one HT.out])
  go_quiet (fail)
  go_wp2_with fail
  go_ret3
  exact do_good14 HD.out (P7.out.drewN _).done (P7.out.drewN _).b
set_option maxHeartbeats 8000000 in
theorem space_there (l : List LAcc) (r : List LRole) (p : Int) (IA : Option Addr) (n c : Nat) (D : Option Addr) (dn dc : Nat) (acc dat : List Int) (LA : Option Addr) (ln lc : Nat) (RA : Option Addr) (rn rc : Nat) (B : Nat) (w : World)
    (hl : AccsIn w B LA ln l) (hlc : ln ≤ lc) (hr : RolesIn w B RA rn r) (hi : InsAt14 w B p IA n c D dn dc acc dat) (hB : B ≤ w.heap.size) (hn : n ≤ 100000) (hln : ln ≤ 100000) (hrn : rn ≤ 100000) (heq : ln = rn) (x : LAsk) (hdat : dat14 dat = some x) (hp : plc14 x r acc = 0) (a b : Nat) (ha : acc.getD 0 0 = a) (hb : acc.getD (need14 x - 1) 0 = b) (han : a < ln) (hbn : b < ln) (ht : x.tag = 8) (h2 : ¬ plain14 (getA l a)) :
    Calls Try.prog 13 #[.slice LA ln lc, .slice RA rn rc, .agg (insC p IA n c D dn dc).toArray] w (DoDone w (do14 l r acc dat)) := by
  have HAN := Lib.hid han
  have HBN := Lib.hid hbn
  have HD : Hid (do14 l r acc dat = bad14 12) := Lib.hid (by
    rw [do_is (by rw [hl.len, hr.len]; exact heq) hdat hp ha hb]
    rw [deed14, if_neg (by rw [ht]; decide), if_neg (by rw [ht]; decide), if_neg (by rw [ht]; decide)]
    unfold space14
    rw [if_pos h2])
  have HAO := Lib.hid (dat14_ok hi.db hdat)
  have HPC := Lib.hid (show ∀ (F : Nat) (args : Array Value) (w : World), Calls Try.prog F args w (PlcDone w x r acc) → Calls Try.prog F args w fun e w' => e = .returned (.tuple #[.int .i64 a, .int .i64 b, .int .i64 0]) ∧ Below w.heap.size w w' from fun _ _ _ h => plc_conv h hp ha hb)
  have HT := Lib.hid ht
  have HLO := Lib.hid hl.ok
  subst heq
  clear hp ha hb ht
  have HLL := Lib.hid hl.len
  have HLR := Lib.hid hr.len
  have hbw := (Below.refl w.heap.size w).alloc (Nat.le_refl _) (.cells (insC p IA n c D dn dc).toArray 26)
  have HBW := Lib.hid hbw
  have R5 := Lib.hid (Row.new w 26 (insC p IA n c D dn dc))
  have HL := Lib.hid (hl.below (hbw.mono hB))
  have HR := Lib.hid (hr.below (hbw.mono hB))
  have HI := Lib.hid (hi.below (hbw.mono hB))
  have HB := Lib.hid hB
  clear hbw hl hr hi
  obtain ⟨g5, hg5⟩ : ∃ g, g = w.heap.size := ⟨_, rfl⟩
  have HG5 : Hid (w.heap.size = g5) := Lib.hid hg5.symm
  rw [← hg5] at R5
  clear hg5
  generalize hW : w.alloc (.cells (insC p IA n c D dn dc).toArray 26) = W at *
  have HW := Lib.hid hW
  clear hW
  go_enter Try.func13, Try.ntmps13
  go_upto_region 1 with fail
  try rw [HG5.out]
  rw [HW.out]
  clear HG5 HW
  have c52 : W.cell? ⟨g5, 2, none⟩ = some (.slice D dn dc) := R5.out.cell 2
  have HDA := Lib.hid (refData14 D dn dc B dat W HI.out.dSees (Nat.le_trans HB.out HBW.out.size) HI.out.dc.1 HI.out.dc.2 HI.out.db)
  rw [hdat] at HDA
  go_upto_region 3 with fail
  go_wp2_with fail
  clear c52
  refine HDA.out.mono ?_
  rintro e w1 ⟨rfl, hb1⟩
  have B1 := Lib.hid hb1
  clear hb1 HDA
  go_upto_region 6 with (first
    | ((with_reducible show wpList _ _ _ ({ dst := some 9, op := Op.alloc _, type := _, pos := _, after := _, guard := _ } :: _) _ _); go_must (refine wpList_alloc_zero rfl 77 rfl (askC ask0) zero_ask ?_))
    | ((with_reducible show wpList _ _ _ ({ dst := none, op := Op.store 77 _ _, type := _, pos := _, after := _, guard := _ } :: _) _ _); go_must (refine wpList_store_new rfl 77 (.tmp 9) (.tmp 24) rfl (askC ((some x).getD ask0)) (size_ask HAO.out.o.1) (ask_one _) ((show (askC ask0).toArray.size = 35 from rfl).trans (ask_len HAO.out.o.1).symm) ?_ ?_ ?_; go_simp; go_simp; intro w2 hr2 hb2 hz2)))
  have R9 := Lib.hid hr2
  have B2 := Lib.hid (HBW.out.trans ((B1.out.trans (hb2.mono B1.out.size)).mono HBW.out.size))
  have R52 := Lib.hid (R5.out.below (B1.out.trans (hb2.mono B1.out.size)) R5.out.lt)
  have HK := Lib.hid (show Below B W w2 from (B1.out.trans (hb2.mono B1.out.size)).mono (Nat.le_trans HB.out HBW.out.size))
  have HP := Lib.hid (HPC.out _ _ _ (refPlaces14 x HAO.out p IA n c D dn dc acc RA ln rc r B w2 (HI.out.aSees.below HK.out) HI.out.ab (HR.out.below HK.out) (Nat.le_trans HB.out B2.out.size) hn hln))
  obtain ⟨g9, hg9⟩ : ∃ g, g = w1.heap.size := ⟨_, rfl⟩
  have HG9 : Hid (w.heap.size ≤ g9) := Lib.hid (by have := HBW.out.size; have := B1.out.size; omega)
  rw [← hg9] at R9 ⊢
  clear hr2 hb2 hz2 hg9 B1
  go_wp2_with (first
    | ((with_reducible show wpList _ _ _ ({ dst := some 29, op := Op.load _ _, type := _, pos := _, after := _, guard := _ } :: _) _ _); go_must (refine wpList_load_whole rfl 77 (.tmp 9) rfl g9 77 (askC x) _ Try.underlying77 rfl (size_ask HAO.out.o.1) R9.out ?_ ?_; go_simp))
    | ((with_reducible show wpList _ _ _ ({ dst := some 31, op := Op.load _ _, type := _, pos := _, after := _, guard := _ } :: _) _ _); go_must (refine wpList_load_whole rfl 26 (.tmp 5) rfl g5 26 (insC p IA n c D dn dc) _ Try.underlying26 rfl (by kernel_rfl) R52.out ?_ ?_; go_simp)))
  refine HP.out.mono ?_
  rintro e w3 ⟨rfl, hb3⟩
  have B3 := Lib.hid (B2.out.trans (hb3.mono B2.out.size))
  have R93 := Lib.hid (R9.out.below hb3 R9.out.lt)
  have HK3 := Lib.hid (show Below B W w3 from HK.out.trans (hb3.mono (Nat.le_trans HB.out B2.out.size)))
  clear hb3 HP R9 R52 B2 HK HPC
  have HLS := Lib.hid (HL.out.below HK3.out).sees
  have HLT := Lib.hid R93.out.lt
  go_upto_region 10 with (first
    | ((with_reducible show wpList _ _ _ ({ dst := some 40, op := _, type := _, pos := _, after := _, guard := _ } :: _) _ _); go_must (refine wpList_appendN rfl (.const (.slice none 0 0)) (.tmp 39) 22 48 _ 34 48 rfl Try.underlying22 infoAc14 zszAc14 (by omega) (.slice none 0 0) 0 [] w3.heap.size B LA ln lc (accsC l) rfl (own_nilN _ _ _ _) ?_ HLS.out (accsC_one _) (by unfold maxLen; omega) (by omega) (Nat.le_refl _) ?_; go_simp; intro v4 w4 ho4 hg4)))
  rw [Nat.zero_add, List.nil_append] at ho4
  obtain ⟨g, cap, rest, rfl, hO⟩ := own_out14 ho4 HLL.out (by omega) HLO.out
  have hb4 := hg4.below (own_nilN w3 w3.heap.size 48 34) (Nat.le_refl _)
  have P4 : Hid (PD w w4 g g9 cap ln rest x l) := Lib.hid ⟨B3.out.trans (hb4.mono B3.out.size), hO.low (B3.out.size), R93.out.below hb4 R93.out.lt, by have := hO.lo; have := HLT.out; omega⟩
  clear ho4 hg4 hO hb4 HLS HLT R93 HK3 B3
  have HCC := Lib.hid P4.out.o.room.1
  have c90 : w4.cell? ⟨g9, 0, none⟩ = some (.int .u64 8) := P4.out.x0.trans (by rw [HT.out])
  have HPL := Lib.hid (refPlain14 (getA l a) w4 (getA_ok P4.out.o.ok a))
  rw [decide_eq_false h2] at HPL
  clear h2
  go_wp2_with (first
    | ((with_reducible show wpList _ _ _ ({ dst := some 46, op := Op.load _ _, type := _, pos := _, after := _, guard := _ } :: _) _ _); go_must (refine wpList_load_at rfl 48 (.tmp 45) rfl ⟨g, a * 34, none⟩ (getA l a).cells _ Try.underlying48 rfl (size_acc (getA_ok P4.out.o.ok _).o.1) (P4.out.all HAN.out) ?_ ?_; go_simp)))
  refine HPL.out.mono ?_
  rintro e w5 ⟨rfl, hb5⟩
  have P5 := Lib.hid (P4.out.below hb5)
  clear hb5 HPL P4
  go_wp2_with fail
  go_ret3
  exact do_ends HD.out P5.out.b
set_option maxHeartbeats 8000000 in
theorem space_limit (l : List LAcc) (r : List LRole) (p : Int) (IA : Option Addr) (n c : Nat) (D : Option Addr) (dn dc : Nat) (acc dat : List Int) (LA : Option Addr) (ln lc : Nat) (RA : Option Addr) (rn rc : Nat) (B : Nat) (w : World)
    (hl : AccsIn w B LA ln l) (hlc : ln ≤ lc) (hr : RolesIn w B RA rn r) (hi : InsAt14 w B p IA n c D dn dc acc dat) (hB : B ≤ w.heap.size) (hn : n ≤ 100000) (hln : ln ≤ 100000) (hrn : rn ≤ 100000) (heq : ln = rn) (x : LAsk) (hdat : dat14 dat = some x) (hp : plc14 x r acc = 0) (a b : Nat) (ha : acc.getD 0 0 = a) (hb : acc.getD (need14 x - 1) 0 = b) (han : a < ln) (hbn : b < ln) (ht : x.tag = 8) (h2 : plain14 (getA l a)) (h3 : 1048576 < x.space) :
    Calls Try.prog 13 #[.slice LA ln lc, .slice RA rn rc, .agg (insC p IA n c D dn dc).toArray] w (DoDone w (do14 l r acc dat)) := by
  have HAN := Lib.hid han
  have HBN := Lib.hid hbn
  have HD : Hid (do14 l r acc dat = bad14 3) := Lib.hid (by
    rw [do_is (by rw [hl.len, hr.len]; exact heq) hdat hp ha hb]
    rw [deed14, if_neg (by rw [ht]; decide), if_neg (by rw [ht]; decide), if_neg (by rw [ht]; decide)]
    unfold space14
    rw [if_neg (by simpa using h2), if_pos h3])
  have HAO := Lib.hid (dat14_ok hi.db hdat)
  have HPC := Lib.hid (show ∀ (F : Nat) (args : Array Value) (w : World), Calls Try.prog F args w (PlcDone w x r acc) → Calls Try.prog F args w fun e w' => e = .returned (.tuple #[.int .i64 a, .int .i64 b, .int .i64 0]) ∧ Below w.heap.size w w' from fun _ _ _ h => plc_conv h hp ha hb)
  have HT := Lib.hid ht
  have HLO := Lib.hid hl.ok
  subst heq
  clear hp ha hb ht
  have HLL := Lib.hid hl.len
  have HLR := Lib.hid hr.len
  have hbw := (Below.refl w.heap.size w).alloc (Nat.le_refl _) (.cells (insC p IA n c D dn dc).toArray 26)
  have HBW := Lib.hid hbw
  have R5 := Lib.hid (Row.new w 26 (insC p IA n c D dn dc))
  have HL := Lib.hid (hl.below (hbw.mono hB))
  have HR := Lib.hid (hr.below (hbw.mono hB))
  have HI := Lib.hid (hi.below (hbw.mono hB))
  have HB := Lib.hid hB
  clear hbw hl hr hi
  obtain ⟨g5, hg5⟩ : ∃ g, g = w.heap.size := ⟨_, rfl⟩
  have HG5 : Hid (w.heap.size = g5) := Lib.hid hg5.symm
  rw [← hg5] at R5
  clear hg5
  generalize hW : w.alloc (.cells (insC p IA n c D dn dc).toArray 26) = W at *
  have HW := Lib.hid hW
  clear hW
  go_enter Try.func13, Try.ntmps13
  go_upto_region 1 with fail
  try rw [HG5.out]
  rw [HW.out]
  clear HG5 HW
  have c52 : W.cell? ⟨g5, 2, none⟩ = some (.slice D dn dc) := R5.out.cell 2
  have HDA := Lib.hid (refData14 D dn dc B dat W HI.out.dSees (Nat.le_trans HB.out HBW.out.size) HI.out.dc.1 HI.out.dc.2 HI.out.db)
  rw [hdat] at HDA
  go_upto_region 3 with fail
  go_wp2_with fail
  clear c52
  refine HDA.out.mono ?_
  rintro e w1 ⟨rfl, hb1⟩
  have B1 := Lib.hid hb1
  clear hb1 HDA
  go_upto_region 6 with (first
    | ((with_reducible show wpList _ _ _ ({ dst := some 9, op := Op.alloc _, type := _, pos := _, after := _, guard := _ } :: _) _ _); go_must (refine wpList_alloc_zero rfl 77 rfl (askC ask0) zero_ask ?_))
    | ((with_reducible show wpList _ _ _ ({ dst := none, op := Op.store 77 _ _, type := _, pos := _, after := _, guard := _ } :: _) _ _); go_must (refine wpList_store_new rfl 77 (.tmp 9) (.tmp 24) rfl (askC ((some x).getD ask0)) (size_ask HAO.out.o.1) (ask_one _) ((show (askC ask0).toArray.size = 35 from rfl).trans (ask_len HAO.out.o.1).symm) ?_ ?_ ?_; go_simp; go_simp; intro w2 hr2 hb2 hz2)))
  have R9 := Lib.hid hr2
  have B2 := Lib.hid (HBW.out.trans ((B1.out.trans (hb2.mono B1.out.size)).mono HBW.out.size))
  have R52 := Lib.hid (R5.out.below (B1.out.trans (hb2.mono B1.out.size)) R5.out.lt)
  have HK := Lib.hid (show Below B W w2 from (B1.out.trans (hb2.mono B1.out.size)).mono (Nat.le_trans HB.out HBW.out.size))
  have HP := Lib.hid (HPC.out _ _ _ (refPlaces14 x HAO.out p IA n c D dn dc acc RA ln rc r B w2 (HI.out.aSees.below HK.out) HI.out.ab (HR.out.below HK.out) (Nat.le_trans HB.out B2.out.size) hn hln))
  obtain ⟨g9, hg9⟩ : ∃ g, g = w1.heap.size := ⟨_, rfl⟩
  have HG9 : Hid (w.heap.size ≤ g9) := Lib.hid (by have := HBW.out.size; have := B1.out.size; omega)
  rw [← hg9] at R9 ⊢
  clear hr2 hb2 hz2 hg9 B1
  go_wp2_with (first
    | ((with_reducible show wpList _ _ _ ({ dst := some 29, op := Op.load _ _, type := _, pos := _, after := _, guard := _ } :: _) _ _); go_must (refine wpList_load_whole rfl 77 (.tmp 9) rfl g9 77 (askC x) _ Try.underlying77 rfl (size_ask HAO.out.o.1) R9.out ?_ ?_; go_simp))
    | ((with_reducible show wpList _ _ _ ({ dst := some 31, op := Op.load _ _, type := _, pos := _, after := _, guard := _ } :: _) _ _); go_must (refine wpList_load_whole rfl 26 (.tmp 5) rfl g5 26 (insC p IA n c D dn dc) _ Try.underlying26 rfl (by kernel_rfl) R52.out ?_ ?_; go_simp)))
  refine HP.out.mono ?_
  rintro e w3 ⟨rfl, hb3⟩
  have B3 := Lib.hid (B2.out.trans (hb3.mono B2.out.size))
  have R93 := Lib.hid (R9.out.below hb3 R9.out.lt)
  have HK3 := Lib.hid (show Below B W w3 from HK.out.trans (hb3.mono (Nat.le_trans HB.out B2.out.size)))
  clear hb3 HP R9 R52 B2 HK HPC
  have HLS := Lib.hid (HL.out.below HK3.out).sees
  have HLT := Lib.hid R93.out.lt
  go_upto_region 10 with (first
    | ((with_reducible show wpList _ _ _ ({ dst := some 40, op := _, type := _, pos := _, after := _, guard := _ } :: _) _ _); go_must (refine wpList_appendN rfl (.const (.slice none 0 0)) (.tmp 39) 22 48 _ 34 48 rfl Try.underlying22 infoAc14 zszAc14 (by omega) (.slice none 0 0) 0 [] w3.heap.size B LA ln lc (accsC l) rfl (own_nilN _ _ _ _) ?_ HLS.out (accsC_one _) (by unfold maxLen; omega) (by omega) (Nat.le_refl _) ?_; go_simp; intro v4 w4 ho4 hg4)))
  rw [Nat.zero_add, List.nil_append] at ho4
  obtain ⟨g, cap, rest, rfl, hO⟩ := own_out14 ho4 HLL.out (by omega) HLO.out
  have hb4 := hg4.below (own_nilN w3 w3.heap.size 48 34) (Nat.le_refl _)
  have P4 : Hid (PD w w4 g g9 cap ln rest x l) := Lib.hid ⟨B3.out.trans (hb4.mono B3.out.size), hO.low (B3.out.size), R93.out.below hb4 R93.out.lt, by have := hO.lo; have := HLT.out; omega⟩
  clear ho4 hg4 hO hb4 HLS HLT R93 HK3 B3
  have HCC := Lib.hid P4.out.o.room.1
  have c90 : w4.cell? ⟨g9, 0, none⟩ = some (.int .u64 8) := P4.out.x0.trans (by rw [HT.out])
  have HPL := Lib.hid (refPlain14 (getA l a) w4 (getA_ok P4.out.o.ok a))
  rw [decide_eq_true h2] at HPL
  clear h2
  go_wp2_with (first
    | ((with_reducible show wpList _ _ _ ({ dst := some 46, op := Op.load _ _, type := _, pos := _, after := _, guard := _ } :: _) _ _); go_must (refine wpList_load_at rfl 48 (.tmp 45) rfl ⟨g, a * 34, none⟩ (getA l a).cells _ Try.underlying48 rfl (size_acc (getA_ok P4.out.o.ok _).o.1) (P4.out.all HAN.out) ?_ ?_; go_simp)))
  refine HPL.out.mono ?_
  rintro e w5 ⟨rfl, hb5⟩
  have P5 := Lib.hid (P4.out.below hb5)
  clear hb5 HPL P4
  have c92 := P5.out.x2
  go_wp2_with fail
  go_ret3
  exact do_ends HD.out P5.out.b
set_option maxHeartbeats 8000000 in
theorem space_good (l : List LAcc) (r : List LRole) (p : Int) (IA : Option Addr) (n c : Nat) (D : Option Addr) (dn dc : Nat) (acc dat : List Int) (LA : Option Addr) (ln lc : Nat) (RA : Option Addr) (rn rc : Nat) (B : Nat) (w : World)
    (hl : AccsIn w B LA ln l) (hlc : ln ≤ lc) (hr : RolesIn w B RA rn r) (hi : InsAt14 w B p IA n c D dn dc acc dat) (hB : B ≤ w.heap.size) (hn : n ≤ 100000) (hln : ln ≤ 100000) (hrn : rn ≤ 100000) (heq : ln = rn) (x : LAsk) (hdat : dat14 dat = some x) (hp : plc14 x r acc = 0) (a b : Nat) (ha : acc.getD 0 0 = a) (hb : acc.getD (need14 x - 1) 0 = b) (han : a < ln) (hbn : b < ln) (ht : x.tag = 8) (h2 : plain14 (getA l a)) (h3 : ¬ 1048576 < x.space) :
    Calls Try.prog 13 #[.slice LA ln lc, .slice RA rn rc, .agg (insC p IA n c D dn dc).toArray] w (DoDone w (do14 l r acc dat)) := by
  have HAN := Lib.hid han
  have HBN := Lib.hid hbn
  have HD : Hid (do14 l r acc dat = ⟨0, l.set a ⟨(getA l a).c, (getA l a).o, x.space⟩, x.space⟩) := Lib.hid (by
    rw [do_is (by rw [hl.len, hr.len]; exact heq) hdat hp ha hb]
    rw [deed14, if_neg (by rw [ht]; decide), if_neg (by rw [ht]; decide), if_neg (by rw [ht]; decide)]
    unfold space14
    rw [if_neg (by simpa using h2), if_neg h3])
  have HAO := Lib.hid (dat14_ok hi.db hdat)
  have HPC := Lib.hid (show ∀ (F : Nat) (args : Array Value) (w : World), Calls Try.prog F args w (PlcDone w x r acc) → Calls Try.prog F args w fun e w' => e = .returned (.tuple #[.int .i64 a, .int .i64 b, .int .i64 0]) ∧ Below w.heap.size w w' from fun _ _ _ h => plc_conv h hp ha hb)
  have HT := Lib.hid ht
  have HLO := Lib.hid hl.ok
  subst heq
  clear hp ha hb ht
  have HLL := Lib.hid hl.len
  have HLR := Lib.hid hr.len
  have hbw := (Below.refl w.heap.size w).alloc (Nat.le_refl _) (.cells (insC p IA n c D dn dc).toArray 26)
  have HBW := Lib.hid hbw
  have R5 := Lib.hid (Row.new w 26 (insC p IA n c D dn dc))
  have HL := Lib.hid (hl.below (hbw.mono hB))
  have HR := Lib.hid (hr.below (hbw.mono hB))
  have HI := Lib.hid (hi.below (hbw.mono hB))
  have HB := Lib.hid hB
  clear hbw hl hr hi
  obtain ⟨g5, hg5⟩ : ∃ g, g = w.heap.size := ⟨_, rfl⟩
  have HG5 : Hid (w.heap.size = g5) := Lib.hid hg5.symm
  rw [← hg5] at R5
  clear hg5
  generalize hW : w.alloc (.cells (insC p IA n c D dn dc).toArray 26) = W at *
  have HW := Lib.hid hW
  clear hW
  go_enter Try.func13, Try.ntmps13
  go_upto_region 1 with fail
  try rw [HG5.out]
  rw [HW.out]
  clear HG5 HW
  have c52 : W.cell? ⟨g5, 2, none⟩ = some (.slice D dn dc) := R5.out.cell 2
  have HDA := Lib.hid (refData14 D dn dc B dat W HI.out.dSees (Nat.le_trans HB.out HBW.out.size) HI.out.dc.1 HI.out.dc.2 HI.out.db)
  rw [hdat] at HDA
  go_upto_region 3 with fail
  go_wp2_with fail
  clear c52
  refine HDA.out.mono ?_
  rintro e w1 ⟨rfl, hb1⟩
  have B1 := Lib.hid hb1
  clear hb1 HDA
  go_upto_region 6 with (first
    | ((with_reducible show wpList _ _ _ ({ dst := some 9, op := Op.alloc _, type := _, pos := _, after := _, guard := _ } :: _) _ _); go_must (refine wpList_alloc_zero rfl 77 rfl (askC ask0) zero_ask ?_))
    | ((with_reducible show wpList _ _ _ ({ dst := none, op := Op.store 77 _ _, type := _, pos := _, after := _, guard := _ } :: _) _ _); go_must (refine wpList_store_new rfl 77 (.tmp 9) (.tmp 24) rfl (askC ((some x).getD ask0)) (size_ask HAO.out.o.1) (ask_one _) ((show (askC ask0).toArray.size = 35 from rfl).trans (ask_len HAO.out.o.1).symm) ?_ ?_ ?_; go_simp; go_simp; intro w2 hr2 hb2 hz2)))
  have R9 := Lib.hid hr2
  have B2 := Lib.hid (HBW.out.trans ((B1.out.trans (hb2.mono B1.out.size)).mono HBW.out.size))
  have R52 := Lib.hid (R5.out.below (B1.out.trans (hb2.mono B1.out.size)) R5.out.lt)
  have HK := Lib.hid (show Below B W w2 from (B1.out.trans (hb2.mono B1.out.size)).mono (Nat.le_trans HB.out HBW.out.size))
  have HP := Lib.hid (HPC.out _ _ _ (refPlaces14 x HAO.out p IA n c D dn dc acc RA ln rc r B w2 (HI.out.aSees.below HK.out) HI.out.ab (HR.out.below HK.out) (Nat.le_trans HB.out B2.out.size) hn hln))
  obtain ⟨g9, hg9⟩ : ∃ g, g = w1.heap.size := ⟨_, rfl⟩
  have HG9 : Hid (w.heap.size ≤ g9) := Lib.hid (by have := HBW.out.size; have := B1.out.size; omega)
  rw [← hg9] at R9 ⊢
  clear hr2 hb2 hz2 hg9 B1
  go_wp2_with (first
    | ((with_reducible show wpList _ _ _ ({ dst := some 29, op := Op.load _ _, type := _, pos := _, after := _, guard := _ } :: _) _ _); go_must (refine wpList_load_whole rfl 77 (.tmp 9) rfl g9 77 (askC x) _ Try.underlying77 rfl (size_ask HAO.out.o.1) R9.out ?_ ?_; go_simp))
    | ((with_reducible show wpList _ _ _ ({ dst := some 31, op := Op.load _ _, type := _, pos := _, after := _, guard := _ } :: _) _ _); go_must (refine wpList_load_whole rfl 26 (.tmp 5) rfl g5 26 (insC p IA n c D dn dc) _ Try.underlying26 rfl (by kernel_rfl) R52.out ?_ ?_; go_simp)))
  refine HP.out.mono ?_
  rintro e w3 ⟨rfl, hb3⟩
  have B3 := Lib.hid (B2.out.trans (hb3.mono B2.out.size))
  have R93 := Lib.hid (R9.out.below hb3 R9.out.lt)
  have HK3 := Lib.hid (show Below B W w3 from HK.out.trans (hb3.mono (Nat.le_trans HB.out B2.out.size)))
  clear hb3 HP R9 R52 B2 HK HPC
  have HLS := Lib.hid (HL.out.below HK3.out).sees
  have HLT := Lib.hid R93.out.lt
  go_upto_region 10 with (first
    | ((with_reducible show wpList _ _ _ ({ dst := some 40, op := _, type := _, pos := _, after := _, guard := _ } :: _) _ _); go_must (refine wpList_appendN rfl (.const (.slice none 0 0)) (.tmp 39) 22 48 _ 34 48 rfl Try.underlying22 infoAc14 zszAc14 (by omega) (.slice none 0 0) 0 [] w3.heap.size B LA ln lc (accsC l) rfl (own_nilN _ _ _ _) ?_ HLS.out (accsC_one _) (by unfold maxLen; omega) (by omega) (Nat.le_refl _) ?_; go_simp; intro v4 w4 ho4 hg4)))
  rw [Nat.zero_add, List.nil_append] at ho4
  obtain ⟨g, cap, rest, rfl, hO⟩ := own_out14 ho4 HLL.out (by omega) HLO.out
  have hb4 := hg4.below (own_nilN w3 w3.heap.size 48 34) (Nat.le_refl _)
  have P4 : Hid (PD w w4 g g9 cap ln rest x l) := Lib.hid ⟨B3.out.trans (hb4.mono B3.out.size), hO.low (B3.out.size), R93.out.below hb4 R93.out.lt, by have := hO.lo; have := HLT.out; omega⟩
  clear ho4 hg4 hO hb4 HLS HLT R93 HK3 B3
  have HCC := Lib.hid P4.out.o.room.1
  have c90 : w4.cell? ⟨g9, 0, none⟩ = some (.int .u64 8) := P4.out.x0.trans (by rw [HT.out])
  have HPL := Lib.hid (refPlain14 (getA l a) w4 (getA_ok P4.out.o.ok a))
  rw [decide_eq_true h2] at HPL
  clear h2
  go_wp2_with (first
    | ((with_reducible show wpList _ _ _ ({ dst := some 46, op := Op.load _ _, type := _, pos := _, after := _, guard := _ } :: _) _ _); go_must (refine wpList_load_at rfl 48 (.tmp 45) rfl ⟨g, a * 34, none⟩ (getA l a).cells _ Try.underlying48 rfl (size_acc (getA_ok P4.out.o.ok _).o.1) (P4.out.all HAN.out) ?_ ?_; go_simp)))
  refine HPL.out.mono ?_
  rintro e w5 ⟨rfl, hb5⟩
  have P5 := Lib.hid (P4.out.below hb5)
  clear hb5 HPL P4
  have c92 := P5.out.x2
  have fas := P5.out.fz (a * 34 + 33)
  have cas := P5.out.s HAN.out
  go_upto_region 41 with fail
  have P7 := Lib.hid (P5.out.one HAN.out (o := 33) (u := .int .u64 x.space) (y := ⟨(getA l a).c, (getA l a).o, x.space⟩) ⟨(getA_ok P5.out.o.ok a).c, (getA_ok P5.out.o.ok a).o, HAO.out.s⟩ (by decide) (acc_setS14 (getA_ok P5.out.o.ok a).o.1 _))
  clear c92 fas cas P5
  generalize hW7 : w5.setCell ⟨g, a * 34 + 33, none⟩ (.int .u64 x.space) = w7 at *
  clear hW7
  have c92 := P7.out.x2
  go_quiet (fail)
  go_wp2_with fail
  go_ret3
  exact do_good14 HD.out (P7.out.drewN _).done (P7.out.drewN _).b
set_option maxHeartbeats 8000000 in
theorem move_owner (l : List LAcc) (r : List LRole) (p : Int) (IA : Option Addr) (n c : Nat) (D : Option Addr) (dn dc : Nat) (acc dat : List Int) (LA : Option Addr) (ln lc : Nat) (RA : Option Addr) (rn rc : Nat) (B : Nat) (w : World)
    (hl : AccsIn w B LA ln l) (hlc : ln ≤ lc) (hr : RolesIn w B RA rn r) (hi : InsAt14 w B p IA n c D dn dc acc dat) (hB : B ≤ w.heap.size) (hn : n ≤ 100000) (hln : ln ≤ 100000) (hrn : rn ≤ 100000) (heq : ln = rn) (x : LAsk) (hdat : dat14 dat = some x) (hp : plc14 x r acc = 0) (a b : Nat) (ha : acc.getD 0 0 = a) (hb : acc.getD (need14 x - 1) 0 = b) (han : a < ln) (hbn : b < ln) (ht : x.tag = 2) (h2 : ¬ plain14 (getA l a)) :
    Calls Try.prog 13 #[.slice LA ln lc, .slice RA rn rc, .agg (insC p IA n c D dn dc).toArray] w (DoDone w (do14 l r acc dat)) := by
  have HAN := Lib.hid han
  have HBN := Lib.hid hbn
  have HD : Hid (do14 l r acc dat = bad14 16) := Lib.hid (by
    rw [do_is (by rw [hl.len, hr.len]; exact heq) hdat hp ha hb]
    rw [deed14, if_neg (by rw [ht]; decide), if_neg (by rw [ht]; decide), if_pos ht]
    unfold move14
    rw [if_pos h2])
  have HAO := Lib.hid (dat14_ok hi.db hdat)
  have HPC := Lib.hid (show ∀ (F : Nat) (args : Array Value) (w : World), Calls Try.prog F args w (PlcDone w x r acc) → Calls Try.prog F args w fun e w' => e = .returned (.tuple #[.int .i64 a, .int .i64 b, .int .i64 0]) ∧ Below w.heap.size w w' from fun _ _ _ h => plc_conv h hp ha hb)
  have HT := Lib.hid ht
  have HLO := Lib.hid hl.ok
  subst heq
  clear hp ha hb ht
  have HLL := Lib.hid hl.len
  have HLR := Lib.hid hr.len
  have hbw := (Below.refl w.heap.size w).alloc (Nat.le_refl _) (.cells (insC p IA n c D dn dc).toArray 26)
  have HBW := Lib.hid hbw
  have R5 := Lib.hid (Row.new w 26 (insC p IA n c D dn dc))
  have HL := Lib.hid (hl.below (hbw.mono hB))
  have HR := Lib.hid (hr.below (hbw.mono hB))
  have HI := Lib.hid (hi.below (hbw.mono hB))
  have HB := Lib.hid hB
  clear hbw hl hr hi
  obtain ⟨g5, hg5⟩ : ∃ g, g = w.heap.size := ⟨_, rfl⟩
  have HG5 : Hid (w.heap.size = g5) := Lib.hid hg5.symm
  rw [← hg5] at R5
  clear hg5
  generalize hW : w.alloc (.cells (insC p IA n c D dn dc).toArray 26) = W at *
  have HW := Lib.hid hW
  clear hW
  go_enter Try.func13, Try.ntmps13
  go_upto_region 1 with fail
  try rw [HG5.out]
  rw [HW.out]
  clear HG5 HW
  have c52 : W.cell? ⟨g5, 2, none⟩ = some (.slice D dn dc) := R5.out.cell 2
  have HDA := Lib.hid (refData14 D dn dc B dat W HI.out.dSees (Nat.le_trans HB.out HBW.out.size) HI.out.dc.1 HI.out.dc.2 HI.out.db)
  rw [hdat] at HDA
  go_upto_region 3 with fail
  go_wp2_with fail
  clear c52
  refine HDA.out.mono ?_
  rintro e w1 ⟨rfl, hb1⟩
  have B1 := Lib.hid hb1
  clear hb1 HDA
  go_upto_region 6 with (first
    | ((with_reducible show wpList _ _ _ ({ dst := some 9, op := Op.alloc _, type := _, pos := _, after := _, guard := _ } :: _) _ _); go_must (refine wpList_alloc_zero rfl 77 rfl (askC ask0) zero_ask ?_))
    | ((with_reducible show wpList _ _ _ ({ dst := none, op := Op.store 77 _ _, type := _, pos := _, after := _, guard := _ } :: _) _ _); go_must (refine wpList_store_new rfl 77 (.tmp 9) (.tmp 24) rfl (askC ((some x).getD ask0)) (size_ask HAO.out.o.1) (ask_one _) ((show (askC ask0).toArray.size = 35 from rfl).trans (ask_len HAO.out.o.1).symm) ?_ ?_ ?_; go_simp; go_simp; intro w2 hr2 hb2 hz2)))
  have R9 := Lib.hid hr2
  have B2 := Lib.hid (HBW.out.trans ((B1.out.trans (hb2.mono B1.out.size)).mono HBW.out.size))
  have R52 := Lib.hid (R5.out.below (B1.out.trans (hb2.mono B1.out.size)) R5.out.lt)
  have HK := Lib.hid (show Below B W w2 from (B1.out.trans (hb2.mono B1.out.size)).mono (Nat.le_trans HB.out HBW.out.size))
  have HP := Lib.hid (HPC.out _ _ _ (refPlaces14 x HAO.out p IA n c D dn dc acc RA ln rc r B w2 (HI.out.aSees.below HK.out) HI.out.ab (HR.out.below HK.out) (Nat.le_trans HB.out B2.out.size) hn hln))
  obtain ⟨g9, hg9⟩ : ∃ g, g = w1.heap.size := ⟨_, rfl⟩
  have HG9 : Hid (w.heap.size ≤ g9) := Lib.hid (by have := HBW.out.size; have := B1.out.size; omega)
  rw [← hg9] at R9 ⊢
  clear hr2 hb2 hz2 hg9 B1
  go_wp2_with (first
    | ((with_reducible show wpList _ _ _ ({ dst := some 29, op := Op.load _ _, type := _, pos := _, after := _, guard := _ } :: _) _ _); go_must (refine wpList_load_whole rfl 77 (.tmp 9) rfl g9 77 (askC x) _ Try.underlying77 rfl (size_ask HAO.out.o.1) R9.out ?_ ?_; go_simp))
    | ((with_reducible show wpList _ _ _ ({ dst := some 31, op := Op.load _ _, type := _, pos := _, after := _, guard := _ } :: _) _ _); go_must (refine wpList_load_whole rfl 26 (.tmp 5) rfl g5 26 (insC p IA n c D dn dc) _ Try.underlying26 rfl (by kernel_rfl) R52.out ?_ ?_; go_simp)))
  refine HP.out.mono ?_
  rintro e w3 ⟨rfl, hb3⟩
  have B3 := Lib.hid (B2.out.trans (hb3.mono B2.out.size))
  have R93 := Lib.hid (R9.out.below hb3 R9.out.lt)
  have HK3 := Lib.hid (show Below B W w3 from HK.out.trans (hb3.mono (Nat.le_trans HB.out B2.out.size)))
  clear hb3 HP R9 R52 B2 HK HPC
  have HLS := Lib.hid (HL.out.below HK3.out).sees
  have HLT := Lib.hid R93.out.lt
  go_upto_region 10 with (first
    | ((with_reducible show wpList _ _ _ ({ dst := some 40, op := _, type := _, pos := _, after := _, guard := _ } :: _) _ _); go_must (refine wpList_appendN rfl (.const (.slice none 0 0)) (.tmp 39) 22 48 _ 34 48 rfl Try.underlying22 infoAc14 zszAc14 (by omega) (.slice none 0 0) 0 [] w3.heap.size B LA ln lc (accsC l) rfl (own_nilN _ _ _ _) ?_ HLS.out (accsC_one _) (by unfold maxLen; omega) (by omega) (Nat.le_refl _) ?_; go_simp; intro v4 w4 ho4 hg4)))
  rw [Nat.zero_add, List.nil_append] at ho4
  obtain ⟨g, cap, rest, rfl, hO⟩ := own_out14 ho4 HLL.out (by omega) HLO.out
  have hb4 := hg4.below (own_nilN w3 w3.heap.size 48 34) (Nat.le_refl _)
  have P4 : Hid (PD w w4 g g9 cap ln rest x l) := Lib.hid ⟨B3.out.trans (hb4.mono B3.out.size), hO.low (B3.out.size), R93.out.below hb4 R93.out.lt, by have := hO.lo; have := HLT.out; omega⟩
  clear ho4 hg4 hO hb4 HLS HLT R93 HK3 B3
  have HCC := Lib.hid P4.out.o.room.1
  have c90 : w4.cell? ⟨g9, 0, none⟩ = some (.int .u64 2) := P4.out.x0.trans (by rw [HT.out])
  have HPL := Lib.hid (refPlain14 (getA l a) w4 (getA_ok P4.out.o.ok a))
  rw [decide_eq_false h2] at HPL
  clear h2
  go_wp2_with (first
    | ((with_reducible show wpList _ _ _ ({ dst := some 125, op := Op.load _ _, type := _, pos := _, after := _, guard := _ } :: _) _ _); go_must (refine wpList_load_at rfl 48 (.tmp 124) rfl ⟨g, a * 34, none⟩ (getA l a).cells _ Try.underlying48 rfl (size_acc (getA_ok P4.out.o.ok _).o.1) (P4.out.all HAN.out) ?_ ?_; go_simp)))
  refine HPL.out.mono ?_
  rintro e w5 ⟨rfl, hb5⟩
  have P5 := Lib.hid (P4.out.below hb5)
  clear hb5 HPL P4
  go_wp2_with fail
  go_ret3
  exact do_ends HD.out P5.out.b
set_option maxHeartbeats 8000000 in
theorem move_funds (l : List LAcc) (r : List LRole) (p : Int) (IA : Option Addr) (n c : Nat) (D : Option Addr) (dn dc : Nat) (acc dat : List Int) (LA : Option Addr) (ln lc : Nat) (RA : Option Addr) (rn rc : Nat) (B : Nat) (w : World)
    (hl : AccsIn w B LA ln l) (hlc : ln ≤ lc) (hr : RolesIn w B RA rn r) (hi : InsAt14 w B p IA n c D dn dc acc dat) (hB : B ≤ w.heap.size) (hn : n ≤ 100000) (hln : ln ≤ 100000) (hrn : rn ≤ 100000) (heq : ln = rn) (x : LAsk) (hdat : dat14 dat = some x) (hp : plc14 x r acc = 0) (a b : Nat) (ha : acc.getD 0 0 = a) (hb : acc.getD (need14 x - 1) 0 = b) (han : a < ln) (hbn : b < ln) (ht : x.tag = 2) (h2 : plain14 (getA l a)) (h4 : (getA l a).c < x.coins) :
    Calls Try.prog 13 #[.slice LA ln lc, .slice RA rn rc, .agg (insC p IA n c D dn dc).toArray] w (DoDone w (do14 l r acc dat)) := by
  have HAN := Lib.hid han
  have HBN := Lib.hid hbn
  have HD : Hid (do14 l r acc dat = bad14 17) := Lib.hid (by
    rw [do_is (by rw [hl.len, hr.len]; exact heq) hdat hp ha hb]
    rw [deed14, if_neg (by rw [ht]; decide), if_neg (by rw [ht]; decide), if_pos ht]
    unfold move14
    rw [if_neg (by simpa using h2), if_pos h4])
  have HAO := Lib.hid (dat14_ok hi.db hdat)
  have HPC := Lib.hid (show ∀ (F : Nat) (args : Array Value) (w : World), Calls Try.prog F args w (PlcDone w x r acc) → Calls Try.prog F args w fun e w' => e = .returned (.tuple #[.int .i64 a, .int .i64 b, .int .i64 0]) ∧ Below w.heap.size w w' from fun _ _ _ h => plc_conv h hp ha hb)
  have HT := Lib.hid ht
  have HLO := Lib.hid hl.ok
  subst heq
  clear hp ha hb ht
  have HLL := Lib.hid hl.len
  have HLR := Lib.hid hr.len
  have hbw := (Below.refl w.heap.size w).alloc (Nat.le_refl _) (.cells (insC p IA n c D dn dc).toArray 26)
  have HBW := Lib.hid hbw
  have R5 := Lib.hid (Row.new w 26 (insC p IA n c D dn dc))
  have HL := Lib.hid (hl.below (hbw.mono hB))
  have HR := Lib.hid (hr.below (hbw.mono hB))
  have HI := Lib.hid (hi.below (hbw.mono hB))
  have HB := Lib.hid hB
  clear hbw hl hr hi
  obtain ⟨g5, hg5⟩ : ∃ g, g = w.heap.size := ⟨_, rfl⟩
  have HG5 : Hid (w.heap.size = g5) := Lib.hid hg5.symm
  rw [← hg5] at R5
  clear hg5
  generalize hW : w.alloc (.cells (insC p IA n c D dn dc).toArray 26) = W at *
  have HW := Lib.hid hW
  clear hW
  go_enter Try.func13, Try.ntmps13
  go_upto_region 1 with fail
  try rw [HG5.out]
  rw [HW.out]
  clear HG5 HW
  have c52 : W.cell? ⟨g5, 2, none⟩ = some (.slice D dn dc) := R5.out.cell 2
  have HDA := Lib.hid (refData14 D dn dc B dat W HI.out.dSees (Nat.le_trans HB.out HBW.out.size) HI.out.dc.1 HI.out.dc.2 HI.out.db)
  rw [hdat] at HDA
  go_upto_region 3 with fail
  go_wp2_with fail
  clear c52
  refine HDA.out.mono ?_
  rintro e w1 ⟨rfl, hb1⟩
  have B1 := Lib.hid hb1
  clear hb1 HDA
  go_upto_region 6 with (first
    | ((with_reducible show wpList _ _ _ ({ dst := some 9, op := Op.alloc _, type := _, pos := _, after := _, guard := _ } :: _) _ _); go_must (refine wpList_alloc_zero rfl 77 rfl (askC ask0) zero_ask ?_))
    | ((with_reducible show wpList _ _ _ ({ dst := none, op := Op.store 77 _ _, type := _, pos := _, after := _, guard := _ } :: _) _ _); go_must (refine wpList_store_new rfl 77 (.tmp 9) (.tmp 24) rfl (askC ((some x).getD ask0)) (size_ask HAO.out.o.1) (ask_one _) ((show (askC ask0).toArray.size = 35 from rfl).trans (ask_len HAO.out.o.1).symm) ?_ ?_ ?_; go_simp; go_simp; intro w2 hr2 hb2 hz2)))
  have R9 := Lib.hid hr2
  have B2 := Lib.hid (HBW.out.trans ((B1.out.trans (hb2.mono B1.out.size)).mono HBW.out.size))
  have R52 := Lib.hid (R5.out.below (B1.out.trans (hb2.mono B1.out.size)) R5.out.lt)
  have HK := Lib.hid (show Below B W w2 from (B1.out.trans (hb2.mono B1.out.size)).mono (Nat.le_trans HB.out HBW.out.size))
  have HP := Lib.hid (HPC.out _ _ _ (refPlaces14 x HAO.out p IA n c D dn dc acc RA ln rc r B w2 (HI.out.aSees.below HK.out) HI.out.ab (HR.out.below HK.out) (Nat.le_trans HB.out B2.out.size) hn hln))
  obtain ⟨g9, hg9⟩ : ∃ g, g = w1.heap.size := ⟨_, rfl⟩
  have HG9 : Hid (w.heap.size ≤ g9) := Lib.hid (by have := HBW.out.size; have := B1.out.size; omega)
  rw [← hg9] at R9 ⊢
  clear hr2 hb2 hz2 hg9 B1
  go_wp2_with (first
    | ((with_reducible show wpList _ _ _ ({ dst := some 29, op := Op.load _ _, type := _, pos := _, after := _, guard := _ } :: _) _ _); go_must (refine wpList_load_whole rfl 77 (.tmp 9) rfl g9 77 (askC x) _ Try.underlying77 rfl (size_ask HAO.out.o.1) R9.out ?_ ?_; go_simp))
    | ((with_reducible show wpList _ _ _ ({ dst := some 31, op := Op.load _ _, type := _, pos := _, after := _, guard := _ } :: _) _ _); go_must (refine wpList_load_whole rfl 26 (.tmp 5) rfl g5 26 (insC p IA n c D dn dc) _ Try.underlying26 rfl (by kernel_rfl) R52.out ?_ ?_; go_simp)))
  refine HP.out.mono ?_
  rintro e w3 ⟨rfl, hb3⟩
  have B3 := Lib.hid (B2.out.trans (hb3.mono B2.out.size))
  have R93 := Lib.hid (R9.out.below hb3 R9.out.lt)
  have HK3 := Lib.hid (show Below B W w3 from HK.out.trans (hb3.mono (Nat.le_trans HB.out B2.out.size)))
  clear hb3 HP R9 R52 B2 HK HPC
  have HLS := Lib.hid (HL.out.below HK3.out).sees
  have HLT := Lib.hid R93.out.lt
  go_upto_region 10 with (first
    | ((with_reducible show wpList _ _ _ ({ dst := some 40, op := _, type := _, pos := _, after := _, guard := _ } :: _) _ _); go_must (refine wpList_appendN rfl (.const (.slice none 0 0)) (.tmp 39) 22 48 _ 34 48 rfl Try.underlying22 infoAc14 zszAc14 (by omega) (.slice none 0 0) 0 [] w3.heap.size B LA ln lc (accsC l) rfl (own_nilN _ _ _ _) ?_ HLS.out (accsC_one _) (by unfold maxLen; omega) (by omega) (Nat.le_refl _) ?_; go_simp; intro v4 w4 ho4 hg4)))
  rw [Nat.zero_add, List.nil_append] at ho4
  obtain ⟨g, cap, rest, rfl, hO⟩ := own_out14 ho4 HLL.out (by omega) HLO.out
  have hb4 := hg4.below (own_nilN w3 w3.heap.size 48 34) (Nat.le_refl _)
  have P4 : Hid (PD w w4 g g9 cap ln rest x l) := Lib.hid ⟨B3.out.trans (hb4.mono B3.out.size), hO.low (B3.out.size), R93.out.below hb4 R93.out.lt, by have := hO.lo; have := HLT.out; omega⟩
  clear ho4 hg4 hO hb4 HLS HLT R93 HK3 B3
  have HCC := Lib.hid P4.out.o.room.1
  have c90 : w4.cell? ⟨g9, 0, none⟩ = some (.int .u64 2) := P4.out.x0.trans (by rw [HT.out])
  have HPL := Lib.hid (refPlain14 (getA l a) w4 (getA_ok P4.out.o.ok a))
  rw [decide_eq_true h2] at HPL
  clear h2
  go_wp2_with (first
    | ((with_reducible show wpList _ _ _ ({ dst := some 125, op := Op.load _ _, type := _, pos := _, after := _, guard := _ } :: _) _ _); go_must (refine wpList_load_at rfl 48 (.tmp 124) rfl ⟨g, a * 34, none⟩ (getA l a).cells _ Try.underlying48 rfl (size_acc (getA_ok P4.out.o.ok _).o.1) (P4.out.all HAN.out) ?_ ?_; go_simp)))
  refine HPL.out.mono ?_
  rintro e w5 ⟨rfl, hb5⟩
  have P5 := Lib.hid (P4.out.below hb5)
  clear hb5 HPL P4
  have c91 := P5.out.x1
  have cac := P5.out.c HAN.out
  go_upto_region 34 with fail
  go_quiet (fail)
  go_wp2_with fail
  go_ret3
  exact do_ends HD.out (P5.out.drewN nq).b
set_option maxHeartbeats 8000000 in
theorem move_same (l : List LAcc) (r : List LRole) (p : Int) (IA : Option Addr) (n c : Nat) (D : Option Addr) (dn dc : Nat) (acc dat : List Int) (LA : Option Addr) (ln lc : Nat) (RA : Option Addr) (rn rc : Nat) (B : Nat) (w : World)
    (hl : AccsIn w B LA ln l) (hlc : ln ≤ lc) (hr : RolesIn w B RA rn r) (hi : InsAt14 w B p IA n c D dn dc acc dat) (hB : B ≤ w.heap.size) (hn : n ≤ 100000) (hln : ln ≤ 100000) (hrn : rn ≤ 100000) (heq : ln = rn) (x : LAsk) (hdat : dat14 dat = some x) (hp : plc14 x r acc = 0) (a b : Nat) (ha : acc.getD 0 0 = a) (hb : acc.getD (need14 x - 1) 0 = b) (han : a < ln) (hbn : b < ln) (ht : x.tag = 2) (h2 : plain14 (getA l a)) (h4 : ¬ (getA l a).c < x.coins) (hab : a = b) :
    Calls Try.prog 13 #[.slice LA ln lc, .slice RA rn rc, .agg (insC p IA n c D dn dc).toArray] w (DoDone w (do14 l r acc dat)) := by
  have HAN := Lib.hid han
  have HBN := Lib.hid hbn
  have HD : Hid (do14 l r acc dat = ⟨0, l, 0⟩) := Lib.hid (by
    rw [do_is (by rw [hl.len, hr.len]; exact heq) hdat hp ha hb]
    rw [deed14, if_neg (by rw [ht]; decide), if_neg (by rw [ht]; decide), if_pos ht]
    unfold move14
    rw [if_neg (by simpa using h2), if_neg h4, if_pos hab])
  have HAO := Lib.hid (dat14_ok hi.db hdat)
  have HPC := Lib.hid (show ∀ (F : Nat) (args : Array Value) (w : World), Calls Try.prog F args w (PlcDone w x r acc) → Calls Try.prog F args w fun e w' => e = .returned (.tuple #[.int .i64 a, .int .i64 b, .int .i64 0]) ∧ Below w.heap.size w w' from fun _ _ _ h => plc_conv h hp ha hb)
  have HT := Lib.hid ht
  have HLO := Lib.hid hl.ok
  subst heq
  subst hab
  clear hp ha hb ht
  have HLL := Lib.hid hl.len
  have HLR := Lib.hid hr.len
  have hbw := (Below.refl w.heap.size w).alloc (Nat.le_refl _) (.cells (insC p IA n c D dn dc).toArray 26)
  have HBW := Lib.hid hbw
  have R5 := Lib.hid (Row.new w 26 (insC p IA n c D dn dc))
  have HL := Lib.hid (hl.below (hbw.mono hB))
  have HR := Lib.hid (hr.below (hbw.mono hB))
  have HI := Lib.hid (hi.below (hbw.mono hB))
  have HB := Lib.hid hB
  clear hbw hl hr hi
  obtain ⟨g5, hg5⟩ : ∃ g, g = w.heap.size := ⟨_, rfl⟩
  have HG5 : Hid (w.heap.size = g5) := Lib.hid hg5.symm
  rw [← hg5] at R5
  clear hg5
  generalize hW : w.alloc (.cells (insC p IA n c D dn dc).toArray 26) = W at *
  have HW := Lib.hid hW
  clear hW
  go_enter Try.func13, Try.ntmps13
  go_upto_region 1 with fail
  try rw [HG5.out]
  rw [HW.out]
  clear HG5 HW
  have c52 : W.cell? ⟨g5, 2, none⟩ = some (.slice D dn dc) := R5.out.cell 2
  have HDA := Lib.hid (refData14 D dn dc B dat W HI.out.dSees (Nat.le_trans HB.out HBW.out.size) HI.out.dc.1 HI.out.dc.2 HI.out.db)
  rw [hdat] at HDA
  go_upto_region 3 with fail
  go_wp2_with fail
  clear c52
  refine HDA.out.mono ?_
  rintro e w1 ⟨rfl, hb1⟩
  have B1 := Lib.hid hb1
  clear hb1 HDA
  go_upto_region 6 with (first
    | ((with_reducible show wpList _ _ _ ({ dst := some 9, op := Op.alloc _, type := _, pos := _, after := _, guard := _ } :: _) _ _); go_must (refine wpList_alloc_zero rfl 77 rfl (askC ask0) zero_ask ?_))
    | ((with_reducible show wpList _ _ _ ({ dst := none, op := Op.store 77 _ _, type := _, pos := _, after := _, guard := _ } :: _) _ _); go_must (refine wpList_store_new rfl 77 (.tmp 9) (.tmp 24) rfl (askC ((some x).getD ask0)) (size_ask HAO.out.o.1) (ask_one _) ((show (askC ask0).toArray.size = 35 from rfl).trans (ask_len HAO.out.o.1).symm) ?_ ?_ ?_; go_simp; go_simp; intro w2 hr2 hb2 hz2)))
  have R9 := Lib.hid hr2
  have B2 := Lib.hid (HBW.out.trans ((B1.out.trans (hb2.mono B1.out.size)).mono HBW.out.size))
  have R52 := Lib.hid (R5.out.below (B1.out.trans (hb2.mono B1.out.size)) R5.out.lt)
  have HK := Lib.hid (show Below B W w2 from (B1.out.trans (hb2.mono B1.out.size)).mono (Nat.le_trans HB.out HBW.out.size))
  have HP := Lib.hid (HPC.out _ _ _ (refPlaces14 x HAO.out p IA n c D dn dc acc RA ln rc r B w2 (HI.out.aSees.below HK.out) HI.out.ab (HR.out.below HK.out) (Nat.le_trans HB.out B2.out.size) hn hln))
  obtain ⟨g9, hg9⟩ : ∃ g, g = w1.heap.size := ⟨_, rfl⟩
  have HG9 : Hid (w.heap.size ≤ g9) := Lib.hid (by have := HBW.out.size; have := B1.out.size; omega)
  rw [← hg9] at R9 ⊢
  clear hr2 hb2 hz2 hg9 B1
  go_wp2_with (first
    | ((with_reducible show wpList _ _ _ ({ dst := some 29, op := Op.load _ _, type := _, pos := _, after := _, guard := _ } :: _) _ _); go_must (refine wpList_load_whole rfl 77 (.tmp 9) rfl g9 77 (askC x) _ Try.underlying77 rfl (size_ask HAO.out.o.1) R9.out ?_ ?_; go_simp))
    | ((with_reducible show wpList _ _ _ ({ dst := some 31, op := Op.load _ _, type := _, pos := _, after := _, guard := _ } :: _) _ _); go_must (refine wpList_load_whole rfl 26 (.tmp 5) rfl g5 26 (insC p IA n c D dn dc) _ Try.underlying26 rfl (by kernel_rfl) R52.out ?_ ?_; go_simp)))
  refine HP.out.mono ?_
  rintro e w3 ⟨rfl, hb3⟩
  have B3 := Lib.hid (B2.out.trans (hb3.mono B2.out.size))
  have R93 := Lib.hid (R9.out.below hb3 R9.out.lt)
  have HK3 := Lib.hid (show Below B W w3 from HK.out.trans (hb3.mono (Nat.le_trans HB.out B2.out.size)))
  clear hb3 HP R9 R52 B2 HK HPC
  have HLS := Lib.hid (HL.out.below HK3.out).sees
  have HLT := Lib.hid R93.out.lt
  go_upto_region 10 with (first
    | ((with_reducible show wpList _ _ _ ({ dst := some 40, op := _, type := _, pos := _, after := _, guard := _ } :: _) _ _); go_must (refine wpList_appendN rfl (.const (.slice none 0 0)) (.tmp 39) 22 48 _ 34 48 rfl Try.underlying22 infoAc14 zszAc14 (by omega) (.slice none 0 0) 0 [] w3.heap.size B LA ln lc (accsC l) rfl (own_nilN _ _ _ _) ?_ HLS.out (accsC_one _) (by unfold maxLen; omega) (by omega) (Nat.le_refl _) ?_; go_simp; intro v4 w4 ho4 hg4)))
  rw [Nat.zero_add, List.nil_append] at ho4
  obtain ⟨g, cap, rest, rfl, hO⟩ := own_out14 ho4 HLL.out (by omega) HLO.out
  have hb4 := hg4.below (own_nilN w3 w3.heap.size 48 34) (Nat.le_refl _)
  have P4 : Hid (PD w w4 g g9 cap ln rest x l) := Lib.hid ⟨B3.out.trans (hb4.mono B3.out.size), hO.low (B3.out.size), R93.out.below hb4 R93.out.lt, by have := hO.lo; have := HLT.out; omega⟩
  clear ho4 hg4 hO hb4 HLS HLT R93 HK3 B3
  have HCC := Lib.hid P4.out.o.room.1
  have c90 : w4.cell? ⟨g9, 0, none⟩ = some (.int .u64 2) := P4.out.x0.trans (by rw [HT.out])
  have HPL := Lib.hid (refPlain14 (getA l a) w4 (getA_ok P4.out.o.ok a))
  rw [decide_eq_true h2] at HPL
  clear h2
  go_wp2_with (first
    | ((with_reducible show wpList _ _ _ ({ dst := some 125, op := Op.load _ _, type := _, pos := _, after := _, guard := _ } :: _) _ _); go_must (refine wpList_load_at rfl 48 (.tmp 124) rfl ⟨g, a * 34, none⟩ (getA l a).cells _ Try.underlying48 rfl (size_acc (getA_ok P4.out.o.ok _).o.1) (P4.out.all HAN.out) ?_ ?_; go_simp)))
  refine HPL.out.mono ?_
  rintro e w5 ⟨rfl, hb5⟩
  have P5 := Lib.hid (P4.out.below hb5)
  clear hb5 HPL P4
  have c91 := P5.out.x1
  have cac := P5.out.c HAN.out
  go_upto_region 34 with fail
  go_quiet (fail)
  have P6 := Lib.hid (P5.out.drewN nq)
  clear c91 cac P5
  generalize hW6 : w5.drewN nq = w6 at *
  clear hW6
  have c91 := P6.out.x1
  have c92 : w6.cell? ⟨g9, 2, none⟩ = some (.int .u64 0) := P6.out.x2.trans (by rw [HAO.out.two HT.out])
  go_upto_region 41 with fail
  go_quiet (fail)
  go_wp2_with fail
  go_ret3
  exact do_good14 HD.out (P6.out.drewN _).done (P6.out.drewN _).b
set_option maxHeartbeats 8000000 in
theorem move_over (l : List LAcc) (r : List LRole) (p : Int) (IA : Option Addr) (n c : Nat) (D : Option Addr) (dn dc : Nat) (acc dat : List Int) (LA : Option Addr) (ln lc : Nat) (RA : Option Addr) (rn rc : Nat) (B : Nat) (w : World)
    (hl : AccsIn w B LA ln l) (hlc : ln ≤ lc) (hr : RolesIn w B RA rn r) (hi : InsAt14 w B p IA n c D dn dc acc dat) (hB : B ≤ w.heap.size) (hn : n ≤ 100000) (hln : ln ≤ 100000) (hrn : rn ≤ 100000) (heq : ln = rn) (x : LAsk) (hdat : dat14 dat = some x) (hp : plc14 x r acc = 0) (a b : Nat) (ha : acc.getD 0 0 = a) (hb : acc.getD (need14 x - 1) 0 = b) (han : a < ln) (hbn : b < ln) (ht : x.tag = 2) (h2 : plain14 (getA l a)) (h4 : ¬ (getA l a).c < x.coins) (hab : ¬ a = b) (h5 : 18446744073709551615 - x.coins < (getA l b).c) :
    Calls Try.prog 13 #[.slice LA ln lc, .slice RA rn rc, .agg (insC p IA n c D dn dc).toArray] w (DoDone w (do14 l r acc dat)) := by
  have HAN := Lib.hid han
  have HBN := Lib.hid hbn
  have HD : Hid (do14 l r acc dat = bad14 18) := Lib.hid (by
    rw [do_is (by rw [hl.len, hr.len]; exact heq) hdat hp ha hb]
    rw [deed14, if_neg (by rw [ht]; decide), if_neg (by rw [ht]; decide), if_pos ht]
    unfold move14
    rw [if_neg (by simpa using h2), if_neg h4, if_neg hab, if_pos h5])
  have HAO := Lib.hid (dat14_ok hi.db hdat)
  have HPC := Lib.hid (show ∀ (F : Nat) (args : Array Value) (w : World), Calls Try.prog F args w (PlcDone w x r acc) → Calls Try.prog F args w fun e w' => e = .returned (.tuple #[.int .i64 a, .int .i64 b, .int .i64 0]) ∧ Below w.heap.size w w' from fun _ _ _ h => plc_conv h hp ha hb)
  have HT := Lib.hid ht
  have HLO := Lib.hid hl.ok
  subst heq
  clear hp ha hb ht
  have HLL := Lib.hid hl.len
  have HLR := Lib.hid hr.len
  have hbw := (Below.refl w.heap.size w).alloc (Nat.le_refl _) (.cells (insC p IA n c D dn dc).toArray 26)
  have HBW := Lib.hid hbw
  have R5 := Lib.hid (Row.new w 26 (insC p IA n c D dn dc))
  have HL := Lib.hid (hl.below (hbw.mono hB))
  have HR := Lib.hid (hr.below (hbw.mono hB))
  have HI := Lib.hid (hi.below (hbw.mono hB))
  have HB := Lib.hid hB
  clear hbw hl hr hi
  obtain ⟨g5, hg5⟩ : ∃ g, g = w.heap.size := ⟨_, rfl⟩
  have HG5 : Hid (w.heap.size = g5) := Lib.hid hg5.symm
  rw [← hg5] at R5
  clear hg5
  generalize hW : w.alloc (.cells (insC p IA n c D dn dc).toArray 26) = W at *
  have HW := Lib.hid hW
  clear hW
  go_enter Try.func13, Try.ntmps13
  go_upto_region 1 with fail
  try rw [HG5.out]
  rw [HW.out]
  clear HG5 HW
  have c52 : W.cell? ⟨g5, 2, none⟩ = some (.slice D dn dc) := R5.out.cell 2
  have HDA := Lib.hid (refData14 D dn dc B dat W HI.out.dSees (Nat.le_trans HB.out HBW.out.size) HI.out.dc.1 HI.out.dc.2 HI.out.db)
  rw [hdat] at HDA
  go_upto_region 3 with fail
  go_wp2_with fail
  clear c52
  refine HDA.out.mono ?_
  rintro e w1 ⟨rfl, hb1⟩
  have B1 := Lib.hid hb1
  clear hb1 HDA
  go_upto_region 6 with (first
    | ((with_reducible show wpList _ _ _ ({ dst := some 9, op := Op.alloc _, type := _, pos := _, after := _, guard := _ } :: _) _ _); go_must (refine wpList_alloc_zero rfl 77 rfl (askC ask0) zero_ask ?_))
    | ((with_reducible show wpList _ _ _ ({ dst := none, op := Op.store 77 _ _, type := _, pos := _, after := _, guard := _ } :: _) _ _); go_must (refine wpList_store_new rfl 77 (.tmp 9) (.tmp 24) rfl (askC ((some x).getD ask0)) (size_ask HAO.out.o.1) (ask_one _) ((show (askC ask0).toArray.size = 35 from rfl).trans (ask_len HAO.out.o.1).symm) ?_ ?_ ?_; go_simp; go_simp; intro w2 hr2 hb2 hz2)))
  have R9 := Lib.hid hr2
  have B2 := Lib.hid (HBW.out.trans ((B1.out.trans (hb2.mono B1.out.size)).mono HBW.out.size))
  have R52 := Lib.hid (R5.out.below (B1.out.trans (hb2.mono B1.out.size)) R5.out.lt)
  have HK := Lib.hid (show Below B W w2 from (B1.out.trans (hb2.mono B1.out.size)).mono (Nat.le_trans HB.out HBW.out.size))
  have HP := Lib.hid (HPC.out _ _ _ (refPlaces14 x HAO.out p IA n c D dn dc acc RA ln rc r B w2 (HI.out.aSees.below HK.out) HI.out.ab (HR.out.below HK.out) (Nat.le_trans HB.out B2.out.size) hn hln))
  obtain ⟨g9, hg9⟩ : ∃ g, g = w1.heap.size := ⟨_, rfl⟩
  have HG9 : Hid (w.heap.size ≤ g9) := Lib.hid (by have := HBW.out.size; have := B1.out.size; omega)
  rw [← hg9] at R9 ⊢
  clear hr2 hb2 hz2 hg9 B1
  go_wp2_with (first
    | ((with_reducible show wpList _ _ _ ({ dst := some 29, op := Op.load _ _, type := _, pos := _, after := _, guard := _ } :: _) _ _); go_must (refine wpList_load_whole rfl 77 (.tmp 9) rfl g9 77 (askC x) _ Try.underlying77 rfl (size_ask HAO.out.o.1) R9.out ?_ ?_; go_simp))
    | ((with_reducible show wpList _ _ _ ({ dst := some 31, op := Op.load _ _, type := _, pos := _, after := _, guard := _ } :: _) _ _); go_must (refine wpList_load_whole rfl 26 (.tmp 5) rfl g5 26 (insC p IA n c D dn dc) _ Try.underlying26 rfl (by kernel_rfl) R52.out ?_ ?_; go_simp)))
  refine HP.out.mono ?_
  rintro e w3 ⟨rfl, hb3⟩
  have B3 := Lib.hid (B2.out.trans (hb3.mono B2.out.size))
  have R93 := Lib.hid (R9.out.below hb3 R9.out.lt)
  have HK3 := Lib.hid (show Below B W w3 from HK.out.trans (hb3.mono (Nat.le_trans HB.out B2.out.size)))
  clear hb3 HP R9 R52 B2 HK HPC
  have HLS := Lib.hid (HL.out.below HK3.out).sees
  have HLT := Lib.hid R93.out.lt
  go_upto_region 10 with (first
    | ((with_reducible show wpList _ _ _ ({ dst := some 40, op := _, type := _, pos := _, after := _, guard := _ } :: _) _ _); go_must (refine wpList_appendN rfl (.const (.slice none 0 0)) (.tmp 39) 22 48 _ 34 48 rfl Try.underlying22 infoAc14 zszAc14 (by omega) (.slice none 0 0) 0 [] w3.heap.size B LA ln lc (accsC l) rfl (own_nilN _ _ _ _) ?_ HLS.out (accsC_one _) (by unfold maxLen; omega) (by omega) (Nat.le_refl _) ?_; go_simp; intro v4 w4 ho4 hg4)))
  rw [Nat.zero_add, List.nil_append] at ho4
  obtain ⟨g, cap, rest, rfl, hO⟩ := own_out14 ho4 HLL.out (by omega) HLO.out
  have hb4 := hg4.below (own_nilN w3 w3.heap.size 48 34) (Nat.le_refl _)
  have P4 : Hid (PD w w4 g g9 cap ln rest x l) := Lib.hid ⟨B3.out.trans (hb4.mono B3.out.size), hO.low (B3.out.size), R93.out.below hb4 R93.out.lt, by have := hO.lo; have := HLT.out; omega⟩
  clear ho4 hg4 hO hb4 HLS HLT R93 HK3 B3
  have HCC := Lib.hid P4.out.o.room.1
  have c90 : w4.cell? ⟨g9, 0, none⟩ = some (.int .u64 2) := P4.out.x0.trans (by rw [HT.out])
  have HPL := Lib.hid (refPlain14 (getA l a) w4 (getA_ok P4.out.o.ok a))
  rw [decide_eq_true h2] at HPL
  clear h2
  go_wp2_with (first
    | ((with_reducible show wpList _ _ _ ({ dst := some 125, op := Op.load _ _, type := _, pos := _, after := _, guard := _ } :: _) _ _); go_must (refine wpList_load_at rfl 48 (.tmp 124) rfl ⟨g, a * 34, none⟩ (getA l a).cells _ Try.underlying48 rfl (size_acc (getA_ok P4.out.o.ok _).o.1) (P4.out.all HAN.out) ?_ ?_; go_simp)))
  refine HPL.out.mono ?_
  rintro e w5 ⟨rfl, hb5⟩
  have P5 := Lib.hid (P4.out.below hb5)
  clear hb5 HPL P4
  have c91 := P5.out.x1
  have cac := P5.out.c HAN.out
  go_upto_region 34 with fail
  go_quiet (fail)
  have P6 := Lib.hid (P5.out.drewN nq)
  clear c91 cac P5
  generalize hW6 : w5.drewN nq = w6 at *
  clear hW6
  have c91 := P6.out.x1
  have hab' : ¬ (a : Int) = (b : Int) := fun e => hab (by exact_mod_cast e)
  have hw : IntKind.u64.wrap (18446744073709551615 - x.coins) = 18446744073709551615 - x.coins := by rw [IntKind.wrap_u64]; have := HAO.out.c; omega
  have cbc := P6.out.c HBN.out
  go_upto_region 37 with fail
  go_quiet (fail)
  go_wp2_with fail
  go_ret3
  exact do_ends HD.out (P6.out.drewN _).b
set_option maxHeartbeats 8000000 in
theorem move_good (l : List LAcc) (r : List LRole) (p : Int) (IA : Option Addr) (n c : Nat) (D : Option Addr) (dn dc : Nat) (acc dat : List Int) (LA : Option Addr) (ln lc : Nat) (RA : Option Addr) (rn rc : Nat) (B : Nat) (w : World)
    (hl : AccsIn w B LA ln l) (hlc : ln ≤ lc) (hr : RolesIn w B RA rn r) (hi : InsAt14 w B p IA n c D dn dc acc dat) (hB : B ≤ w.heap.size) (hn : n ≤ 100000) (hln : ln ≤ 100000) (hrn : rn ≤ 100000) (heq : ln = rn) (x : LAsk) (hdat : dat14 dat = some x) (hp : plc14 x r acc = 0) (a b : Nat) (ha : acc.getD 0 0 = a) (hb : acc.getD (need14 x - 1) 0 = b) (han : a < ln) (hbn : b < ln) (ht : x.tag = 2) (h2 : plain14 (getA l a)) (h4 : ¬ (getA l a).c < x.coins) (hab : ¬ a = b) (h5 : ¬ 18446744073709551615 - x.coins < (getA l b).c) :
    Calls Try.prog 13 #[.slice LA ln lc, .slice RA rn rc, .agg (insC p IA n c D dn dc).toArray] w (DoDone w (do14 l r acc dat)) := by
  have HAN := Lib.hid han
  have HBN := Lib.hid hbn
  have HD : Hid (do14 l r acc dat = ⟨0, (l.set a ⟨(getA l a).c - x.coins, (getA l a).o, (getA l a).s⟩).set b ⟨(getA l b).c + x.coins, (getA l b).o, (getA l b).s⟩, 0⟩) := Lib.hid (by
    rw [do_is (by rw [hl.len, hr.len]; exact heq) hdat hp ha hb]
    rw [deed14, if_neg (by rw [ht]; decide), if_neg (by rw [ht]; decide), if_pos ht]
    unfold move14
    rw [if_neg (by simpa using h2), if_neg h4, if_neg hab, if_neg h5])
  have HAO := Lib.hid (dat14_ok hi.db hdat)
  have HPC := Lib.hid (show ∀ (F : Nat) (args : Array Value) (w : World), Calls Try.prog F args w (PlcDone w x r acc) → Calls Try.prog F args w fun e w' => e = .returned (.tuple #[.int .i64 a, .int .i64 b, .int .i64 0]) ∧ Below w.heap.size w w' from fun _ _ _ h => plc_conv h hp ha hb)
  have HT := Lib.hid ht
  have HLO := Lib.hid hl.ok
  subst heq
  clear hp ha hb ht
  have HLL := Lib.hid hl.len
  have HLR := Lib.hid hr.len
  have hbw := (Below.refl w.heap.size w).alloc (Nat.le_refl _) (.cells (insC p IA n c D dn dc).toArray 26)
  have HBW := Lib.hid hbw
  have R5 := Lib.hid (Row.new w 26 (insC p IA n c D dn dc))
  have HL := Lib.hid (hl.below (hbw.mono hB))
  have HR := Lib.hid (hr.below (hbw.mono hB))
  have HI := Lib.hid (hi.below (hbw.mono hB))
  have HB := Lib.hid hB
  clear hbw hl hr hi
  obtain ⟨g5, hg5⟩ : ∃ g, g = w.heap.size := ⟨_, rfl⟩
  have HG5 : Hid (w.heap.size = g5) := Lib.hid hg5.symm
  rw [← hg5] at R5
  clear hg5
  generalize hW : w.alloc (.cells (insC p IA n c D dn dc).toArray 26) = W at *
  have HW := Lib.hid hW
  clear hW
  go_enter Try.func13, Try.ntmps13
  go_upto_region 1 with fail
  try rw [HG5.out]
  rw [HW.out]
  clear HG5 HW
  have c52 : W.cell? ⟨g5, 2, none⟩ = some (.slice D dn dc) := R5.out.cell 2
  have HDA := Lib.hid (refData14 D dn dc B dat W HI.out.dSees (Nat.le_trans HB.out HBW.out.size) HI.out.dc.1 HI.out.dc.2 HI.out.db)
  rw [hdat] at HDA
  go_upto_region 3 with fail
  go_wp2_with fail
  clear c52
  refine HDA.out.mono ?_
  rintro e w1 ⟨rfl, hb1⟩
  have B1 := Lib.hid hb1
  clear hb1 HDA
  go_upto_region 6 with (first
    | ((with_reducible show wpList _ _ _ ({ dst := some 9, op := Op.alloc _, type := _, pos := _, after := _, guard := _ } :: _) _ _); go_must (refine wpList_alloc_zero rfl 77 rfl (askC ask0) zero_ask ?_))
    | ((with_reducible show wpList _ _ _ ({ dst := none, op := Op.store 77 _ _, type := _, pos := _, after := _, guard := _ } :: _) _ _); go_must (refine wpList_store_new rfl 77 (.tmp 9) (.tmp 24) rfl (askC ((some x).getD ask0)) (size_ask HAO.out.o.1) (ask_one _) ((show (askC ask0).toArray.size = 35 from rfl).trans (ask_len HAO.out.o.1).symm) ?_ ?_ ?_; go_simp; go_simp; intro w2 hr2 hb2 hz2)))
  have R9 := Lib.hid hr2
  have B2 := Lib.hid (HBW.out.trans ((B1.out.trans (hb2.mono B1.out.size)).mono HBW.out.size))
  have R52 := Lib.hid (R5.out.below (B1.out.trans (hb2.mono B1.out.size)) R5.out.lt)
  have HK := Lib.hid (show Below B W w2 from (B1.out.trans (hb2.mono B1.out.size)).mono (Nat.le_trans HB.out HBW.out.size))
  have HP := Lib.hid (HPC.out _ _ _ (refPlaces14 x HAO.out p IA n c D dn dc acc RA ln rc r B w2 (HI.out.aSees.below HK.out) HI.out.ab (HR.out.below HK.out) (Nat.le_trans HB.out B2.out.size) hn hln))
  obtain ⟨g9, hg9⟩ : ∃ g, g = w1.heap.size := ⟨_, rfl⟩
  have HG9 : Hid (w.heap.size ≤ g9) := Lib.hid (by have := HBW.out.size; have := B1.out.size; omega)
  rw [← hg9] at R9 ⊢
  clear hr2 hb2 hz2 hg9 B1
  go_wp2_with (first
    | ((with_reducible show wpList _ _ _ ({ dst := some 29, op := Op.load _ _, type := _, pos := _, after := _, guard := _ } :: _) _ _); go_must (refine wpList_load_whole rfl 77 (.tmp 9) rfl g9 77 (askC x) _ Try.underlying77 rfl (size_ask HAO.out.o.1) R9.out ?_ ?_; go_simp))
    | ((with_reducible show wpList _ _ _ ({ dst := some 31, op := Op.load _ _, type := _, pos := _, after := _, guard := _ } :: _) _ _); go_must (refine wpList_load_whole rfl 26 (.tmp 5) rfl g5 26 (insC p IA n c D dn dc) _ Try.underlying26 rfl (by kernel_rfl) R52.out ?_ ?_; go_simp)))
  refine HP.out.mono ?_
  rintro e w3 ⟨rfl, hb3⟩
  have B3 := Lib.hid (B2.out.trans (hb3.mono B2.out.size))
  have R93 := Lib.hid (R9.out.below hb3 R9.out.lt)
  have HK3 := Lib.hid (show Below B W w3 from HK.out.trans (hb3.mono (Nat.le_trans HB.out B2.out.size)))
  clear hb3 HP R9 R52 B2 HK HPC
  have HLS := Lib.hid (HL.out.below HK3.out).sees
  have HLT := Lib.hid R93.out.lt
  go_upto_region 10 with (first
    | ((with_reducible show wpList _ _ _ ({ dst := some 40, op := _, type := _, pos := _, after := _, guard := _ } :: _) _ _); go_must (refine wpList_appendN rfl (.const (.slice none 0 0)) (.tmp 39) 22 48 _ 34 48 rfl Try.underlying22 infoAc14 zszAc14 (by omega) (.slice none 0 0) 0 [] w3.heap.size B LA ln lc (accsC l) rfl (own_nilN _ _ _ _) ?_ HLS.out (accsC_one _) (by unfold maxLen; omega) (by omega) (Nat.le_refl _) ?_; go_simp; intro v4 w4 ho4 hg4)))
  rw [Nat.zero_add, List.nil_append] at ho4
  obtain ⟨g, cap, rest, rfl, hO⟩ := own_out14 ho4 HLL.out (by omega) HLO.out
  have hb4 := hg4.below (own_nilN w3 w3.heap.size 48 34) (Nat.le_refl _)
  have P4 : Hid (PD w w4 g g9 cap ln rest x l) := Lib.hid ⟨B3.out.trans (hb4.mono B3.out.size), hO.low (B3.out.size), R93.out.below hb4 R93.out.lt, by have := hO.lo; have := HLT.out; omega⟩
  clear ho4 hg4 hO hb4 HLS HLT R93 HK3 B3
  have HCC := Lib.hid P4.out.o.room.1
  have c90 : w4.cell? ⟨g9, 0, none⟩ = some (.int .u64 2) := P4.out.x0.trans (by rw [HT.out])
  have HPL := Lib.hid (refPlain14 (getA l a) w4 (getA_ok P4.out.o.ok a))
  rw [decide_eq_true h2] at HPL
  clear h2
  go_wp2_with (first
    | ((with_reducible show wpList _ _ _ ({ dst := some 125, op := Op.load _ _, type := _, pos := _, after := _, guard := _ } :: _) _ _); go_must (refine wpList_load_at rfl 48 (.tmp 124) rfl ⟨g, a * 34, none⟩ (getA l a).cells _ Try.underlying48 rfl (size_acc (getA_ok P4.out.o.ok _).o.1) (P4.out.all HAN.out) ?_ ?_; go_simp)))
  refine HPL.out.mono ?_
  rintro e w5 ⟨rfl, hb5⟩
  have P5 := Lib.hid (P4.out.below hb5)
  clear hb5 HPL P4
  have c91 := P5.out.x1
  have cac := P5.out.c HAN.out
  go_upto_region 34 with fail
  go_quiet (fail)
  have P6 := Lib.hid (P5.out.drewN nq)
  clear c91 cac P5
  generalize hW6 : w5.drewN nq = w6 at *
  clear hW6
  have c91 := P6.out.x1
  have hab' : ¬ (a : Int) = (b : Int) := fun e => hab (by exact_mod_cast e)
  have hw : IntKind.u64.wrap (18446744073709551615 - x.coins) = 18446744073709551615 - x.coins := by rw [IntKind.wrap_u64]; have := HAO.out.c; omega
  have cbc := P6.out.c HBN.out
  go_upto_region 37 with fail
  go_quiet (fail)
  go_upto_region 39 with fail
  have cac := P6.out.c HAN.out
  have fac := P6.out.fz (a * 34)
  go_region
  have E1 : IntKind.u64.wrap ((getA l a).c - x.coins) = (getA l a).c - x.coins := by rw [IntKind.wrap_u64]; have := (getA_ok P6.out.o.ok a).c; have := HAO.out.c; omega
  have P7 := Lib.hid (show PD w ((w6.drewN (nq + 1)).setCell ⟨g, a * 34, none⟩ (.int .u64 ((getA l a).c - x.coins))) g g9 cap ln rest x (l.set a ⟨(getA l a).c - x.coins, (getA l a).o, (getA l a).s⟩) from (P6.out.drewN (nq + 1)).one HAN.out (o := 0) (y := ⟨(getA l a).c - x.coins, (getA l a).o, (getA l a).s⟩) ⟨by have := (getA_ok P6.out.o.ok a).c; have := HAO.out.c; constructor <;> dsimp only <;> omega, (getA_ok P6.out.o.ok a).o, (getA_ok P6.out.o.ok a).s⟩ (by decide) (acc_setC14 _ _))
  rw [E1]
  have HOB := Lib.hid (getA_ok P6.out.o.ok b)
  obtain ⟨out, hout⟩ : ∃ out, out = l.set a ⟨(getA l a).c - x.coins, (getA l a).o, (getA l a).s⟩ := ⟨_, rfl⟩
  have HGB : Hid (getA out b = getA l b) := Lib.hid (by rw [hout, getA_set (by rw [P6.out.o.len]; exact HAN.out), if_neg fun e => hab e.symm])
  clear E1 P6 c91 cac fac cbc
  rw [← hout] at P7 HD
  generalize hW7 : (w6.drewN (nq + 1)).setCell ⟨g, a * 34, none⟩ (.int .u64 ((getA l a).c - x.coins)) = w7 at *
  clear hW7 hout
  have c91 := P7.out.x1
  have cbc := P7.out.c HBN.out
  rw [HGB.out] at cbc
  have fbc := P7.out.fz (b * 34)
  go_upto_region 40 with fail
  go_region
  have E2 : IntKind.u64.wrap ((getA l b).c + x.coins) = (getA l b).c + x.coins := by rw [IntKind.wrap_u64]; have := HOB.out.c; have := HAO.out.c; omega
  rw [E2]
  have P8 := Lib.hid (show PD w (w7.setCell ⟨g, b * 34, none⟩ (.int .u64 ((getA l b).c + x.coins))).drew g g9 cap ln rest x (out.set b ⟨(getA l b).c + x.coins, (getA l b).o, (getA l b).s⟩) from (P7.out.one HBN.out (o := 0) (u := .int .u64 ((getA l b).c + x.coins)) (y := ⟨(getA l b).c + x.coins, (getA l b).o, (getA l b).s⟩) ⟨by have := HOB.out.c; have := HAO.out.c; constructor <;> dsimp only <;> omega, HOB.out.o, HOB.out.s⟩ (by decide) (by rw [HGB.out]; exact acc_setC14 _ _)).drew)
  clear E2 P7 c91 cbc fbc
  generalize hW8 : (w7.setCell ⟨g, b * 34, none⟩ (.int .u64 ((getA l b).c + x.coins))).drew = w8 at *
  clear hW8
  have c92 : w8.cell? ⟨g9, 2, none⟩ = some (.int .u64 0) := P8.out.x2.trans (by rw [HAO.out.two HT.out])
  go_upto_region 41 with fail
  go_quiet (fail)
  go_wp2_with fail
  go_ret3
  exact do_good14 HD.out (P8.out.drewN _).done (P8.out.drewN _).b
theorem refDo14 (l : List LAcc) (r : List LRole) (p : Int) (IA : Option Addr) (n c : Nat) (D : Option Addr) (dn dc : Nat) (acc dat : List Int) (LA : Option Addr) (ln lc : Nat) (RA : Option Addr) (rn rc : Nat) (B : Nat) (w : World)
    (hl : AccsIn w B LA ln l) (hlc : ln ≤ lc) (hr : RolesIn w B RA rn r) (hi : InsAt14 w B p IA n c D dn dc acc dat) (hB : B ≤ w.heap.size) (hn : n ≤ 100000) (hln : ln ≤ 100000) (hrn : rn ≤ 100000)  :
    Calls Try.prog 13 #[.slice LA ln lc, .slice RA rn rc, .agg (insC p IA n c D dn dc).toArray] w (DoDone w (do14 l r acc dat)) := by
  by_cases heq : ln = rn
  rotate_left
  · exact do_arg l r p IA n c D dn dc acc dat LA ln lc RA rn rc B w hl hlc hr hi hB hn hln hrn heq
  cases hdat : dat14 dat with
  | none => exact do_none l r p IA n c D dn dc acc dat LA ln lc RA rn rc B w hl hlc hr hi hB hn hln hrn heq hdat
  | some x =>
  by_cases hp : plc14 x r acc = 0
  rotate_left
  · exact do_plc l r p IA n c D dn dc acc dat LA ln lc RA rn rc B w hl hlc hr hi hB hn hln hrn heq x hdat hp
  obtain ⟨h1, h2⟩ := plc_ok hp
  rw [hr.len] at h2
  have h0 : 0 < need14 x := by unfold need14; split <;> omega
  obtain ⟨a, ha, han⟩ := acc_idx (k := 0) hi.ab (by omega) h2
  obtain ⟨b, hb, hbn⟩ := acc_idx (k := need14 x - 1) hi.ab (by omega) h2
  rw [← heq] at han hbn
  rcases (dat14_ok hi.db hdat).tag with ht | ht | ht | ht
  · by_cases h1 : getA l b = blank13
    rotate_left
    · exact make_there l r p IA n c D dn dc acc dat LA ln lc RA rn rc B w hl hlc hr hi hB hn hln hrn heq x hdat hp a b ha hb han hbn ht h1
    by_cases h2 : plain14 (getA l a)
    rotate_left
    · exact make_owner l r p IA n c D dn dc acc dat LA ln lc RA rn rc B w hl hlc hr hi hB hn hln hrn heq x hdat hp a b ha hb han hbn ht h1 h2
    by_cases h3 : 1048576 < x.space
    · exact make_limit l r p IA n c D dn dc acc dat LA ln lc RA rn rc B w hl hlc hr hi hB hn hln hrn heq x hdat hp a b ha hb han hbn ht h1 h2 h3
    by_cases h4 : (getA l a).c < x.coins
    · exact make_funds l r p IA n c D dn dc acc dat LA ln lc RA rn rc B w hl hlc hr hi hB hn hln hrn heq x hdat hp a b ha hb han hbn ht h1 h2 h3 h4
    · exact make_good l r p IA n c D dn dc acc dat LA ln lc RA rn rc B w hl hlc hr hi hB hn hln hrn heq x hdat hp a b ha hb han hbn ht h1 h2 h3 h4
  · by_cases h1 : (getA l a).o = key0
    · exact assign_good l r p IA n c D dn dc acc dat LA ln lc RA rn rc B w hl hlc hr hi hB hn hln hrn heq x hdat hp a b ha hb han hbn ht h1
    · exact assign_owner l r p IA n c D dn dc acc dat LA ln lc RA rn rc B w hl hlc hr hi hB hn hln hrn heq x hdat hp a b ha hb han hbn ht h1
  · by_cases h2 : plain14 (getA l a)
    rotate_left
    · exact move_owner l r p IA n c D dn dc acc dat LA ln lc RA rn rc B w hl hlc hr hi hB hn hln hrn heq x hdat hp a b ha hb han hbn ht h2
    by_cases h4 : (getA l a).c < x.coins
    · exact move_funds l r p IA n c D dn dc acc dat LA ln lc RA rn rc B w hl hlc hr hi hB hn hln hrn heq x hdat hp a b ha hb han hbn ht h2 h4
    by_cases h5 : a = b
    · exact move_same l r p IA n c D dn dc acc dat LA ln lc RA rn rc B w hl hlc hr hi hB hn hln hrn heq x hdat hp a b ha hb han hbn ht h2 h4 h5
    by_cases h6 : 18446744073709551615 - x.coins < (getA l b).c
    · exact move_over l r p IA n c D dn dc acc dat LA ln lc RA rn rc B w hl hlc hr hi hB hn hln hrn heq x hdat hp a b ha hb han hbn ht h2 h4 h5 h6
    · exact move_good l r p IA n c D dn dc acc dat LA ln lc RA rn rc B w hl hlc hr hi hB hn hln hrn heq x hdat hp a b ha hb han hbn ht h2 h4 h5 h6
  · by_cases h2 : plain14 (getA l a)
    rotate_left
    · exact space_there l r p IA n c D dn dc acc dat LA ln lc RA rn rc B w hl hlc hr hi hB hn hln hrn heq x hdat hp a b ha hb han hbn ht h2
    by_cases h3 : 1048576 < x.space
    · exact space_limit l r p IA n c D dn dc acc dat LA ln lc RA rn rc B w hl hlc hr hi hB hn hln hrn heq x hdat hp a b ha hb han hbn ht h2 h3
    · exact space_good l r p IA n c D dn dc acc dat LA ln lc RA rn rc B w hl hlc hr hi hB hn hln hrn heq x hdat hp a b ha hb han hbn ht h2 h3
end Go.Proofs.Ytodoaebpkmhhmaa
