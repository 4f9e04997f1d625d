/-
  Parts joined: RefDo14 RefDeed14 PutN Lives6 Known Num8 Move14 Of7 With8 Bad8 SysRead14 SysRdMath14.
-/
import Derived.Below
import Derived.Laws.OwnMore
import Derived.Deep.AppendLies
import Derived.Deep.Draws
import Derived.Lib.Hide
import Derived.Laws.MakeOwn
import Derived.Laws.CopyOwn
import Derived.Laws.Rows
import Derived.Laws.BitsAllLaws
import Derived.WalkKit
import Derived.Test.YtodoaebpkmhhmaaRows
import Derived.WalkSpells
import Derived.WalkLawsBesides
import Derived.IntWalk
import Derived.Deep.MidRow
import Derived.Deep.WholeRow
import Derived.Maps.AppendAt
import Derived.OwnWalk
import Derived.Great.BuildSlice
import Derived.Recover
import Derived.Deep.RegionHeld
import Derived.Deep.QuietTactic
import Derived.BigQuiet
import Derived.ChangeKeysEq
import Derived.ProofKit
import Derived.OpenShut
import Derived.ShutString
import Derived.ChangeOld
import Derived.Lib.SmallJoins
import Derived.Deep.Slices
import Derived.Deep.Strs
import Derived.SizedLaws
import Derived.Deep.RegionHeld2
import Derived.Deep.CutBlock
import Derived.Laws.Tables
import Derived.Laws.StructEq
import Derived.Laws.Slices
import Derived.Deep.DeepCutAuto
import Derived.Laws.EntriesVeiled
import Derived.Deep.RegionHeld3
import Derived.Maps.OwnSet
import Derived.DeepKeys4
import Derived.WideKeyArr
import Derived.WideKeyEntry
import Derived.WalkMore
import Derived.Shelf.SlMaps.Clone
import Derived.LaidMore
import Derived.Laws.Append
import Derived.Laws.AppendOwn
import Derived.Test.YtodoaebpkmhhmaaQ1
/-
  Of part RefDo14: what is needed here.
-/
namespace Go.Proofs.Ytodoaebpkmhhmaa
open Go.RowKit
set_option linter.unusedVariables false
set_option maxRecDepth 100000
theorem infoAc14 : (Try.prog.info? 48).map (fun i => (i.zero, i.size, i.bytes)) = some (some (.agg blank13.cells.toArray), 34, 48) := by kernel_rfl
theorem zszAc14 : (Value.agg blank13.cells.toArray).cells.size = 34 := by kernel_rfl
theorem oa_nil (w : World) (base : Nat) : OA14 w base (.slice none 0 0) [] := ⟨⟨none, 0, 0, rfl, Nat.le_refl _, Nat.le_refl _, World.ownsRow_nil _ _ _ _⟩, by simp⟩
/-- what Do answers -/
def DoDone (w : World) (R : Res14) (e : Ending) (w' : World) : Prop := ∃ v, e = .returned (.tuple #[v, .int .u64 R.n, .int .i64 R.e]) ∧ OA14 w' w.heap.size v R.l ∧ Below w.heap.size w w'
theorem do_ends {w w' : World} {R : Res14} {v : Int} (h : R = bad14 v) (hb : Below w.heap.size w w') : DoDone w R (.returned (.tuple #[.slice none 0 0, .int .u64 0, .int .i64 v])) w' := by
  subst h
  exact ⟨_, rfl, oa_nil _ _, hb⟩
/-- an instruction's cells and lists, below block B -/
structure InsAt14 (w : World) (B : Nat) (p : Int) (IA : Option Addr) (n c : Nat) (D : Option Addr) (dn dc : Nat) (acc dat : List Int) : Prop where
  aSees : Sees w B IA n (bv acc)
  dSees : Sees w B D dn (bv dat)
  ab : AllBytes acc
  db : AllBytes dat
  ac : n ≤ c ∧ c ≤ maxLen
  dc : dn ≤ dc ∧ dc ≤ maxLen
theorem InsAt14.below {w w' : World} {B : Nat} {p : Int} {IA : Option Addr} {n c : Nat} {D : Option Addr} {dn dc : Nat} {acc dat : List Int} (h : InsAt14 w B p IA n c D dn dc acc dat) (hb : Below B w w') : InsAt14 w' B p IA n c D dn dc acc dat :=
  ⟨h.aSees.below hb, h.dSees.below hb, h.ab, h.db, h.ac, h.dc⟩
theorem plc_ok {x : LAsk} {r : List LRole} {acc : List Int} (h : plc14 x r acc = 0) : need14 x ≤ acc.length ∧ ∀ i ∈ acc, i < (r.length : Int) := by
  unfold plc14 at h
  split at h
  · cases h
  rename_i h1
  split at h
  · cases h
  rename_i h2
  exact ⟨by omega, fun i hi => by
    by_cases h3 : i < (r.length : Int)
    · exact h3
    · exact absurd ⟨i, hi, by omega⟩ h2⟩
theorem need_two {x : LAsk} (h : two14 x) : need14 x = 2 := by unfold need14; rw [if_pos h]
theorem need_one {x : LAsk} (h : ¬ two14 x) : need14 x = 1 := by unfold need14; rw [if_neg h]
theorem acc_idx {acc : List Int} {m k : Nat} (hb : AllBytes acc) (hk : k < acc.length) (h : ∀ i ∈ acc, i < (m : Int)) : ∃ j : Nat, acc.getD k 0 = j ∧ j < m := by
  have he : acc.getD k 0 = acc[k] := by rw [List.getD_eq_getElem?_getD, List.getElem?_eq_getElem hk]; rfl
  have hm := List.getElem_mem hk
  have h0 := (hb _ hm).1
  have h1 := h _ hm
  exact ⟨(acc[k]).toNat, by rw [he]; omega, by omega⟩
/-- the list in the making -/
structure OutAt (V : World) (base g cap n : Nat) (rest : List Value) (out : List LAcc) : Prop where
  row : Row V g 48 (accsC out ++ rest)
  lo : base ≤ g
  len : out.length = n
  room : n ≤ cap ∧ cap ≤ maxLen
  all : (accsC out ++ rest).length = cap * 34
  ok : ∀ x ∈ out, AccOk x
theorem accs_part {L : List LAcc} {k : Nat} (h : k < L.length) : accsC L = accsC (L.take k) ++ ((getA L k).cells ++ accsC (L.drop (k + 1))) := by
  have e0 : getA L k = L[k] := getA_at (List.getElem?_eq_getElem h)
  have e : L = L.take k ++ (getA L k :: L.drop (k + 1)) := by rw [e0, ← List.drop_eq_getElem_cons h, List.take_append_drop]
  have e1 : ∀ (a b : List LAcc) (z : LAcc), accsC (a ++ z :: b) = accsC a ++ (z.cells ++ accsC b) := fun a b z => by unfold accsC; rw [List.map_append, List.flatten_append, List.map_cons, List.flatten_cons]
  exact (congrArg accsC e).trans (e1 _ _ _)
theorem accs_set {L : List LAcc} {k : Nat} (h : k < L.length) (y : LAcc) : accsC (L.set k y) = accsC (L.take k) ++ (y.cells ++ accsC (L.drop (k + 1))) := by
  have e1 : ∀ (a b : List LAcc) (z : LAcc), accsC (a ++ z :: b) = accsC a ++ (z.cells ++ accsC b) := fun a b z => by unfold accsC; rw [List.map_append, List.flatten_append, List.map_cons, List.flatten_cons]
  rw [List.set_eq_take_append_cons_drop, if_pos h]
  exact e1 _ _ _
theorem accs_take_len {L : List LAcc} (h : ∀ x ∈ L, AccOk x) {k : Nat} (hk : k < L.length) : (accsC (L.take k)).length = k * 34 := by
  rw [accsC_len fun x hx => h x (List.mem_of_mem_take hx), List.length_take, Nat.min_eq_left (by omega)]
section
variable {V V' : World} {base g cap n k : Nat} {rest : List Value} {out : List LAcc}
theorem OutAt.below (h : OutAt V base g cap n rest out) (hb : Below V.heap.size V V') : OutAt V' base g cap n rest out := ⟨h.row.below hb h.row.lt, h.lo, h.len, h.room, h.all, h.ok⟩
theorem OutAt.low {b' : Nat} (h : OutAt V base g cap n rest out) (hb : b' ≤ base) : OutAt V b' g cap n rest out := ⟨h.row, Nat.le_trans hb h.lo, h.len, h.room, h.all, h.ok⟩
theorem OutAt.cell (h : OutAt V base g cap n rest out) (hk : k < n) {j : Nat} {u : Value} (hu : (getA out k).cells[j]? = some u) : V.cell? ⟨g, k * 34 + j, none⟩ = some u := by
  have hl := accs_take_len h.ok (by rw [h.len]; exact hk : k < out.length)
  have hj := (List.getElem?_eq_some_iff.1 hu).1
  rw [h.row.cell, accs_part (by rw [h.len]; exact hk : k < out.length), List.append_assoc, List.getElem?_append_right (by omega), hl, Nat.add_sub_cancel_left, List.append_assoc, List.getElem?_append_left hj]
  exact hu
theorem OutAt.done (h : OutAt V base g cap n rest out) : OA14 V base (.slice (some ⟨g, 0, none⟩) n cap) out := by
  have hl := accsC_len h.ok
  rw [← h.len]
  refine ⟨⟨_, cap, cap, rfl, by rw [h.len]; exact h.room.1, Nat.le_refl _, ?_⟩, h.ok⟩
  exact own_of_row h.row hl h.all (by rw [h.len]; exact h.room.1) h.room.2 h.lo
/-- a part of an element is written -/
theorem OutAt.part (h : OutAt V base g cap n rest out) (hk : k < n) {o : Nat} {cs : List Value} {y : LAcc} (hy : AccOk y) (hc : (getA out k).cells.take o ++ cs ++ (getA out k).cells.drop (o + cs.length) = y.cells) (ho : o + cs.length ≤ 34)
    (hr : Row V' g 48 ((accsC out ++ rest).take (k * 34 + o) ++ cs ++ (accsC out ++ rest).drop (k * 34 + o + cs.length))) : OutAt V' base g cap n rest (out.set k y) := by
  have hk' : k < out.length := by rw [h.len]; exact hk
  have hl := accs_take_len h.ok hk'
  have ha : (getA out k).cells.length = 34 := acc_len (getA_ok h.ok k).o.1
  have e : (accsC out ++ rest).take (k * 34 + o) ++ cs ++ (accsC out ++ rest).drop (k * 34 + o + cs.length) = accsC (out.set k y) ++ rest := by
    rw [accs_set hk', ← hc, accs_part hk']
    generalize (getA out k).cells = C at *
    generalize accsC (out.take k) = P at *
    generalize accsC (out.drop (k + 1)) = S at *
    have e1 : (P ++ (C ++ S) ++ rest).take (k * 34 + o) = P ++ C.take o := by
      rw [List.append_assoc, List.take_append, hl, List.take_of_length_le (by omega), Nat.add_sub_cancel_left, List.append_assoc, List.take_append_of_le_length (by omega)]
    have e2 : (P ++ (C ++ S) ++ rest).drop (k * 34 + o + cs.length) = C.drop (o + cs.length) ++ S ++ rest := by
      rw [List.append_assoc, List.drop_append, hl, List.drop_of_length_le (by omega), List.nil_append, show k * 34 + o + cs.length - k * 34 = o + cs.length by omega, List.append_assoc, List.drop_append_of_le_length (by omega), List.append_assoc]
    rw [e1, e2]
    simp only [List.append_assoc]
  rw [e] at hr
  refine ⟨hr, h.lo, by rw [List.length_set]; exact h.len, h.room, ?_, set_ok h.ok hy⟩
  have h1 := h.all
  rw [List.length_append] at h1 ⊢
  rw [accsC_len (set_ok h.ok hy), List.length_set]
  rw [accsC_len h.ok] at h1
  exact h1
theorem set_one {α : Type} (l : List α) {i : Nat} (u : α) (h : i < l.length) : l.set i u = l.take i ++ [u] ++ l.drop (i + [u].length) := by
  rw [List.set_eq_take_append_cons_drop, if_pos h]
  simp
theorem OutAt.one (h : OutAt V base g cap n rest out) (hk : k < n) {o : Nat} {u : Value} {y : LAcc} (hy : AccOk y) (ho : o < 34) (hc : (getA out k).cells.set o u = y.cells) : OutAt (V.setCell ⟨g, k * 34 + o, none⟩ u) base g cap n rest (out.set k y) := by
  have hr := h.row.set_ (k * 34 + o) u
  have ha : (getA out k).cells.length = 34 := acc_len (getA_ok h.ok k).o.1
  have hall := h.all
  have hle : k * 34 + 34 ≤ cap * 34 := by have := Nat.mul_le_mul_right 34 (show k + 1 ≤ cap from Nat.le_trans hk h.room.1); omega
  rw [set_one _ u (by omega)] at hr hc
  · exact h.part hk hy hc (by simp; omega) hr
end
end Go.Proofs.Ytodoaebpkmhhmaa

/-
  Of part RefDeed14: what is needed here.
-/
namespace Go.Proofs.Ytodoaebpkmhhmaa
open Go.RowKit
set_option linter.unusedVariables false
set_option maxRecDepth 100000
theorem do_is {l : List LAcc} {r : List LRole} {acc dat : List Int} {x : LAsk} {a b : Nat} (hn : l.length = r.length) (hdat : dat14 dat = some x) (hp : plc14 x r acc = 0) (ha : acc.getD 0 0 = a) (hb : acc.getD (need14 x - 1) 0 = b) : do14 l r acc dat = deed14 l x a b := by
  unfold do14
  rw [if_neg (by omega), hdat]
  dsimp only
  rw [if_neg (by rw [hp]; simp), ha, hb, Int.toNat_natCast, Int.toNat_natCast]
theorem own_out14 {w : World} {base n : Nat} {v : Value} {L : List LAcc} (h : w.ownsRow base 48 34 v n (accsC L)) (hn : L.length = n) (h0 : 0 < n) (ho : ∀ x ∈ L, AccOk x) : ∃ g cap rest, v = .slice (some ⟨g, 0, none⟩) n cap ∧ OutAt w base g cap n rest L := by
  rcases h.2 with ⟨_, e⟩ | ⟨g, cap, cur, hv, hg, hh, h1, h2, h3, h4⟩
  · omega
  · have e : cur.toList = accsC L ++ cur.toList.drop (n * 34) := by rw [← h4, List.take_append_drop]
    refine ⟨g, cap, cur.toList.drop (n * 34), hv, ⟨⟨?_⟩, hg, hn, ⟨h1, h2⟩, ?_, ho⟩⟩
    · rw [hh, ← e]
    · rw [← e, Array.length_toList, h3]
theorem do_good14 {w w' : World} {R : Res14} {v : Value} {L : List LAcc} {n : Int} (h : R = ⟨0, L, n⟩) (ho : OA14 w' w.heap.size v L) (hb : Below w.heap.size w w') : DoDone w R (.returned (.tuple #[v, .int .u64 n, .int .i64 0])) w' := by
  subst h
  exact ⟨_, rfl, ho, hb⟩
theorem acc_setC14 (a : LAcc) (z : Int) : a.cells.set 0 (.int .u64 z) = (LAcc.mk z a.o a.s).cells := rfl
theorem acc_setS14 {a : LAcc} (h : a.o.length = 32) (z : Int) : a.cells.set 33 (.int .u64 z) = (LAcc.mk a.c a.o z).cells := by
  unfold LAcc.cells
  rw [show (33 : Nat) = 32 + 1 from rfl, List.set_cons_succ, List.set_append_right _ _ (by rw [bv_length, h]; omega), bv_length, h]
  rfl
theorem acc_setO14 {a : LAcc} (h : a.o.length = 32) {o : List Int} (ho : o.length = 32) : a.cells.take 1 ++ bv o ++ a.cells.drop (1 + (bv o).length) = (LAcc.mk a.c o a.s).cells := by
  unfold LAcc.cells
  rw [bv_length, ho, show (1 + 32 : Nat) = 32 + 1 from rfl, List.drop_succ_cons, List.drop_append, bv_length, h]
  simp [bv_length, h]
theorem accs_whole14 {a : LAcc} (h : a.o.length = 32) {y : LAcc} (hy : y.o.length = 32) : a.cells.take 0 ++ y.cells ++ a.cells.drop (0 + y.cells.length) = y.cells := by
  rw [List.take_zero, List.nil_append, Nat.zero_add, List.drop_of_length_le (by rw [acc_len h, acc_len hy]; exact Nat.le_refl _), List.append_nil]
theorem built_acc14 (c s : Int) {o : List Int} (ho : o.length = 32) : Try.prog.built 48 [(0, .int .u64 c), (1, .agg (bv o).toArray), (2, .int .u64 s)] = some (LAcc.mk c o s).cells.toArray := by
  have e : ∀ f : Fin 32 → Int, Try.prog.built 48 [(0, .int .u64 c), (1, .agg (bv (List.ofFn f)).toArray), (2, .int .u64 s)] = some (LAcc.mk c (List.ofFn f) s).cells.toArray := fun f => by kernel_rfl
  have h : o = List.ofFn fun i : Fin 32 => o.getD i.1 0 := by
    apply List.ext_getElem
    · rw [List.length_ofFn, ho]
    · intro i h1 h2
      rw [List.getElem_ofFn, List.getD_eq_getElem?_getD, List.getElem?_eq_getElem h1]
      rfl
  rw [h]
  exact e _
end Go.Proofs.Ytodoaebpkmhhmaa

/-
  Of part PutN: what is needed here.
-/
namespace Go.Proofs.Ytodoaebpkmhhmaa
open Go.RowKit
set_option linter.unusedVariables false
set_option maxRecDepth 100000
/-- the lowest k bytes of a number, the lowest first -/
def dig (x : Int) (k : Nat) : List Int := (List.range k).map fun i => x / 256 ^ i % 256
theorem dig_len (x : Int) (k : Nat) : (dig x k).length = k := by simp [dig]
theorem dig_succ (x : Int) (k : Nat) : dig x (k + 1) = dig x k ++ [x / 256 ^ k % 256] := by simp [dig, List.range_succ]
theorem shr_dig (x : Int) (k : Nat) : x / 2 ^ (8 * k) % 256 = x / 256 ^ k % 256 := by rw [Int.pow_mul]; rfl
end Go.Proofs.Ytodoaebpkmhhmaa

/-
  Of part Lives6: what is needed here.
-/
namespace Go.Proofs.Ytodoaebpkmhhmaa
open Go.RowKit
set_option linter.unusedVariables false
set_option maxRecDepth 100000
def y1 : List LLook := [⟨xk 9, [2], [0, 1]⟩]
def y2 : List LLook := [⟨xk 9, [], [3]⟩]
end Go.Proofs.Ytodoaebpkmhhmaa

/-
  Of part Known: what is needed here.
-/
namespace Go.Proofs.Ytodoaebpkmhhmaa
open Go.RowKit
set_option linter.unusedVariables false
/-- the known programs' keys -/
def k0 : List Int := List.replicate 32 0
def k3 : List Int := 3 :: List.replicate 31 0
def kn (x : List Int) : Bool := decide (x = k0) || decide (x = k3)
theorem built_k0 : Try.prog.built 46 [] = some (bv k0).toArray := by kernel_rfl
set_option maxRecDepth 100000 in
set_option maxHeartbeats 400000 in
theorem system_ (w : World) : Calls Try.prog 55 #[] w fun e w' => e = .returned (.agg (bv k0).toArray) ∧ Below w.heap.size w w' := by
  go_enter Try.func55, Try.ntmps55
  go_wp2_with (first
    | ((with_reducible show wpList _ _ _ ({ dst := some 1, op := Op.build _ _, type := _, pos := _, after := _, guard := _ } :: _) _ _); go_must (refine wpList_plain rfl fun K hK => wp_built _ _ _ rfl (by simp only [List.map_toArray, List.map_nil]; exact built_k0) (hK _ _ ?_)))
    | ((with_reducible show wpList _ _ _ ({ dst := none, op := Op.store 46 _ _, type := _, pos := _, after := _, guard := _ } :: _) _ _); go_must (refine wpList_store_new rfl 46 (.tmp 0) (.tmp 1) rfl (bv k0) size_key (bv_one _) rfl ?_ ?_ ?_; go_simp; go_simp; intro w1 hr1 hb1 hz1; have HR1 := Lib.hid hr1; have HB1 := Lib.hid hb1; clear hr1 hb1)))
  refine bodyPost_ret (results_cell_row (h := rfl) _ w1 w.heap.size 46 _ (0, 0) _ (by rfl) HR1.out.is Try.underlying46 rfl size_key) rfl ?_
  exact ⟨rfl, HB1.out⟩
end Go.Proofs.Ytodoaebpkmhhmaa

/-
  Of part Num8: what is needed here.
-/
namespace Go.Proofs.Ytodoaebpkmhhmaa
open Go.RowKit
set_option linter.unusedVariables false
set_option maxRecDepth 100000
theorem dig_bytes (x : Int) (m : Nat) : AllBytes (dig x m) := fun z hz => by
  obtain ⟨i, _, rfl⟩ := List.mem_map.1 hz
  constructor <;> omega
theorem num_dig (x : Int) (h0 : 0 ≤ x) : ∀ m k, m ≤ k → num (dig x k) m = x % 256 ^ m
  | 0, k, _ => by simp [num]
  | m + 1, k, h => by
    have hd : (dig x k).getD m 0 = x / 256 ^ m % 256 := by
      rw [List.getD_eq_getElem?_getD]
      unfold dig
      rw [List.getElem?_map, List.getElem?_range (by omega)]
      rfl
    rw [num, num_dig x h0 m k (by omega), hd]
    have e : (256 : Int) ^ (m + 1) = 256 ^ m * 256 := Int.pow_succ ..
    rw [e]
    obtain ⟨n, rfl⟩ := Int.eq_ofNat_of_zero_le h0
    have h2 := congrArg (Nat.cast : Nat → Int) (Nat.mod_mul (x := n) (a := 256 ^ m) (b := 256))
    rw [Int.natCast_emod, Int.natCast_mul, Int.natCast_add, Int.natCast_mul, Int.natCast_emod, Int.natCast_emod, Int.natCast_ediv, Int.natCast_pow] at h2
    have h3 : ((256 : Nat) : Int) = 256 := rfl
    rw [h3] at h2
    rw [h2, Int.mul_comm (256 ^ m)]
theorem num_all (x : Int) (m : Nat) (h0 : 0 ≤ x) (h1 : x < 256 ^ m) : num (dig x m) m = x := by
  rw [num_dig x h0 m m (Nat.le_refl _), Int.emod_eq_of_lt h0 h1]
end Go.Proofs.Ytodoaebpkmhhmaa

/-
  Of part Move14: what is needed here.
-/
namespace Go.Proofs.Ytodoaebpkmhhmaa
open Go.RowKit
set_option linter.unusedVariables false
set_option maxRecDepth 100000
set_option maxRecDepth 100000 in
set_option maxHeartbeats 1000000 in
theorem number14_ (x : Int) (m : Nat) (w : World) (hx0 : 0 ≤ x) (hx1 : x < 18446744073709551616) (hm : m ≤ 8) :
    Calls Try.prog 22 #[.int .u64 x, .int .i64 m] w fun e w' => ∃ v, e = .returned v ∧ OwnB w' w.heap.size v (dig x m) ∧ Below w.heap.size w w' := by
  have HX := Lib.hid hx1
  clear hx1
  go_enter Try.func22, Try.ntmps22
  go_wp2_with fail
  go_loopw [6, 5] (fun i b wr => ∃ (j : Nat) (v : Value), j ≤ m ∧ i = .int .i64 j ∧ b = v ∧ OwnB wr w.heap.size v (dig x j) ∧ Below w.heap.size w wr) (fun i _ _ => m - (intOf i).toNat)
  case atStart => exact ⟨0, _, Nat.zero_le _, rfl, rfl, OwnB.nil _ _, Below.refl _ _⟩
  case round =>
    obtain ⟨j, v, hj, rfl, rfl, hown, hbel⟩ := hrel
    have HO := Lib.hid hown
    have HB := Lib.hid hbel
    have HDL := Lib.hid (dig_len x j)
    clear hown hbel
    by_cases hlt : j < m
    · have HSH := Lib.hid (shr_dig x j)
      have HSU := Lib.hid (dig_succ x j)
      go_wp2_with (at_builtin; go_must (refine wpList_addLitg (by kernel_rfl) (.tmp 12) (.tmp 19) 24 rfl w.heap.size Try.underlying24 info_u8 _ (dig x j) [x / 256 ^ j % 256] 1 ?_ ?_ HO.out ?_ HB.out.size (by rw [List.length_append, HDL.out, List.length_singleton]; omega) ?_; (rw [← HSH.out]; rfl); go_simp; go_simp; intro v4 w4 ho4 hg4; have HO4 := Lib.hid ho4; have HB4 := Lib.hid (HB.out.grown hg4.grown HB.out.size fun k hk => (World.ownsRow.lt HO.out k hk).1); clear ho4 hg4))
      go_roundw
      case rel => exact ⟨j + 1, v4, by omega, by go_num, rfl, by rw [HSU.out]; exact HO4.out, HB4.out⟩
      case measure => simp [intOf]; omega
    · obtain rfl : j = m := by omega
      go_wp2_with fail
      go_ret
      exact ⟨_, rfl, HO.out, HB.out⟩
/-- the data that move coins -/
def mv14 (n : Int) : List Int := dig 2 4 ++ dig n 8
theorem mv14_len (n : Int) : (mv14 n).length = 12 := by unfold mv14; rw [List.length_append, dig_len, dig_len]
theorem mv14_bytes (n : Int) : AllBytes (mv14 n) := fun z hz => by
  rcases List.mem_append.1 hz with h | h
  · exact dig_bytes _ _ z h
  · exact dig_bytes _ _ z h
theorem mv14_is (n : Int) : mv14 n = 2 :: 0 :: 0 :: 0 :: dig n 8 := by unfold mv14; rw [show dig 2 4 = [2, 0, 0, 0] by decide +kernel]; rfl
theorem num_2 (L : List Int) : num (2 :: 0 :: 0 :: 0 :: L) 4 = 2 := by simp [num]
theorem dat_mv14 {n : Int} (h0 : 0 ≤ n) (h1 : n < 18446744073709551616) : dat14 (mv14 n) = some ⟨2, n, 0, key0⟩ := by
  have hl := mv14_len n
  have hd : num ((mv14 n).drop 4) 8 = n := by
    rw [mv14_is]
    exact num_all n 8 h0 (by rw [show (256 : Int) ^ 8 = 18446744073709551616 by decide]; exact h1)
  have h2 : num (mv14 n) 4 = 2 := by rw [mv14_is]; exact num_2 _
  unfold dat14
  rw [h2, hl, hd]
  simp
def k14 (z : Int) : List Int := z :: List.replicate 31 0
theorem k14_ok (z : Int) (h : IsByte z) : (k14 z).length = 32 ∧ AllBytes (k14 z) := ⟨rfl, fun y hy => by
  rcases List.mem_cons.1 hy with rfl | hy
  · exact h
  · rw [List.eq_of_mem_replicate hy]; constructor <;> decide⟩
theorem built_k14 (z : Int) : Try.prog.built 46 [(0, .int .u8 z)] = some (bv (k14 z)).toArray := by kernel_rfl
/-- two roles: both are written, the first signs; s: does the second? -/
def b14 (s : Bool) : List LRole := [⟨k14 1, true, true⟩, ⟨k14 2, s, true⟩]
def b14C (s : Bool) : List Value := (LRole.mk (k14 1) true true).cells ++ (LRole.mk (k14 2) s true).cells
theorem b14_ok (s : Bool) : ∀ r ∈ b14 s, RoleOk r := by
  intro r hr
  unfold b14 at hr
  simp only [List.mem_cons, List.not_mem_nil, or_false] at hr
  rcases hr with rfl | rfl
  · exact k14_ok 1 (by unfold IsByte; omega)
  · exact k14_ok 2 (by unfold IsByte; omega)
theorem b14_flat (s : Bool) : ((b14 s).map LRole.cells).flatten = b14C s := by unfold b14 b14C; simp
theorem b14_in {w : World} {g B : Nat} {s : Bool} (h : Row w g 50 (b14C s)) (hB : g < B) : RolesIn w B (some ⟨g, 0, none⟩) 2 (b14 s) :=
  roles_row (ys := []) (by rw [b14_flat, List.append_nil]; exact h) rfl (b14_ok s) hB
theorem built_b14 (z : Int) : Try.prog.built 50 [(0, .agg (bv (k14 z)).toArray), (1, .bool true), (2, .bool true)] = some (LRole.mk (k14 z) true true).cells.toArray := by kernel_rfl
theorem infoRole14 : (Try.prog.info? 50).map (fun i => (i.zero, i.size, i.bytes)) = some (some (.agg r0.cells.toArray), 34, 34) := by kernel_rfl
theorem zszRole14 : (Value.agg r0.cells.toArray).cells.size = 34 := by kernel_rfl
theorem zero_ins14 : (Try.prog.info? 26).map (·.zero) = some (some (.agg (insC 0 none 0 0 none 0 0).toArray)) := by kernel_rfl
theorem built_ins14 (p : Int) (A : Option Addr) (n c : Nat) (D : Option Addr) (dn dc : Nat) : Try.prog.built 26 [(0, .int .u8 p), (1, .slice A n c), (2, .slice D dn dc)] = some (insC p A n c D dn dc).toArray := by kernel_rfl
theorem size_ins14 (p : Int) (A : Option Addr) (n c : Nat) (D : Option Addr) (dn dc : Nat) : (Try.prog.info? 26).map (·.size) = some (insC p A n c D dn dc).length := by kernel_rfl
theorem ins14_one (p : Int) (A : Option Addr) (n c : Nat) (D : Option Addr) (dn dc : Nat) : ∀ u ∈ insC p A n c D dn dc, u.oneCell' = true := by
  intro u hu
  unfold insC at hu
  simp only [List.mem_cons, List.not_mem_nil, or_false] at hu
  rcases hu with rfl | rfl | rfl <;> rfl
set_option maxHeartbeats 2000000 in
theorem both14_ (w : World) : Calls Try.prog 20 #[] w fun e w' => e = .returned (.slice (some ⟨w.heap.size, 0, none⟩) 2 2) ∧ Row w' w.heap.size 50 (b14C true) ∧ Below w.heap.size w w' := by
  have HK1 := Lib.hid (built_k14 1)
  have HK2 := Lib.hid (built_k14 2)
  go_enter Try.func20, Try.ntmps20
  go_wp2_with (first
    | ((with_reducible show wpList _ _ _ ({ dst := some 1, op := Op.build _ _, type := _, pos := _, after := _, guard := _ } :: _) _ _); go_must (refine wpList_plain rfl fun K hK => wp_built _ _ _ rfl (by simp only [List.map_toArray, List.map_cons, List.map_nil]; exact built_k14 1) (hK _ _ ?_)))
    | ((with_reducible show wpList _ _ _ ({ dst := some 2, op := Op.build _ _, type := _, pos := _, after := _, guard := _ } :: _) _ _); go_must (refine wpList_plain rfl fun K hK => wp_built _ _ _ rfl (by simp only [List.map_toArray, List.map_cons, List.map_nil]; exact built_b14 1) (hK _ _ ?_)))
    | ((with_reducible show wpList _ _ _ ({ dst := some 3, op := Op.build _ _, type := _, pos := _, after := _, guard := _ } :: _) _ _); go_must (refine wpList_plain rfl fun K hK => wp_built _ _ _ rfl (by simp only [List.map_toArray, List.map_cons, List.map_nil]; exact built_k14 2) (hK _ _ ?_)))
    | ((with_reducible show wpList _ _ _ ({ dst := some 4, op := Op.build _ _, type := _, pos := _, after := _, guard := _ } :: _) _ _); go_must (refine wpList_plain rfl fun K hK => wp_built _ _ _ rfl (by simp only [List.map_toArray, List.map_cons, List.map_nil]; exact built_b14 2) (hK _ _ ?_)))
    | ((with_reducible show wpList _ _ _ ({ dst := some 5, op := Op.buildSlice _ _ _, type := _, pos := _, after := _, guard := _ } :: _) _ _); go_must (refine wpList_buildTwo rfl 23 50 (.tmp 2) (.tmp 4) rfl (LRole.mk (k14 1) true true).cells (LRole.mk (k14 2) true true).cells _ 34 34 Try.underlying23 infoRole14 zszRole14 (by omega) (by omega) rfl rfl ?_ ?_ ?_; go_simp; go_simp)))
  go_ret
  exact ⟨rfl, Row.new w 50 (b14C true), (Below.refl w.heap.size w).alloc (Nat.le_refl _) _⟩
theorem own14_turned {w w' : World} {base g : Nat} {v : Value} {xs : List Int} (h : OwnB w base v xs) (ht : Turned w w' g) (hg : ∀ k, v.ownBlock = some k → k ≠ g) : OwnB w' base v xs := by
  refine ⟨h.1, ?_⟩
  rcases h.2 with h2 | ⟨k, cap, cur, hv, hk, hh, r⟩
  · exact .inl h2
  · exact .inr ⟨k, cap, cur, hv, hk, (ht.block k (hg k (by rw [hv]; rfl))).trans hh, r⟩
theorem own14_low {w : World} {base b : Nat} {v : Value} {xs : List Int} (h : OwnB w base v xs) (hb : b ≤ base) : OwnB w b v xs := by
  refine ⟨h.1, ?_⟩
  rcases h.2 with h2 | ⟨k, cap, cur, hv, hk, r⟩
  · exact .inl h2
  · exact .inr ⟨k, cap, cur, hv, Nat.le_trans hb hk, r⟩
theorem own14_lt {w : World} {base : Nat} {v : Value} {xs : List Int} (h : OwnB w base v xs) : ∀ k, v.ownBlock = some k → base ≤ k ∧ k < w.heap.size := World.ownsRow.lt h
/-- what move answers -/
def MvDone (w : World) (n : Int) (e : Ending) (w' : World) : Prop := ∃ ga D c, e = .returned (.agg (insC 1 (some ⟨ga, 0, none⟩) 2 2 D 12 c).toArray) ∧ w.heap.size ≤ ga ∧ Row w' ga 5 (bv [0, 1]) ∧ OwnB w' w.heap.size (.slice D 12 c) (mv14 n) ∧ (∀ g, (Value.slice D 12 c).ownBlock = some g → g ≠ ga) ∧ Below w.heap.size w w'
set_option maxHeartbeats 2000000 in
theorem move14_ (n : Int) (w : World) (h0 : 0 ≤ n) (h1 : n < 18446744073709551616) : Calls Try.prog 21 #[.int .u64 n] w (MvDone w n) := by
  have HN := Lib.hid (fun V => number14_ n 8 V h0 h1 (by omega))
  have H2 := Lib.hid (fun V => number14_ 2 4 V (by omega) (by omega) (by omega))
  clear h0 h1
  go_enter Try.func21, Try.ntmps21
  go_wp2_with ((with_reducible show wpList _ _ _ ({ dst := some 2, op := Op.alloc _, type := _, pos := _, after := _, guard := _ } :: _) _ _); go_must (refine wpList_alloc_zero rfl 26 rfl (insC 0 none 0 0 none 0 0) zero_ins14 ?_))
  have HRI := Lib.hid (((Row.new w 26 (insC 0 none 0 0 none 0 0))).alloc (.cells #[.int .u8 0, .int .u8 1] 5))
  have HRA := Lib.hid (Row.new' (w.alloc (.cells (insC 0 none 0 0 none 0 0).toArray 26)) 5 (bv [0, 1]) (g := w.heap.size + 1) (by simp))
  have HBW := Lib.hid (((Below.refl w.heap.size w).alloc (Nat.le_refl _) (.cells (insC 0 none 0 0 none 0 0).toArray 26)).alloc (by simp) (.cells #[.int .u8 0, .int .u8 1] 5))
  have HRA' : Hid (Row ((w.alloc (.cells (insC 0 none 0 0 none 0 0).toArray 26)).alloc (.cells #[.int .u8 0, .int .u8 1] 5)) (w.heap.size + 1) 5 (bv [0, 1])) := Lib.hid HRA.out
  clear HRA
  generalize hW : (w.alloc (.cells (insC 0 none 0 0 none 0 0).toArray 26)).alloc (.cells #[.int .u8 0, .int .u8 1] 5) = W at *
  clear hW
  refine (show Calls Try.prog 22 #[.int .u64 2, .int .i64 4] W _ from H2.out W).mono ?_
  rintro e w1 ⟨v1, rfl, ho1, hb1⟩
  have HO1 := Lib.hid ho1
  have HI1 := Lib.hid (HRI.out.below hb1 HRI.out.lt)
  have HA1 := Lib.hid (HRA'.out.below hb1 HRA'.out.lt)
  have B1 := Lib.hid (HBW.out.trans (hb1.mono HBW.out.size))
  have HS1 := Lib.hid hb1.size
  have HL1 := Lib.hid HRA'.out.lt
  clear ho1 hb1 HRI HRA' HBW H2
  go_wp2_with fail
  refine (show Calls Try.prog 22 #[.int .u64 n, .int .i64 8] w1 _ from HN.out w1).mono ?_
  rintro e w2 ⟨v2, rfl, ho2, hb2⟩
  have HO1' := Lib.hid (HO1.out.below hb2)
  have HI2 := Lib.hid (HI1.out.below hb2 HI1.out.lt)
  have HA2 := Lib.hid (HA1.out.below hb2 HA1.out.lt)
  have B2 := Lib.hid (B1.out.trans (hb2.mono B1.out.size))
  have HS2 := Lib.hid (Nat.le_trans HS1.out hb2.size)
  obtain ⟨D2, c2, rfl⟩ := ho2.form
  have HO2 := Lib.hid ho2
  have HSE := Lib.hid ho2.sees
  clear ho2 hb2 HO1 HI1 HA1 B1 HN
  go_wp2_with (first
    | ((with_reducible show wpList _ _ _ ({ dst := some 7, op := _, type := _, pos := _, after := _, guard := _ } :: _) _ _); go_must (refine wpList_addBg (by kernel_rfl) (.tmp 4) (.tmp 6) 24 rfl W.heap.size Try.underlying24 info_u8 v1 (dig 2 4) ?_ HO1'.out w2.heap.size D2 (dig n 8).length c2 (dig n 8) ?_ HSE.out HS2.out ?_ ?_; go_simp; go_simp; (rw [List.length_append, dig_len, dig_len]; omega); intro v3 w3 ho3 hg3; have ho3m : OwnB w3 W.heap.size v3 (mv14 n) := ho3; have hb3 := hg3.below HO1'.out HS2.out; obtain ⟨D3, c3, hv3⟩ := ho3m.form; rw [mv14_len] at hv3; subst hv3; have HO3 := Lib.hid ho3m; have HI3 := Lib.hid (HI2.out.below hb3 (by have := HL1.out; omega)); have HA3 := Lib.hid (HA2.out.below hb3 HL1.out); have B3 := Lib.hid (B2.out.trans (hb3.mono (by have := HL1.out; omega))); clear ho3 hg3 ho3m hb3 HSE))
    | ((with_reducible show wpList _ _ _ ({ dst := some 8, op := Op.build _ _, type := _, pos := _, after := _, guard := _ } :: _) _ _); go_must (refine wpList_plain rfl fun K hK => wp_built _ _ _ rfl (by simp only [List.map_toArray, List.map_cons, List.map_nil]; exact built_ins14 _ _ _ _ _ _ _) (hK _ _ ?_)))
    | ((with_reducible show wpList _ _ _ ({ dst := none, op := Op.store 26 _ _, type := _, pos := _, after := _, guard := _ } :: _) _ _); go_must (refine wpList_store_whole rfl 26 (.tmp 2) (.tmp 8) rfl w.heap.size (insC 0 none 0 0 none 0 0) (insC 1 (some ⟨w.heap.size + 1, 0, none⟩) 2 2 D3 12 c3) HI3.out (size_ins14 _ _ _ _ _ _ _) rfl (ins14_one _ _ _ _ _ _ _) ?_ ?_ ?_; go_simp; go_simp; intro w4 hr4 ht4)))
  have HO4 := own14_turned HO3.out ht4 (fun k hk => by have := (own14_lt HO3.out k hk).1; have := HL1.out; omega)
  refine bodyPost_ret (results_cell_row (h := rfl) _ w4 w.heap.size 26 _ (0, 0) _ (by rfl) hr4.is Try.underlying26 rfl (size_ins14 _ _ _ _ _ _ _)) rfl ?_
  refine ⟨w.heap.size + 1, D3, c3, rfl, by omega, ht4.row HA3.out (by omega), own14_low HO4 (by have := HL1.out; omega), fun g hg => ?_, B3.out.trans (ht4.below (Nat.le_refl _))⟩
  have := (own14_lt HO3.out g hg).1
  have := HL1.out
  omega
end Go.Proofs.Ytodoaebpkmhhmaa

/-
  Of part Of7: what is needed here.
-/
namespace Go.Proofs.Ytodoaebpkmhhmaa
open Go.RowKit
set_option linter.unusedVariables false
set_option maxRecDepth 100000
theorem own_baseR {w : World} {base base' size n : Nat} {e : TypeId} {v : Value} {xs : List Value} (h : w.ownsRow base e size v n xs) (hb : base' ≤ base) : w.ownsRow base' e size v n xs := by
  refine ⟨h.1, ?_⟩
  rcases h.2 with h2 | ⟨g, cap, cur, h1, h2, h3⟩
  · exact .inl h2
  · exact .inr ⟨g, cap, cur, h1, Nat.le_trans hb h2, h3⟩
end Go.Proofs.Ytodoaebpkmhhmaa

/-
  Of part With8: what is needed here.
-/
namespace Go.Proofs.Ytodoaebpkmhhmaa
open Go.RowKit
set_option linter.unusedVariables false
set_option maxRecDepth 100000
def q8 (g : Nat) (A : Option Addr) (n c : Nat) : Raw := ⟨some ⟨g, 0, none⟩, 3, 3, A, n, c, none, 0, 0⟩
end Go.Proofs.Ytodoaebpkmhhmaa

/-
  Of part Bad8: what is needed here.
-/
namespace Go.Proofs.Ytodoaebpkmhhmaa
open Go.RowKit
set_option linter.unusedVariables false
set_option maxRecDepth 100000
section
variable {P : Program} {w : World} {o : Oper} {a : Act}
theorem run_head (t e : TypeId) (x j : Operand) (sz : Nat) (ho : o.op = .slice t x none (some j) none) (ht : P.underlying t = some (.slice e)) (hsz : (P.info? e).map (·.size) = some sz)
    (A : Option Addr) (n c k : Nat) (hx : a.eval x = .slice A n c) (hj : a.eval j = .int .i64 k) (hk : k ≤ c) :
    (execOp a.eval o).run P w = .ok (.value (.slice A k c)) w := by
  obtain ⟨ie, hie, hs1⟩ : ∃ i, P.info? e = some i ∧ i.size = sz := by
    cases h : P.info? e with
    | none => rw [h] at hsz; cases hsz
    | some i => rw [h] at hsz; exact ⟨i, rfl, by simpa using hsz⟩
  have he : P.elem t = e := by simp [Program.elem, ht]
  have ht' : P.underlying t = some (.slice (P.elem t)) := by rw [he]; exact ht
  have hso : (sizeOf e).run P w = .ok sz w := by simp [sizeOf, typeInfo, hie, hs1]
  have h0 : (0 : Int) ≤ k := by omega
  have h2 : (k : Int) ≤ c := by omega
  have ha : (if c = 0 then A else A.map (·.add (0 * sz))) = A := by
    split
    · rfl
    · cases A with
      | none => rfl
      | some ad => simp [Addr.add]
  unfold execOp
  simp only [ho, hx, hj, Option.map_some, Option.map_none]
  simp only [Sem.run_bind, run_sliceAt_slice w t _ _ _ _ ht', run_slice_h w t A n c ht' .i64 k h0 h2, he, hso, Result.andThen_ok, sliced, Int.toNat_natCast, Sem.run_pure, Nat.sub_zero, ha]
theorem wpList_head {ops : Array Oper} {rest : List Oper} {Q : Exit → Act → World → Prop} (hgd : o.guard = none) (t e : TypeId) (x j : Operand) (sz : Nat) (ho : o.op = .slice t x none (some j) none) (ht : P.underlying t = some (.slice e)) (hsz : (P.info? e).map (·.size) = some sz)
    (A : Option Addr) (n c k : Nat) (hx : a.eval x = .slice A n c) (hj : a.eval j = .int .i64 k) (hk : k ≤ c)
    (h : wpList P ops Q rest (a.put o.dst (.slice A k c)) w) : wpList P ops Q (o :: rest) a w :=
  wpList_plain hgd fun K hK => by
    unfold Oper.wp
    rw [run_head t e x j sz ho ht hsz A n c k hx hj hk]
    exact hK _ _ h
end
end Go.Proofs.Ytodoaebpkmhhmaa

/-
  Of part SysRead14: what is needed here.
-/
namespace Go.Proofs.Ytodoaebpkmhhmaa
open Go.RowKit
set_option linter.unusedVariables false
set_option maxRecDepth 100000
/-- fields: what is left to read, and whether it was too short -/
def fldC (A : Option Addr) (n c : Nat) (sh : Bool) : List Value := [.slice A n c, .bool sh]
theorem pre14 {w : World} {B n m : Nat} {A : Option Addr} {zs : List Int} (h : Sees w B A n (bv zs)) (hm : m ≤ n) : Sees w B A m (bv (zs.take m)) := by
  have hl := h.len
  rw [bv_length] at hl
  refine ⟨by rw [bv_length, List.length_take]; omega, fun i u hu => h.cell i u ?_⟩
  rw [bv_getElem?] at hu ⊢
  rw [List.getElem?_take] at hu
  split at hu
  · exact hu
  · cases hu
theorem num_take14 (zs : List Int) : ∀ (k m : Nat), k ≤ m → num (zs.take m) k = num zs k
  | 0, _, _ => rfl
  | k + 1, m, h => by
    have ih := num_take14 zs k m (by omega)
    have hg : (zs.take m).getD k 0 = zs.getD k 0 := by
      rw [List.getD_eq_getElem?_getD, List.getD_eq_getElem?_getD, List.getElem?_take, if_pos (by omega)]
    rw [num, num, ih, hg]
theorem all_take14 {zs : List Int} (h : AllBytes zs) (m : Nat) : AllBytes (zs.take m) := fun z hz => h z (List.mem_of_mem_take hz)
theorem all_drop14 {zs : List Int} (h : AllBytes zs) (m : Nat) : AllBytes (zs.drop m) := fun z hz => h z (List.mem_of_mem_drop hz)
theorem getN_nil14 {m : Nat} (h1 : 1 ≤ m) (h8 : m ≤ 8) : getN [] m = (0, 5) := getN_short h1 h8 (by simp; omega)
set_option maxHeartbeats 800000 in
theorem next_ok14 (g : Nat) (A : Option Addr) (n c m : Nat) (sh : Bool) (w : World) (hr : Row w g 94 (fldC A n c sh)) (hm : m ≤ n) (hnc : n ≤ c) (hc : c ≤ maxLen) :
    Calls Try.prog 53 #[.pointer (some ⟨g, 0, none⟩), .int .i64 m] w fun e w' => e = .returned (.slice A m c) ∧ w' = w.setCell ⟨g, 0, none⟩ (.slice (tailAt A c m) (n - m) (c - m)) := by
  have c0 : w.cell? ⟨g, 0, none⟩ = some (.slice A n c) := hr.cell 0
  have f0 := hr.frozen 0
  have hlt' : ¬ (n : Int) < m := by omega
  have HM := Lib.hid hm
  have HMC := Lib.hid (Nat.le_trans hm hnc)
  have HNC := Lib.hid hnc
  have HC := Lib.hid hc
  clear hr hm hnc hc
  go_enter Try.func53, Try.ntmps53
  go_wp2_with (first
    | ((with_reducible show wpList _ _ _ ({ dst := some 21, op := Op.slice _ _ _ _ _, type := _, pos := _, after := _, guard := _ } :: _) _ _); go_must (refine wpList_head rfl 24 5 (.tmp 19) (.tmp 20) 1 rfl Try.underlying24 size_u8_14 A n c m ?_ ?_ HMC.out ?_; go_simp; go_simp))
    | ((with_reducible show wpList _ _ _ ({ dst := some 28, op := Op.slice _ _ _ _ _, type := _, pos := _, after := _, guard := _ } :: _) _ _); go_must (refine wpList_tail rfl 24 5 (.tmp 26) (.tmp 27) rfl Try.underlying24 size_u8_14 A n c m ?_ ?_ HM.out HNC.out HC.out ?_; go_simp; go_simp)))
  go_ret
  exact ⟨rfl, rfl⟩
set_option maxHeartbeats 800000 in
theorem next_no14 (g : Nat) (A : Option Addr) (n c m : Nat) (sh : Bool) (w : World) (hr : Row w g 94 (fldC A n c sh)) (hm : n < m) :
    Calls Try.prog 53 #[.pointer (some ⟨g, 0, none⟩), .int .i64 m] w fun e w' => e = .returned (.slice none 0 0) ∧ w' = w.setCell ⟨g, 1, none⟩ (.bool true) := by
  have c0 : w.cell? ⟨g, 0, none⟩ = some (.slice A n c) := hr.cell 0
  have c1 : w.cell? ⟨g, 1, none⟩ = some (.bool sh) := hr.cell 1
  have f1 := hr.frozen 1
  have hlt' : (n : Int) < m := by omega
  clear hr hm
  go_enter Try.func53, Try.ntmps53
  go_wp2_with fail
  go_ret
  exact ⟨rfl, rfl⟩
set_option maxHeartbeats 800000 in
theorem number_ok14 (g : Nat) (A : Option Addr) (n c m S : Nat) (sh : Bool) (zs : List Int) (w : World) (hr : Row w g 94 (fldC A n c sh)) (hs : Sees w S A n (bv zs)) (hS : S ≤ g) (hz : AllBytes zs) (h1 : 1 ≤ m) (h8 : m ≤ 8) (hm : m ≤ n) (hnc : n ≤ c) (hc : c ≤ maxLen) :
    Calls Try.prog 42 #[.pointer (some ⟨g, 0, none⟩), .int .i64 m] w fun e w' => e = .returned (.int .u64 (num zs m)) ∧ w' = w.setCell ⟨g, 0, none⟩ (.slice (tailAt A c m) (n - m) (c - m)) := by
  have HN := Lib.hid (next_ok14 g A n c m sh w hr hm hnc hc)
  have hT : Turned w (w.setCell ⟨g, 0, none⟩ (.slice (tailAt A c m) (n - m) (c - m))) g := turned_setCell w ⟨g, 0, none⟩ _
  have HG := Lib.hid (getMany A m c (zs.take m) m _ S ((pre14 hs hm).below (hT.below hS)) (by omega) (bytes_of_all (all_take14 hz m)))
  rw [getN_ok h1 h8 (by have := hs.len; rw [bv_length] at this; rw [List.length_take]; omega), num_take14 zs m m (Nat.le_refl _)] at HG
  generalize w.setCell ⟨g, 0, none⟩ (.slice (tailAt A c m) (n - m) (c - m)) = W at *
  clear hr hs hS hz h1 h8 hm hnc hc hT
  go_enter Try.func42, Try.ntmps42
  go_wp2_with fail
  refine HN.out.mono ?_
  rintro e w1 ⟨rfl, hw⟩
  obtain rfl := hw.symm
  go_wp2_with fail
  refine HG.out.mono ?_
  rintro e w2 ⟨rfl, rfl⟩
  go_wp2_with fail
  go_ret
  exact ⟨rfl, rfl⟩
set_option maxHeartbeats 800000 in
theorem number_no14 (g : Nat) (A : Option Addr) (n c m : Nat) (sh : Bool) (w : World) (hr : Row w g 94 (fldC A n c sh)) (h1 : 1 ≤ m) (h8 : m ≤ 8) (hm : n < m) :
    Calls Try.prog 42 #[.pointer (some ⟨g, 0, none⟩), .int .i64 m] w fun e w' => e = .returned (.int .u64 0) ∧ w' = w.setCell ⟨g, 1, none⟩ (.bool true) := by
  have HN := Lib.hid (next_no14 g A n c m sh w hr hm)
  have HG := Lib.hid (getMany none 0 0 [] m (w.setCell ⟨g, 1, none⟩ (.bool true)) 0 ⟨rfl, fun i u hu => by simp [bv, cv] at hu⟩ (Nat.zero_le _) (bytes_of_all (by intro z hz; cases hz)))
  rw [getN_nil14 h1 h8] at HG
  generalize w.setCell ⟨g, 1, none⟩ (.bool true) = W at *
  clear hr h1 h8 hm
  go_enter Try.func42, Try.ntmps42
  go_wp2_with fail
  refine HN.out.mono ?_
  rintro e w1 ⟨rfl, hw⟩
  obtain rfl := hw.symm
  go_wp2_with fail
  refine HG.out.mono ?_
  rintro e w2 ⟨rfl, rfl⟩
  go_wp2_with fail
  go_ret
  exact ⟨rfl, rfl⟩
theorem zero_key14 : (Try.prog.info? 46).map (·.zero) = some (some (.agg (bv key0).toArray)) := by kernel_rfl
theorem key_size14 {o : List Int} (h : o.length = 32) : (Try.prog.info? 46).map (·.size) = some (bv o).length := by rw [bv_length, h]; exact size_key
theorem bv_splice14 {o : List Int} (h : o.length = 32) : (bv key0).take 0 ++ bv o ++ (bv key0).drop (0 + (bv o).length) = bv o := by
  rw [List.take_zero, List.nil_append, Nat.zero_add, List.drop_of_length_le (by rw [bv_length, bv_length, h]; decide), List.append_nil]
/-- where the fields' block alone, and new ones, differ -/
theorem drew_turned14 {W V : World} {g : Nat} (h : Turned W.drew V g) : Turned W V g := ⟨h.os, h.tape, h.output, h.size, h.block⟩
theorem but_low14 {w w' V : World} {g B : Nat} (h : But g w w') (hb : Below B w' V) (hB : w.heap.size ≤ B) : But g w V :=
  ⟨hb.os.trans h.os, hb.tape.trans h.tape, hb.output.trans h.output, Nat.le_trans h.size hb.size, fun k hk hg => (hb.block k (Nat.lt_of_lt_of_le hk hB)).trans (h.block k hk hg)⟩
theorem but_turned14 {w w' V : World} {g p : Nat} (h : But g w w') (ht : Turned w' V p) (hp : w.heap.size ≤ p) : But g w V := but_low14 h (ht.below hp) (Nat.le_refl _)
theorem take_some14 {w : World} {B n m : Nat} {A : Option Addr} {zs : List Int} (h : Sees w B A n (bv zs)) (hm : m ≤ n) (h0 : 0 < m) : ∃ ad, A = some ad ∧ ∀ j u, (bv (zs.take m))[j]? = some u → w.cell? (ad.add j) = some u := by
  have h1 := pre14 h hm
  obtain ⟨ad, u, e, _⟩ := h1.at_ (k := 0) h0
  refine ⟨ad, e, fun j u hu => ?_⟩
  obtain ⟨a, e2, _, hc⟩ := h1.cell j u hu
  rw [e] at e2
  cases e2
  exact hc
set_option maxHeartbeats 2000000 in
theorem key_ok14 (g : Nat) (A : Option Addr) (n c S : Nat) (sh : Bool) (zs : List Int) (w : World) (hr : Row w g 94 (fldC A n c sh)) (hs : Sees w S A n (bv zs)) (hS : S ≤ g) (hm : 32 ≤ n) (hnc : n ≤ c) (hc : c ≤ maxLen) :
    Calls Try.prog 43 #[.pointer (some ⟨g, 0, none⟩)] w fun e w' => e = .returned (.agg (bv (zs.take 32)).toArray) ∧ Row w' g 94 (fldC (tailAt A c 32) (n - 32) (c - 32) sh) ∧ But g w w' := by
  have hlt := hr.lt
  have HR := Lib.hid hr
  have HS := Lib.hid hs
  have HSG := Lib.hid hS
  have HLT := Lib.hid hlt
  have HM := Lib.hid hm
  have HNC := Lib.hid hnc
  have HC := Lib.hid hc
  clear hm hnc hc
  obtain ⟨g2, hg2⟩ : ∃ k, k = w.heap.size := ⟨_, rfl⟩
  obtain ⟨g3, hg3'⟩ : ∃ k, k = (w.alloc (.cells (bv key0).toArray 46)).heap.size := ⟨_, rfl⟩
  have HG2 : Hid (w.heap.size = g2) := Lib.hid hg2.symm
  have HG3 : Hid ((w.alloc (.cells (bv key0).toArray 46)).heap.size = g3) := Lib.hid hg3'.symm
  have hg3 : g3 = w.heap.size + 1 := by rw [hg3']; simp
  clear hg3'
  have hb := ((Below.refl w.heap.size w).alloc (Nat.le_refl _) (.cells (bv key0).toArray 46)).alloc (by simp) (.cells (bv key0).toArray 46)
  have HB := Lib.hid hb
  have R2 : Hid (Row ((w.alloc (.cells (bv key0).toArray 46)).alloc (.cells (bv key0).toArray 46)) g2 46 (bv key0)) := Lib.hid (by rw [hg2]; exact (Row.new w 46 (bv key0)).alloc _)
  have R3 : Hid (Row ((w.alloc (.cells (bv key0).toArray 46)).alloc (.cells (bv key0).toArray 46)) g3 46 (bv key0)) := Lib.hid (Row.new' _ 46 _ (by rw [hg3]; simp))
  have NG : Hid (g2 ≠ g ∧ g3 ≠ g ∧ g2 ≠ g3) := Lib.hid (by omega)
  have HG23 : Hid (g < g3 ∧ g2 < g3 ∧ w.heap.size ≤ g3 ∧ w.heap.size ≤ g2) := Lib.hid (by omega)
  have RF := Lib.hid (hr.below hb hlt)
  have HSW := Lib.hid (hs.below (hb.mono (Nat.le_of_lt (Nat.lt_of_le_of_lt hS hlt))))
  clear hg2 hg3 hb hr hs hS hlt HR HS
  generalize hW : (w.alloc (.cells (bv key0).toArray 46)).alloc (.cells (bv key0).toArray 46) = W at *
  have HW := Lib.hid hW
  clear hW
  go_enter Try.func43, Try.ntmps43
  go_upto_region 2 with (first
    | ((with_reducible show wpList _ _ _ ({ dst := some 2, op := Op.alloc _, type := _, pos := _, after := _, guard := _ } :: _) _ _); go_must (refine wpList_alloc_zero rfl 46 rfl (bv key0) zero_key14 ?_))
    | ((with_reducible show wpList _ _ _ ({ dst := some 3, op := Op.alloc _, type := _, pos := _, after := _, guard := _ } :: _) _ _); go_must (refine wpList_alloc_zero rfl 46 rfl (bv key0) zero_key14 ?_)))
  rw [HG3.out, HG2.out, HW.out]
  clear HG3 HG2 HW
  have HN := Lib.hid (next_ok14 g A n c 32 sh W.drew RF.out.drew HM.out HNC.out HC.out)
  obtain ⟨ad, hA, hsrc⟩ := take_some14 HSW.out HM.out (by decide)
  have HSRC := Lib.hid hsrc
  have HTL : Hid ((zs.take 32).length = 32) := Lib.hid (by have := HSW.out.len; have := HM.out; rw [bv_length] at *; rw [List.length_take]; omega)
  subst hA
  clear hsrc
  have hT : Turned W (W.drew.setCell ⟨g, 0, none⟩ (.slice (tailAt (some ad) c 32) (n - 32) (c - 32))) g := drew_turned14 (turned_setCell W.drew ⟨g, 0, none⟩ _)
  have HT := Lib.hid hT
  have RF2 : Hid (Row (W.drew.setCell ⟨g, 0, none⟩ (.slice (tailAt (some ad) c 32) (n - 32) (c - 32))) g 94 (fldC (tailAt (some ad) c 32) (n - 32) (c - 32) sh)) := Lib.hid (RF.out.drew.set_ 0 _)
  have HSR2 : Hid (∀ j u, (bv (zs.take 32))[j]? = some u → (W.drew.setCell ⟨g, 0, none⟩ (.slice (tailAt (some ad) c 32) (n - 32) (c - 32))).cell? (ad.add j) = some u) := Lib.hid fun j u hu => by
    obtain ⟨a, e, hb, hc⟩ := ((pre14 HSW.out HM.out).below (hT.below HSG.out)).cell j u hu
    cases e
    exact hc
  clear hT
  generalize W.drew.setCell ⟨g, 0, none⟩ (.slice (tailAt (some ad) c 32) (n - 32) (c - 32)) = W1 at *
  have BW := Lib.hid (But.trans (But.of_below HB.out g) (But.of_turned HT.out))
  have R22 := Lib.hid (HT.out.row R2.out NG.out.1)
  have R32 := Lib.hid (HT.out.row R3.out NG.out.2.1)
  clear R2 R3 RF HT HB
  refine wp_region_held_drew (S := (fun V => True)) (by kernel_rfl) trivial (fun _ => ?_)
  refine takeL (i := 0) (v := ?_) rfl (by kernel_rfl) (by kernel_rfl) (by kernel_rfl) (fun _ _ _ h => h) (Or.inl ⟨by rfl, ?_⟩) trivial ?_
  rotate_left
  · intro w hw
    try dsimp only at hw
    go_simp
    try with_reducible rfl
  try simp only [Act.put, List.setIfInBounds_toArray, List.set_cons_zero, List.set_cons_succ]
  refine takeL (i := 1) (v := ?_) rfl (by kernel_rfl) (by kernel_rfl) (by kernel_rfl) (fun _ _ _ h => h) (Or.inl ⟨by rfl, ?_⟩) trivial ?_
  rotate_left
  · intro w hw
    try dsimp only at hw
    go_simp
    try with_reducible rfl
  try simp only [Act.put, List.setIfInBounds_toArray, List.set_cons_zero, List.set_cons_succ]
  refine readyL (i := 2) rfl (by kernel_rfl) (by kernel_rfl) fun K hK => ?_
  go_simp
  refine HN.out.mono ?_
  rintro e w1 ⟨rfl, hw⟩
  obtain rfl := hw.symm
  clear hw HN
  refine hK.out _ _ trivial ?_
  clear hK K
  try simp only [Act.put, List.setIfInBounds_toArray, List.set_cons_zero, List.set_cons_succ]
  refine readyL (i := 3) rfl (by kernel_rfl) (by kernel_rfl) fun K hK => ?_
  refine wp_copy_row (.tmp 4) (.tmp 6) 24 24 5 rfl Try.underlying24 size_u8_14 g3 0 32 32 ad 32 c (by go_simp) (by go_simp) (bv key0) 46 R32.out (bv (zs.take 32)) (by rw [bv_length, HTL.out]; rfl) HSR2.out (by rw [bv_length, bv_length, HTL.out]; decide) (bv_one _) (fun w3 hr3 ht3 => ?_)
  rw [bv_splice14 HTL.out] at hr3
  have R33 := Lib.hid hr3
  have B3 := Lib.hid (ht3.below (Nat.le_refl g3))
  have R23 := Lib.hid (R22.out.below B3.out HG23.out.2.1)
  have RF3 := Lib.hid (RF2.out.below B3.out HG23.out.1)
  have BT := Lib.hid (but_low14 BW.out B3.out HG23.out.2.2.1)
  clear hr3 ht3 R22 R32 RF2 BW
  refine hK.out _ _ trivial ?_
  clear hK K
  try simp only [Act.put, List.setIfInBounds_toArray, List.set_cons_zero, List.set_cons_succ]
  refine wpAnyH_done (by kernel_rfl) ?_ _
  go_wp2_with (first
    | ((with_reducible show wpList _ _ _ ({ dst := some 8, op := Op.load _ _, type := _, pos := _, after := _, guard := _ } :: _) _ _); go_must (refine wpList_load_whole rfl 46 (.tmp 3) rfl g3 46 (bv (zs.take 32)) _ Try.underlying46 rfl (key_size14 HTL.out) R33.out ?_ ?_; go_simp))
    | ((with_reducible show wpList _ _ _ ({ dst := none, op := Op.store 46 _ _, type := _, pos := _, after := _, guard := _ } :: _) _ _); go_must (refine wpList_store_whole rfl 46 (.tmp 2) (.tmp 8) rfl g2 (bv key0) (bv (zs.take 32)) R23.out (key_size14 HTL.out) (by rw [bv_length, bv_length, HTL.out]; rfl) (bv_one _) ?_ ?_ ?_; go_simp; go_simp; intro w4 hr4 ht4; have R4 := Lib.hid hr4; have T4 := Lib.hid ht4; clear hr4 ht4)))
  refine bodyPost_ret (results_cell_row (h := rfl) _ w4 g2 46 _ (0, 0) _ (by rfl) R4.out.is Try.underlying46 rfl (key_size14 HTL.out)) rfl ?_
  exact ⟨rfl, T4.out.row RF3.out (Ne.symm NG.out.1), but_turned14 BT.out T4.out HG23.out.2.2.2⟩
theorem splice_nil14 {cur : List Value} : splice cur 0 [] = cur := by simp [splice]
set_option maxHeartbeats 2000000 in
theorem key_no14 (g : Nat) (A : Option Addr) (n c S : Nat) (sh : Bool) (zs : List Int) (w : World) (hr : Row w g 94 (fldC A n c sh)) (hs : Sees w S A n (bv zs)) (hS : S ≤ g) (hm : n < 32) :
    Calls Try.prog 43 #[.pointer (some ⟨g, 0, none⟩)] w fun e w' => e = .returned (.agg (bv key0).toArray) ∧ Row w' g 94 (fldC A n c true) ∧ But g w w' := by
  have hlt := hr.lt
  have HR := Lib.hid hr
  have HS := Lib.hid hs
  have HSG := Lib.hid hS
  have HLT := Lib.hid hlt
  have HM := Lib.hid hm
  clear hm
  obtain ⟨g2, hg2⟩ : ∃ k, k = w.heap.size := ⟨_, rfl⟩
  obtain ⟨g3, hg3'⟩ : ∃ k, k = (w.alloc (.cells (bv key0).toArray 46)).heap.size := ⟨_, rfl⟩
  have HG2 : Hid (w.heap.size = g2) := Lib.hid hg2.symm
  have HG3 : Hid ((w.alloc (.cells (bv key0).toArray 46)).heap.size = g3) := Lib.hid hg3'.symm
  have hg3 : g3 = w.heap.size + 1 := by rw [hg3']; simp
  clear hg3'
  have hb := ((Below.refl w.heap.size w).alloc (Nat.le_refl _) (.cells (bv key0).toArray 46)).alloc (by simp) (.cells (bv key0).toArray 46)
  have HB := Lib.hid hb
  have R2 : Hid (Row ((w.alloc (.cells (bv key0).toArray 46)).alloc (.cells (bv key0).toArray 46)) g2 46 (bv key0)) := Lib.hid (by rw [hg2]; exact (Row.new w 46 (bv key0)).alloc _)
  have R3 : Hid (Row ((w.alloc (.cells (bv key0).toArray 46)).alloc (.cells (bv key0).toArray 46)) g3 46 (bv key0)) := Lib.hid (Row.new' _ 46 _ (by rw [hg3]; simp))
  have NG : Hid (g2 ≠ g ∧ g3 ≠ g ∧ g2 ≠ g3) := Lib.hid (by omega)
  have HG23 : Hid (g < g3 ∧ g2 < g3 ∧ w.heap.size ≤ g3 ∧ w.heap.size ≤ g2) := Lib.hid (by omega)
  have RF := Lib.hid (hr.below hb hlt)
  have HSW := Lib.hid (hs.below (hb.mono (Nat.le_of_lt (Nat.lt_of_le_of_lt hS hlt))))
  clear hg2 hg3 hb hr hs hS hlt HR HS
  generalize hW : (w.alloc (.cells (bv key0).toArray 46)).alloc (.cells (bv key0).toArray 46) = W at *
  have HW := Lib.hid hW
  clear hW
  go_enter Try.func43, Try.ntmps43
  go_upto_region 2 with (first
    | ((with_reducible show wpList _ _ _ ({ dst := some 2, op := Op.alloc _, type := _, pos := _, after := _, guard := _ } :: _) _ _); go_must (refine wpList_alloc_zero rfl 46 rfl (bv key0) zero_key14 ?_))
    | ((with_reducible show wpList _ _ _ ({ dst := some 3, op := Op.alloc _, type := _, pos := _, after := _, guard := _ } :: _) _ _); go_must (refine wpList_alloc_zero rfl 46 rfl (bv key0) zero_key14 ?_)))
  rw [HG3.out, HG2.out, HW.out]
  clear HG3 HG2 HW
  have HN := Lib.hid (next_no14 g A n c 32 sh W.drew RF.out.drew HM.out)
  have hT : Turned W (W.drew.setCell ⟨g, 1, none⟩ (.bool true)) g := drew_turned14 (turned_setCell W.drew ⟨g, 1, none⟩ _)
  have HT := Lib.hid hT
  have RF2 : Hid (Row (W.drew.setCell ⟨g, 1, none⟩ (.bool true)) g 94 (fldC A n c true)) := Lib.hid (RF.out.drew.set_ 1 _)
  clear hT
  generalize W.drew.setCell ⟨g, 1, none⟩ (.bool true) = W1 at *
  have BW := Lib.hid (But.trans (But.of_below HB.out g) (But.of_turned HT.out))
  have R22 := Lib.hid (HT.out.row R2.out NG.out.1)
  have R32 := Lib.hid (HT.out.row R3.out NG.out.2.1)
  clear R2 R3 RF HT HB
  refine wp_region_held_drew (S := (fun V => True)) (by kernel_rfl) trivial (fun _ => ?_)
  refine takeL (i := 0) (v := ?_) rfl (by kernel_rfl) (by kernel_rfl) (by kernel_rfl) (fun _ _ _ h => h) (Or.inl ⟨by rfl, ?_⟩) trivial ?_
  rotate_left
  · intro w hw
    try dsimp only at hw
    go_simp
    try with_reducible rfl
  try simp only [Act.put, List.setIfInBounds_toArray, List.set_cons_zero, List.set_cons_succ]
  refine takeL (i := 1) (v := ?_) rfl (by kernel_rfl) (by kernel_rfl) (by kernel_rfl) (fun _ _ _ h => h) (Or.inl ⟨by rfl, ?_⟩) trivial ?_
  rotate_left
  · intro w hw
    try dsimp only at hw
    go_simp
    try with_reducible rfl
  try simp only [Act.put, List.setIfInBounds_toArray, List.set_cons_zero, List.set_cons_succ]
  refine readyL (i := 2) rfl (by kernel_rfl) (by kernel_rfl) fun K hK => ?_
  go_simp
  refine HN.out.mono ?_
  rintro e w1 ⟨rfl, hw⟩
  obtain rfl := hw.symm
  clear hw HN
  refine hK.out _ _ trivial ?_
  clear hK K
  try simp only [Act.put, List.setIfInBounds_toArray, List.set_cons_zero, List.set_cons_succ]
  refine readyL (i := 3) rfl (by kernel_rfl) (by kernel_rfl) fun K hK => ?_
  refine wp_copy_splice (by rfl) (.tmp 4) (.tmp 6) 24 24 rfl 5 Try.underlying24 size_u8_14 (some ⟨g3, 0, none⟩) none 32 32 0 0 (by go_simp) (by go_simp) g3 0 (bv key0) 46 R32.out.is [] rfl (fun h => absurd h (by decide)) (by simp) (by simp) g3 W1 (Below.refl _ _) (Nat.le_refl _) (fun w3 hr3 ht3 => ?_)
  have R33 : Hid (Row w3 g3 46 (bv key0)) := Lib.hid ⟨by have := hr3.out; rw [splice_nil14] at this; exact this⟩
  have B3 := Lib.hid ht3
  have R23 := Lib.hid (R22.out.below B3.out HG23.out.2.1)
  have RF3 := Lib.hid (RF2.out.below B3.out HG23.out.1)
  have BT := Lib.hid (but_low14 BW.out B3.out HG23.out.2.2.1)
  clear hr3 ht3 R22 R32 RF2 BW
  refine hK.out _ _ trivial ?_
  clear hK K
  try simp only [Act.put, List.setIfInBounds_toArray, List.set_cons_zero, List.set_cons_succ]
  refine wpAnyH_done (by kernel_rfl) ?_ _
  go_wp2_with (first
    | ((with_reducible show wpList _ _ _ ({ dst := some 8, op := Op.load _ _, type := _, pos := _, after := _, guard := _ } :: _) _ _); go_must (refine wpList_load_whole rfl 46 (.tmp 3) rfl g3 46 (bv key0) _ Try.underlying46 rfl (key_size14 key0_ok.1) R33.out ?_ ?_; go_simp))
    | ((with_reducible show wpList _ _ _ ({ dst := none, op := Op.store 46 _ _, type := _, pos := _, after := _, guard := _ } :: _) _ _); go_must (refine wpList_store_whole rfl 46 (.tmp 2) (.tmp 8) rfl g2 (bv key0) (bv key0) R23.out (key_size14 key0_ok.1) rfl (bv_one _) ?_ ?_ ?_; go_simp; go_simp; intro w4 hr4 ht4; have R4 := Lib.hid hr4; have T4 := Lib.hid ht4; clear hr4 ht4)))
  refine bodyPost_ret (results_cell_row (h := rfl) _ w4 g2 46 _ (0, 0) _ (by rfl) R4.out.is Try.underlying46 rfl (key_size14 key0_ok.1)) rfl ?_
  exact ⟨rfl, T4.out.row RF3.out (Ne.symm NG.out.1), but_turned14 BT.out T4.out HG23.out.2.2.2⟩
end Go.Proofs.Ytodoaebpkmhhmaa

/-
  Of part SysRdMath14: what is needed here.
-/
namespace Go.Proofs.Ytodoaebpkmhhmaa
open Go.RowKit
set_option linter.unusedVariables false
set_option maxRecDepth 100000
/-- what is left of data: a number, a key, taken from its front -/
def numS (zs : List Int) (sh : Bool) (m : Nat) : Int := if m ≤ zs.length then num zs m else 0
def keyS (zs : List Int) : List Int := if 32 ≤ zs.length then zs.take 32 else key0
def resS (zs : List Int) (m : Nat) : List Int := if m ≤ zs.length then zs.drop m else zs
def shS (zs : List Int) (sh : Bool) (m : Nat) : Bool := if m ≤ zs.length then sh else true
/-- fields in a block -/
structure FIn (w : World) (g S : Nat) (zs : List Int) (sh : Bool) : Prop where
  is : ∃ A c, Row w g 94 (fldC A zs.length c sh) ∧ Sees w S A zs.length (bv zs) ∧ zs.length ≤ c ∧ c ≤ maxLen
  all : AllBytes zs
theorem FIn.lt {w : World} {g S : Nat} {zs : List Int} {sh : Bool} (h : FIn w g S zs sh) : g < w.heap.size := by
  obtain ⟨A, c, hr, _⟩ := h.is
  exact hr.lt
theorem FIn.keep {w w' : World} {g S : Nat} {zs : List Int} {sh : Bool} (h : FIn w g S zs sh) (hS : S ≤ g) {p : Nat} (hb : But p w w') (hp : p ≠ g) (hSp : S ≤ p) : FIn w' g S zs sh := by
  obtain ⟨A, c, hr, hs, r⟩ := h.is
  exact ⟨⟨A, c, hb.row hr (Ne.symm hp), hs.below (hb.below hSp (Nat.le_of_lt (Nat.lt_of_le_of_lt hS hr.lt))), r⟩, h.all⟩
theorem tail_in14 {w w' : World} {g S n c m : Nat} {sh : Bool} {A : Option Addr} {zs : List Int} (hr : Row w' g 94 (fldC (tailAt A c m) (n - m) (c - m) sh)) (hs : Sees w S A n (bv zs)) (hz : AllBytes zs) (hm : m ≤ n) (hnc : n ≤ c) (hc : c ≤ maxLen) (hb : Below S w w') : FIn w' g S (zs.drop m) sh := by
  have hl := hs.len
  rw [bv_length] at hl
  have h1 := (hs.tail hm hnc).below hb
  have e : (zs.drop m).length = n - m := by rw [List.length_drop, hl]
  refine ⟨⟨tailAt A c m, c - m, by rw [e]; exact hr, by rw [e]; simpa [bv, cv] using h1, by rw [e]; omega, by omega⟩, all_drop14 hz m⟩
theorem number14 (g S m : Nat) (sh : Bool) (zs : List Int) (w : World) (h : FIn w g S zs sh) (hS : S ≤ g) (h1 : 1 ≤ m) (h8 : m ≤ 8) :
    Calls Try.prog 42 #[.pointer (some ⟨g, 0, none⟩), .int .i64 m] w fun e w' => e = .returned (.int .u64 (numS zs sh m)) ∧ FIn w' g S (resS zs m) (shS zs sh m) ∧ But g w w' := by
  obtain ⟨A, c, hr, hs, hnc, hc⟩ := h.is
  unfold numS resS shS
  by_cases hm : m ≤ zs.length
  · rw [if_pos hm, if_pos hm, if_pos hm]
    refine (number_ok14 g A zs.length c m S sh zs w hr hs hS h.all h1 h8 hm hnc hc).mono ?_
    rintro e w' ⟨rfl, rfl⟩
    have ht := turned_setCell w ⟨g, 0, none⟩ (.slice (tailAt A c m) (zs.length - m) (c - m))
    exact ⟨rfl, tail_in14 (hr.set_ 0 _) hs h.all hm hnc hc (ht.below hS), But.of_turned ht⟩
  · rw [if_neg hm, if_neg hm, if_neg hm]
    refine (number_no14 g A zs.length c m sh w hr h1 h8 (by omega)).mono ?_
    rintro e w' ⟨rfl, rfl⟩
    have ht := turned_setCell w ⟨g, 1, none⟩ (.bool true)
    exact ⟨rfl, ⟨⟨A, c, hr.set_ 1 _, hs.below (ht.below hS), hnc, hc⟩, h.all⟩, But.of_turned ht⟩
theorem key14 (g S : Nat) (sh : Bool) (zs : List Int) (w : World) (h : FIn w g S zs sh) (hS : S ≤ g) :
    Calls Try.prog 43 #[.pointer (some ⟨g, 0, none⟩)] w fun e w' => e = .returned (.agg (bv (keyS zs)).toArray) ∧ FIn w' g S (resS zs 32) (shS zs sh 32) ∧ But g w w' := by
  obtain ⟨A, c, hr, hs, hnc, hc⟩ := h.is
  have hlt := hr.lt
  unfold keyS resS shS
  by_cases hm : 32 ≤ zs.length
  · rw [if_pos hm, if_pos hm, if_pos hm]
    refine (key_ok14 g A zs.length c S sh zs w hr hs hS hm hnc hc).mono ?_
    rintro e w' ⟨rfl, hr', hb⟩
    exact ⟨rfl, tail_in14 hr' hs h.all hm hnc hc (hb.below hS (by omega)), hb⟩
  · rw [if_neg hm, if_neg hm, if_neg hm]
    refine (key_no14 g A zs.length c S sh zs w hr hs hS (by omega)).mono ?_
    rintro e w' ⟨rfl, hr', hb⟩
    exact ⟨rfl, ⟨⟨A, c, hr', hs.below (hb.below hS (by omega)), hnc, hc⟩, h.all⟩, hb⟩
theorem keyS_len (zs : List Int) : (keyS zs).length = 32 := by
  unfold keyS
  split
  · rw [List.length_take]; omega
  · rfl
/-! ### what read answers -/
/-- read: the order, and whether it is one -/
structure Rd14 where
  y : LAsk
  ok : Bool
def end14 (y : LAsk) (zs : List Int) (sh : Bool) : Rd14 := ⟨y, !sh && decide (zs.length = 0)⟩
def rd14 (zs : List Int) : Rd14 :=
  let t := numS zs false 4
  let z1 := resS zs 4
  let s1 := shS zs false 4
  if t = 0 then end14 ⟨0, numS z1 s1 8, numS (resS z1 8) (shS z1 s1 8) 8, keyS (resS (resS z1 8) 8)⟩ (resS (resS (resS z1 8) 8) 32) (shS (resS (resS z1 8) 8) (shS (resS z1 8) (shS z1 s1 8) 8) 32)
  else if t = 1 then end14 ⟨1, 0, 0, keyS z1⟩ (resS z1 32) (shS z1 s1 32)
  else if t = 2 then end14 ⟨2, numS z1 s1 8, 0, key0⟩ (resS z1 8) (shS z1 s1 8)
  else if t = 8 then end14 ⟨8, 0, numS z1 s1 8, key0⟩ (resS z1 8) (shS z1 s1 8)
  else ⟨ask0, false⟩
theorem rd_dat14 (zs : List Int) : (rd14 zs).ok = (dat14 zs).isSome ∧ ∀ x, dat14 zs = some x → (rd14 zs).y = x := by
  unfold rd14 dat14
  by_cases h4 : zs.length < 4
  · have e1 : numS zs false 4 = 0 := by unfold numS; rw [if_neg (by omega)]
    have e2 : resS zs 4 = zs := by unfold resS; rw [if_neg (by omega)]
    have e3 : resS zs 8 = zs := by unfold resS; rw [if_neg (by omega)]
    have e4 : shS zs (shS zs false 4) 8 = true := by unfold shS; rw [if_neg (by omega : ¬ 8 ≤ zs.length)]
    have e5 : ∀ b, shS zs b 8 = true := fun b => by unfold shS; rw [if_neg (by omega)]
    have e6 : ∀ b, shS zs b 32 = true := fun b => by unfold shS; rw [if_neg (by omega)]
    rw [if_pos h4]
    dsimp only
    rw [e1, if_pos rfl, e2]
    simp only [e3, e6]
    exact ⟨rfl, fun x hx => by cases hx⟩
  · have e1 : numS zs false 4 = num zs 4 := by unfold numS; rw [if_pos (by omega)]
    have e2 : resS zs 4 = zs.drop 4 := by unfold resS; rw [if_pos (by omega)]
    have e3 : shS zs false 4 = false := by unfold shS; rw [if_pos (by omega)]
    rw [if_neg h4]
    dsimp only
    rw [e1, e2, e3]
    have hl : (zs.drop 4).length = zs.length - 4 := List.length_drop
    by_cases t0 : num zs 4 = 0
    · rw [if_pos t0]
      by_cases hn : zs.length = 52
      · have a1 : 8 ≤ (zs.drop 4).length := by omega
        have f1 : resS (zs.drop 4) 8 = zs.drop 12 := by unfold resS; rw [if_pos a1, List.drop_drop]
        have l2 : (zs.drop 12).length = 40 := by rw [List.length_drop]; omega
        have f2 : resS (zs.drop 12) 8 = zs.drop 20 := by unfold resS; rw [if_pos (by omega), List.drop_drop]
        have l3 : (zs.drop 20).length = 32 := by rw [List.length_drop]; omega
        have f3 : resS (zs.drop 20) 32 = zs.drop 52 := by unfold resS; rw [if_pos (by omega), List.drop_drop]
        have l4 : (zs.drop 52).length = 0 := by rw [List.length_drop]; omega
        rw [f1, f2, f3, if_pos ⟨t0, hn⟩]
        have g1 : shS (zs.drop 4) false 8 = false := by unfold shS; rw [if_pos a1]
        have g2 : shS (zs.drop 12) false 8 = false := by unfold shS; rw [if_pos (by omega)]
        have g3 : shS (zs.drop 20) false 32 = false := by unfold shS; rw [if_pos (by omega)]
        rw [g1, g2, g3]
        have n1 : numS (zs.drop 4) false 8 = num (zs.drop 4) 8 := by unfold numS; rw [if_pos a1]
        have n2 : numS (zs.drop 12) false 8 = num (zs.drop 12) 8 := by unfold numS; rw [if_pos (by omega)]
        have k3 : keyS (zs.drop 20) = zs.drop 20 := by unfold keyS; rw [if_pos (by omega), List.take_of_length_le (by omega)]
        rw [n1, n2, k3]
        exact ⟨by simp [end14, l4], fun x hx => by cases hx; rfl⟩
      · have q0 : ¬ (num zs 4 = 0 ∧ zs.length = 52) := fun h => hn h.2
        have q1 : ¬ (num zs 4 = 1 ∧ zs.length = 36) := fun h => by omega
        have q2 : ¬ (num zs 4 = 2 ∧ zs.length = 12) := fun h => by omega
        have q8 : ¬ (num zs 4 = 8 ∧ zs.length = 12) := fun h => by omega
        rw [if_neg q0, if_neg q1, if_neg q2, if_neg q8]
        refine ⟨?_, fun x hx => by cases hx⟩
        show (!_ && decide _) = false
        by_cases a1 : 8 ≤ (zs.drop 4).length
        · have f1 : resS (zs.drop 4) 8 = zs.drop 12 := by unfold resS; rw [if_pos a1, List.drop_drop]
          have l2 : (zs.drop 12).length = zs.length - 12 := List.length_drop
          rw [f1]
          by_cases a2 : 8 ≤ (zs.drop 12).length
          · have f2 : resS (zs.drop 12) 8 = zs.drop 20 := by unfold resS; rw [if_pos a2, List.drop_drop]
            have l3 : (zs.drop 20).length = zs.length - 20 := List.length_drop
            rw [f2]
            by_cases a3 : 32 ≤ (zs.drop 20).length
            · have f3 : resS (zs.drop 20) 32 = zs.drop 52 := by unfold resS; rw [if_pos a3, List.drop_drop]
              rw [f3, decide_eq_false (by rw [List.length_drop]; omega), Bool.and_false]
            · have : ∀ b, shS (zs.drop 20) b 32 = true := fun b => by unfold shS; rw [if_neg a3]
              rw [this]; rfl
          · have f2 : resS (zs.drop 12) 8 = zs.drop 12 := by unfold resS; rw [if_neg a2]
            have : ∀ b, shS (zs.drop 12) b 32 = true := fun b => by unfold shS; rw [if_neg (by omega)]
            rw [f2, this]; rfl
        · have f1 : resS (zs.drop 4) 8 = zs.drop 4 := by unfold resS; rw [if_neg a1]
          have : ∀ b, shS (zs.drop 4) b 32 = true := fun b => by unfold shS; rw [if_neg (by omega)]
          rw [f1, f1, this]; rfl
    · have q0 : ¬ (num zs 4 = 0 ∧ zs.length = 52) := fun h => t0 h.1
      rw [if_neg t0, if_neg q0]
      by_cases t1 : num zs 4 = 1
      · rw [if_pos t1]
        by_cases a1 : 32 ≤ (zs.drop 4).length
        · have f1 : resS (zs.drop 4) 32 = zs.drop 36 := by unfold resS; rw [if_pos a1, List.drop_drop]
          have g1 : shS (zs.drop 4) false 32 = false := by unfold shS; rw [if_pos a1]
          rw [f1, g1]
          by_cases hn : zs.length = 36
          · rw [if_pos ⟨t1, hn⟩]
            have k1 : keyS (zs.drop 4) = zs.drop 4 := by unfold keyS; rw [if_pos a1, List.take_of_length_le (by omega)]
            have l4 : (zs.drop 36).length = 0 := by rw [List.length_drop]; omega
            rw [k1]
            exact ⟨by simp [end14, l4], fun x hx => by cases hx; rfl⟩
          · have q1 : ¬ (num zs 4 = 1 ∧ zs.length = 36) := fun h => hn h.2
            have q2 : ¬ (num zs 4 = 2 ∧ zs.length = 12) := fun h => by omega
            have q8 : ¬ (num zs 4 = 8 ∧ zs.length = 12) := fun h => by omega
            rw [if_neg q1, if_neg q2, if_neg q8]
            refine ⟨?_, fun x hx => by cases hx⟩
            show (!false && decide _) = false
            rw [decide_eq_false (by rw [List.length_drop]; omega)]; rfl
        · have g1 : shS (zs.drop 4) false 32 = true := by unfold shS; rw [if_neg a1]
          have q1 : ¬ (num zs 4 = 1 ∧ zs.length = 36) := fun h => by omega
          have q2 : ¬ (num zs 4 = 2 ∧ zs.length = 12) := fun h => by omega
          have q8 : ¬ (num zs 4 = 8 ∧ zs.length = 12) := fun h => by omega
          rw [if_neg q1, if_neg q2, if_neg q8, g1]
          exact ⟨rfl, fun x hx => by cases hx⟩
      · have q1 : ¬ (num zs 4 = 1 ∧ zs.length = 36) := fun h => t1 h.1
        rw [if_neg t1, if_neg q1]
        have eight : ∀ (y y' : LAsk) (b : Prop) [Decidable b], (8 ≤ (zs.drop 4).length → y = y') → (b ↔ zs.length = 12) → (end14 y (resS (zs.drop 4) 8) (shS (zs.drop 4) false 8)).ok = (if b then some y' else (none : Option LAsk)).isSome ∧ ∀ x, (if b then some y' else (none : Option LAsk)) = some x → (end14 y (resS (zs.drop 4) 8) (shS (zs.drop 4) false 8)).y = x := by
          intro y y' b _ hy hb
          by_cases a1 : 8 ≤ (zs.drop 4).length
          · have f1 : resS (zs.drop 4) 8 = zs.drop 12 := by unfold resS; rw [if_pos a1, List.drop_drop]
            have g1 : shS (zs.drop 4) false 8 = false := by unfold shS; rw [if_pos a1]
            rw [f1, g1, hy a1]
            by_cases hn : zs.length = 12
            · rw [if_pos (hb.2 hn)]
              have l4 : (zs.drop 12).length = 0 := by rw [List.length_drop]; omega
              exact ⟨by simp [end14, l4], fun x hx => by cases hx; rfl⟩
            · rw [if_neg (fun h => hn (hb.1 h))]
              refine ⟨?_, fun x hx => by cases hx⟩
              show (!false && decide _) = false
              rw [decide_eq_false (by rw [List.length_drop]; omega)]; rfl
          · have g1 : shS (zs.drop 4) false 8 = true := by unfold shS; rw [if_neg a1]
            rw [if_neg (fun h => by have := hb.1 h; omega), g1]
            exact ⟨rfl, fun x hx => by cases hx⟩
        have n1 : 8 ≤ (zs.drop 4).length → numS (zs.drop 4) false 8 = num (zs.drop 4) 8 := fun a1 => by unfold numS; rw [if_pos a1]
        by_cases t2 : num zs 4 = 2
        · rw [if_pos t2]
          have := eight ⟨2, numS (zs.drop 4) false 8, 0, key0⟩ ⟨2, num (zs.drop 4) 8, 0, key0⟩ (num zs 4 = 2 ∧ zs.length = 12) (fun a1 => by rw [n1 a1]) ⟨fun h => h.2, fun h => ⟨t2, h⟩⟩
          by_cases hn : num zs 4 = 2 ∧ zs.length = 12
          · rw [if_pos hn] at this ⊢
            exact this
          · rw [if_neg hn] at this ⊢
            have q8 : ¬ (num zs 4 = 8 ∧ zs.length = 12) := fun h => by omega
            rw [if_neg q8]
            exact this
        · have q2 : ¬ (num zs 4 = 2 ∧ zs.length = 12) := fun h => t2 h.1
          rw [if_neg t2, if_neg q2]
          by_cases t8 : num zs 4 = 8
          · rw [if_pos t8]
            exact eight ⟨8, 0, numS (zs.drop 4) false 8, key0⟩ ⟨8, 0, num (zs.drop 4) 8, key0⟩ (num zs 4 = 8 ∧ zs.length = 12) (fun a1 => by rw [n1 a1]) ⟨fun h => h.2, fun h => ⟨t8, h⟩⟩
          · have q8 : ¬ (num zs 4 = 8 ∧ zs.length = 12) := fun h => t8 h.1
            rw [if_neg t8, if_neg q8]
            exact ⟨rfl, fun x hx => by cases hx⟩
end Go.Proofs.Ytodoaebpkmhhmaa
