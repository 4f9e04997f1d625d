/-
  Parts joined: Role SheetR TwinK TwinR BookR Pages BookGen BookMsg Tail PutTx Sigs.
-/
import Derived.Test.YtdgbodljmdcagaaGreatDoorChecked
import Derived.WalkKit
import Derived.LaidEql
import Derived.Stop.Asserts
import Derived.RowKitTokens
import Derived.Lib.IfaceEq
import Derived.Lib.Hide
import Derived.Below
import Derived.Laws.OwnMore
import Derived.Deep.AppendLies
import Derived.Deep.Draws
import Derived.Laws.MakeOwn
import Derived.Laws.CopyOwn
import Derived.Laws.Rows
import Derived.Maps.AppendAt
import Derived.OwnWalk
import Derived.Laws.BitsAllLaws
import Derived.Test.YtdgbodljmdcagaaGreatDoorRows
import Derived.WalkSpells
import Derived.WalkLawsBesides
import Derived.IntWalk
import Derived.Deep.QuietTactic
import Derived.BigQuiet
import Derived.Deep.MidRow
import Derived.Deep.WholeRow
import Derived.Great.BuildSlice
import Derived.Recover
import Derived.Deep.RegionHeld
import Derived.ChangeKeysEq
import Derived.Deep.RegionHeld2
import Derived.Deep.CutBlock
import Derived.Laws.Tables
import Derived.ProofKit
import Derived.OpenShut
import Derived.ShutString
import Derived.ChangeOld
import Derived.Lib.SmallJoins
import Derived.Deep.Slices
import Derived.Deep.Strs
import Derived.SizedLaws
import Derived.Laws.StructEq
import Derived.Laws.Slices
import Derived.Test.YtdgbodljmdcagaaGreatDoorA1
import Derived.Test.YtdgbodljmdcagaaGreatDoorA2
import Derived.Test.YtdgbodljmdcagaaGreatDoorA3
import Derived.Test.YtdgbodljmdcagaaGreatDoorA4
/-
  Of part Role: what is needed here.
-/
set_option linter.unusedSimpArgs false
namespace Go.Proofs.YtdgbodljmdcagaaGreatDoor
open Go.RowKit
set_option linter.unusedVariables false
set_option maxRecDepth 100000
/-- elements of sz cells each that lie below block B -/
structure CsIn (sz : Nat) (w : World) (B : Nat) (A : Option Addr) (n : Nat) (l : List (List Value)) : Prop where
  len : l.length = n
  each : ∀ k ∈ l, k.length = sz
  sees : Sees w B A (n * sz) l.flatten
section
variable {sz n B B' : Nat} {w w' : World} {A : Option Addr} {l : List (List Value)}
theorem CsIn.keep (h : CsIn sz w B A n l) (hk : ∀ p : Addr, p.block < B → w'.cell? p = w.cell? p) : CsIn sz w' B A n l := ⟨h.len, h.each, h.sees.keep hk⟩
theorem CsIn.below (h : CsIn sz w B A n l) (hb : Below B w w') : CsIn sz w' B A n l := ⟨h.len, h.each, h.sees.below hb⟩
theorem CsIn.more (h : CsIn sz w B A n l) (hB : B ≤ B') : CsIn sz w B' A n l := ⟨h.len, h.each, h.sees.more hB⟩
theorem CsIn.get (h : CsIn sz w B A n l) {k : Nat} (hk : k < n) (h0 : 0 < sz) : ∃ a x, A = some a ∧ a.block < B ∧ l[k]? = some x ∧ x.length = sz ∧ ∀ j u, x[j]? = some u → w.cell? ((a.add (k * sz)).add j) = some u := by
  obtain ⟨x, hx⟩ : ∃ x, l[k]? = some x := ⟨_, List.getElem?_eq_getElem (by rw [h.len]; exact hk)⟩
  have hxl := h.each x (List.mem_of_getElem? hx)
  have hat := flatten_at sz l k x (fun i y hy => h.each y (List.mem_of_getElem? hy)) hx
  obtain ⟨u0, hu0⟩ : ∃ u, x[0]? = some u := ⟨_, List.getElem?_eq_getElem (by rw [hxl]; exact h0)⟩
  obtain ⟨a, e, hb, _⟩ := h.sees.cell _ _ (hat 0 u0 hu0)
  refine ⟨a, x, e, hb, hx, hxl, fun j u hu => ?_⟩
  obtain ⟨a', e', _, hc⟩ := h.sees.cell _ _ (hat j u hu)
  rw [e] at e'
  cases e'
  rw [addr_add]
  exact hc
theorem CsIn.nil (w : World) (B : Nat) (A : Option Addr) : CsIn sz w B A 0 [] := ⟨rfl, by simp, by rw [Nat.zero_mul]; exact Sees.nil _ _ _⟩
end
/-- so many of one -/
def rowOf (n : Nat) (z : List Value) : List Value := (List.replicate n z).flatten
/-- a role -/
structure LRole where
  key : List Int
  sg : Bool
  wr : Bool
theorem LRole.ext_iff' {a b : LRole} : a = b ↔ a.key = b.key ∧ a.sg = b.sg ∧ a.wr = b.wr := by
  obtain ⟨x, y, z⟩ := a
  obtain ⟨x', y', z'⟩ := b
  constructor
  · rintro h
    cases h
    exact ⟨rfl, rfl, rfl⟩
  · rintro ⟨h1, h2, h3⟩
    simp only at h1 h2 h3
    rw [h1, h2, h3]
instance : DecidableEq LRole := fun a b => decidable_of_iff (a.key = b.key ∧ a.sg = b.sg ∧ a.wr = b.wr) LRole.ext_iff'.symm
def LRole.cells (r : LRole) : List Value := bv r.key ++ [.bool r.sg, .bool r.wr]
/-- a role whose key has 32 bytes -/
def RoleOk (r : LRole) : Prop := r.key.length = 32 ∧ AllBytes r.key
theorem role_len {r : LRole} (h : r.key.length = 32) : r.cells.length = 34 := by simp [LRole.cells, bv_length, h]
theorem role_one (r : LRole) : ∀ u ∈ r.cells, u.oneCell' = true := by
  intro u hu
  rcases List.mem_append.1 hu with hu | hu
  · exact bv_one _ _ hu
  · simp only [List.mem_cons, List.not_mem_nil, or_false] at hu
    rcases hu with rfl | rfl <;> rfl
theorem role_sg {r : LRole} (h : r.key.length = 32) : r.cells[32]? = some (.bool r.sg) := by
  unfold LRole.cells
  rw [List.getElem?_append_right (by rw [bv_length, h]; omega), bv_length, h]
  rfl
theorem role_wr {r : LRole} (h : r.key.length = 32) : r.cells[33]? = some (.bool r.wr) := by
  unfold LRole.cells
  rw [List.getElem?_append_right (by rw [bv_length, h]; omega), bv_length, h]
  rfl
theorem role_key {r : LRole} {j : Nat} {u : Value} (h : (bv r.key)[j]? = some u) : r.cells[j]? = some u := by
  unfold LRole.cells
  rw [List.getElem?_append_left (List.getElem?_eq_some_iff.1 h).1]
  exact h
theorem size_role {r : LRole} (h : r.key.length = 32) : (Tryz.prog.info? 101).map (·.size) = some r.cells.length := by
  rw [role_len h]
  kernel_rfl
theorem run_part_key (xs : Array Value) (off : Nat) (w : World) : (part 78 xs off).run Tryz.prog w = .ok (.agg (xs.extract off (off + 32))) w := by
  have h1 : (isAgg 78).run Tryz.prog w = .ok true w := by kernel_rfl
  simp [part, h1]
theorem run_part_bool (xs : Array Value) (off : Nat) (w : World) {v : Value} (h : xs[off]? = some v) : (part 4 xs off).run Tryz.prog w = .ok v w :=
  run_part_plain (P := Tryz.prog) w (by kernel_rfl) h
theorem eqItems_at (d : Nat) (x y : List Int) (w : World) : ∀ (is : List Nat), (∀ i ∈ is, i < x.length ∧ i < y.length) → (Op.eqItems (d + 1) 5 1 (bv x).toArray (bv y).toArray is).run Tryz.prog w = .ok (same32 x y is) w
  | [], _ => by simp [Op.eqItems, same32]
  | i :: is, h => by
    have hi := h i (by simp)
    have hc : (bv x).toArray[i]? = some (.int .u8 (x.getD i 0)) := by
      rw [List.getElem?_toArray]
      exact bv_at hi.1
    have hd : (bv y).toArray[i]? = some (.int .u8 (y.getD i 0)) := by
      rw [List.getElem?_toArray]
      exact bv_at hi.2
    have p := run_part_plain (P := Tryz.prog) w plainU8 (xs := (bv x).toArray) (off := i) hc
    have p2 := run_part_plain (P := Tryz.prog) w plainU8 (xs := (bv y).toArray) (off := i) hd
    have ih := eqItems_at d x y w is fun k hk => h k (by simp [hk])
    simp only [Op.eqItems, Nat.mul_one, Sem.run_bind, p, p2, Result.andThen_ok, run_equalIn_int w d 5 .u8 .u8 _ _ Tryz.underlying5]
    cases hb : (x.getD i 0 == y.getD i 0)
    · have : same32 x y (i :: is) = false := by simp only [same32, List.all_cons, hb, Bool.false_and]
      rw [this]
      simp
    · have : same32 x y (i :: is) = same32 x y is := by simp only [same32, List.all_cons, hb, Bool.true_and]
      rw [this]
      simpa using ih
theorem keys_eqIn (d : Nat) {x y : List Int} (hx : x.length = 32) (hy : y.length = 32) (w : World) :
    (Op.equalIn (d + 1 + 1) 78 (.agg (bv x).toArray) (.agg (bv y).toArray)).run Tryz.prog w = .ok (decide (x = y)) w := by
  obtain ⟨i, hi⟩ := infoU8
  rw [run_equalIn_array w (d + 1) _ _ Tryz.underlying78 hi, cellsOfU8, eqItems_at d x y w _ (fun i hi => by simp at hi; omega), same32_iff hx hy]
theorem role_keyAt {r : LRole} (h : r.key.length = 32) : r.cells.toArray.extract 0 (0 + 32) = (bv r.key).toArray := by
  apply Array.ext'
  unfold LRole.cells
  rw [Array.toList_extract]
  simp [List.extract, bv_length, h]
theorem keys_eq9 {x y : List Int} (hx : x.length = 32) (hy : y.length = 32) (w : World) (d : Nat) (hd : d = 9997) :
    (Op.equalIn 9999 78 (.agg (bv x).toArray) (.agg (bv y).toArray)).run Tryz.prog w = .ok (decide (x = y)) w := by
  have h := keys_eqIn d hx hy w
  subst hd
  exact h
theorem bool_eq9 (a b : Bool) (w : World) : (Op.equalIn 9999 4 (.bool a) (.bool b)).run Tryz.prog w = .ok (a == b) w := by
  have := run_equalIn_bool w 9998 4 a b Tryz.underlying4
  rwa [show (9998 + 1 : Nat) = 9999 from rfl] at this
theorem role_held : Tryz.prog.stoodInHeld 101 = false := by kernel_rfl
theorem role_under : Tryz.prog.underlying 101 = some (.struct (Tryz.prog.fieldsOf 101)) := by kernel_rfl
/-- the fields, one behind the other -/
theorem role_fields (X Y : Array Value) (w : World) {a b : Value} {s s' v v' c : Bool} (pa : (part 78 X 0).run Tryz.prog w = .ok a w) (pb : (part 78 Y 0).run Tryz.prog w = .ok b w)
    (ps : (part 4 X 32).run Tryz.prog w = .ok (.bool s) w) (ps' : (part 4 Y 32).run Tryz.prog w = .ok (.bool s') w) (pv : (part 4 X 33).run Tryz.prog w = .ok (.bool v) w) (pv' : (part 4 Y 33).run Tryz.prog w = .ok (.bool v') w)
    (hk : (Op.equalIn 9999 78 a b).run Tryz.prog w = .ok c w) : (Op.eqFields 9999 X Y (Tryz.prog.fieldsOf 101).toList).run Tryz.prog w = .ok (c && (s == s') && (v == v')) w := by
  simp only [Program.fieldsOf, Tryz.underlying101]
  have hb := bool_eq9
  simp only [Op.eqFields, ne_eq, String.reduceEq, not_false_eq_true, if_true, Sem.run_bind, pa, pb, Result.andThen_ok, hk]
  cases c
  · simp
  · simp only [Bool.not_true, Bool.false_eq_true, if_false, ps, ps', Sem.run_bind, Result.andThen_ok, hb]
    cases hs : (s == s')
    · simp
    · simp only [Bool.not_true, Bool.false_eq_true, if_false, pv, pv', Sem.run_bind, Result.andThen_ok, hb]
      cases hv : (v == v') <;> simp
set_option maxRecDepth 100000 in
theorem roles_eqIn {x y : LRole} (hx : x.key.length = 32) (hy : y.key.length = 32) (w : World) :
    (Op.equalIn 10000 101 (.agg x.cells.toArray) (.agg y.cells.toArray)).run Tryz.prog w = .ok (decide (x = y)) w := by
  have px1 := run_part_key x.cells.toArray 0 w
  have py1 := run_part_key y.cells.toArray 0 w
  rw [role_keyAt hx] at px1
  rw [role_keyAt hy] at py1
  have px2 := run_part_bool x.cells.toArray 32 w (v := .bool x.sg) (by rw [List.getElem?_toArray]; exact role_sg hx)
  have py2 := run_part_bool y.cells.toArray 32 w (v := .bool y.sg) (by rw [List.getElem?_toArray]; exact role_sg hy)
  have px3 := run_part_bool x.cells.toArray 33 w (v := .bool x.wr) (by rw [List.getElem?_toArray]; exact role_wr hx)
  have py3 := run_part_bool y.cells.toArray 33 w (v := .bool y.wr) (by rw [List.getElem?_toArray]; exact role_wr hy)
  rw [show (10000 : Nat) = 9999 + 1 from rfl, run_equalIn_struct w 9999 101 _ _ role_under role_held, role_fields _ _ w px1 py1 px2 py2 px3 py3 (keys_eq9 hx hy w _ rfl)]
  congr 1
  rw [Bool.eq_iff_iff, Bool.and_eq_true, Bool.and_eq_true, decide_eq_true_iff, decide_eq_true_iff, beq_iff_eq, beq_iff_eq, LRole.ext_iff', and_assoc]
theorem role_neq {x y : LRole} (hx : x.key.length = 32) (hy : y.key.length = 32) (w : World) : (binOp .neq 101 (.agg x.cells.toArray) (.agg y.cells.toArray)).run Tryz.prog w = .ok (.bool (!decide (x = y))) w := by
  rw [run_neq_struct, roles_eqIn hx hy]
  rfl
/-- roles that lie below block B -/
structure RolesIn (w : World) (B : Nat) (A : Option Addr) (n : Nat) (l : List LRole) : Prop where
  cs : CsIn 34 w B A n (l.map LRole.cells)
  ok : ∀ r ∈ l, RoleOk r
section
variable {n B B' : Nat} {w w' : World} {A : Option Addr} {l : List LRole}
theorem RolesIn.len (h : RolesIn w B A n l) : l.length = n := by have := h.cs.len; rwa [List.length_map] at this
theorem RolesIn.keep (h : RolesIn w B A n l) (hk : ∀ p : Addr, p.block < B → w'.cell? p = w.cell? p) : RolesIn w' B A n l := ⟨h.cs.keep hk, h.ok⟩
theorem RolesIn.below (h : RolesIn w B A n l) (hb : Below B w w') : RolesIn w' B A n l := ⟨h.cs.below hb, h.ok⟩
theorem RolesIn.more (h : RolesIn w B A n l) (hB : B ≤ B') : RolesIn w B' A n l := ⟨h.cs.more hB, h.ok⟩
theorem RolesIn.get (h : RolesIn w B A n l) {k : Nat} (hk : k < n) : ∃ a r, A = some a ∧ a.block < B ∧ l[k]? = some r ∧ RoleOk r ∧ ∀ j u, r.cells[j]? = some u → w.cell? ((a.add (k * 34)).add j) = some u := by
  obtain ⟨a, x, e, hb, hx, _, hc⟩ := h.cs.get hk (by omega)
  rw [List.getElem?_map] at hx
  obtain ⟨r, hr, rfl⟩ := Option.map_eq_some_iff.1 hx
  exact ⟨a, r, e, hb, hr, h.ok r (List.mem_of_getElem? hr), hc⟩
theorem RolesIn.nil (w : World) (B : Nat) (A : Option Addr) : RolesIn w B A 0 [] := ⟨CsIn.nil _ _ _, by simp⟩
end
/-- the zero role -/
def r0 : LRole := ⟨List.replicate 32 0, false, false⟩
def zR : Value := .agg r0.cells.toArray
theorem infoR : (Tryz.prog.info? 101).map (fun i => (i.zero, i.size, i.bytes)) = some (some zR, 34, 34) := by kernel_rfl
end Go.Proofs.YtdgbodljmdcagaaGreatDoor

/-
  Of part SheetR: what is needed here.
-/
namespace Go.Proofs.YtdgbodljmdcagaaGreatDoor
open Go.RowKit
set_option linter.unusedVariables false
set_option maxRecDepth 100000
/-- an element, as cells -/
structure IsR (h : List Value) : Prop where
  len : h.length = 34
  one : ∀ u ∈ h, u.oneCell' = true
  neq : ∀ w, (binOp .neq 101 (.agg h.toArray) (.agg h.toArray)).run Tryz.prog w = .ok (.bool false) w
  size : (Tryz.prog.info? 101).map (·.size) = some h.length
/-- a page's cells: its list, its two signs -/
def sheetC (l : Value) (h f : List Value) : List Value := l :: (h ++ f)
end Go.Proofs.YtdgbodljmdcagaaGreatDoor

/-
  Of part TwinK: what is needed here.
-/
namespace Go.Proofs.YtdgbodljmdcagaaGreatDoor
open Go.RowKit
set_option linter.unusedVariables false
set_option maxRecDepth 100000
theorem made_len (z : Value) (n : Nat) : (madeCells z.cells n).toList.length = n := by simp [madeCells]
theorem Row.of_ownN {w : World} {base N size g : Nat} {e : TypeId} {xs : List Value} (h : w.ownsRow base e size (.slice (some ⟨g, 0, none⟩) N N) N xs) : Row w g e xs := by
  rcases h.2 with ⟨h1, _⟩ | ⟨g', cap, cur, h1, h2, h3, h4, h5, h6, h7⟩
  · cases h1
  · cases h1
    refine ⟨?_⟩
    rw [h3, ← h7, ← h6, ← Array.length_toList, List.take_length]
/-- keys that stand in a row -/
theorem keys_row {w : World} {g : Nat} {l : List (List Int)} {ys : List Value} {n : Nat} (hr : Row w g 78 (bv l.flatten ++ ys)) (hn : l.length = n) (h32 : ∀ k ∈ l, k.length = 32) {B : Nat} (hB : g < B) : KeysIn w B (some ⟨g, 0, none⟩) n l :=
  ⟨hn, h32, ⟨by rw [bv_length, flatten_len l h32, hn], fun i u hu => ⟨_, rfl, hB, by
    rw [addr_row, hr.cell, Nat.zero_add, List.getElem?_append_left (List.getElem?_eq_some_iff.1 hu).1]
    exact hu⟩⟩⟩
end Go.Proofs.YtdgbodljmdcagaaGreatDoor

/-
  Of part TwinR: what is needed here.
-/
namespace Go.Proofs.YtdgbodljmdcagaaGreatDoor
open Go.RowKit
set_option linter.unusedVariables false
set_option maxRecDepth 100000
set_option maxRecDepth 100000 in
set_option maxHeartbeats 600000 in
theorem sameR (A B : Option Addr) (n c d : Nat) (l : List (List Value)) (w : World) (S T : Nat) (hx : CsIn 34 w S A n l) (hy : CsIn 34 w T B n l) (ho : ∀ k ∈ l, IsR k) (hn : n ≤ maxLen) :
    Calls Tryz.prog 57 #[.slice A n c, .slice B n d] w fun e w' => e = .returned (.bool true) ∧ ∃ k, w' = w.drewN k := by
  unfold maxLen at hn
  have HX := Lib.hid hx
  have HY := Lib.hid hy
  have HO := Lib.hid ho
  clear hx hy ho
  go_enter Tryz.func57, Tryz.ntmps57
  go_wp2
  go_loopw [5] (fun i wr => ∃ k j : Nat, k ≤ n ∧ i = .int .i64 k ∧ wr = w.drewN j) (fun i _ => n - (intOf i).toNat)
  case atStart => exact ⟨0, 0, Nat.zero_le _, rfl, rfl⟩
  case round =>
    obtain ⟨k, j, hk, rfl, rfl⟩ := hrel
    by_cases hlt : k < n
    · obtain ⟨a, x, rfl, ha, hxl, _, ca⟩ := HX.out.get hlt (by omega)
      obtain ⟨b, y, rfl, hb, hyl, _, cb⟩ := HY.out.get hlt (by omega)
      obtain rfl : x = y := by rw [hxl] at hyl; exact Option.some.inj hyl
      have hxo := HO.out x (List.mem_of_getElem? hxl)
      have NQ := fun w => hxo.neq w
      have HSZ := Lib.hid hxo.size
      have CA := Lib.hid ca
      have CB := Lib.hid cb
      clear ca cb hxl hyl hxo
      go_wp2
      refine wp_region_quiet_lit (by kernel_rfl) (by kernel_rfl) ?_
      repeat (first
        | ((with_reducible show wpQuiet _ _ _ _ ({ dst := some 20, op := Op.load _ _, type := _, pos := _, after := _, guard := _ } :: _) _); go_must (refine quiet_load_at (by kernel_rfl) 101 (.tmp 19) rfl (a.add (k * 34)) x _ Tryz.underlying101 rfl HSZ.out (by rintro _ ⟨nq, rfl⟩; exact CA.out) ?_ ?_; go_simp; go_simp))
        | ((with_reducible show wpQuiet _ _ _ _ ({ dst := some 24, op := Op.load _ _, type := _, pos := _, after := _, guard := _ } :: _) _); go_must (refine quiet_load_at (by kernel_rfl) 101 (.tmp 23) rfl (b.add (k * 34)) x _ Tryz.underlying101 rfl HSZ.out (by rintro _ ⟨nq, rfl⟩; exact CB.out) ?_ ?_; go_simp; go_simp))
        | go_big_quiet_step (fail))
      refine wpQuiet_nil ?_
      intro nq
      go_wp2
      go_roundw
      case rel => exact ⟨k + 1, j + nq, by omega, by go_num, by simp⟩
      case measure => simp [intOf]; omega
    · go_wp2
      go_ret
      exact ⟨rfl, j, rfl⟩
end Go.Proofs.YtdgbodljmdcagaaGreatDoor

/-
  Of part BookR: what is needed here.
-/
namespace Go.Proofs.YtdgbodljmdcagaaGreatDoor
open Go.RowKit
set_option linter.unusedVariables false
set_option maxRecDepth 100000
theorem role_is {r : LRole} (h : r.key.length = 32) : IsR r.cells := ⟨role_len h, role_one r, fun w => by rw [role_neq h h]; simp, size_role h⟩
theorem of_fn32 {l : List Value} (hl : l.length = 32) : ∃ f : Fin 32 → Value, l = List.ofFn f := ⟨fun i => l.getD i undef, by
    refine List.ext_getElem (by simpa using hl) fun i h1 h2 => ?_
    rw [List.getElem_ofFn, List.getD_eq_getElem?_getD, List.getElem?_eq_getElem h1]
    rfl⟩
theorem built_role {l : List Value} (hl : l.length = 32) (a b : Bool) : Tryz.prog.built 101 [(0, .agg l.toArray), (1, .bool a), (2, .bool b)] = some (l ++ [Value.bool a, .bool b]).toArray := by
  obtain ⟨f, rfl⟩ := of_fn32 hl
  kernel_rfl
theorem built_roleW {l : List Value} (hl : l.length = 32) (b : Bool) : Tryz.prog.built 101 [(0, .agg l.toArray), (2, .bool b)] = some (l ++ [Value.bool false, .bool b]).toArray := by
  obtain ⟨f, rfl⟩ := of_fn32 hl
  kernel_rfl
theorem built_roleK {l : List Value} (hl : l.length = 32) : Tryz.prog.built 101 [(0, .agg l.toArray)] = some (l ++ [Value.bool false, .bool false]).toArray := by
  obtain ⟨f, rfl⟩ := of_fn32 hl
  kernel_rfl
theorem roles_is {l : List LRole} (h : ∀ r ∈ l, RoleOk r) : ∀ k ∈ l.map LRole.cells, IsR k := fun k hk => by
  obtain ⟨r, hr, rfl⟩ := List.mem_map.1 hk
  exact role_is (h r hr).1
end Go.Proofs.YtdgbodljmdcagaaGreatDoor

/-
  Of part Pages: what is needed here.
-/
namespace Go.Proofs.YtdgbodljmdcagaaGreatDoor
open Go.RowKit
set_option linter.unusedVariables false
set_option maxRecDepth 100000
/-- a page's kind -/
inductive Kd where
  | b
  | k
  | s
  | r
/-- a page's kind, with its two signs -/
inductive Sg where
  | b (h f : Int)
  | k (h f : List Int)
  | s (h f : List Int)
  | r (h f : List Value)
def Sg.sz : Sg → Nat
  | .b _ _ => 1
  | .k _ _ => 32
  | .s _ _ => 64
  | .r _ _ => 34
def Sg.far : Sg → Nat → List Value
  | .b _ f, n => List.replicate n (.int .u8 f)
  | .k _ f, n => keyRow n f
  | .s _ f, n => keyRow n f
  | .r _ f, n => rowOf n f
def Sg.pay : Sg → Value → Value
  | .b h f, l => .agg #[l, .int .u8 h, .int .u8 f]
  | .k h f, l => .agg (sheetCells l h f).toArray
  | .s h f, l => .agg (sheetCells l h f).toArray
  | .r h f, l => .agg (sheetC l h f).toArray
def Sg.ty : Sg → TypeId
  | .b _ _ => 110
  | .k _ _ => 208
  | .s _ _ => 164
  | .r _ _ => 162
def Sg.Wf : Sg → Prop
  | .b _ _ => True
  | .k h f => h.length = 32 ∧ f.length = 32
  | .s h f => h.length = 64 ∧ f.length = 64
  | .r h f => IsR h ∧ IsR f
/-- a page: where its list lies, how long it is, its room, its kind -/
structure Pg2 where
  A : Option Nat
  n : Nat
  c : Nat
  s : Sg
def Pg2.list (p : Pg2) : Value := .slice (p.A.map fun g => ⟨g, 0, none⟩) p.n p.c
def Pg2.val (p : Pg2) : Value := .iface p.s.ty (p.s.pay p.list)
theorem row_ne {w : World} {g g' t t' : Nat} {xs ys : List Value} (h : Row w g t xs) (h' : Row w g' t' ys) (hne : t ≠ t') : g ≠ g' := by
  rintro rfl
  have a := h.is
  rw [h'.is] at a
  injection a with a
  injection a with _ a
  exact hne a.symm
end Go.Proofs.YtdgbodljmdcagaaGreatDoor

/-
  Of part BookGen: what is needed here.
-/
namespace Go.Proofs.YtdgbodljmdcagaaGreatDoor
open Go.RowKit
set_option linter.unusedVariables false
set_option maxRecDepth 100000
/-- a list: where it lies, how long it is, its room -/
structure Sl where
  A : Option Nat
  n : Nat
  c : Nat
def Sl.val (x : Sl) : Value := .slice (x.A.map fun g => ⟨g, 0, none⟩) x.n x.c
def Sg.isK : Sg → Kd
  | .b _ _ => .b
  | .k _ _ => .k
  | .s _ _ => .s
  | .r _ _ => .r
def Pg2.key (q : Pg2) : Sl × Kd := (⟨q.A, q.n, q.c⟩, q.s.isK)
/-- a book of the call's own, from world w0 on, its pages' lists and kinds -/
def Bk (w0 : World) (p base : Nat) (ks : List (Sl × Kd)) (w : World) : Prop :=
  ∃ (P : List Pg2) (A : Option Addr) (c : Nat), P.map Pg2.key = ks ∧ (∀ q ∈ P, q.s.Wf) ∧ BookW w0 p base A P.length c (P.map Pg2.val) w
section
variable {w0 w w' : World} {p base B : Nat} {ks ks' : List (Sl × Kd)}
theorem Bk.start (h : Bk w0 p base ks w) : Bk w p base ks w := by
  obtain ⟨P, A, c, h1, h2, h3⟩ := h
  exact ⟨P, A, c, h1, h2, h3.start⟩
theorem Bk.trans (h : Bk w0 p base ks w) (h' : Bk w p base ks' w') : Bk w0 p base ks' w' := by
  obtain ⟨P, A, c, h1, h2, h3⟩ := h
  obtain ⟨P', A', c', h1', h2', h3'⟩ := h'
  exact ⟨P', A', c', h1', h2', h3.trans h3'⟩
theorem Bk.alloc (h : Bk w0 p base ks w) (o : Obj) : Bk w0 p base ks (w.alloc o) := by
  obtain ⟨P, A, c, h1, h2, h3⟩ := h
  exact ⟨P, A, c, h1, h2, h3.alloc o⟩
theorem Bk.one (h : Bk w0 p base ks w) : ButOne base p w0 w := by
  obtain ⟨P, A, c, h1, h2, h3⟩ := h
  exact h3.one
theorem Bk.row {g t : Nat} {xs : List Value} (h : Bk w0 p base ks w) (hr : Row w0 g t xs) (hg : g ≠ p) (ht : t ≠ 115) : Row w g t xs := by
  obtain ⟨P, A, c, h1, h2, h3⟩ := h
  exact h3.rowK hr hg ht
theorem Bk.plt (h : Bk w0 p base ks w) : p < w.heap.size := by
  obtain ⟨P, A, c, h1, h2, h3⟩ := h
  exact h3.row.lt
end
theorem bkKeys (p base : Nat) (ks : List (Sl × Kd)) (x : Sl) (w0 w : World) (h : Bk w0 p base ks w) (hn : ks.length ≤ 1000000) :
    Calls Tryz.prog 99 #[.pointer (some ⟨p, 0, none⟩), x.val] w fun e w' => e = .returned (.tuple #[]) ∧ Bk w0 p base (ks ++ [(x, Kd.k)]) w' := by
  obtain ⟨P, A, c, h1, h2, h3⟩ := h
  subst h1
  refine (bookKeys p base A _ P.length c x.n x.c _ w0 w h3 (by simpa using hn)).mono ?_
  rintro e w' ⟨z1, z2, A', c', rfl, hz1, hz2, h4⟩
  refine ⟨rfl, P ++ [⟨x.A, x.n, x.c, .k z1 z2⟩], A', c', by simp [Pg2.key, Sg.isK], fun q hq => ?_, ?_⟩
  · rcases List.mem_append.1 hq with hq | hq
    · exact h2 q hq
    · obtain rfl : q = _ := List.mem_singleton.1 hq
      exact ⟨hz1, hz2⟩
  · rw [List.length_append, List.map_append]
    exact h4
theorem bkSigs (p base : Nat) (ks : List (Sl × Kd)) (x : Sl) (w0 w : World) (h : Bk w0 p base ks w) (hn : ks.length ≤ 1000000) :
    Calls Tryz.prog 63 #[.pointer (some ⟨p, 0, none⟩), x.val] w fun e w' => e = .returned (.tuple #[]) ∧ Bk w0 p base (ks ++ [(x, Kd.s)]) w' := by
  obtain ⟨P, A, c, h1, h2, h3⟩ := h
  subst h1
  refine (bookSigs p base A _ P.length c x.n x.c _ w0 w h3 (by simpa using hn)).mono ?_
  rintro e w' ⟨z1, z2, A', c', rfl, hz1, hz2, h4⟩
  refine ⟨rfl, P ++ [⟨x.A, x.n, x.c, .s z1 z2⟩], A', c', by simp [Pg2.key, Sg.isK], fun q hq => ?_, ?_⟩
  · rcases List.mem_append.1 hq with hq | hq
    · exact h2 q hq
    · obtain rfl : q = _ := List.mem_singleton.1 hq
      exact ⟨hz1, hz2⟩
  · rw [List.length_append, List.map_append]
    exact h4
def ety : Kd → TypeId
  | .b => 5
  | .k => 78
  | .s => 104
  | .r => 101
def esz : Kd → Nat
  | .b => 1
  | .k => 32
  | .s => 64
  | .r => 34
/-- a page's list lies in memory, whole -/
def SlFit (w : World) (y : Sl × Kd) : Prop :=
  match y.1.A with
  | none => y.1.n = 0 ∧ y.1.c = 0
  | some g => y.1.n ≤ y.1.c ∧ y.1.c ≤ 9223372036854775807 ∧ ∃ xs, Row w g (ety y.2) xs ∧ y.1.c * esz y.2 ≤ xs.length ∧ (34 < esz y.2 → xs.length = y.1.c * esz y.2)
theorem SlFit.keep {w w' : World} {y : Sl × Kd} (h : SlFit w y) (hk : ∀ g, y.1.A = some g → w'.heap[g]? = w.heap[g]?) : SlFit w' y := by
  obtain ⟨⟨A, n, c⟩, kd⟩ := y
  cases A with
  | none => exact h
  | some g =>
    obtain ⟨h1, h2, xs, hr, hl⟩ := h
    exact ⟨h1, h2, xs, ⟨(hk g rfl).trans hr.is⟩, hl⟩
theorem own_sl {w : World} {base n size : Nat} {e : TypeId} {v : Value} {xs : List Value} (h : w.ownsRow base e size v n xs) :
    ∃ x : Sl, v = x.val ∧ x.n = n ∧ (x.A = none → x.n = 0 ∧ x.c = 0) ∧ ∀ g, x.A = some g → base ≤ g ∧ g < w.heap.size ∧ v.ownBlock = some g ∧ x.n ≤ x.c ∧ x.c ≤ 9223372036854775807 ∧ ∃ cur, Row w g e cur ∧ cur.length = x.c * size := by
  rcases h.2 with ⟨rfl, h2⟩ | ⟨g, cap, cur, rfl, hg, hh, r1, r2, r3, r4⟩
  · exact ⟨⟨none, 0, 0⟩, rfl, h2.symm, fun _ => ⟨rfl, rfl⟩, fun g e => by cases e⟩
  · refine ⟨⟨some g, n, cap⟩, rfl, rfl, ?_, ?_⟩
    · intro e'
      cases e'
    intro g' e'
    cases e'
    exact ⟨hg, (Array.getElem?_eq_some_iff.1 hh).1, rfl, r1, by unfold maxLen at r2; omega, cur.toList, ⟨by simpa using hh⟩, by simpa using r3⟩
/-- the blocks of some pages -/
def blocks (ks : List (Sl × Kd)) : List Nat := ks.filterMap fun y => y.1.A
theorem blocks_app (a b : List (Sl × Kd)) : blocks (a ++ b) = blocks a ++ blocks b := by simp [blocks, List.filterMap_append]
theorem blocks_one (y : Sl × Kd) : ∀ g ∈ blocks [y], y.1.A = some g := by
  intro g hg
  unfold blocks at hg
  rw [List.filterMap_cons] at hg
  split at hg
  · cases hg
  · rename_i h
    simp at hg
    rw [h, hg]
theorem pair_one (y : Sl × Kd) : (blocks [y]).Pairwise (· < ·) := by
  unfold blocks
  rw [List.filterMap_cons]
  split <;> simp
theorem pair_app {a b : List Nat} {m : Nat} (ha : a.Pairwise (· < ·)) (hb : b.Pairwise (· < ·)) (h1 : ∀ x ∈ a, x < m) (h2 : ∀ x ∈ b, m ≤ x) : (a ++ b).Pairwise (· < ·) :=
  List.pairwise_append.2 ⟨ha, hb, fun x hx y hy => by have := h1 x hx; have := h2 y hy; omega⟩
theorem page_keys {w : World} {lo hi : Nat} {v : Value} {l : List (List Int)} (h : LVR KeyV 78 32 w lo hi v l) : ∃ x : Sl, v = x.val ∧ x.n = l.length ∧ SlFit w (x, Kd.k) ∧ ∀ g, x.A = some g → lo ≤ g ∧ g < hi := by
  obtain ⟨w0, css, L, R, h1, h2, h3, h4⟩ := h
  obtain ⟨x, hv, hn, hx0, hx1⟩ := own_sl h1.own
  refine ⟨x, hv, hn, ?_, fun g hg => ?_⟩
  · obtain ⟨A, n, c⟩ := x
    cases A with
    | none => exact hx0 rfl
    | some g =>
      obtain ⟨b1, b2, _, b4, b5, cur, b6, b7⟩ := hx1 g rfl
      exact ⟨b4, b5, cur, ⟨(h4 g b1 (by omega)).trans b6.is⟩, Nat.le_of_eq b7.symm, fun _ => b7⟩
  · have := hx1 g hg
    omega
/-- a book that has just been laid -/
theorem Bk.new (w : World) : Bk (w.alloc (.cells #[.slice none 0 0] 60)) w.heap.size w.heap.size [] (w.alloc (.cells #[.slice none 0 0] 60)) := by
  refine ⟨[], none, 0, rfl, by simp, ?_⟩
  exact ⟨Row.new w 60 [.slice none 0 0], World.ownsRow_nil _ _ _ _, ButOne.refl _ _ _, by simp, fun _ _ _ _ => rfl⟩
end Go.Proofs.YtdgbodljmdcagaaGreatDoor

/-
  Of part BookMsg: what is needed here.
-/
namespace Go.Proofs.YtdgbodljmdcagaaGreatDoor
open Go.RowKit
set_option linter.unusedVariables false
set_option maxRecDepth 100000
theorem bkBytes (p base : Nat) (ks : List (Sl × Kd)) (x : Sl) (w0 w : World) (h : Bk w0 p base ks w) (hn : ks.length ≤ 1000000) :
    Calls Tryz.prog 19 #[.pointer (some ⟨p, 0, none⟩), x.val] w fun e w' => e = .returned (.tuple #[]) ∧ Bk w0 p base (ks ++ [(x, Kd.b)]) w' := by
  obtain ⟨P, A, c, h1, h2, h3⟩ := h
  subst h1
  refine (bookBytesW p base A _ P.length c x.n x.c _ w0 w h3 (by simpa using hn)).mono ?_
  rintro e w' ⟨hh, ff, A', c', rfl, h4⟩
  refine ⟨rfl, P ++ [⟨x.A, x.n, x.c, .b hh ff⟩], A', c', by simp [Pg2.key, Sg.isK], fun q hq => ?_, ?_⟩
  · rcases List.mem_append.1 hq with hq | hq
    · exact h2 q hq
    · obtain rfl : q = _ := List.mem_singleton.1 hq
      trivial
  · rw [List.length_append, List.map_append]
    exact h4
/-- the pages of n pairs of lists of bytes -/
def flat (f : Nat → Sl × Sl) (n : Nat) : List (Sl × Kd) := (List.range n).flatMap fun i => [((f i).1, Kd.b), ((f i).2, Kd.b)]
theorem flat_succ (f : Nat → Sl × Sl) (n : Nat) : flat f (n + 1) = flat f n ++ [((f n).1, Kd.b)] ++ [((f n).2, Kd.b)] := by
  unfold flat
  rw [List.range_succ, List.flatMap_append]
  simp
theorem flat_len (f : Nat → Sl × Sl) : ∀ n, (flat f n).length = 2 * n
  | 0 => rfl
  | n + 1 => by rw [flat_succ, List.length_append, List.length_append, flat_len f n]; simp; omega
/-- a message's pages -/
def pagesOf (K : Sl) (iv : Nat → Sl × Sl) (n : Nat) (lv : Nat → Sl × Sl) (m : Nat) : List (Sl × Kd) := [(K, Kd.k)] ++ flat iv n ++ flat lv m
/-- where the i-th element's two lists stand -/
def TwoAt (w : World) (B size o : Nat) (x : Sl) (f : Nat → Sl × Sl) : Prop :=
  ∀ i, i < x.n → ∃ g, x.A = some g ∧ g < B ∧ w.cell? ⟨g, i * size + o, none⟩ = some (f i).1.val ∧ w.cell? ⟨g, i * size + (o + 1), none⟩ = some (f i).2.val
theorem TwoAt.keep {w w' : World} {B size o : Nat} {x : Sl} {f : Nat → Sl × Sl} (h : TwoAt w B size o x f) (hb : Below B w w') : TwoAt w' B size o x f := fun i hi => by
  obtain ⟨g, h1, h2, h3, h4⟩ := h i hi
  exact ⟨g, h1, h2, (hb.cell h2).trans h3, (hb.cell h2).trans h4⟩
set_option maxRecDepth 100000 in
set_option maxHeartbeats 2000000 in
theorem bookMessage (p base B : Nat) (ks : List (Sl × Kd)) (C : List Value) (K I L : Sl) (iv lv : Nat → Sl × Sl) (w0 w : World) (h : Bk w0 p base ks w)
    (h4 : C[4]? = some K.val) (h37 : C[37]? = some I.val) (h38 : C[38]? = some L.val) (hI : TwoAt w B 3 1 I iv) (hL : TwoAt w B 34 32 L lv) (hB : B ≤ base) (hp : B ≤ p) (hn : ks.length + 3 + 2 * I.n + 2 * L.n ≤ 1000000) :
    Calls Tryz.prog 64 #[.pointer (some ⟨p, 0, none⟩), .agg C.toArray] w fun e w' => e = .returned (.tuple #[]) ∧ Bk w0 p base (ks ++ pagesOf K iv I.n lv L.n) w' := by
  have HW := Lib.hid h
  have hplt := h.plt
  have H1 := Lib.hid ((h.alloc (.cells C.toArray 40)).start)
  have RM := Lib.hid (Row.new w 40 C)
  have hBs : B ≤ w.heap.size := by
    obtain ⟨P, A, c, _, _, h3⟩ := h
    have := h3.lt
    omega
  have HI := Lib.hid (hI.keep ((Below.refl B w).alloc hBs (.cells C.toArray 40)))
  have HL := Lib.hid (hL.keep ((Below.refl B w).alloc hBs (.cells C.toArray 40)))
  have C4 := Lib.hid h4
  have C37 := Lib.hid h37
  have C38 := Lib.hid h38
  have HB := Lib.hid (And.intro hB hp)
  have c4 : (w.alloc (.cells C.toArray 40)).cell? ⟨w.heap.size, 4, none⟩ = some K.val := by rw [RM.out.cell]; exact h4
  have hkn : ks.length ≤ 1000000 := by omega
  clear h hI hL h4 h37 h38 hB hp
  have HTR : Hid (∀ ks' w', Bk (w.alloc (.cells C.toArray 40)) p base ks' w' → Bk w0 p base ks' w') := Lib.hid fun ks' w' h' => (HW.out.alloc _).trans h'
  go_enter Tryz.func64, Tryz.ntmps64
  unfold Sl.val at c4
  go_wp2_with fail
  refine (bkKeys p base ks K _ _ H1.out hkn).mono ?_
  rintro e w1 ⟨rfl, hb1⟩
  have HB1 := Lib.hid hb1
  clear hb1 c4 H1
  generalize w.alloc (.cells C.toArray 40) = W at *
  obtain ⟨mb, hmb⟩ : ∃ mb, w.heap.size = mb := ⟨_, rfl⟩
  rw [hmb] at RM ⊢
  have hne : mb ≠ p := by omega
  have c37 : w1.cell? ⟨mb, 37, none⟩ = some (.slice (I.A.map fun g => ⟨g, 0, none⟩) I.n I.c) := by
    rw [(HB1.out.row RM.out hne (by decide)).cell]
    exact C37.out
  clear hplt hmb
  go_wp2_with fail
  go_loopw [4] (fun i wr => ∃ k : Nat, k ≤ I.n ∧ i = .int .i64 k ∧ Bk W p base (ks ++ [(K, Kd.k)] ++ flat iv k) wr) (fun i _ => I.n - (intOf i).toNat)
  case atStart => exact ⟨0, Nat.zero_le _, rfl, by simpa [flat] using HB1.out⟩
  case round =>
    obtain ⟨k, hk, rfl, hb⟩ := hrel
    clear HB1
    have HBk := Lib.hid hb
    have hlen : (ks ++ [(K, Kd.k)] ++ flat iv k).length + 1 ≤ 1000000 := by
      rw [List.length_append, flat_len]
      simp; omega
    by_cases hlt : k < I.n
    · obtain ⟨g, hg, hgB, e1, e2⟩ := HI.out k hlt
      have cX : wr.cell? ⟨mb, 37, none⟩ = some (.slice (some ⟨g, 0, none⟩) I.n I.c) := by
        rw [(hb.row RM.out hne (by decide)).cell, C37.out]
        unfold Sl.val
        rw [hg]
        rfl
      have v1 : wr.cell? ⟨g, k * 3 + 1, none⟩ = some (.slice ((iv k).1.A.map fun g => ⟨g, 0, none⟩) (iv k).1.n (iv k).1.c) := ((hb.one.below HB.out.1 HB.out.2).cell hgB).trans e1
      have E2 := Lib.hid e2
      have HLEN := Lib.hid hlen
      clear hb e1 e2 hlen
      go_wp2_with fail
      refine (bkBytes p base _ (iv k).1 W wr HBk.out (by have := HLEN.out; omega)).mono ?_
      rintro e w2 ⟨rfl, hb2⟩
      have cY : w2.cell? ⟨mb, 37, none⟩ = some (.slice (some ⟨g, 0, none⟩) I.n I.c) := by
        rw [(hb2.row RM.out hne (by decide)).cell, C37.out]
        unfold Sl.val
        rw [hg]
        rfl
      have v2 : w2.cell? ⟨g, k * 3 + 2, none⟩ = some (.slice ((iv k).2.A.map fun g => ⟨g, 0, none⟩) (iv k).2.n (iv k).2.c) := ((hb2.one.below HB.out.1 HB.out.2).cell hgB).trans E2.out
      have HBk2 := Lib.hid hb2
      clear hb2 cX v1
      go_wp2_with fail
      refine (bkBytes p base _ (iv k).2 W w2 HBk2.out (by rw [List.length_append]; have := HLEN.out; simpa using this)).mono ?_
      rintro e w3 ⟨rfl, hb3⟩
      have HBk3 := Lib.hid hb3
      clear hb3 cY v2
      go_wp2_with fail
      go_roundw
      case rel =>
        refine ⟨k + 1, by omega, by go_num, ?_⟩
        have := HBk3.out
        rw [flat_succ]
        simpa only [List.append_assoc] using this
      case measure => simp [intOf]; omega
    · have hkn2 : k = I.n := by omega
      have HE := Lib.hid (show Bk W p base (ks ++ ([(K, Kd.k)] ++ flat iv I.n)) wr by rw [← List.append_assoc]; rw [← hkn2]; exact hb)
      have cX : wr.cell? ⟨mb, 37, none⟩ = some (.slice (I.A.map fun g => ⟨g, 0, none⟩) I.n I.c) := by
        rw [(hb.row RM.out hne (by decide)).cell]
        exact C37.out
      clear hb HBk hlen hkn2
      obtain ⟨wq, hwq⟩ : ∃ u : World, u = wr := ⟨_, rfl⟩
      subst hwq
      have c38 : wq.cell? ⟨mb, 38, none⟩ = some (.slice (L.A.map fun g => ⟨g, 0, none⟩) L.n L.c) := by
        rw [(HE.out.row RM.out hne (by decide)).cell]
        exact C38.out
      go_wp2_with fail
      go_loopw [5] (fun i wr => ∃ k : Nat, k ≤ L.n ∧ i = .int .i64 k ∧ Bk W p base (ks ++ ([(K, Kd.k)] ++ flat iv I.n) ++ flat lv k) wr) (fun i _ => L.n - (intOf i).toNat)
      case atStart => exact ⟨0, Nat.zero_le _, rfl, by simpa [flat] using HE.out⟩
      case round =>
        obtain ⟨k, hk, rfl, hb⟩ := hrel
        clear HE
        have HBk := Lib.hid hb
        have hlen : (ks ++ ([(K, Kd.k)] ++ flat iv I.n) ++ flat lv k).length + 1 ≤ 1000000 := by
          rw [List.length_append, flat_len]
          rw [List.length_append, List.length_append, flat_len]; simp; omega
        by_cases hlt : k < L.n
        · obtain ⟨g, hg, hgB, e1, e2⟩ := HL.out k hlt
          have cX : wr.cell? ⟨mb, 38, none⟩ = some (.slice (some ⟨g, 0, none⟩) L.n L.c) := by
            rw [(hb.row RM.out hne (by decide)).cell, C38.out]
            unfold Sl.val
            rw [hg]
            rfl
          have v1 : wr.cell? ⟨g, k * 34 + 32, none⟩ = some (.slice ((lv k).1.A.map fun g => ⟨g, 0, none⟩) (lv k).1.n (lv k).1.c) := ((hb.one.below HB.out.1 HB.out.2).cell hgB).trans e1
          have E2 := Lib.hid e2
          have HLEN := Lib.hid hlen
          clear hb e1 e2 hlen
          go_wp2_with fail
          refine (bkBytes p base _ (lv k).1 W wr HBk.out (by have := HLEN.out; omega)).mono ?_
          rintro e w2 ⟨rfl, hb2⟩
          have cY : w2.cell? ⟨mb, 38, none⟩ = some (.slice (some ⟨g, 0, none⟩) L.n L.c) := by
            rw [(hb2.row RM.out hne (by decide)).cell, C38.out]
            unfold Sl.val
            rw [hg]
            rfl
          have v2 : w2.cell? ⟨g, k * 34 + 33, none⟩ = some (.slice ((lv k).2.A.map fun g => ⟨g, 0, none⟩) (lv k).2.n (lv k).2.c) := ((hb2.one.below HB.out.1 HB.out.2).cell hgB).trans E2.out
          have HBk2 := Lib.hid hb2
          clear hb2 cX v1
          go_wp2_with fail
          refine (bkBytes p base _ (lv k).2 W w2 HBk2.out (by rw [List.length_append]; have := HLEN.out; simpa using this)).mono ?_
          rintro e w3 ⟨rfl, hb3⟩
          have HBk3 := Lib.hid hb3
          clear hb3 cY v2
          go_wp2_with fail
          go_roundw
          case rel =>
            refine ⟨k + 1, by omega, by go_num, ?_⟩
            have := HBk3.out
            rw [flat_succ]
            simpa only [List.append_assoc] using this
          case measure => simp [intOf]; omega
        · have hkn2 : k = L.n := by omega
          have HE := Lib.hid (show Bk W p base (ks ++ ([(K, Kd.k)] ++ flat iv I.n) ++ flat lv L.n) wr by rw [← hkn2]; exact hb)
          have cX : wr.cell? ⟨mb, 38, none⟩ = some (.slice (L.A.map fun g => ⟨g, 0, none⟩) L.n L.c) := by
            rw [(hb.row RM.out hne (by decide)).cell]
            exact C38.out
          clear hb HBk hlen hkn2
          go_wp2_with fail
          go_end0
          refine ⟨rfl, HTR.out _ _ ?_⟩
          have := HE.out
          unfold pagesOf
          simpa only [List.append_assoc] using this
/-- what is told of pairs of lists of bytes: they lie in intervals that rise -/
structure Pairs (w : World) (lo hi n : Nat) (f : Nat → Sl × Sl) : Prop where
  fit : ∀ i, i < n → SlFit w ((f i).1, Kd.b) ∧ SlFit w ((f i).2, Kd.b)
  rise : ∃ L M R : Nat → Nat, (∀ i, i < n → lo ≤ L i ∧ L i ≤ M i ∧ M i ≤ R i ∧ R i ≤ hi ∧ (∀ g, (f i).1.A = some g → L i ≤ g ∧ g < M i) ∧ ∀ g, (f i).2.A = some g → M i ≤ g ∧ g < R i) ∧ ∀ i, i + 1 < n → R i ≤ L (i + 1)
theorem Pairs.blocks {w : World} {lo hi n : Nat} {f : Nat → Sl × Sl} (h : Pairs w lo hi n f) (hlh : lo ≤ hi) : ∀ k, k ≤ n → (blocks (flat f k)).Pairwise (· < ·) ∧ (∀ g ∈ blocks (flat f k), lo ≤ g ∧ g < hi) := by
  obtain ⟨L, M, R, h1, h2⟩ := h.rise
  have key : ∀ k, k ≤ n → (Go.Proofs.YtdgbodljmdcagaaGreatDoor.blocks (flat f k)).Pairwise (· < ·) ∧ (∀ g ∈ Go.Proofs.YtdgbodljmdcagaaGreatDoor.blocks (flat f k), lo ≤ g ∧ g < hi) ∧ ∀ g ∈ Go.Proofs.YtdgbodljmdcagaaGreatDoor.blocks (flat f k), ∀ i, k = i + 1 → g < R i := by
    intro k
    induction k with
    | zero =>
      intro _
      have e : Go.Proofs.YtdgbodljmdcagaaGreatDoor.blocks (flat f 0) = [] := rfl
      rw [e]
      exact ⟨List.Pairwise.nil, by simp, by simp⟩
    | succ k ih =>
      intro hk
      obtain ⟨i1, i2, i3⟩ := ih (by omega)
      obtain ⟨j1, j2, j3, j4, j5, j6⟩ := h1 k (by omega)
      have hlow : ∀ g ∈ Go.Proofs.YtdgbodljmdcagaaGreatDoor.blocks (flat f k), g < L k := by
        intro g hg
        cases k with
        | zero => cases hg
        | succ k =>
          have := i3 g hg k rfl
          have := h2 k (by omega)
          omega
      have m1 : ∀ g ∈ Go.Proofs.YtdgbodljmdcagaaGreatDoor.blocks [((f k).1, Kd.b)], L k ≤ g ∧ g < M k := fun g hg => j5 g (blocks_one _ g hg)
      have m2 : ∀ g ∈ Go.Proofs.YtdgbodljmdcagaaGreatDoor.blocks [((f k).2, Kd.b)], M k ≤ g ∧ g < R k := fun g hg => j6 g (blocks_one _ g hg)
      rw [flat_succ, blocks_app, blocks_app]
      refine ⟨pair_app (pair_app i1 (pair_one _) hlow fun g hg => (m1 g hg).1) (pair_one _) (m := M k) (fun g hg => ?_) fun g hg => (m2 g hg).1, fun g hg => ?_, fun g hg i hi => ?_⟩
      · rcases List.mem_append.1 hg with hg | hg
        · have := hlow g hg; omega
        · exact (m1 g hg).2
      · rcases List.mem_append.1 hg with hg | hg
        · rcases List.mem_append.1 hg with hg | hg
          · exact i2 g hg
          · have := m1 g hg; omega
        · have := m2 g hg; omega
      · obtain rfl : k = i := by omega
        rcases List.mem_append.1 hg with hg | hg
        · rcases List.mem_append.1 hg with hg | hg
          · have := hlow g hg; omega
          · have := m1 g hg; omega
        · exact (m2 g hg).2
  intro k hk
  exact ⟨(key k hk).1, (key k hk).2.1⟩
theorem flat_mem {f : Nat → Sl × Sl} {n : Nat} {y : Sl × Kd} (h : y ∈ flat f n) : ∃ i, i < n ∧ (y = ((f i).1, Kd.b) ∨ y = ((f i).2, Kd.b)) := by
  unfold flat at h
  obtain ⟨i, hi, hy⟩ := List.mem_flatMap.1 h
  exact ⟨i, List.mem_range.1 hi, by simpa using hy⟩
theorem Pairs.fits {w : World} {lo hi n : Nat} {f : Nat → Sl × Sl} (h : Pairs w lo hi n f) : ∀ y ∈ flat f n, SlFit w y := fun y hy => by
  obtain ⟨i, hi, rfl | rfl⟩ := flat_mem hy
  · exact (h.fit i hi).1
  · exact (h.fit i hi).2
theorem OwnR.sl {w : World} {lo hi : Nat} {v : Value} {l : List Int} (h : OwnR w lo hi v l) : ∃ x : Sl, v = x.val ∧ SlFit w (x, Kd.b) ∧ ∀ g, x.A = some g → lo ≤ g ∧ g < hi := by
  obtain ⟨x, hv, hn, h0, h1⟩ := own_sl h.own
  refine ⟨x, hv, ?_, fun g hg => ⟨(h1 g hg).1, h.lt g (h1 g hg).2.2.1⟩⟩
  obtain ⟨A, n, c⟩ := x
  cases A with
  | none => exact h0 rfl
  | some g =>
    obtain ⟨_, _, _, h2, h3, cur, h4, h5⟩ := h1 g rfl
    exact ⟨h2, h3, cur, h4, by rw [h5]; exact Nat.le_refl _, fun _ => by rw [h5]; rfl⟩
theorem pages_in {w : World} {lo hi : Nat} {v : Value} {l : List LIn} (h : LVR InV 131 3 w lo hi v l) : ∃ (x : Sl) (f : Nat → Sl × Sl), v = x.val ∧ x.n = l.length ∧ TwoAt w hi 3 1 x f ∧ Pairs w lo hi l.length f := by
  obtain ⟨w0, css, L, R, h1, h2, h3, h4⟩ := h
  obtain ⟨x, hv, hn, hx0, hx1⟩ := own_sl h1.own
  have hl : ∀ (i : Nat) y, css[i]? = some y → y.length = 3 := fun i y hy => by
    have hi2 := (List.getElem?_eq_some_iff.1 hy).1
    rw [h1.len] at hi2
    exact inV_size (h1.each i y _ hy (List.getElem?_eq_getElem hi2)).2.2.2.1
  have hE : ∀ i, ∃ p : (Sl × Sl) × Nat, i < l.length → ∃ cs, css[i]? = some cs ∧ cs[1]? = some p.1.1.val ∧ cs[2]? = some p.1.2.val ∧ lo ≤ L i ∧ L i ≤ p.2 ∧ p.2 ≤ R i ∧ R i ≤ hi ∧ SlFit w (p.1.1, Kd.b) ∧ SlFit w (p.1.2, Kd.b) ∧ (∀ g, p.1.1.A = some g → L i ≤ g ∧ g < p.2) ∧ ∀ g, p.1.2.A = some g → p.2 ≤ g ∧ g < R i := by
    intro i
    by_cases hi' : i < l.length
    · obtain ⟨cs, hcs⟩ : ∃ cs, css[i]? = some cs := ⟨_, List.getElem?_eq_getElem (by rw [h1.len]; exact hi')⟩
      obtain ⟨k1, k2, k3, k4, k5⟩ := h1.each i cs _ hcs (List.getElem?_eq_getElem hi')
      obtain ⟨va, vd, mid, rfl, m1, m2, m3, m4⟩ := k4
      obtain ⟨xa, rfl, fa, ga⟩ := m3.sl
      obtain ⟨xd, rfl, fd, gd⟩ := m4.sl
      refine ⟨((xa, xd), mid), fun _ => ⟨_, hcs, rfl, rfl, k1, m1, m2, by omega, fa.keep fun g hg => ?_, fd.keep fun g hg => ?_, ga, gd⟩⟩
      · have := ga g hg; exact h4 g (by omega) (by omega)
      · have := gd g hg; exact h4 g (by omega) (by omega)
    · exact ⟨((⟨none, 0, 0⟩, ⟨none, 0, 0⟩), 0), fun h => absurd h hi'⟩
  obtain ⟨F, hF⟩ := Classical.skolem.1 hE
  refine ⟨x, fun i => (F i).1, hv, hn, fun i hi' => ?_, ⟨fun i hi' => ?_, L, fun i => (F i).2, R, fun i hi' => ?_, h1.rise⟩⟩
  · rw [hn] at hi'
    obtain ⟨cs, c0, c1, c2, _⟩ := hF i hi'
    have hA : ∃ g, x.A = some g := by
      cases hq : x.A with
      | none => have := (hx0 hq).1; omega
      | some g => exact ⟨g, rfl⟩
    obtain ⟨g, hA⟩ := hA
    obtain ⟨b1, b2, b3, _⟩ := hx1 g hA
    have e : ∀ j u, cs[j]? = some u → w.cell? ⟨g, i * 3 + j, none⟩ = some u := fun j u hu => by
      have how := h1.own
      rw [hv] at how
      unfold Sl.val at how
      rw [hA, hn] at how
      obtain ⟨g', e1, _, _, _, h7⟩ := own_cell how (flatten_at 3 css i cs hl c0 j u hu)
      cases e1
      rw [← h7]
      exact World.cell?_of_block (h4 g b1 (by omega))
    exact ⟨g, hA, by omega, e 1 _ c1, e 2 _ c2⟩
  · obtain ⟨cs, c0, c1, c2, d1, d2, d3, d4, d5, d6, d7, d8⟩ := hF i hi'
    exact ⟨d5, d6⟩
  · obtain ⟨cs, c0, c1, c2, d1, d2, d3, d4, d5, d6, d7, d8⟩ := hF i hi'
    exact ⟨d1, d2, d3, d4, d7, d8⟩
theorem pages_look {w : World} {lo hi : Nat} {v : Value} {l : List LLook} (h : LVR LookV 124 34 w lo hi v l) : ∃ (x : Sl) (f : Nat → Sl × Sl), v = x.val ∧ x.n = l.length ∧ TwoAt w hi 34 32 x f ∧ Pairs w lo hi l.length f := by
  obtain ⟨w0, css, L, R, h1, h2, h3, h4⟩ := h
  obtain ⟨x, hv, hn, hx0, hx1⟩ := own_sl h1.own
  have hl : ∀ (i : Nat) y, css[i]? = some y → y.length = 34 := fun i y hy => by
    have hi2 := (List.getElem?_eq_some_iff.1 hy).1
    rw [h1.len] at hi2
    exact lookV_size (h1.each i y _ hy (List.getElem?_eq_getElem hi2)).2.2.2.1
  have hE : ∀ i, ∃ p : (Sl × Sl) × Nat, i < l.length → ∃ cs, css[i]? = some cs ∧ cs[32]? = some p.1.1.val ∧ cs[33]? = some p.1.2.val ∧ lo ≤ L i ∧ L i ≤ p.2 ∧ p.2 ≤ R i ∧ R i ≤ hi ∧ SlFit w (p.1.1, Kd.b) ∧ SlFit w (p.1.2, Kd.b) ∧ (∀ g, p.1.1.A = some g → L i ≤ g ∧ g < p.2) ∧ ∀ g, p.1.2.A = some g → p.2 ≤ g ∧ g < R i := by
    intro i
    by_cases hi' : i < l.length
    · obtain ⟨cs, hcs⟩ : ∃ cs, css[i]? = some cs := ⟨_, List.getElem?_eq_getElem (by rw [h1.len]; exact hi')⟩
      obtain ⟨k1, k2, k3, k4, k5⟩ := h1.each i cs _ hcs (List.getElem?_eq_getElem hi')
      obtain ⟨va, vd, mid, rfl, ht, m1, m2, m3, m4⟩ := k4
      obtain ⟨xa, rfl, fa, ga⟩ := m3.sl
      obtain ⟨xd, rfl, fd, gd⟩ := m4.sl
      refine ⟨((xa, xd), mid), fun _ => ⟨_, hcs, by rw [List.getElem?_append_right (by rw [bv_length, ht]; omega), bv_length, ht]; rfl, by rw [List.getElem?_append_right (by rw [bv_length, ht]; omega), bv_length, ht]; rfl, k1, m1, m2, by omega, fa.keep fun g hg => ?_, fd.keep fun g hg => ?_, ga, gd⟩⟩
      · have := ga g hg; exact h4 g (by omega) (by omega)
      · have := gd g hg; exact h4 g (by omega) (by omega)
    · exact ⟨((⟨none, 0, 0⟩, ⟨none, 0, 0⟩), 0), fun h => absurd h hi'⟩
  obtain ⟨F, hF⟩ := Classical.skolem.1 hE
  refine ⟨x, fun i => (F i).1, hv, hn, fun i hi' => ?_, ⟨fun i hi' => ?_, L, fun i => (F i).2, R, fun i hi' => ?_, h1.rise⟩⟩
  · rw [hn] at hi'
    obtain ⟨cs, c0, c1, c2, _⟩ := hF i hi'
    have hA : ∃ g, x.A = some g := by
      cases hq : x.A with
      | none => have := (hx0 hq).1; omega
      | some g => exact ⟨g, rfl⟩
    obtain ⟨g, hA⟩ := hA
    obtain ⟨b1, b2, b3, _⟩ := hx1 g hA
    have e : ∀ j u, cs[j]? = some u → w.cell? ⟨g, i * 34 + j, none⟩ = some u := fun j u hu => by
      have how := h1.own
      rw [hv] at how
      unfold Sl.val at how
      rw [hA, hn] at how
      obtain ⟨g', e1, _, _, _, h7⟩ := own_cell how (flatten_at 34 css i cs hl c0 j u hu)
      cases e1
      rw [← h7]
      exact World.cell?_of_block (h4 g b1 (by omega))
    exact ⟨g, hA, by omega, e 32 _ c1, e 33 _ c2⟩
  · obtain ⟨cs, c0, c1, c2, d1, d2, d3, d4, d5, d6, d7, d8⟩ := hF i hi'
    exact ⟨d5, d6⟩
  · obtain ⟨cs, c0, c1, c2, d1, d2, d3, d4, d5, d6, d7, d8⟩ := hF i hi'
    exact ⟨d1, d2, d3, d4, d7, d8⟩
theorem TwoAt.more {w : World} {B B' size o : Nat} {x : Sl} {f : Nat → Sl × Sl} (h : TwoAt w B size o x f) (hB : B ≤ B') : TwoAt w B' size o x f := fun i hi => by
  obtain ⟨g, h1, h2, h3, h4⟩ := h i hi
  exact ⟨g, h1, by omega, h3, h4⟩
/-- a message of the call's own, page by page -/
structure MsgPages (w : World) (lo hi : Nat) (q : Raw) (m : LMsg) (K I L : Sl) (iv lv : Nat → Sl × Sl) : Prop where
  k : Value.slice q.KA q.kn q.kc = K.val
  i : Value.slice q.IA q.n q.ic = I.val
  l : Value.slice q.LA q.ln q.lc = L.val
  ti : TwoAt w hi 3 1 I iv
  tl : TwoAt w hi 34 32 L lv
  fits : ∀ y ∈ pagesOf K iv I.n lv L.n, SlFit w y
  rise : (blocks (pagesOf K iv I.n lv L.n)).Pairwise (· < ·)
  low : ∀ g ∈ blocks (pagesOf K iv I.n lv L.n), lo ≤ g ∧ g < hi
  n : I.n = m.ins.length ∧ L.n = m.looks.length
theorem MsgV.pages {w : World} {lo hi : Nat} {q : Raw} {m : LMsg} (h : MsgV w lo hi q m) : ∃ K I L iv lv, MsgPages w lo hi q m K I L iv lv := by
  obtain ⟨a1, b1, a2, b2, a3, b3, ho, h5, h6, h7⟩ := h.is
  obtain ⟨K, hK, _, fK, gK⟩ := page_keys h5
  obtain ⟨I, iv, hI, nI, tI, pI⟩ := pages_in h6
  obtain ⟨L, lv, hL, nL, tL, pL⟩ := pages_look h7
  obtain ⟨rI, lI⟩ := pI.blocks (by omega) I.n (by omega)
  obtain ⟨rL, lL⟩ := pL.blocks (by omega) L.n (by omega)
  have lK : ∀ g ∈ blocks [(K, Kd.k)], a1 ≤ g ∧ g < b1 := fun g hg => gK g (blocks_one _ g hg)
  have hmem : ∀ g ∈ blocks (pagesOf K iv I.n lv L.n), lo ≤ g ∧ g < hi := by
    intro g hg
    unfold pagesOf at hg
    rw [blocks_app, blocks_app] at hg
    rcases List.mem_append.1 hg with hg | hg
    · rcases List.mem_append.1 hg with hg | hg
      · have := lK g hg; omega
      · have := lI g hg; omega
    · have := lL g hg; omega
  refine ⟨K, I, L, iv, lv, hK, hI, hL, tI.more (by omega), tL.more (by omega), fun y hy => ?_, ?_, hmem, nI, nL⟩
  · unfold pagesOf at hy
    rcases List.mem_append.1 hy with hy | hy
    · rcases List.mem_append.1 hy with hy | hy
      · rw [List.mem_singleton.1 hy]; exact fK
      · rw [nI] at hy; exact pI.fits y hy
    · rw [nL] at hy; exact pL.fits y hy
  · unfold pagesOf
    rw [blocks_app, blocks_app]
    refine pair_app (m := a3) (pair_app (m := a2) (pair_one _) rI (fun g hg => ?_) fun g hg => (lI g hg).1) rL (fun g hg => ?_) fun g hg => (lL g hg).1
    · have := lK g hg; omega
    · rcases List.mem_append.1 hg with hg | hg
      · have := lK g hg; omega
      · have := lI g hg; omega
end Go.Proofs.YtdgbodljmdcagaaGreatDoor

/-
  Of part Tail: what is needed here.
-/
namespace Go.Proofs.YtdgbodljmdcagaaGreatDoor
open Go.RowKit
set_option linter.unusedVariables false
set_option maxRecDepth 100000
section
variable {P : Program} {w : World} {o : Oper} {a : Act}
/-- where what is left of a list begins -/
def tailAt (A : Option Addr) (c k : Nat) : Option Addr := if c = k then A else A.map (·.add k)
theorem Sees.tail {B : Nat} {A : Option Addr} {n c k : Nat} {xs : List Value} (h : Sees w B A n xs) (hk : k ≤ n) (hn : n ≤ c) : Sees w B (tailAt A c k) (n - k) (xs.drop k) := by
  refine ⟨by rw [List.length_drop, h.len], fun j u hu => ?_⟩
  rw [List.getElem?_drop] at hu
  obtain ⟨ad, rfl, hb, hc⟩ := h.cell _ u hu
  have h1 := (List.getElem?_eq_some_iff.1 hu).1
  have h2 := h.len
  refine ⟨ad.add k, by unfold tailAt; rw [if_neg (by omega)]; rfl, by rw [addr_block]; exact hb, by rw [addr_add]; exact hc⟩
theorem run_tail (t e : TypeId) (x i : Operand) (ho : o.op = .slice t x (some i) none none) (ht : P.underlying t = some (.slice e)) (hsz : (P.info? e).map (·.size) = some 1)
    (A : Option Addr) (n c k : Nat) (hx : a.eval x = .slice A n c) (hi : a.eval i = .int .i64 k) (hk : k ≤ n) (hn : n ≤ c) (hc : c ≤ maxLen) :
    (execOp a.eval o).run P w = .ok (.value (.slice (tailAt A c k) (n - k) (c - k))) w := by
  unfold maxLen at hc
  obtain ⟨ie, hie, hs1⟩ : ∃ i, P.info? e = some i ∧ i.size = 1 := by
    cases h : P.info? e with
    | none => rw [h] at hsz; cases hsz
    | some i => rw [h] at hsz; exact ⟨i, rfl, by simpa using hsz⟩
  have he : P.elem t = e := by simp [Program.elem, ht]
  have ht' : P.underlying t = some (.slice (P.elem t)) := by rw [he]; exact ht
  have hso : (sizeOf e).run P w = .ok 1 w := by simp [sizeOf, typeInfo, hie, hs1]
  have h1 : (0 : Int) ≤ k := by omega
  have h2 : (k : Int) ≤ n := by omega
  unfold execOp
  simp only [ho, hx, hi, Option.map_some, Option.map_none]
  simp only [Sem.run_bind, run_sliceAt_slice w t _ _ _ _ ht', run_slice_l w t A n c ht' .i64 k h1 h2, he, hso, Result.andThen_ok, sliced, tailAt, Int.toNat_natCast, Nat.mul_one, Sem.run_pure]
theorem wpList_tail {ops : Array Oper} {rest : List Oper} {Q : Exit → Act → World → Prop} (hgd : o.guard = none) (t e : TypeId) (x i : Operand) (ho : o.op = .slice t x (some i) none none) (ht : P.underlying t = some (.slice e)) (hsz : (P.info? e).map (·.size) = some 1)
    (A : Option Addr) (n c k : Nat) (hx : a.eval x = .slice A n c) (hi : a.eval i = .int .i64 k) (hk : k ≤ n) (hn : n ≤ c) (hc : c ≤ maxLen)
    (h : wpList P ops Q rest (a.put o.dst (.slice (tailAt A c k) (n - k) (c - k))) w) : wpList P ops Q (o :: rest) a w :=
  wpList_plain hgd fun K hK => by
    unfold Oper.wp
    rw [run_tail t e x i ho ht hsz A n c k hx hi hk hn hc]
    exact hK _ _ h
end
end Go.Proofs.YtdgbodljmdcagaaGreatDoor

/-
  Of part PutTx: what is needed here.
-/
namespace Go.Proofs.YtdgbodljmdcagaaGreatDoor
open Go.RowKit
set_option linter.unusedVariables false
set_option maxRecDepth 100000
/-- what Put leaves -/
def PutTxDone (w : World) (x : LTx) (e : Ending) (w' : World) : Prop :=
  (¬ Fits x.m ∧ e = .returned (.tuple #[.slice none 0 0, .int .i64 1]) ∧ Below w.heap.size w w') ∨
  (Fits x.m ∧ 1232 < (encTx x).length ∧ e = .returned (.tuple #[.slice none 0 0, .int .i64 3]) ∧ Below w.heap.size w w') ∨
  (Fits x.m ∧ (encTx x).length ≤ 1232 ∧ (∃ v, e = .returned (.tuple #[v, .int .i64 0]) ∧ OwnB w' w.heap.size v (encTx x)) ∧ Below w.heap.size w w')
theorem flat64_take_succ {l : List (List Int)} {k : Nat} {x : List Int} (h : l[k]? = some x) : (l.take (k + 1)).flatten = (l.take k).flatten ++ x := by
  rw [List.take_add_one, List.flatten_append, h]
  simp
theorem own_base {w : World} {base base' n size : Nat} {e : TypeId} {v : Value} {xs : List Value} (h : w.ownsRow base e size v n xs) (hb : base' ≤ base) : w.ownsRow base' e size v n xs := by
  refine ⟨h.1, ?_⟩
  rcases h.2 with h2 | ⟨g, cap, cur, hv, hg, r⟩
  · exact .inl h2
  · exact .inr ⟨g, cap, cur, hv, by omega, r⟩
set_option maxRecDepth 100000 in
set_option maxHeartbeats 2000000 in
theorem putTx (s : TRaw) (x : LTx) (B : Nat) (w : World) (hm : TxIn w B s x) (hB : B ≤ w.heap.size) (hn : x.sigs.length ≤ 65535) (hl : (enc x.m).length ≤ 1000000) :
    Calls Tryz.prog 23 #[.agg (s.cells x).toArray] w (PutTxDone w x) := by
  obtain ⟨SA, sn, sc, q⟩ := s
  have hsl := hm.sigs.len
  dsimp only at hsl
  have hrow := Row.new w 42 (TRaw.cells ⟨SA, sn, sc, q⟩ x)
  have hb0 := (Below.refl w.heap.size w).alloc (Nat.le_refl _) (.cells (TRaw.cells ⟨SA, sn, sc, q⟩ x).toArray 42)
  have c0 : (w.alloc (.cells (TRaw.cells ⟨SA, sn, sc, q⟩ x).toArray 42)).cell? ⟨w.heap.size, 0, none⟩ = some (.slice SA sn sc) := hrow.cell 0
  have HM0 := Lib.hid (hm.below (hb0.mono hB))
  have HSM := Lib.hid (show (Tryz.prog.info? 40).map (·.size) = some (q.cells x.m).length by rw [size_msg, cells_len hm.m.recent])
  have HCM := Lib.hid (tcells_m (s := ⟨SA, sn, sc, q⟩) (x := x))
  have HSC := Lib.hid hm.sn
  have HRW := Lib.hid (show ∀ cs : List Value, cs = TRaw.cells ⟨SA, sn, sc, q⟩ x → cs[0]? = some (.slice SA sn sc) from fun cs h => by rw [h]; rfl)
  obtain ⟨cs, hcs⟩ : ∃ cs, cs = TRaw.cells ⟨SA, sn, sc, q⟩ x := ⟨_, rfl⟩
  rw [← hcs] at hrow hb0 c0 HM0 HCM ⊢
  have HC0 := Lib.hid (HRW.out cs hcs)
  clear HRW hcs
  have HROW := Lib.hid hrow
  have HB0 := Lib.hid hb0
  have HP := Lib.hid (putShort none 0 0 [] (w.alloc (.cells cs.toArray 42)) 0 sn (Sees.nil _ _ _) (by omega) (by omega) (by omega) (by omega))
  clear hrow hb0 hm
  go_enter Tryz.func23, Tryz.ntmps23
  go_wp2_with fail
  refine HP.out.mono ?_
  rintro e w1 ⟨g, rfl, hg, hr, hb1⟩
  have HR1 := Lib.hid hr
  have HROW1 := Lib.hid (HROW.out.below hb1 HROW.out.lt)
  have HB1 := Lib.hid (HB0.out.trans (hb1.mono HB0.out.size))
  have HM1 := Lib.hid (HM0.out.below (hb1.mono (Nat.le_trans hB HB0.out.size)))
  have HG := Lib.hid hg
  clear hr hb1 hg HP c0
  go_wp2_with ((with_reducible show wpList _ _ _ ({ dst := some 23, op := Op.load _ _, type := _, pos := _, after := _, guard := _ } :: _) _ _); go_must (refine wpList_load_at rfl 40 (.tmp 22) rfl ⟨w.heap.size, 1, none⟩ (q.cells x.m) _ Tryz.underlying40 rfl HSM.out (fun j v hv => by rw [addr_row, HROW1.out.cell, HCM.out]; exact hv) ?_ ?_; go_simp))
  by_cases hf : Fits x.m
  rotate_left
  · refine (put_no q x.m B w1 HM1.out.m (Nat.le_trans hB HB1.out.size) hf).mono ?_
    rintro e w2 ⟨rfl, hb2⟩
    go_wp2_with fail
    go_ret2
    exact .inl ⟨hf, rfl, HB1.out.trans (hb2.mono HB1.out.size)⟩
  refine (put_ok q x.m B w1 HM1.out.m (Nat.le_trans hB HB1.out.size) hf (by omega)).mono ?_
  rintro e w2 ⟨g2, rest, rfl, hg2, hr2, hb2⟩
  have hlen := encTx_len (x := x) HM1.out.sigs.each
  have hsl3 := short_len3 (x.sigs.length : Int)
  have hrow2 := HROW1.out.below hb2 HROW1.out.lt
  have hr12 := HR1.out.below hb2 HR1.out.lt
  have c0 : w2.cell? ⟨w.heap.size, 0, none⟩ = some (.slice SA sn sc) := (hrow2.cell 0).trans HC0.out
  have HROW2 := Lib.hid hrow2
  have HR2 := Lib.hid hr2
  have HR12 := Lib.hid hr12
  have HB2 := Lib.hid (HB1.out.trans (hb2.mono HB1.out.size))
  have HM2 := Lib.hid (HM1.out.below (hb2.mono (Nat.le_trans hB HB1.out.size)))
  have HSL := Lib.hid hsl
  have hsn : sn ≤ sc ∧ sc ≤ maxLen := HSC.out
  unfold maxLen at hsn
  rw [hsl] at hlen hsl3 hn
  have HLEN := Lib.hid hlen
  have hpar : (((short (sn : Int)).length : Nat) : Int) + 64 * (sn : Int) + ((enc x.m).length : Nat) = ((encTx x).length : Nat) := by omega
  have HPAR := Lib.hid hpar
  obtain ⟨N1, hN1⟩ : ∃ N, N = (short (sn : Int)).length := ⟨_, rfl⟩
  obtain ⟨N2, hN2⟩ : ∃ N, N = (enc x.m).length := ⟨_, rfl⟩
  have HN1 := Lib.hid hN1
  have HN2 := Lib.hid hN2
  simp only [Nat.zero_add, List.nil_append]
  rw [← hN1] at hlen hsl3 ⊢
  rw [← hN2] at hlen hl ⊢
  clear hb2 hr2 hrow2 hr12 HROW1 HM1 HR1 hN1 hN2 hg2 hpar
  by_cases hbig : 1232 < (encTx x).length
  · have hbig' : (1232 : Int) < N1 + 64 * sn + N2 := by omega
    go_wp2_with fail
    go_ret2
    exact .inr (.inl ⟨hf, hbig, rfl, HB2.out⟩)
  · have hbig' : ¬ (1232 : Int) < N1 + 64 * sn + N2 := by omega
    have HF := Lib.hid hf
    have HBIG := Lib.hid hbig
    have HS1 := Lib.hid (show Sees w2 w2.heap.size (some ⟨g, 0, none⟩) N1 (bv (short (sn : Int))) from HR12.out.sees_at (o := 0) (by rw [bv_length, ← HN1.out]) (fun j u hu => by rw [Nat.zero_add]; exact hu))
    obtain ⟨T, hT⟩ : ∃ T, T = (encTx x).length := ⟨_, rfl⟩
    have hT2 : (N1 : Int) + 64 * sn + N2 = (T : Int) := by omega
    have hT3 : T ≤ 1232 := by omega
    have HT := Lib.hid hT
    have HT2 := Lib.hid hT2
    clear hf hbig hT HPAR hlen hT2 hbig' hsl
    have hbig' : decide ((1232 : Int) < N1 + 64 * sn + N2) = false := by have := HT2.out; simp; omega
    obtain ⟨i0, hi, hz0, hz1, hz2⟩ := info_parts info_u8
    go_wp2_with (first
      | (at_make; go_must (refine wpList_make_own _ rfl (.const (.int .i64 0)) (.tmp 42) 22 rfl w2.heap.size 5 i0 _ 1 Tryz.underlying22 hi hz0 hz1 .i64 .i64 ((N1 : Int) + 64 * sn + N2) T rfl ?_ HT2.out (by rw [hz2]; omega) (by unfold maxLen; omega) (Nat.le_refl _) ?_; go_simp; intro w3 hown hgrow; have HO3 : Hid (OwnB w3 w2.heap.size (.slice (some ⟨w2.heap.size, 0, none⟩) 0 T) []) := Lib.hid hown; have hb3 : Below w2.heap.size w2 w3 := (Below.refl _ _).grown hgrow (Nat.le_refl _) (fun k hk => by cases hk); have HB3 := Lib.hid hb3; have HS3 := Lib.hid (HS1.out.below hb3); clear hown hgrow hb3))
      | (at_builtin; (with_reducible show wpList _ _ _ ({ dst := some 45, op := _, type := _, pos := _, after := _, guard := _ } :: _) _ _); go_loud (refine wpList_addB rfl (.tmp 43) (.tmp 44) 22 rfl w2.heap.size Tryz.underlying22 info_u8 (.slice (some ⟨w2.heap.size, 0, none⟩) 0 T) [] ?_ HO3.out w2.heap.size (some ⟨g, 0, none⟩) N1 N1 (short (sn : Int)) ?_ HS3.out HB3.out.size ?_ ?_; go_simp; go_simp; (have := HN1.out; simp only [List.nil_append]; omega); intro v4 w4 ho4 hg4; have hb4 := HB3.out.trans (hg4.belowB HO3.out HB3.out.size); have HO4 : Hid (OwnB w4 w2.heap.size v4 (short (sn : Int))) := Lib.hid ho4; have HB4 := Lib.hid hb4; have c0 : w4.cell? ⟨w.heap.size, 0, none⟩ = some (.slice SA sn sc) := ((HROW2.out.below hb4 HROW2.out.lt).cell 0).trans HC0.out; clear ho4 hg4 hb4)))
    clear c0 HO3 HS3 HB3 HR12 HS1 hi hz0 hz1 hz2
    go_loopw [8, 49] (fun v i wr => ∃ k : Nat, k ≤ sn ∧ i = .int .i64 k ∧ OwnB wr w2.heap.size v (short (sn : Int) ++ (x.sigs.take k).flatten) ∧ Below w2.heap.size w2 wr) (fun v i _ => sn - (intOf i).toNat)
    case atStart =>
      refine ⟨0, Nat.zero_le _, rfl, ?_, HB4.out⟩
      simpa only [List.take_zero, List.flatten_nil, List.append_nil] using HO4.out
    case round =>
    clear HO4 HB4
    obtain ⟨k, hk, rfl, ho, hb⟩ := hrel
    have HOR := Lib.hid ho
    have HBR := Lib.hid hb
    clear ho hb
    have hsz := HBR.out.size
    by_cases hlt : k < sn
    · obtain ⟨a, y, rfl, hab, hx, hat⟩ := HM2.out.sigs.get hlt
      have HAT := Lib.hid (hat.keep hab fun p hp => HBR.out.cell (Nat.lt_of_lt_of_le hp (Nat.le_trans hB HB2.out.size)))
      have HX := Lib.hid hx
      have HZ64 := Lib.hid (show (Tryz.prog.info? 104).map (·.size) = some (bv y).length by rw [size_sig, bv_length, hat.len])
      have hln : (short (sn : Int) ++ (x.sigs.take k).flatten).length + 64 ≤ 2000000000 := by
        have h1 := flat64_len (x.sigs.take k) (fun z hz => HM2.out.sigs.each z (List.mem_of_mem_take hz))
        have h2 : (x.sigs.take k).length = k := by rw [List.length_take]; have := HSL.out; omega
        have h3 := HN1.out
        rw [List.length_append, h1, h2]
        omega
      have HLN := Lib.hid hln
      have HYL := Lib.hid hat.len
      clear hat hx hln
      go_wp2_with (first
        | (with_reducible show wpList _ _ _ ({ dst := some 52, op := Op.load _ _, type := _, pos := _, after := _, guard := _ } :: _) _ _; go_must (refine wpList_load_at rfl 104 (.tmp 51) rfl (a.add (k * 64)) (bv y) _ Tryz.underlying104 rfl HZ64.out HAT.out.cells ?_ ?_; go_simp))
        | (with_reducible show wpList _ _ _ ({ dst := none, op := Op.store 104 _ _, type := _, pos := _, after := _, guard := _ } :: _) _ _; go_must (refine wpList_store_new rfl 104 (.tmp 10) (.tmp 52) rfl (bv y) HZ64.out (bv_one y) (by simp [bv_length, HYL.out]) ?_ ?_ ?_; go_simp; go_simp; intro w4 hr4 hb4 hz4; have hs4 : Sees w4 w4.heap.size (some ⟨wr.heap.size, 0, none⟩) 64 (bv y) := hr4.sees_at (o := 0) (by rw [bv_length, HYL.out]) (fun j u hu => by rw [Nat.zero_add]; exact hu); have ho4 := HOR.out.below hb4; clear hr4))
        | (at_builtin; go_must (refine wpList_addB rfl (.tmp 53) (.tmp 54) 22 rfl w2.heap.size Tryz.underlying22 info_u8 _ _ ?_ ho4 _ _ 64 64 y ?_ hs4 (by omega) (by have q1 := HLN.out; have q2 := HYL.out; rw [List.length_append]; omega) ?_; go_simp; go_simp; intro v5 w5 ho5 hg5; have HB5 := Lib.hid ((HBR.out.trans (hb4.mono hsz)).trans (hg5.belowB ho4 (by omega))); have HO5 := Lib.hid ho5; clear ho5 hg5)))
      go_roundw
      case rel =>
        refine ⟨k + 1, by omega, by go_num, ?_, HB5.out⟩
        rw [flat64_take_succ HX.out, ← List.append_assoc]
        exact HO5.out
      case measure => simp [intOf]; omega
    · have HOK : Hid (OwnB wr w2.heap.size u8 (short (sn : Int) ++ x.sigs.flatten)) := by
        have := HOR.out
        rw [List.take_of_length_le (by have := HSL.out; omega)] at this
        exact Lib.hid this
      have hr2 := HR2.out.below HBR.out HR2.out.lt
      have HS2 := Lib.hid (show Sees wr wr.heap.size (some ⟨g2, 0, none⟩) N2 (bv (enc x.m)) from hr2.sees_at (o := 0) (by rw [bv_length, ← HN2.out]) (fun j u hu => by rw [Nat.zero_add, List.getElem?_append_left (List.getElem?_eq_some_iff.1 hu).1]; exact hu))
      have hln : (short (sn : Int) ++ x.sigs.flatten ++ enc x.m).length ≤ 1232 := by
        have h1 := HBIG.out
        have h2 : encTx x = short (sn : Int) ++ x.sigs.flatten ++ enc x.m := by unfold encTx; rw [HSL.out]; simp only [List.append_assoc]
        rw [h2] at h1
        omega
      have HLN := Lib.hid hln
      clear HOR hr2 hln
      go_wp2_with (first
        | (at_builtin; go_must (refine wpList_addB rfl (.tmp 57) (.tmp 58) 22 rfl w2.heap.size Tryz.underlying22 info_u8 u8 _ ?_ HOK.out wr.heap.size (some ⟨g2, 0, none⟩) N2 N2 (enc x.m) ?_ HS2.out hsz (by have := HLN.out; omega) ?_; go_simp; go_simp; intro v5 w5 ho5 hg5; have HB5 := Lib.hid (HBR.out.trans (hg5.belowB HOK.out hsz)); have HO5 := Lib.hid ho5; clear ho5 hg5)))
      go_ret2
      refine .inr (.inr ⟨HF.out, by have := HBIG.out; omega, ⟨_, rfl, ?_⟩, HB2.out.trans (HB5.out.mono HB2.out.size)⟩)
      have h2 : encTx x = short (sn : Int) ++ x.sigs.flatten ++ enc x.m := by unfold encTx; rw [HSL.out]; simp only [List.append_assoc]
      rw [h2]
      exact own_base HO5.out HB2.out.size
end Go.Proofs.YtdgbodljmdcagaaGreatDoor

/-
  Of part Sigs: what is needed here.
-/
namespace Go.Proofs.YtdgbodljmdcagaaGreatDoor
open Go.RowKit
set_option linter.unusedVariables false
set_option maxRecDepth 100000
/-- a reader's cells: its transaction's list of signatures, its message, what is left -/
def rcells (sg : Value) (ms : List Value) (rest : Value) : List Value := sg :: (ms ++ [rest])
theorem rcells_40 {sg : Value} {ms : List Value} {rest : Value} (h : ms.length = 39) : (rcells sg ms rest)[40]? = some rest := by
  unfold rcells
  rw [List.getElem?_cons_succ, List.getElem?_append_right (by omega), h]
  rfl
theorem rcells_set40 {sg v : Value} {ms : List Value} {rest : Value} (h : ms.length = 39) : (rcells sg ms rest).set 40 v = rcells sg ms v := by
  unfold rcells
  rw [List.set_cons_succ, List.set_append_right _ _ (by omega), h]
  rfl
theorem rcells_set0 {sg v : Value} {ms : List Value} {rest : Value} : (rcells sg ms rest).set 0 v = rcells v ms rest := rfl
theorem mzero_len : mzero.length = 39 := mlen zero32_len
/-- a packets' reader at block p, with zs left, which lie below block B -/
structure RdT (w : World) (p B : Nat) (sg : Value) (ms : List Value) (zs : List Int) : Prop where
  is : ∃ A c, Row w p 201 (rcells sg ms (.slice A zs.length c)) ∧ Sees w B A zs.length (bv zs) ∧ zs.length ≤ c ∧ c ≤ maxLen
/-- a list of signatures of the call's own, its block from lo to hi -/
structure SigsV (w : World) (lo hi : Nat) (v : Value) (l : List (List Int)) : Prop where
  own : w.ownsRow lo 104 64 v l.length (bv l.flatten)
  lt : ∀ g, v.ownBlock = some g → g < hi
  each : ∀ y ∈ l, y.length = 64
theorem wp_copy_splice {P : Program} {o : Oper} {a : Act} {w : World} {K : Act → World → Prop} {Q : Exit → Act → World → Prop} (hgd : o.guard = none) (d s : Operand) (dT sT : TypeId)
    (ho : o.op = .call { callee := .builtin .copy, args := #[d, s], argTypes := #[dT, sT] }) (elem : TypeId) (hu : P.underlying dT = some (.slice elem)) (hsz : (P.info? elem).map (·.size) = some 1)
    (dp sp : Option Addr) (dLen dCap sLen sCap : Nat) (hd : a.eval d = .slice dp dLen dCap) (hs : a.eval s = .slice sp sLen sCap)
    (g off : Nat) (cur : List Value) (t : TypeId) (hg : w.heap[g]? = some (.cells cur.toArray t (0, 0))) (cs : List Value) (hn : cs.length = Nat.min sLen dLen)
    (hpos : 0 < cs.length → dp = some ⟨g, off, none⟩ ∧ ∃ ad, sp = some ad ∧ ∀ j v, cs[j]? = some v → w.cell? (ad.add j) = some v)
    (hfit : off + cs.length ≤ cur.length) (h1 : ∀ v ∈ cs, v.oneCell' = true) (B : Nat) (w0 : World) (hb : Below B w0 w) (hBg : B ≤ g)
    (h : ∀ w', Hid (w'.heap[g]? = some (.cells (splice cur off cs).toArray t (0, 0))) → Below B w0 w' → K (a.put o.dst (goInt cs.length)) w') : Oper.wp P o a w K Q := by
  have := step_copy_splice (P := P) (ops := #[]) (E := True) (Q := Q) hgd d s dT sT ho elem hu hsz dp sp dLen dCap sLen sCap hd hs g off cur t hg cs hn hpos hfit h1 B w0 hb hBg h
  rwa [if_pos (by simp [Region.wanted, hgd])] at this
/-- what signatures leaves -/
def SigsRead (w : World) (p B : Nat) (zs : List Int) (e : Ending) (w' : World) : Prop :=
  (∃ l r v, pSigs zs = .ok (l, r) ∧ e = .returned (.int .i64 0) ∧ SigsV w' w.heap.size w'.heap.size v l ∧ RdT w' p B v mzero r ∧ But p w w') ∨
  (∃ c, pSigs zs = .error c ∧ e = .returned (.int .i64 c) ∧ But p w w')
theorem info_sig : (Tryz.prog.info? 104).map (fun i => (i.zero, i.size, i.bytes)) = some (some (.agg (zeros 64).toArray), 64, 64) := by kernel_rfl
set_option maxRecDepth 100000 in
set_option maxHeartbeats 2000000 in
theorem signatures_ (p B : Nat) (zs : List Int) (w : World) (h : RdT w p B (.slice none 0 0) mzero zs) (hB : B ≤ p) (hz : AllBytes zs) :
    Calls Tryz.prog 137 #[.pointer (some ⟨p, 0, none⟩)] w (SigsRead w p B zs) := by
  obtain ⟨A, c, hr, hs, hnc, hc⟩ := h
  have c40 : w.cell? ⟨p, 40, none⟩ = some (.slice A zs.length c) := (hr.cell 40).trans (rcells_40 mzero_len)
  have f40 := hr.frozen 40
  have G := Lib.hid (getShort A zs.length c zs w B hs (by omega) hz.bytes)
  have R := Lib.hid hr
  have S := Lib.hid hs
  have hmx := hc
  unfold maxLen at hmx
  have HC := Lib.hid (And.intro hnc hc)
  have hplt := hr.lt
  clear hr hs
  rcases getS_cases zs hz with (he | he) | ⟨n, k, he, hn, hk1, hk2⟩
  · have HP : Hid (pSigs zs = .error 4) := Lib.hid (by unfold pSigs pList pShort; rw [he]; rfl)
    rw [he] at G
    go_enter Tryz.func137, Tryz.ntmps137
    go_wp2_with fail
    refine G.out.mono ?_
    rintro e w1 ⟨rfl, rfl⟩
    go_wp2_with fail
    go_ret
    exact .inr ⟨4, HP.out, rfl, But.refl _ _⟩
  · have HP : Hid (pSigs zs = .error 5) := Lib.hid (by unfold pSigs pList pShort; rw [he]; rfl)
    rw [he] at G
    go_enter Tryz.func137, Tryz.ntmps137
    go_wp2_with fail
    refine G.out.mono ?_
    rintro e w1 ⟨rfl, rfl⟩
    go_wp2_with fail
    go_ret
    exact .inr ⟨5, HP.out, rfl, But.refl _ _⟩
  · have HP : Hid (pSigs zs = pMany (pTake 64) n (zs.drop k)) := Lib.hid (by unfold pSigs pList pShort; rw [he]; simp)
    rw [he] at G
    have HT := Lib.hid (S.out.tail hk2 hnc)
    obtain ⟨r, hr⟩ : ∃ r, r = zs.drop k := ⟨_, rfl⟩
    have hrl : zs.length - k = r.length := by rw [hr, List.length_drop]
    have HRB := Lib.hid (show AllBytes r by rw [hr]; exact hz.drop k)
    have e1 : (bv zs).drop k = bv r := by rw [hr]; simp [bv, cv]
    rw [e1, hrl] at HT
    rw [← hr] at HP
    have hc2 : r.length ≤ c - k := by omega
    obtain ⟨A1, hA1⟩ : ∃ A1, A1 = tailAt A c k := ⟨_, rfl⟩
    obtain ⟨c1, hc1⟩ : ∃ c1, c1 = c - k := ⟨_, rfl⟩
    have hc3 : c1 ≤ 9223372036854775807 := by omega
    rw [← hA1] at HT
    rw [← hc1] at hc2
    have HA1 := Lib.hid hA1
    have HC1 := Lib.hid hc1
    have HRL := Lib.hid hrl
    clear hr e1 hA1 hc1 hrl he
    have hk0 : (0 : Int) ≤ k := by omega
    have hk2' : (k : Int) ≤ zs.length := by omega
    go_enter Tryz.func137, Tryz.ntmps137
    go_wp2_with fail
    refine G.out.mono ?_
    rintro e w1 ⟨rfl, rfl⟩
    clear G
    have hr2 : Row (w.setCell ⟨p, 40, none⟩ (.slice A1 r.length c1)) p 201 (rcells (.slice none 0 0) mzero (.slice A1 r.length c1)) := by
      have := R.out.set_ 40 (.slice A1 r.length c1)
      rwa [rcells_set40 mzero_len] at this
    have HR2 := Lib.hid hr2
    have HB2 := Lib.hid (But.of_turned (turned_setCell w ⟨p, 40, none⟩ (.slice A1 r.length c1)))
    have HS2 := Lib.hid (HT.out.below ((turned_setCell w ⟨p, 40, none⟩ (.slice A1 r.length c1)).below (show B ≤ p from hB)))
    clear hr2
    go_upto_region 5 with ((with_reducible show wpList _ _ _ ({ dst := some 25, op := Op.slice _ _ _ _ _, type := _, pos := _, after := _, guard := _ } :: _) _ _); go_must (refine wpList_tail rfl 22 5 (.tmp 23) (.tmp 24) rfl Tryz.underlying22 size_u8 A zs.length c k ?_ ?_ hk2 HC.out.1 HC.out.2 ?_; go_simp; go_simp; rw [HRL.out, ← HA1.out, ← HC1.out]))
    generalize (w.setCell ⟨p, 40, none⟩ (.slice A1 r.length c1)) = W at *
    have d40 : W.cell? ⟨p, 40, none⟩ = some (.slice A1 r.length c1) := (HR2.out.cell 40).trans (rcells_40 mzero_len)
    have d0 : W.cell? ⟨p, 0, none⟩ = some (.slice none 0 0) := HR2.out.cell 0
    have g0 := HR2.out.frozen 0
    clear c40 f40
    by_cases hsh : r.length < n * 64
    · have HE := Lib.hid (many_short n hsh)
      have hsh' : (r.length : Int) < n * 64 := by omega
      go_wp2_with fail
      go_ret
      exact .inr ⟨5, HP.out.trans HE.out, rfl, HB2.out⟩
    · obtain ⟨l, hl1, hl2, hl3, hl4⟩ := many_long n (by omega : n * 64 ≤ r.length)
      have HL := Lib.hid (And.intro hl1 (And.intro hl2 (And.intro hl3 hl4)))
      have hsh' : ¬ (r.length : Int) < n * 64 := by omega
      clear hl1 hl2 hl3 hl4
      by_cases hn0 : n = 0
      · subst hn0
        go_wp2_with fail
        go_loopw [50] (fun i wr => i = .int .i64 0 ∧ wr = W) (fun i _ => 0)
        case atStart => exact ⟨rfl, rfl⟩
        case round =>
          obtain ⟨rfl, rfl⟩ := hrel
          go_wp2_with fail
          go_ret
          obtain ⟨h1, h2, h3, h4⟩ := HL.out
          obtain rfl : l = [] := List.length_eq_zero_iff.1 h2
          refine .inl ⟨[], r, .slice none 0 0, by rw [HP.out, h1]; simp, rfl, ⟨World.ownsRow_nil _ _ _ _, fun g hg => (by cases hg), (by simp)⟩, ⟨A1, c1, HR2.out, HS2.out, hc2, by unfold maxLen; omega⟩, HB2.out⟩
      · have hz1' := HB2.out.size
        have hn1 : (0 : Int) < n := by omega
        have hWp := HR2.out.lt
        obtain ⟨i0, hi, hz0, hz1, hz2⟩ := info_parts info_sig
        go_upto_region 9 with (first
          | (at_make; go_must (refine wpList_make_full _ rfl (.tmp 39) (.tmp 39) 31 rfl W.heap.size 104 i0 _ 64 Tryz.underlying31 hi hz0 hz1 .i64 .i64 _ _ n ?_ ?_ rfl rfl (by rw [hz2]; omega) (by unfold maxLen; omega) (Nat.le_refl _) ?_; go_simp; go_simp; intro w1 hown hgrow; have hrow := Row.of_ownN hown; have hb1 := (Below.refl W.heap.size W).grown hgrow (Nat.le_refl _) (fun k hk => by cases hk); have f0 : w1.cell? ⟨p, 0, none⟩ = some (.slice none 0 0) := hb1.cell hWp |>.trans d0; have h0 := (HR2.out.below hb1 hWp).frozen 0)))
        have hlen := made_len (.agg (zeros 64).toArray) (n * 64)
        generalize (madeCells (Value.agg (zeros 64).toArray).cells (n * 64)).toList = cs at *
        have hr3 : Row (w1.setCell ⟨p, 0, none⟩ (.slice (some ⟨W.heap.size, 0, none⟩) n n)) p 201 (rcells (.slice (some ⟨W.heap.size, 0, none⟩) n n) mzero (.slice A1 r.length c1)) := by
          have := (HR2.out.below hb1 hWp).set_ 0 (.slice (some ⟨W.heap.size, 0, none⟩) n n)
          rwa [rcells_set0] at this
        have ht3 := turned_setCell w1 ⟨p, 0, none⟩ (.slice (some ⟨W.heap.size, 0, none⟩) n n)
        have HG3 := Lib.hid (ht3.row hrow (show W.heap.size ≠ p by omega))
        have HS3 := Lib.hid ((HS2.out.below (hb1.mono (by omega))).below (ht3.below (show B ≤ p from hB)))
        have HB3 := Lib.hid ((HB2.out.trans (But.of_below hb1 p)).trans (But.of_turned ht3))
        have HR3 := Lib.hid hr3
        have HLN := Lib.hid hlen
        have HZW : Hid (W.heap.size < (w1.setCell ⟨p, 0, none⟩ (.slice (some ⟨W.heap.size, 0, none⟩) n n)).heap.size) := Lib.hid (by have := hrow.lt; have := ht3.size; omega)
        clear hr3 ht3 hrow hown hgrow hb1 f0 h0 HS2 HR2 hlen hi hz0 hz1 hz2 i0 d0 g0 d40 R S HT
        generalize (w1.setCell ⟨p, 0, none⟩ (.slice (some ⟨W.heap.size, 0, none⟩) n n)) = w3 at *
        have a0 : w3.cell? ⟨p, 0, none⟩ = some (.slice (some ⟨W.heap.size, 0, none⟩) n n) := HR3.out.cell 0
        go_wp2_with fail
        clear a0
        go_loopw [50] (fun i wr => ∃ j : Nat, j ≤ n ∧ i = .int .i64 j ∧ RdT wr p B (.slice (some ⟨W.heap.size, 0, none⟩) n n) mzero (r.drop (j * 64)) ∧ Row wr W.heap.size 104 (bv (r.take (j * 64)) ++ cs.drop (j * 64)) ∧ But p w wr) (fun i _ => n - (intOf i).toNat)
        case atStart => exact ⟨0, Nat.zero_le _, rfl, by simpa using ⟨A1, c1, HR3.out, HS3.out, hc2, by unfold maxLen; omega⟩, by simpa [bv, cv] using HG3.out, HB3.out⟩
        case round =>
          clear HR3 HS3 HG3 HB3 HB2 HZW
          obtain ⟨j, hj, rfl, hrd, hg, hb⟩ := hrel
          by_cases hlt : j < n
          · obtain ⟨A2, c2, hrv, hsv, hnc2, hmc2⟩ := hrd
            obtain ⟨R0, hR0⟩ : ∃ R0, R0 = r.drop (j * 64) := ⟨_, rfl⟩
            rw [← hR0] at hrv hsv hnc2
            obtain ⟨N, hN⟩ : ∃ N, N = R0.length := ⟨_, rfl⟩
            rw [← hN] at hrv hsv hnc2
            have hNr : N = r.length - j * 64 := by rw [hN, hR0, List.length_drop]
            have hN64 : 64 ≤ N := by omega
            have HL64 : Hid ((bv (R0.take 64)).length = 64) := Lib.hid (by rw [bv_length, List.length_take, ← hN]; omega)
            have htl : (r.take (j * 64)).length = j * 64 := by rw [List.length_take]; omega
            have htake : r.take ((j + 1) * 64) = r.take (j * 64) ++ R0.take 64 := by rw [hR0, show (j + 1) * 64 = j * 64 + 64 by omega, List.take_add]
            have hdrop : R0.drop 64 = r.drop ((j + 1) * 64) := by rw [hR0, List.drop_drop, show j * 64 + 64 = (j + 1) * 64 by omega]
            obtain ⟨V, hV⟩ : ∃ V, V = wr.drew := ⟨_, rfl⟩
            have HRV : Hid (Row V p 201 (rcells (.slice (some ⟨W.heap.size, 0, none⟩) n n) mzero (.slice A2 N c2))) := Lib.hid (by rw [hV]; exact hrv.drew)
            have HGV : Hid (Row V W.heap.size 104 (bv (r.take (j * 64)) ++ cs.drop (j * 64))) := Lib.hid (by rw [hV]; exact hg.drew)
            have HSV : Hid (Sees V B A2 N (bv R0)) := Lib.hid (by rw [hV]; exact hsv.drew)
            have HBV : Hid (But p w V) := Lib.hid (by rw [hV]; exact hb.drew)
            have HPW := Lib.hid hWp
            have HBW := Lib.hid (show B ≤ W.heap.size by omega)
            have HC2 := Lib.hid (And.intro hN64 (And.intro hnc2 hmc2))
            have HSP : Hid (splice (bv (r.take (j * 64)) ++ cs.drop (j * 64)) (j * 64) (bv (R0.take 64)) = bv (r.take ((j + 1) * 64)) ++ cs.drop ((j + 1) * 64)) := Lib.hid (by
              have e1 : (bv (r.take (j * 64))).length = j * 64 := by rw [bv_length, htl]
              unfold splice
              rw [HL64.out, htake, bv_append, List.take_left' e1, show j * 64 + 64 = (bv (r.take (j * 64))).length + 64 by rw [e1], List.drop_length_add_append, List.drop_drop, show j * 64 + 64 = (j + 1) * 64 by omega, List.append_assoc])
            have HCP : Hid ((bv (R0.take 64)).length = Nat.min N 64 ∧ (0 < (bv (R0.take 64)).length → (some (⟨W.heap.size, j * 64, none⟩ : Addr)) = some ⟨W.heap.size, j * 64, none⟩ ∧ ∃ ad, A2 = some ad ∧ ∀ j v, (bv (R0.take 64))[j]? = some v → V.cell? (ad.add j) = some v) ∧ j * 64 + (bv (R0.take 64)).length ≤ (bv (r.take (j * 64)) ++ cs.drop (j * 64)).length) := Lib.hid ⟨by rw [HL64.out]; show 64 = min N 64; omega, fun _ => ⟨rfl, by
                obtain ⟨ad, u, e, _, _, _⟩ := HSV.out.at_ (k := 0) (by omega)
                refine ⟨ad, e, fun i v hv => ?_⟩
                have hi := (List.getElem?_eq_some_iff.1 hv).1
                rw [HL64.out] at hi
                have hv' : (bv R0)[i]? = some v := by
                  rw [bv_getElem?] at hv ⊢
                  rwa [List.getElem?_take_of_lt hi] at hv
                obtain ⟨ad', e', _, hc'⟩ := HSV.out.cell i v hv'
                rw [e] at e'
                obtain rfl := Option.some.inj e'
                exact hc'⟩, by
              have := HLN.out
              rw [HL64.out, List.length_append, bv_length, htl, List.length_drop, this]
              omega⟩
            have HFIN : Hid (∀ w' : World, Row w' p 201 (rcells (.slice (some ⟨W.heap.size, 0, none⟩) n n) mzero (.slice (tailAt A2 c2 64) (N - 64) (c2 - 64))) → Sees w' B A2 N (bv R0) → RdT w' p B (.slice (some ⟨W.heap.size, 0, none⟩) n n) mzero (r.drop ((j + 1) * 64))) := Lib.hid fun w' h1 h2 => by
              have h3 := h2.tail (k := 64) hN64 hnc2
              have e1 : (bv R0).drop 64 = bv (r.drop ((j + 1) * 64)) := by rw [← hdrop]; simp [bv, cv]
              have e2 : (r.drop ((j + 1) * 64)).length = N - 64 := by rw [← hdrop, List.length_drop, ← hN]
              rw [e1] at h3
              exact ⟨tailAt A2 c2 64, c2 - 64, by rw [e2]; exact h1, by rw [e2]; exact h3, by rw [e2]; omega, by omega⟩
            have HS : Hid (V.cell? ⟨p, 0, none⟩ = some (.slice (some ⟨W.heap.size, 0, none⟩) n n)) := Lib.hid (HRV.out.cell 0)
            unfold maxLen at hmc2
            clear hrv hsv hg hb hR0 hN hNr htl htake hdrop
            go_upto_region 12 with fail
            refine wp_region_held_drew (S := fun V => V.cell? ⟨p, 0, none⟩ = some (.slice (some ⟨W.heap.size, 0, none⟩) n n)) (by kernel_rfl) (by rw [← hV]; exact HS.out) (fun _ => ?_)
            rw [← hV]
            clear hV
            refine takeL (i := 0) (v := ?_) rfl (by kernel_rfl) (by kernel_rfl) (by kernel_rfl) (fun _ _ _ h => h) (Or.inl ⟨by rfl, ?_⟩) HS.out ?_
            rotate_left
            · intro w hw
              try dsimp only at hw
              go_simp
              try with_reducible rfl
            try simp only [Act.put, List.setIfInBounds_toArray, List.set_cons_zero, List.set_cons_succ]
            refine takeL (i := 1) (v := ?_) rfl (by kernel_rfl) (by kernel_rfl) (by kernel_rfl) (fun _ _ _ h => h) (Or.inl ⟨by rfl, ?_⟩) HS.out ?_
            rotate_left
            · intro w hw
              try dsimp only at hw
              go_simp
              try with_reducible rfl
            try simp only [Act.put, List.setIfInBounds_toArray, List.set_cons_zero, List.set_cons_succ]
            refine takeL (i := 2) (v := ?_) rfl (by kernel_rfl) (by kernel_rfl) (by kernel_rfl) (fun _ _ _ h => h) (Or.inl ⟨by rfl, ?_⟩) HS.out ?_
            rotate_left
            · intro w hw
              try dsimp only at hw
              go_simp
              try with_reducible rfl
            try simp only [Act.put, List.setIfInBounds_toArray, List.set_cons_zero, List.set_cons_succ]
            refine takeL (i := 3) (v := ?_) rfl (by kernel_rfl) (by kernel_rfl) (by kernel_rfl) (fun _ _ _ h => h) (Or.inl ⟨by rfl, ?_⟩) HS.out ?_
            rotate_left
            · intro w hw
              try dsimp only at hw
              go_simp
              try with_reducible rfl
            try simp only [Act.put, List.setIfInBounds_toArray, List.set_cons_zero, List.set_cons_succ]
            refine takeL (i := 5) (v := ?_) rfl (by kernel_rfl) (by kernel_rfl) (by kernel_rfl) (fun _ _ _ h => h) (Or.inl ⟨by rfl, ?_⟩) HS.out ?_
            rotate_left
            · intro w hw
              try dsimp only at hw
              go_simp
              try with_reducible rfl
            try simp only [Act.put, List.setIfInBounds_toArray, List.set_cons_zero, List.set_cons_succ]
            refine takeL (i := 6) (v := ?_) rfl (by kernel_rfl) (by kernel_rfl) (by kernel_rfl) (fun _ _ _ h => h) (Or.inl ⟨by rfl, ?_⟩) HS.out ?_
            rotate_left
            · intro w hw
              try dsimp only at hw
              go_simp
              try with_reducible rfl
            try simp only [Act.put, List.setIfInBounds_toArray, List.set_cons_zero, List.set_cons_succ]
            refine takeL (i := 7) (v := ?_) rfl (by kernel_rfl) (by kernel_rfl) (by kernel_rfl) (fun _ _ _ h => h) (Or.inl ⟨by rfl, ?_⟩) HS.out ?_
            rotate_left
            · intro w hw
              try dsimp only at hw
              go_simp
              try with_reducible rfl
            try simp only [Act.put, List.setIfInBounds_toArray, List.set_cons_zero, List.set_cons_succ]
            refine takeL (i := 8) (v := ?_) rfl (by kernel_rfl) (by kernel_rfl) (by kernel_rfl) (fun _ _ _ h => h) (Or.inl ⟨by rfl, ?_⟩) HS.out ?_
            rotate_left
            · intro w hw
              try dsimp only at hw
              go_simp
              try with_reducible rfl
            try simp only [Act.put, List.setIfInBounds_toArray, List.set_cons_zero, List.set_cons_succ]
            refine takeL (i := 9) (v := ?_) rfl (by kernel_rfl) (by kernel_rfl) (by kernel_rfl) (fun _ _ _ h => h) (Or.inl ⟨by rfl, ?_⟩) HS.out ?_
            rotate_left
            · intro w hw
              try dsimp only at hw
              go_simp
              try with_reducible rfl
            try simp only [Act.put, List.setIfInBounds_toArray, List.set_cons_zero, List.set_cons_succ]
            refine takeL (i := 10) (v := ?_) rfl (by kernel_rfl) (by kernel_rfl) (by kernel_rfl) (fun _ _ _ h => h) (Or.inl ⟨by rfl, ?_⟩) HS.out ?_
            rotate_left
            · intro w hw
              try dsimp only at hw
              go_simp
              try with_reducible rfl
            try simp only [Act.put, List.setIfInBounds_toArray, List.set_cons_zero, List.set_cons_succ]
            refine takeL (i := 11) (v := ?_) rfl (by kernel_rfl) (by kernel_rfl) (by kernel_rfl) (fun _ _ _ h => h) (Or.inl ⟨by rfl, ?_⟩) HS.out ?_
            rotate_left
            · intro w hw
              try dsimp only at hw
              go_simp
              try with_reducible rfl
            try simp only [Act.put, List.setIfInBounds_toArray, List.set_cons_zero, List.set_cons_succ]
            refine takeL (i := 12) (v := ?_) rfl (by kernel_rfl) (by kernel_rfl) (by kernel_rfl) (fun _ _ _ h => h) (Or.inl ⟨by rfl, ?_⟩) HS.out ?_
            rotate_left
            · intro w hw
              try dsimp only at hw
              go_simp
              try with_reducible rfl
            try simp only [Act.put, List.setIfInBounds_toArray, List.set_cons_zero, List.set_cons_succ]
            refine takeL (i := 13) (v := ?_) rfl (by kernel_rfl) (by kernel_rfl) (by kernel_rfl) (fun _ _ _ h => h) (Or.inl ⟨by rfl, ?_⟩) HS.out ?_
            rotate_left
            · intro w hw
              try dsimp only at hw
              go_simp
              try with_reducible rfl
            try simp only [Act.put, List.setIfInBounds_toArray, List.set_cons_zero, List.set_cons_succ]
            refine takeL (i := 14) (v := ?_) rfl (by kernel_rfl) (by kernel_rfl) (by kernel_rfl) (fun _ _ _ h => h) (Or.inl ⟨by rfl, ?_⟩) HS.out ?_
            rotate_left
            · intro w hw
              try dsimp only at hw
              go_simp
              try with_reducible rfl
            try simp only [Act.put, List.setIfInBounds_toArray, List.set_cons_zero, List.set_cons_succ]
            refine takeL (i := 15) (v := ?_) rfl (by kernel_rfl) (by kernel_rfl) (by kernel_rfl) (fun _ _ _ h => h) (Or.inl ⟨by rfl, ?_⟩) HS.out ?_
            rotate_left
            · intro w hw
              try dsimp only at hw
              go_simp
              try with_reducible rfl
            try simp only [Act.put, List.setIfInBounds_toArray, List.set_cons_zero, List.set_cons_succ]
            refine readyL2 (i := 4) (j := 16) rfl rfl (by kernel_rfl) (by kernel_rfl) (by kernel_rfl) (fun K hK => ?_) (fun K hK => ?_)
            · have q40 : V.cell? ⟨p, 40, none⟩ = some (.slice A2 N c2) := (HRV.out.cell 40).trans (rcells_40 mzero_len)
              go_simp
              refine hK.out _ _ HS.out ?_
              clear hK K
              try simp only [Act.put, List.setIfInBounds_toArray, List.set_cons_zero, List.set_cons_succ]
              clear q40
              refine readyL (i := 16) rfl (by kernel_rfl) (by kernel_rfl) fun K hK => ?_
              have q40 : V.cell? ⟨p, 40, none⟩ = some (.slice A2 N c2) := (HRV.out.cell 40).trans (rcells_40 mzero_len)
              go_simp
              refine hK.out _ _ HS.out ?_
              clear hK K
              try simp only [Act.put, List.setIfInBounds_toArray, List.set_cons_zero, List.set_cons_succ]
              clear q40
              refine readyL (i := 17) rfl (by kernel_rfl) (by kernel_rfl) fun K hK => ?_
              refine wp_copy_splice rfl (.tmp 65) (.tmp 69) 22 22 rfl 5 Tryz.underlying22 size_u8 (some ⟨W.heap.size, j * 64, none⟩) A2 64 64 N c2 ?_ ?_ W.heap.size (j * 64) (bv (r.take (j * 64)) ++ cs.drop (j * 64)) 104 HGV.out.is (bv (R0.take 64)) ?_ ?_ ?_ (bv_one _) W.heap.size V (Below.refl _ _) (Nat.le_refl _) ?_
              · go_simp
              · go_simp
              · exact HCP.out.1
              · exact HCP.out.2.1
              · exact HCP.out.2.2
              intro V2 hg2 hb2
              have HRV2 := Lib.hid (HRV.out.below hb2 HPW.out)
              have HGV2 : Hid (Row V2 W.heap.size 104 (bv (r.take ((j + 1) * 64)) ++ cs.drop ((j + 1) * 64))) := Lib.hid ⟨by rw [hg2.out, HSP.out]⟩
              have HSV2 := Lib.hid (HSV.out.below (hb2.mono HBW.out))
              have HBV2 : Hid (But p w V2) := Lib.hid ⟨hb2.os.trans HBV.out.os, hb2.tape.trans HBV.out.tape, hb2.output.trans HBV.out.output, Nat.le_trans HBV.out.size hb2.size, fun k hk hne => (hb2.block k (by omega)).trans (HBV.out.block k hk hne)⟩
              have HS2 : Hid (V2.cell? ⟨p, 0, none⟩ = some (.slice (some ⟨W.heap.size, 0, none⟩) n n)) := Lib.hid (HRV2.out.cell 0)
              have hl64 : goInt (bv (R0.take 64)).length = .int .i64 64 := by rw [HL64.out]; rfl
              simp only [hl64]
              clear hg2 hb2 hl64
              refine hK.out _ _ HS2.out ?_
              clear hK K
              try simp only [Act.put, List.setIfInBounds_toArray, List.set_cons_zero, List.set_cons_succ]
              refine takeL (i := 18) (v := .slice (tailAt A2 c2 64) (N - 64) (c2 - 64)) rfl (by kernel_rfl) (by kernel_rfl) (by kernel_rfl) (fun _ _ _ h => h) (Or.inl ⟨by rfl, fun w hw => ?_⟩) HS2.out ?_
              · exact run_tail 22 5 (.tmp 57) (.tmp 70) rfl Tryz.underlying22 size_u8 A2 N c2 64 (by go_simp) (by go_simp) HC2.out.1 HC2.out.2.1 HC2.out.2.2
              try simp only [Act.put, List.setIfInBounds_toArray, List.set_cons_zero, List.set_cons_succ]
              refine takeL (i := 19) (v := ?_) rfl (by kernel_rfl) (by kernel_rfl) (by kernel_rfl) (fun _ _ _ h => h) (Or.inl ⟨by rfl, ?_⟩) HS2.out ?_
              rotate_left
              · intro w hw
                try dsimp only at hw
                go_simp
                try with_reducible rfl
              try simp only [Act.put, List.setIfInBounds_toArray, List.set_cons_zero, List.set_cons_succ]
              refine takeL (i := 20) (v := ?_) rfl (by kernel_rfl) (by kernel_rfl) (by kernel_rfl) (fun _ _ _ h => h) (Or.inl ⟨by rfl, ?_⟩) HS2.out ?_
              rotate_left
              · intro w hw
                try dsimp only at hw
                go_simp
                try with_reducible rfl
              try simp only [Act.put, List.setIfInBounds_toArray, List.set_cons_zero, List.set_cons_succ]
              have q40 : V2.cell? ⟨p, 40, none⟩ = some (.slice A2 N c2) := (HRV2.out.cell 40).trans (rcells_40 mzero_len)
              have r40 := HRV2.out.frozen 40
              refine readyL (i := 21) rfl (by kernel_rfl) (by kernel_rfl) fun K hK => ?_
              go_simp
              refine hK.out _ _ (by exact (HRV2.out.set_ 40 (.slice (tailAt A2 c2 64) (N - 64) (c2 - 64))).cell 0) ?_
              clear hK K
              try simp only [Act.put, List.setIfInBounds_toArray, List.set_cons_zero, List.set_cons_succ]
              clear q40 r40
              refine wpAnyH_done (by kernel_rfl) ?_ _
              go_wp2_with fail
              go_roundw
              case rel =>
                have ht := turned_setCell V2 ⟨p, 40, none⟩ (.slice (tailAt A2 c2 64) (N - 64) (c2 - 64))
                have hr := HRV2.out.set_ 40 (.slice (tailAt A2 c2 64) (N - 64) (c2 - 64))
                rw [rcells_set40 mzero_len] at hr
                exact ⟨j + 1, by omega, by go_num, HFIN.out _ hr (HSV2.out.below (ht.below (show B ≤ p from hB))), ht.row HGV2.out (show W.heap.size ≠ p by have := HPW.out; omega), HBV2.out.trans (But.of_turned ht)⟩
              case measure => simp [intOf]; omega
            · have q40 : V.cell? ⟨p, 40, none⟩ = some (.slice A2 N c2) := (HRV.out.cell 40).trans (rcells_40 mzero_len)
              go_simp
              refine hK.out _ _ HS.out ?_
              clear hK K
              try simp only [Act.put, List.setIfInBounds_toArray, List.set_cons_zero, List.set_cons_succ]
              clear q40
              refine readyL2 (i := 4) (j := 17) rfl rfl (by kernel_rfl) (by kernel_rfl) (by kernel_rfl) (fun K hK => ?_) (fun K hK => ?_)
              · have q40 : V.cell? ⟨p, 40, none⟩ = some (.slice A2 N c2) := (HRV.out.cell 40).trans (rcells_40 mzero_len)
                go_simp
                refine hK.out _ _ HS.out ?_
                clear hK K
                try simp only [Act.put, List.setIfInBounds_toArray, List.set_cons_zero, List.set_cons_succ]
                clear q40
                refine readyL (i := 17) rfl (by kernel_rfl) (by kernel_rfl) fun K hK => ?_
                refine wp_copy_splice rfl (.tmp 65) (.tmp 69) 22 22 rfl 5 Tryz.underlying22 size_u8 (some ⟨W.heap.size, j * 64, none⟩) A2 64 64 N c2 ?_ ?_ W.heap.size (j * 64) (bv (r.take (j * 64)) ++ cs.drop (j * 64)) 104 HGV.out.is (bv (R0.take 64)) ?_ ?_ ?_ (bv_one _) W.heap.size V (Below.refl _ _) (Nat.le_refl _) ?_
                · go_simp
                · go_simp
                · exact HCP.out.1
                · exact HCP.out.2.1
                · exact HCP.out.2.2
                intro V2 hg2 hb2
                have HRV2 := Lib.hid (HRV.out.below hb2 HPW.out)
                have HGV2 : Hid (Row V2 W.heap.size 104 (bv (r.take ((j + 1) * 64)) ++ cs.drop ((j + 1) * 64))) := Lib.hid ⟨by rw [hg2.out, HSP.out]⟩
                have HSV2 := Lib.hid (HSV.out.below (hb2.mono HBW.out))
                have HBV2 : Hid (But p w V2) := Lib.hid ⟨hb2.os.trans HBV.out.os, hb2.tape.trans HBV.out.tape, hb2.output.trans HBV.out.output, Nat.le_trans HBV.out.size hb2.size, fun k hk hne => (hb2.block k (by omega)).trans (HBV.out.block k hk hne)⟩
                have HS2 : Hid (V2.cell? ⟨p, 0, none⟩ = some (.slice (some ⟨W.heap.size, 0, none⟩) n n)) := Lib.hid (HRV2.out.cell 0)
                have hl64 : goInt (bv (R0.take 64)).length = .int .i64 64 := by rw [HL64.out]; rfl
                simp only [hl64]
                clear hg2 hb2 hl64
                refine hK.out _ _ HS2.out ?_
                clear hK K
                try simp only [Act.put, List.setIfInBounds_toArray, List.set_cons_zero, List.set_cons_succ]
                refine takeL (i := 18) (v := .slice (tailAt A2 c2 64) (N - 64) (c2 - 64)) rfl (by kernel_rfl) (by kernel_rfl) (by kernel_rfl) (fun _ _ _ h => h) (Or.inl ⟨by rfl, fun w hw => ?_⟩) HS2.out ?_
                · exact run_tail 22 5 (.tmp 57) (.tmp 70) rfl Tryz.underlying22 size_u8 A2 N c2 64 (by go_simp) (by go_simp) HC2.out.1 HC2.out.2.1 HC2.out.2.2
                try simp only [Act.put, List.setIfInBounds_toArray, List.set_cons_zero, List.set_cons_succ]
                refine takeL (i := 19) (v := ?_) rfl (by kernel_rfl) (by kernel_rfl) (by kernel_rfl) (fun _ _ _ h => h) (Or.inl ⟨by rfl, ?_⟩) HS2.out ?_
                rotate_left
                · intro w hw
                  try dsimp only at hw
                  go_simp
                  try with_reducible rfl
                try simp only [Act.put, List.setIfInBounds_toArray, List.set_cons_zero, List.set_cons_succ]
                refine takeL (i := 20) (v := ?_) rfl (by kernel_rfl) (by kernel_rfl) (by kernel_rfl) (fun _ _ _ h => h) (Or.inl ⟨by rfl, ?_⟩) HS2.out ?_
                rotate_left
                · intro w hw
                  try dsimp only at hw
                  go_simp
                  try with_reducible rfl
                try simp only [Act.put, List.setIfInBounds_toArray, List.set_cons_zero, List.set_cons_succ]
                have q40 : V2.cell? ⟨p, 40, none⟩ = some (.slice A2 N c2) := (HRV2.out.cell 40).trans (rcells_40 mzero_len)
                have r40 := HRV2.out.frozen 40
                refine readyL (i := 21) rfl (by kernel_rfl) (by kernel_rfl) fun K hK => ?_
                go_simp
                refine hK.out _ _ (by exact (HRV2.out.set_ 40 (.slice (tailAt A2 c2 64) (N - 64) (c2 - 64))).cell 0) ?_
                clear hK K
                try simp only [Act.put, List.setIfInBounds_toArray, List.set_cons_zero, List.set_cons_succ]
                clear q40 r40
                refine wpAnyH_done (by kernel_rfl) ?_ _
                go_wp2_with fail
                go_roundw
                case rel =>
                  have ht := turned_setCell V2 ⟨p, 40, none⟩ (.slice (tailAt A2 c2 64) (N - 64) (c2 - 64))
                  have hr := HRV2.out.set_ 40 (.slice (tailAt A2 c2 64) (N - 64) (c2 - 64))
                  rw [rcells_set40 mzero_len] at hr
                  exact ⟨j + 1, by omega, by go_num, HFIN.out _ hr (HSV2.out.below (ht.below (show B ≤ p from hB))), ht.row HGV2.out (show W.heap.size ≠ p by have := HPW.out; omega), HBV2.out.trans (But.of_turned ht)⟩
                case measure => simp [intOf]; omega
              · refine wp_copy_splice rfl (.tmp 65) (.tmp 69) 22 22 rfl 5 Tryz.underlying22 size_u8 (some ⟨W.heap.size, j * 64, none⟩) A2 64 64 N c2 ?_ ?_ W.heap.size (j * 64) (bv (r.take (j * 64)) ++ cs.drop (j * 64)) 104 HGV.out.is (bv (R0.take 64)) ?_ ?_ ?_ (bv_one _) W.heap.size V (Below.refl _ _) (Nat.le_refl _) ?_
                · go_simp
                · go_simp
                · exact HCP.out.1
                · exact HCP.out.2.1
                · exact HCP.out.2.2
                intro V2 hg2 hb2
                have HRV2 := Lib.hid (HRV.out.below hb2 HPW.out)
                have HGV2 : Hid (Row V2 W.heap.size 104 (bv (r.take ((j + 1) * 64)) ++ cs.drop ((j + 1) * 64))) := Lib.hid ⟨by rw [hg2.out, HSP.out]⟩
                have HSV2 := Lib.hid (HSV.out.below (hb2.mono HBW.out))
                have HBV2 : Hid (But p w V2) := Lib.hid ⟨hb2.os.trans HBV.out.os, hb2.tape.trans HBV.out.tape, hb2.output.trans HBV.out.output, Nat.le_trans HBV.out.size hb2.size, fun k hk hne => (hb2.block k (by omega)).trans (HBV.out.block k hk hne)⟩
                have HS2 : Hid (V2.cell? ⟨p, 0, none⟩ = some (.slice (some ⟨W.heap.size, 0, none⟩) n n)) := Lib.hid (HRV2.out.cell 0)
                have hl64 : goInt (bv (R0.take 64)).length = .int .i64 64 := by rw [HL64.out]; rfl
                simp only [hl64]
                clear hg2 hb2 hl64
                refine hK.out _ _ HS2.out ?_
                clear hK K
                try simp only [Act.put, List.setIfInBounds_toArray, List.set_cons_zero, List.set_cons_succ]
                refine readyL (i := 4) rfl (by kernel_rfl) (by kernel_rfl) fun K hK => ?_
                have q40 : V2.cell? ⟨p, 40, none⟩ = some (.slice A2 N c2) := (HRV2.out.cell 40).trans (rcells_40 mzero_len)
                go_simp
                refine hK.out _ _ HS2.out ?_
                clear hK K
                try simp only [Act.put, List.setIfInBounds_toArray, List.set_cons_zero, List.set_cons_succ]
                clear q40
                refine takeL (i := 18) (v := .slice (tailAt A2 c2 64) (N - 64) (c2 - 64)) rfl (by kernel_rfl) (by kernel_rfl) (by kernel_rfl) (fun _ _ _ h => h) (Or.inl ⟨by rfl, fun w hw => ?_⟩) HS2.out ?_
                · exact run_tail 22 5 (.tmp 57) (.tmp 70) rfl Tryz.underlying22 size_u8 A2 N c2 64 (by go_simp) (by go_simp) HC2.out.1 HC2.out.2.1 HC2.out.2.2
                try simp only [Act.put, List.setIfInBounds_toArray, List.set_cons_zero, List.set_cons_succ]
                refine takeL (i := 19) (v := ?_) rfl (by kernel_rfl) (by kernel_rfl) (by kernel_rfl) (fun _ _ _ h => h) (Or.inl ⟨by rfl, ?_⟩) HS2.out ?_
                rotate_left
                · intro w hw
                  try dsimp only at hw
                  go_simp
                  try with_reducible rfl
                try simp only [Act.put, List.setIfInBounds_toArray, List.set_cons_zero, List.set_cons_succ]
                refine takeL (i := 20) (v := ?_) rfl (by kernel_rfl) (by kernel_rfl) (by kernel_rfl) (fun _ _ _ h => h) (Or.inl ⟨by rfl, ?_⟩) HS2.out ?_
                rotate_left
                · intro w hw
                  try dsimp only at hw
                  go_simp
                  try with_reducible rfl
                try simp only [Act.put, List.setIfInBounds_toArray, List.set_cons_zero, List.set_cons_succ]
                have q40 : V2.cell? ⟨p, 40, none⟩ = some (.slice A2 N c2) := (HRV2.out.cell 40).trans (rcells_40 mzero_len)
                have r40 := HRV2.out.frozen 40
                refine readyL (i := 21) rfl (by kernel_rfl) (by kernel_rfl) fun K hK => ?_
                go_simp
                refine hK.out _ _ (by exact (HRV2.out.set_ 40 (.slice (tailAt A2 c2 64) (N - 64) (c2 - 64))).cell 0) ?_
                clear hK K
                try simp only [Act.put, List.setIfInBounds_toArray, List.set_cons_zero, List.set_cons_succ]
                clear q40 r40
                refine wpAnyH_done (by kernel_rfl) ?_ _
                go_wp2_with fail
                go_roundw
                case rel =>
                  have ht := turned_setCell V2 ⟨p, 40, none⟩ (.slice (tailAt A2 c2 64) (N - 64) (c2 - 64))
                  have hr := HRV2.out.set_ 40 (.slice (tailAt A2 c2 64) (N - 64) (c2 - 64))
                  rw [rcells_set40 mzero_len] at hr
                  exact ⟨j + 1, by omega, by go_num, HFIN.out _ hr (HSV2.out.below (ht.below (show B ≤ p from hB))), ht.row HGV2.out (show W.heap.size ≠ p by have := HPW.out; omega), HBV2.out.trans (But.of_turned ht)⟩
                case measure => simp [intOf]; omega
          · obtain rfl : j = n := by omega
            go_wp2_with fail
            go_ret
            obtain ⟨h1, h2, h3, h4⟩ := HL.out
            have h5 : cs.drop (j * 64) = [] := List.drop_of_length_le (by rw [HLN.out]; exact Nat.le_refl _)
            rw [h5, List.append_nil, ← h4] at hg
            have h6 : (bv l.flatten).length = j * 64 := by rw [bv_length, flat64_len l h3, h2]
            refine .inl ⟨l, r.drop (j * 64), .slice (some ⟨W.heap.size, 0, none⟩) j j, by rw [HP.out, h1], rfl, ⟨⟨by rw [h6, h2], .inr ⟨W.heap.size, j, (bv l.flatten).toArray, by rw [h2], hz1', hg.is, by omega, by unfold maxLen; omega, by rw [List.size_toArray, h6], by rw [List.take_of_length_le (by simp [h6, h2])]⟩⟩, fun g hgg => ?_, h3⟩, hrd, hb⟩
            cases hgg
            exact hg.lt
end Go.Proofs.YtdgbodljmdcagaaGreatDoor
