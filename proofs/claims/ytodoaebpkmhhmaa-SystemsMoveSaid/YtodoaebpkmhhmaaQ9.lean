/-
  Parts joined: MakeMath14 MakeWalk14 MakeMem14.
-/
import Derived.Below
import Derived.Laws.OwnMore
import Derived.Deep.AppendLies
import Derived.Deep.Draws
import Derived.Lib.Hide
import Derived.Laws.MakeOwn
import Derived.Laws.CopyOwn
import Derived.Laws.Rows
import Derived.Laws.BitsAllLaws
import Derived.WalkKit
import Derived.Test.YtodoaebpkmhhmaaRows
import Derived.WalkSpells
import Derived.WalkLawsBesides
import Derived.IntWalk
import Derived.Deep.MidRow
import Derived.Deep.WholeRow
import Derived.Maps.AppendAt
import Derived.OwnWalk
import Derived.Great.BuildSlice
import Derived.Recover
import Derived.Deep.RegionHeld
import Derived.Deep.QuietTactic
import Derived.BigQuiet
import Derived.ChangeKeysEq
import Derived.ProofKit
import Derived.OpenShut
import Derived.ShutString
import Derived.ChangeOld
import Derived.Lib.SmallJoins
import Derived.Deep.Slices
import Derived.Deep.Strs
import Derived.SizedLaws
import Derived.Deep.RegionHeld2
import Derived.Deep.CutBlock
import Derived.Laws.Tables
import Derived.Laws.StructEq
import Derived.Laws.Slices
import Derived.Deep.DeepCutAuto
import Derived.Laws.EntriesVeiled
import Derived.Deep.RegionHeld3
import Derived.Maps.OwnSet
import Derived.DeepKeys4
import Derived.WideKeyArr
import Derived.WideKeyEntry
import Derived.WalkMore
import Derived.Shelf.SlMaps.Clone
import Derived.LaidMore
import Derived.Laws.Append
import Derived.Laws.AppendOwn
import Derived.Maps.OwnOps
import Derived.Maps.RangeWalk
import Derived.Laws.BytesArg
import Derived.Laws.Strings
import Derived.Lib.Strings
import Derived.Great.Walk
import Derived.Laws.Bits64b
import Derived.Laws.Externs
import Derived.Test.YtodoaebpkmhhmaaQ1
import Derived.Test.YtodoaebpkmhhmaaQ2
import Derived.Test.YtodoaebpkmhhmaaQ3
import Derived.Test.YtodoaebpkmhhmaaQ4
import Derived.Test.YtodoaebpkmhhmaaQ5
import Derived.Test.YtodoaebpkmhhmaaQ6
import Derived.Test.YtodoaebpkmhhmaaQ7
import Derived.Test.YtodoaebpkmhhmaaQ8
/-
  Of part MakeMath14: what is needed here.
-/
namespace Go.Proofs.Ytodoaebpkmhhmaa
open Go.RowKit
set_option linter.unusedVariables false
set_option maxRecDepth 100000
theorem num_pre {a b : List Int} : ∀ {m : Nat}, m ≤ a.length → num (a ++ b) m = num a m
  | 0, _ => rfl
  | m + 1, h => by
    have ih := num_pre (a := a) (b := b) (m := m) (by omega)
    have hg : (a ++ b).getD m 0 = a.getD m 0 := by
      rw [List.getD_eq_getElem?_getD, List.getD_eq_getElem?_getD, List.getElem?_append_left (by omega)]
    rw [num, num, ih, hg]
/-- the data that make an account -/
def mk14 (c s : Int) (o : List Int) : List Int := dig 0 4 ++ dig c 8 ++ dig s 8 ++ o
theorem mk14_len (c s : Int) {o : List Int} (h : o.length = 32) : (mk14 c s o).length = 52 := by unfold mk14; rw [List.length_append, List.length_append, List.length_append, dig_len, dig_len, dig_len, h]
theorem mk14_bytes (c s : Int) {o : List Int} (h : AllBytes o) : AllBytes (mk14 c s o) := fun z hz => by
  rcases List.mem_append.1 hz with hz | hz
  · rcases List.mem_append.1 hz with hz | hz
    · rcases List.mem_append.1 hz with hz | hz
      · exact dig_bytes _ _ z hz
      · exact dig_bytes _ _ z hz
    · exact dig_bytes _ _ z hz
  · exact h z hz
theorem u64_pow : (256 : Int) ^ 8 = 18446744073709551616 := by decide
theorem dat_mk14 {c s : Int} {o : List Int} (hc : 0 ≤ c ∧ c < 18446744073709551616) (hs : 0 ≤ s ∧ s < 18446744073709551616) (ho : o.length = 32) : dat14 (mk14 c s o) = some ⟨0, c, s, o⟩ := by
  have hl := mk14_len c s ho
  have e0 : num (mk14 c s o) 4 = 0 := by
    unfold mk14
    rw [List.append_assoc, List.append_assoc, num_pre (by rw [dig_len]; omega)]
    decide +kernel
  have d1 : (mk14 c s o).drop 4 = dig c 8 ++ (dig s 8 ++ o) := by
    unfold mk14
    rw [List.append_assoc, List.append_assoc, List.drop_append, dig_len, List.drop_of_length_le (by rw [dig_len]; omega), List.nil_append]
    rfl
  have d2 : (mk14 c s o).drop 12 = dig s 8 ++ o := by
    rw [show (12 : Nat) = 4 + 8 from rfl, ← List.drop_drop, d1, List.drop_append, dig_len, List.drop_of_length_le (by rw [dig_len]; omega), List.nil_append]
    rfl
  have d3 : (mk14 c s o).drop 20 = o := by
    rw [show (20 : Nat) = 12 + 8 from rfl, ← List.drop_drop, d2, List.drop_append, dig_len, List.drop_of_length_le (by rw [dig_len]; omega), List.nil_append]
    rfl
  have e1 : num (dig c 8 ++ (dig s 8 ++ o)) 8 = c := by rw [num_pre (by rw [dig_len]; omega)]; exact num_all c 8 hc.1 (by rw [u64_pow]; exact hc.2)
  have e2 : num (dig s 8 ++ o) 8 = s := by rw [num_pre (by rw [dig_len]; omega)]; exact num_all s 8 hs.1 (by rw [u64_pow]; exact hs.2)
  unfold dat14
  rw [e0, hl, d1, d2, d3, e1, e2]
  simp
/-- the data that give space -/
def sp14 : List Int := dig 8 4 ++ dig 5 8
theorem sp14_len : sp14.length = 12 := by unfold sp14; rw [List.length_append, dig_len, dig_len]
theorem sp14_bytes : AllBytes sp14 := fun z hz => by
  rcases List.mem_append.1 hz with hz | hz
  · exact dig_bytes _ _ z hz
  · exact dig_bytes _ _ z hz
theorem dat_sp14 : dat14 sp14 = some ⟨8, 0, 5, key0⟩ := by kernel_rfl
theorem plc_k1 (c s : Int) (o : List Int) : plc14 ⟨0, c, s, o⟩ (b14 true) [0, 1] = 0 := by rfl
theorem plc_k2 : plc14 ⟨8, 0, 5, key0⟩ (b14 true) [1] = 0 := by rfl
section
variable {x y : LAcc} {c s : Int} {o : List Int}
theorem do_k1 (hc : 0 ≤ c ∧ c < 18446744073709551616) (hs : 0 ≤ s ∧ s < 18446744073709551616) (ho : o.length = 32) : do14 [x, y] (b14 true) [0, 1] (mk14 c s o) = make14 [x, y] ⟨0, c, s, o⟩ 0 1 :=
  do_is (a := 0) (b := 1) rfl (dat_mk14 hc hs ho) (plc_k1 c s o) rfl rfl
theorem do_k2 : do14 [x, y] (b14 true) [1] sp14 = space14 [x, y] ⟨8, 0, 5, key0⟩ 1 :=
  do_is (a := 1) (b := 1) rfl dat_sp14 plc_k2 rfl rfl
theorem k1_there (h : y ≠ blank13) : make14 [x, y] ⟨0, c, s, o⟩ 0 1 = ⟨12, [], 0⟩ := by
  unfold make14
  rw [if_pos (show getA [x, y] 1 ≠ blank13 from h)]
  rfl
theorem k1_owner (h : ¬ plain14 x) : make14 [x, blank13] ⟨0, c, s, o⟩ 0 1 = ⟨16, [], 0⟩ := by
  unfold make14
  rw [if_neg (show ¬ getA [x, blank13] 1 ≠ blank13 from fun e => e rfl), if_pos (show ¬ plain14 (getA [x, blank13] 0) from h)]
  rfl
theorem k1_limit (h : plain14 x) (h2 : 1048576 < s) : make14 [x, blank13] ⟨0, c, s, o⟩ 0 1 = ⟨3, [], 0⟩ := by
  unfold make14
  rw [if_neg (show ¬ getA [x, blank13] 1 ≠ blank13 from fun e => e rfl), if_neg (show ¬ ¬ plain14 (getA [x, blank13] 0) from fun e => e h), if_pos (show 1048576 < s from h2)]
  rfl
theorem k1_funds (h : plain14 x) (h2 : ¬ 1048576 < s) (h3 : x.c < c) : make14 [x, blank13] ⟨0, c, s, o⟩ 0 1 = ⟨17, [], 0⟩ := by
  unfold make14
  rw [if_neg (show ¬ getA [x, blank13] 1 ≠ blank13 from fun e => e rfl), if_neg (show ¬ ¬ plain14 (getA [x, blank13] 0) from fun e => e h), if_neg (show ¬ 1048576 < s from h2), if_pos (show (getA [x, blank13] 0).c < c from h3)]
  rfl
theorem k1_good (h : plain14 x) (h2 : ¬ 1048576 < s) (h3 : ¬ x.c < c) : make14 [x, blank13] ⟨0, c, s, o⟩ 0 1 = ⟨0, [⟨x.c - c, x.o, x.s⟩, ⟨c, o, s⟩], s⟩ := by
  unfold make14
  rw [if_neg (show ¬ getA [x, blank13] 1 ≠ blank13 from fun e => e rfl), if_neg (show ¬ ¬ plain14 (getA [x, blank13] 0) from fun e => e h), if_neg (show ¬ 1048576 < s from h2), if_neg (show ¬ (getA [x, blank13] 0).c < c from h3)]
  rfl
theorem k2_there (h : ¬ plain14 y) : space14 [x, y] ⟨8, 0, 5, key0⟩ 1 = ⟨12, [], 0⟩ := by
  unfold space14
  rw [if_pos (show ¬ plain14 (getA [x, y] 1) from h)]
  rfl
theorem k2_good (h : plain14 y) : space14 [x, y] ⟨8, 0, 5, key0⟩ 1 = ⟨0, [x, ⟨y.c, y.o, 5⟩], 5⟩ := by
  unfold space14
  rw [if_neg (show ¬ ¬ plain14 (getA [x, y] 1) from fun e => e h), if_neg (by decide)]
  rfl
end
end Go.Proofs.Ytodoaebpkmhhmaa

/-
  Of part MakeWalk14: what is needed here.
-/
namespace Go.Proofs.Ytodoaebpkmhhmaa
open Go.RowKit
set_option linter.unusedVariables false
set_option maxRecDepth 100000
theorem ins14_many {w : World} {ga b m : Nat} {D : Option Addr} {c dn : Nat} {d acc : List Int} (hr : Row w ga 5 (bv acc)) (ho : OwnB w b (.slice D dn c) d) (hn : d.length = dn) (hd : AllBytes d) (ha : acc.length = m) (hm : m ≤ 2) (hb : AllBytes acc) : InsAt14 w w.heap.size 1 (some ⟨ga, 0, none⟩) m m D dn c acc d := by
  subst hn
  obtain ⟨A', c', h1, h2, h3, h4, h5⟩ := own_form2 ho
  cases h1
  exact ⟨by have := hr.sees0; rwa [bv_length, ha] at this, ho.sees, hb, hd, ⟨Nat.le_refl _, by unfold maxLen; omega⟩, ⟨h3, h4⟩⟩
/-- systems.Do of two accounts, both of them signing -/
theorem do_some14 {V : World} {LA : Option Addr} {lc : Nat} {x y : LAcc} {gr ga b m : Nat} {D : Option Addr} {c dn : Nat} {d acc : List Int} (hl : AccsIn V V.heap.size LA 2 [x, y]) (hlc : 2 ≤ lc) (hrr : Row V gr 50 (b14C true)) (hr : Row V ga 5 (bv acc)) (ho : OwnB V b (.slice D dn c) d) (hn : d.length = dn) (hdn : dn ≤ 100) (hd : AllBytes d) (ha : acc.length = m) (hm : m ≤ 2) (hb : AllBytes acc) {R : Res14}
    (hR : do14 [x, y] (b14 true) acc d = R) :
    Calls Try.prog 12 #[.slice LA 2 lc, .slice (some ⟨gr, 0, none⟩) 2 2, .agg (insC 1 (some ⟨ga, 0, none⟩) m m D dn c).toArray] V fun e' w' => ∃ v, e' = .returned (.tuple #[v, .int .u64 R.n, .int .i64 R.e]) ∧ OA14 w' V.heap.size v R.l ∧ Below V.heap.size V w' := by
  have := sysDo14 [x, y] (b14 true) 1 (some ⟨ga, 0, none⟩) m m D dn c acc d LA 2 lc (some ⟨gr, 0, none⟩) 2 2 V.heap.size V hl hlc (b14_in hrr hrr.lt) (ins14_many hr ho hn hd ha hm hb) (Nat.le_refl _) (by omega) (by omega) (by omega)
  rw [hR] at this
  exact this
theorem wp_addB14 {o : Oper} {a : Act} {w : World} {K : Act → World → Prop} {Q : Exit → Act → World → Prop} (s x : Operand) (ho : o.op = .call { callee := .builtin .append, args := #[s, x], argTypes := #[24, 24] }) (base : Nat) (v : Value) (xs ys : List Int) (A : Option Addr) (n c B : Nat)
    (hs : a.eval s = v) (hown : OwnB w base v xs) (hx : a.eval x = .slice A n c) (hr : Sees w B A n (bv ys)) (hn : xs.length + n ≤ 100000) (hbase : base ≤ w.heap.size) (h : ∀ v' w', OwnB w' base v' (xs ++ ys) → Below base w w' → K (a.put o.dst v') w') : o.wp Try.prog a w K Q := by
  obtain ⟨i0, hi0, hi1, hi2, hi3⟩ := info_parts info_u8
  have hl := hr.len
  rw [bv_length] at hl
  refine wp_append_sees (v := v) (A := A) (c := c) s x ho Try.underlying24 hi0 hi1 hi2 hi3 rfl hs hown hx hr (bv_one _) (by unfold maxLen; omega) (by omega) hbase ?_
  intro v9 w9 h2 h3 h4
  have ho9 : OwnB w9 base v9 (xs ++ ys) := by
    unfold OwnB
    rw [List.length_append, hl, bv_append]
    exact h2
  have hg9 : Grew w w9 v v9 := ⟨h3, fun k hk => by
    rcases h4 with hat | hat
    · exact .inl (hat ▸ hk)
    · rw [hat] at hk
      cases hk
      exact .inr (Nat.le_refl _)⟩
  exact h _ _ ho9 (hg9.below hown hbase)
theorem wp_buildTwo14 {P : Program} {o : Oper} {a : Act} {w : World} {K : Act → World → Prop} {Q : Exit → Act → World → Prop} (t e : TypeId) (y y' : Operand) (ho : o.op = .buildSlice t 2 #[(0, y), (1, y')])
    (cs cs' : List Value) (z : Value) (size bytes : Nat) (hu : P.underlying t = some (.slice e)) (hi : (P.info? e).map (fun i => (i.zero, i.size, i.bytes)) = some (some z, size, bytes)) (hzs : z.cells.size = size) (hs0 : 0 < size) (hs1 : size ≤ 1000)
    (hcs : cs.length = size) (hcs' : cs'.length = size) (hy : a.eval y = .agg cs.toArray) (hy' : a.eval y' = .agg cs'.toArray)
    (h : K (a.put o.dst (.slice (some ⟨w.heap.size, 0, none⟩) 2 2)) (w.alloc (.cells (cs ++ cs').toArray e))) : o.wp P a w K Q := by
  obtain ⟨ie, hie, h1, h2, _⟩ := info_parts hi
  subst h2
  refine wp_buildSlice t e 2 _ ho (cs ++ cs').toArray ie z hu hie h1 (by omega) (by omega) ?_ h
  have := Go.Great.fill_whole (s := ie.size) hs0 [Value.agg cs.toArray, Value.agg cs'.toArray] ((Array.range (2 * ie.size)).map (z.cells[· % z.cells.size]!)) (by simp [Value.cells, hcs, hcs']) (by simp)
  simpa [hy, hy', Value.cells] using this
theorem built_c14 (z : Int) : Try.prog.built 48 [(0, .int .u64 z)] = some (LAcc.mk z key0 0).cells.toArray := by kernel_rfl
/-- what lies there: who pays, the owner, the instruction -/
structure MK14 (w V : World) (gp go gi ga bs : Nat) (x : LAcc) (o : List Int) (c s : Int) (D : Option Addr) (cD : Nat) : Prop where
  b : Below w.heap.size w V
  rp : Row V gp 48 x.cells
  ro : Row V go 46 (bv o)
  i : Row V gi 26 (insC 1 (some ⟨ga, 0, none⟩) 2 2 D 52 cD)
  a : Row V ga 5 (bv [0, 1])
  d : OwnB V bs (.slice D 52 cD) (mk14 c s o)
section
variable {w V V' : World} {gp go gi ga b : Nat} {x : LAcc} {o : List Int} {c s : Int} {D : Option Addr} {cD : Nat}
theorem MK14.below (h : MK14 w V gp go gi ga b x o c s D cD) (hb : Below V.heap.size V V') : MK14 w V' gp go gi ga b x o c s D cD := ⟨h.b.trans (hb.mono h.b.size), h.rp.below hb h.rp.lt, h.ro.below hb h.ro.lt, h.i.below hb h.i.lt, h.a.below hb h.a.lt, h.d.below hb⟩
theorem MK14.drewN (h : MK14 w V gp go gi ga b x o c s D cD) (n : Nat) : MK14 w (V.drewN n) gp go gi ga b x o c s D cD := h.below ⟨rfl, rfl, rfl, Nat.le_refl _, fun _ _ => rfl⟩
theorem MK14.drew (h : MK14 w V gp go gi ga b x o c s D cD) : MK14 w V.drew gp go gi ga b x o c s D cD := h.below ⟨rfl, rfl, rfl, Nat.le_refl _, fun _ _ => rfl⟩
theorem MK14.pc (h : MK14 w V gp go gi ga b x o c s D cD) : V.cell? ⟨gp, 0, none⟩ = some (.int .u64 x.c) := h.rp.cell 0
theorem MK14.ps (h : MK14 w V gp go gi ga b x o c s D cD) (hx : x.o.length = 32) : V.cell? ⟨gp, 33, none⟩ = some (.int .u64 x.s) := (h.rp.cell 33).trans (acc_s hx)
theorem MK14.po (h : MK14 w V gp go gi ga b x o c s D cD) : ∀ j u, (bv x.o)[j]? = some u → V.cell? ((⟨gp, 1, none⟩ : Addr).add j) = some u := fun j u hu => by
  rw [addr_row, h.rp.cell]
  exact acc_o hu
theorem MK14.pall (h : MK14 w V gp go gi ga b x o c s D cD) : ∀ j u, x.cells[j]? = some u → V.cell? ((⟨gp, 0, none⟩ : Addr).add j) = some u := fun j u hu => by
  rw [addr_row, h.rp.cell, Nat.zero_add]
  exact hu
theorem MK14.oall (h : MK14 w V gp go gi ga b x o c s D cD) : ∀ j u, (bv o)[j]? = some u → V.cell? ((⟨go, 0, none⟩ : Addr).add j) = some u := fun j u hu => by
  rw [addr_row, h.ro.cell, Nat.zero_add]
  exact hu
theorem MK14.iall (h : MK14 w V gp go gi ga b x o c s D cD) : ∀ j u, (insC 1 (some ⟨ga, 0, none⟩) 2 2 D 52 cD)[j]? = some u → V.cell? ((⟨gi, 0, none⟩ : Addr).add j) = some u := fun j u hu => by
  rw [addr_row, h.i.cell, Nat.zero_add]
  exact hu
end
theorem row_two14 {V : World} {g : Nat} {x y : LAcc} {rest : List Value} (h : Row V g 48 (x.cells ++ (y.cells ++ rest))) (hx : x.o.length = 32) : (∀ j u, x.cells[j]? = some u → V.cell? ((⟨g, 0, none⟩ : Addr).add j) = some u) ∧ (∀ j u, y.cells[j]? = some u → V.cell? ((⟨g, 34, none⟩ : Addr).add j) = some u) := by
  constructor
  · intro j u hu
    rw [addr_row, h.cell, Nat.zero_add, List.getElem?_append_left (List.getElem?_eq_some_iff.1 hu).1]
    exact hu
  · intro j u hu
    rw [addr_row, h.cell, List.getElem?_append_right (by rw [acc_len hx]; omega), acc_len hx, Nat.add_sub_cancel_left, List.getElem?_append_left (List.getElem?_eq_some_iff.1 hu).1]
    exact hu
theorem bytes_one14 {z : Int} (h : IsByte z) : AllBytes [z] := fun y hy => by
  rw [List.mem_singleton] at hy
  subst hy
  exact h
set_option maxHeartbeats 16000000 in
theorem make_owner14 (x : LAcc) (o : List Int) (c s : Int) (w : World) (hx : AccOk x) (hko : ¬ x.o = key0) (hc : 0 ≤ c ∧ c < 18446744073709551616) (hs : 0 ≤ s ∧ s < 18446744073709551616) (ho : o.length = 32 ∧ AllBytes o) : Calls Try.prog 6 #[.agg (x).cells.toArray, .agg #[.int .u64 c, .int .u64 s], .agg (bv o).toArray] w fun e w' => e = .returned (.bool true) ∧ Below w.heap.size w w' := by
  have HX := Lib.hid hx
  have HO := Lib.hid ho
  have HR : Hid (do14 [x, blank13] (b14 true) [0, 1] (mk14 c s o) = ⟨16, [], 0⟩) := Lib.hid ((do_k1 hc hs ho.1).trans (k1_owner (fun h => hko h.1)))
  have HML := Lib.hid (mk14_len c s ho.1)
  have HMB := Lib.hid (mk14_bytes c s ho.2)
  have HN0 := Lib.hid (fun V => number14_ 0 4 V (by omega) (by omega) (by omega))
  have HNC := Lib.hid (fun V => number14_ c 8 V hc.1 hc.2 (by omega))
  have HNS := Lib.hid (fun V => number14_ s 8 V hs.1 hs.2 (by omega))
  have HOK : Hid (∀ z ∈ [x, blank13], AccOk z) := Lib.hid (fun z hz => by
    simp only [List.mem_cons, List.not_mem_nil, or_false] at hz
    rcases hz with rfl | rfl
    · exact hx
    · exact blank_ok)
  have HK := Lib.hid hko
  have HC := Lib.hid hc
  have HS := Lib.hid hs
  clear hx ho hc hs
  have RP := Lib.hid (((Row.new w 48 (x).cells).alloc (.cells #[.int .u64 c, .int .u64 s] 54)).alloc (.cells (bv o).toArray 46))
  have RZ := Lib.hid ((Row.new' (w.alloc (.cells (x).cells.toArray 48)) 54 [.int .u64 c, .int .u64 s] (g := w.heap.size + 1) (by simp)).alloc (.cells (bv o).toArray 46))
  have RO := Lib.hid (Row.new' ((w.alloc (.cells (x).cells.toArray 48)).alloc (.cells #[.int .u64 c, .int .u64 s] 54)) 46 (bv o) (g := w.heap.size + 1 + 1) (by simp))
  have B0 := Lib.hid ((((Below.refl w.heap.size w).alloc (Nat.le_refl _) (.cells (x).cells.toArray 48)).alloc (by simp) (.cells #[.int .u64 c, .int .u64 s] 54)).alloc (by simp; omega) (.cells (bv o).toArray 46))
  obtain ⟨go, hgo⟩ : ∃ g, g = w.heap.size + 1 + 1 := ⟨_, rfl⟩
  obtain ⟨gz, hgz⟩ : ∃ g, g = w.heap.size + 1 := ⟨_, rfl⟩
  obtain ⟨gp, hgp⟩ : ∃ g, g = w.heap.size := ⟨_, rfl⟩
  have HGO : Hid (w.heap.size + 1 + 1 = go) := Lib.hid hgo.symm
  have HGZ : Hid (w.heap.size + 1 = gz) := Lib.hid hgz.symm
  have HGP : Hid (w.heap.size = gp) := Lib.hid hgp.symm
  rw [← hgo] at RO
  rw [← hgz] at RZ
  rw [← hgp] at RP
  clear hgo hgz hgp
  have RZ' : Hid (Row (((w.alloc (.cells (x).cells.toArray 48)).alloc (.cells #[.int .u64 c, .int .u64 s] 54)).alloc (.cells (bv o).toArray 46)) gz 54 [.int .u64 c, .int .u64 s]) := Lib.hid RZ.out
  clear RZ
  generalize hW : ((w.alloc (.cells (x).cells.toArray 48)).alloc (.cells #[.int .u64 c, .int .u64 s] 54)).alloc (.cells (bv o).toArray 46) = W at *
  have HW := Lib.hid hW
  clear hW
  go_enter Try.func6, Try.ntmps6
  go_upto_region 1 with fail
  try rw [HGO.out]
  try rw [HGZ.out]
  try rw [HGP.out]
  rw [HW.out]
  clear HW HGO HGZ HGP
  have cz0 : W.cell? ⟨gz, 0, none⟩ = some (.int .u64 c) := RZ'.out.cell 0
  have cz1 : W.cell? ⟨gz, 1, none⟩ = some (.int .u64 s) := RZ'.out.cell 1
  go_upto_region 3 with fail
  clear cz0 cz1 RZ'
  refine wp_region_held_drew (S := fun _ => True) (by kernel_rfl) trivial (fun _ => ?_)
  have RP := Lib.hid RP.out.drew
  have RO := Lib.hid RO.out.drew
  have B0 := Lib.hid B0.out.drew
  generalize W.drew = W1 at *
  refine takeL (i := 1) (v := ?_) rfl (by kernel_rfl) (by kernel_rfl) (by kernel_rfl) (fun _ _ _ h => h) (Or.inl ⟨by rfl, ?_⟩) trivial ?_
  rotate_left
  · intro w hw
    try dsimp only at hw
    go_simp
    try with_reducible rfl
  try simp only [Act.put, List.setIfInBounds_toArray, List.set_cons_zero, List.set_cons_succ]
  refine takeL (i := 4) (v := ?_) rfl (by kernel_rfl) (by kernel_rfl) (by kernel_rfl) (fun _ _ _ h => h) (Or.inl ⟨by rfl, ?_⟩) trivial ?_
  rotate_left
  · intro w hw
    try dsimp only at hw
    go_simp
    try with_reducible rfl
  try simp only [Act.put, List.setIfInBounds_toArray, List.set_cons_zero, List.set_cons_succ]
  refine takeL (i := 7) (v := ?_) rfl (by kernel_rfl) (by kernel_rfl) (by kernel_rfl) (fun _ _ _ h => h) (Or.inl ⟨by rfl, ?_⟩) trivial ?_
  rotate_left
  · intro w hw
    try dsimp only at hw
    go_simp
    try with_reducible rfl
  try simp only [Act.put, List.setIfInBounds_toArray, List.set_cons_zero, List.set_cons_succ]
  refine readyL (i := 0) rfl (by kernel_rfl) (by kernel_rfl) fun K hK => ?_
  go_simp
  refine (HN0.out W1).mono ?_
  rintro e w1 ⟨v1, rfl, ho1, hb1⟩
  have O1 := Lib.hid ho1
  have A1 := Lib.hid hb1
  clear ho1 hb1 HN0
  refine hK.out _ _ trivial ?_
  clear hK K
  try simp only [Act.put, List.setIfInBounds_toArray, List.set_cons_zero, List.set_cons_succ]
  refine readyL (i := 2) rfl (by kernel_rfl) (by kernel_rfl) fun K hK => ?_
  go_simp
  refine (HNC.out w1).mono ?_
  rintro e w2 ⟨v2, rfl, ho2, hb2⟩
  have O1 := Lib.hid (O1.out.below hb2)
  have A2 := Lib.hid (A1.out.trans (hb2.mono A1.out.size))
  obtain ⟨D2, c2, rfl⟩ := ho2.form
  have HSE := Lib.hid ho2.sees
  clear ho2 hb2 HNC A1
  refine hK.out _ _ trivial ?_
  clear hK K
  try simp only [Act.put, List.setIfInBounds_toArray, List.set_cons_zero, List.set_cons_succ]
  refine readyL (i := 3) rfl (by kernel_rfl) (by kernel_rfl) fun K hK => ?_
  refine wp_addB14 (.tmp 28) (.tmp 30) rfl W1.heap.size v1 (dig 0 4) (dig c 8) D2 (dig c 8).length c2 _ (by go_simp) O1.out (by go_simp) HSE.out (by rw [dig_len, dig_len]; omega) A2.out.size (fun v3 w3 ho3 hb3 => ?_)
  have O3 := Lib.hid ho3
  have A3 := Lib.hid (A2.out.trans hb3)
  clear ho3 hb3 O1 HSE A2
  refine hK.out _ _ trivial ?_
  clear hK K
  try simp only [Act.put, List.setIfInBounds_toArray, List.set_cons_zero, List.set_cons_succ]
  refine readyL (i := 5) rfl (by kernel_rfl) (by kernel_rfl) fun K hK => ?_
  go_simp
  refine (HNS.out w3).mono ?_
  rintro e w4 ⟨v4, rfl, ho4, hb4⟩
  have O3 := Lib.hid (O3.out.below hb4)
  have A4 := Lib.hid (A3.out.trans (hb4.mono A3.out.size))
  obtain ⟨D4, c4, rfl⟩ := ho4.form
  have HSE := Lib.hid ho4.sees
  clear ho4 hb4 HNS A3
  refine hK.out _ _ trivial ?_
  clear hK K
  try simp only [Act.put, List.setIfInBounds_toArray, List.set_cons_zero, List.set_cons_succ]
  refine readyL (i := 6) rfl (by kernel_rfl) (by kernel_rfl) fun K hK => ?_
  refine wp_addB14 (.tmp 31) (.tmp 33) rfl W1.heap.size v3 (dig 0 4 ++ dig c 8) (dig s 8) D4 (dig s 8).length c4 _ (by go_simp) O3.out (by go_simp) HSE.out (by rw [List.length_append, dig_len, dig_len, dig_len]; omega) A4.out.size (fun v5 w5 ho5 hb5 => ?_)
  have O5 := Lib.hid ho5
  have A5 := Lib.hid (A4.out.trans hb5)
  clear ho5 hb5 O3 HSE A4
  have HSO : Hid (Sees w5 w5.heap.size (some ⟨go, 0, none⟩) 32 (bv o)) := Lib.hid (by have := (RO.out.below A5.out RO.out.lt).sees0; rwa [bv_length, HO.out.1] at this)
  refine hK.out _ _ trivial ?_
  clear hK K
  try simp only [Act.put, List.setIfInBounds_toArray, List.set_cons_zero, List.set_cons_succ]
  refine readyL (i := 8) rfl (by kernel_rfl) (by kernel_rfl) fun K hK => ?_
  refine wp_addB14 (.tmp 34) (.tmp 35) rfl W1.heap.size v5 (dig 0 4 ++ dig c 8 ++ dig s 8) o (some ⟨go, 0, none⟩) 32 32 _ (by go_simp) O5.out (by go_simp) HSO.out (by rw [List.length_append, List.length_append, dig_len, dig_len, dig_len]; omega) A5.out.size (fun v6 w6 ho6 hb6 => ?_)
  have O6 : Hid (OwnB w6 W1.heap.size v6 (mk14 c s o)) := Lib.hid ho6
  have A6 := Lib.hid (A5.out.trans hb6)
  clear ho6 hb6 O5 HSO A5
  refine hK.out _ _ trivial ?_
  clear hK K
  try simp only [Act.put, List.setIfInBounds_toArray, List.set_cons_zero, List.set_cons_succ]
  refine takeL (i := 9) (v := ?_) rfl (by kernel_rfl) (by kernel_rfl) (by kernel_rfl) (fun _ _ _ h => h) (Or.inl ⟨by rfl, ?_⟩) trivial ?_
  rotate_left
  · intro w hw
    try dsimp only at hw
    go_simp
    try with_reducible rfl
  try simp only [Act.put, List.setIfInBounds_toArray, List.set_cons_zero, List.set_cons_succ]
  refine wpAnyH_done (by kernel_rfl) ?_ _
  obtain ⟨D, cD, hv6⟩ := O6.out.form
  rw [HML.out] at hv6
  subst hv6
  have RP6 := Lib.hid (RP.out.below A6.out RP.out.lt)
  have RO6 := Lib.hid (RO.out.below A6.out RO.out.lt)
  have B6 := Lib.hid (B0.out.trans (A6.out.mono B0.out.size))
  have RA := Lib.hid (Row.new w6 5 (bv [0, 1]))
  have BA := Lib.hid ((Below.refl w6.heap.size w6).alloc (Nat.le_refl _) (.cells (bv [0, 1]).toArray 5))
  clear RP RO A6 B0
  go_upto_region 5 with (first
    | ((with_reducible show wpList _ _ _ ({ dst := some 39, op := Op.build _ _, type := _, pos := _, after := _, guard := _ } :: _) _ _); go_must (refine wpList_plain rfl fun K hK => wp_built _ _ _ rfl (by simp only [List.map_toArray, List.map_cons, List.map_nil]; exact built_ins14 _ _ _ _ _ _ _) (hK _ _ ?_)))
    | ((with_reducible show wpList _ _ _ ({ dst := some 10, op := Op.alloc _, type := _, pos := _, after := _, guard := _ } :: _) _ _); go_must (refine wpList_alloc_zero rfl 26 rfl (insC 0 none 0 0 none 0 0) zero_ins14 ?_))
    | ((with_reducible show wpList _ _ _ ({ dst := none, op := Op.store 26 (.tmp 10) _, type := _, pos := _, after := _, guard := _ } :: _) _ _); go_must (refine wpList_store_new rfl 26 (.tmp 10) (.tmp 39) rfl (insC 1 (some ⟨w6.heap.size, 0, none⟩) 2 2 D 52 cD) (size_ins14 _ _ _ _ _ _ _) (ins14_one _ _ _ _ _ _ _) rfl ?_ ?_ ?_; go_simp; go_simp; intro w9 hr9 hb9 hz9)))
  obtain ⟨ga, hga⟩ : ∃ g, g = w6.heap.size := ⟨_, rfl⟩
  have RA' : Hid (Row (w6.alloc (.cells #[.int .u8 0, .int .u8 1] 5)) w6.heap.size 5 (bv [0, 1])) := Lib.hid RA.out
  have BA' : Hid (Below w6.heap.size w6 (w6.alloc (.cells #[.int .u8 0, .int .u8 1] 5))) := Lib.hid BA.out
  clear RA BA
  generalize w6.alloc (.cells #[.int .u8 0, .int .u8 1] 5) = w7 at *
  have hb8 : Below w6.heap.size w6 w9 := BA'.out.trans (hb9.mono BA'.out.size)
  have M9 := Lib.hid (MK14.mk (V := w9) (gi := w7.heap.size) (B6.out.trans (hb8.mono B6.out.size)) (RP6.out.below hb8 RP6.out.lt) (RO6.out.below hb8 RO6.out.lt) hr9 (RA'.out.below hb9 RA'.out.lt) (O6.out.below hb8))
  rw [← hga] at M9 ⊢
  obtain ⟨gi, hgi⟩ : ∃ g, g = w7.heap.size := ⟨_, rfl⟩
  rw [← hgi] at M9 ⊢
  clear hga hgi hb8 hr9 hb9 hz9 RA' BA' RP6 RO6 B6 O6
  generalize W1.heap.size = bs at *
  go_frame
  go_cut [11, 12, 13] (fun s11 s12 s13 wx => ∃ v, s11 = v ∧ s12 = .int .u64 0 ∧ s13 = .int .i64 16 ∧ MK14 w wx gp go gi ga bs (x) o c s D cD ∧ OA14 wx w.heap.size v [])
  case first =>
    refine wp_region_held_drew (S := fun V => MK14 w V gp go gi ga bs (x) o c s D cD) (by kernel_rfl) M9.out.drew (fun _ => ?_)
    have MD := Lib.hid M9.out.drew
    generalize w9.drew = wd at *
    clear M9
    refine takeL (i := 0) (v := .agg (x).cells.toArray) rfl (by kernel_rfl) (by kernel_rfl) (by kernel_rfl) (fun _ _ _ h => h) (Or.inl ⟨by rfl, fun wz hwz => exec_load_at wz 48 (.tmp 3) rfl ⟨gp, 0, none⟩ (x).cells _ Try.underlying48 rfl (size_acc HX.out.o.1) hwz.pall (by go_simp)⟩) MD.out ?_
    try simp only [Act.put, List.setIfInBounds_toArray, List.set_cons_zero, List.set_cons_succ]
    refine takeL (i := 1) (v := .agg blank13.cells.toArray) rfl (by kernel_rfl) (by kernel_rfl) (by kernel_rfl) (fun _ _ _ h => h) (Or.inl ⟨by rfl, fun wz hwz => exec_built wz _ _ _ rfl (by simp only [List.map_toArray, List.map_nil]; exact built_blank)⟩) MD.out ?_
    try simp only [Act.put, List.setIfInBounds_toArray, List.set_cons_zero, List.set_cons_succ]
    refine takeL (i := 4) (v := .agg (insC 1 (some ⟨ga, 0, none⟩) 2 2 D 52 cD).toArray) rfl (by kernel_rfl) (by kernel_rfl) (by kernel_rfl) (fun _ _ _ h => h) (Or.inl ⟨by rfl, fun wz hwz => exec_load_at wz 26 (.tmp 10) rfl ⟨gi, 0, none⟩ (insC 1 (some ⟨ga, 0, none⟩) 2 2 D 52 cD) _ Try.underlying26 rfl (size_ins14 _ _ _ _ _ _ _) hwz.iall (by go_simp)⟩) MD.out ?_
    try simp only [Act.put, List.setIfInBounds_toArray, List.set_cons_zero, List.set_cons_succ]
    refine readyL2 (i := 2) (j := 3) rfl rfl (by kernel_rfl) (by kernel_rfl) (by kernel_rfl) (fun K hK => ?_) (fun K hK => ?_)
    · refine wp_buildTwo14 22 48 (.tmp 41) (.tmp 42) rfl (x).cells blank13.cells _ 34 48 Try.underlying22 infoAc14 zszAc14 (by omega) (by omega) (acc_len HX.out.o.1) (acc_len (a := blank13) rfl) (by go_simp) (by go_simp) ?_
      have RL := Lib.hid (Row.new wd 48 ((x).cells ++ blank13.cells))
      have BL := Lib.hid ((Below.refl wd.heap.size wd).alloc (Nat.le_refl _) (.cells ((x).cells ++ blank13.cells).toArray 48))
      obtain ⟨gl, hgl⟩ : ∃ g, g = wd.heap.size := ⟨_, rfl⟩
      rw [← hgl] at RL ⊢
      clear hgl
      generalize wd.alloc (.cells ((x).cells ++ blank13.cells).toArray 48) = wl at *
      have ML := Lib.hid (MD.out.below BL.out)
      refine hK.out _ _ ML.out ?_
      clear hK K
      try simp only [Act.put, List.setIfInBounds_toArray, List.set_cons_zero, List.set_cons_succ]
      refine readyL (i := 3) rfl (by kernel_rfl) (by kernel_rfl) fun K hK => ?_
      go_simp
      refine (both14_ wl).mono ?_
      rintro e wr ⟨rfl, hrr, hbr⟩
      have RR := Lib.hid hrr
      have BR := Lib.hid hbr
      have MR := Lib.hid (ML.out.below hbr)
      obtain ⟨gr, hgr⟩ : ∃ g, g = wl.heap.size := ⟨_, rfl⟩
      rw [← hgr] at RR ⊢
      clear hrr hbr hgr
      have RL := Lib.hid (RL.out.below BR.out RL.out.lt)
      refine hK.out _ _ MR.out ?_
      clear hK K
      try simp only [Act.put, List.setIfInBounds_toArray, List.set_cons_zero, List.set_cons_succ]
      refine readyL (i := 5) rfl (by kernel_rfl) (by kernel_rfl) fun K hK => ?_
      go_simp
      refine (do_some14 (two_in RL.out HOK.out RL.out.lt) (Nat.le_refl _) RR.out MR.out.a MR.out.d HML.out (by decide) HMB.out rfl (by decide) (two_bytes (by unfold IsByte; omega) (by unfold IsByte; omega)) HR.out).mono ?_
      rintro e we ⟨va, rfl, hva, hbe⟩
      have ME := Lib.hid (MR.out.below hbe)
      have OE : Hid (OA14 we w.heap.size va []) := Lib.hid ⟨by obtain ⟨A, c, c', e, h1, h2, h3⟩ := hva.is; exact ⟨A, c, c', e, h1, h2, own_baseR h3 MR.out.b.size⟩, hva.ok⟩
      clear hva hbe
      refine hK.out _ _ ME.out ?_
      clear hK K
      try simp only []
      refine takeL (i := 6) (v := ?_) rfl (by kernel_rfl) (by kernel_rfl) (by kernel_rfl) (fun _ _ _ h => h) (Or.inl ⟨by rfl, ?_⟩) ME.out ?_
      rotate_left
      · intro w hw
        try dsimp only at hw
        go_simp
        try with_reducible rfl
      try simp only [Act.put, List.setIfInBounds_toArray, List.set_cons_zero, List.set_cons_succ]
      refine takeL (i := 7) (v := ?_) rfl (by kernel_rfl) (by kernel_rfl) (by kernel_rfl) (fun _ _ _ h => h) (Or.inl ⟨by rfl, ?_⟩) ME.out ?_
      rotate_left
      · intro w hw
        try dsimp only at hw
        go_simp
        try with_reducible rfl
      try simp only [Act.put, List.setIfInBounds_toArray, List.set_cons_zero, List.set_cons_succ]
      refine takeL (i := 8) (v := ?_) rfl (by kernel_rfl) (by kernel_rfl) (by kernel_rfl) (fun _ _ _ h => h) (Or.inl ⟨by rfl, ?_⟩) ME.out ?_
      rotate_left
      · intro w hw
        try dsimp only at hw
        go_simp
        try with_reducible rfl
      try simp only [Act.put, List.setIfInBounds_toArray, List.set_cons_zero, List.set_cons_succ]
      refine takeL (i := 9) (v := ?_) rfl (by kernel_rfl) (by kernel_rfl) (by kernel_rfl) (fun _ _ _ h => h) (Or.inl ⟨by rfl, ?_⟩) ME.out ?_
      rotate_left
      · intro w hw
        try dsimp only at hw
        go_simp
        try with_reducible rfl
      try simp only [Act.put, List.setIfInBounds_toArray, List.set_cons_zero, List.set_cons_succ]
      refine takeL (i := 10) (v := ?_) rfl (by kernel_rfl) (by kernel_rfl) (by kernel_rfl) (fun _ _ _ h => h) (Or.inl ⟨by rfl, ?_⟩) ME.out ?_
      rotate_left
      · intro w hw
        try dsimp only at hw
        go_simp
        try with_reducible rfl
      try simp only [Act.put, List.setIfInBounds_toArray, List.set_cons_zero, List.set_cons_succ]
      refine takeL (i := 11) (v := ?_) rfl (by kernel_rfl) (by kernel_rfl) (by kernel_rfl) (fun _ _ _ h => h) (Or.inl ⟨by rfl, ?_⟩) ME.out ?_
      rotate_left
      · intro w hw
        try dsimp only at hw
        go_simp
        try with_reducible rfl
      try simp only [Act.put, List.setIfInBounds_toArray, List.set_cons_zero, List.set_cons_succ]
      refine takeL (i := 12) (v := ?_) rfl (by kernel_rfl) (by kernel_rfl) (by kernel_rfl) (fun _ _ _ h => h) (Or.inl ⟨by rfl, ?_⟩) ME.out ?_
      rotate_left
      · intro w hw
        try dsimp only at hw
        go_simp
        try with_reducible rfl
      try simp only [Act.put, List.setIfInBounds_toArray, List.set_cons_zero, List.set_cons_succ]
      refine wpAnyH_done (by kernel_rfl) ?_ _
      go_wp2_with fail
      go_meet
      exact ⟨va, rfl, rfl, rfl, ME.out, OE.out⟩
    · go_simp
      refine (both14_ wd).mono ?_
      rintro e wr ⟨rfl, hrr, hbr⟩
      have RR := Lib.hid hrr
      have BR := Lib.hid hbr
      have MR := Lib.hid (MD.out.below hbr)
      obtain ⟨gr, hgr⟩ : ∃ g, g = wd.heap.size := ⟨_, rfl⟩
      rw [← hgr] at RR ⊢
      clear hrr hbr hgr
      refine hK.out _ _ MR.out ?_
      clear hK K
      try simp only [Act.put, List.setIfInBounds_toArray, List.set_cons_zero, List.set_cons_succ]
      refine readyL (i := 2) rfl (by kernel_rfl) (by kernel_rfl) fun K hK => ?_
      refine wp_buildTwo14 22 48 (.tmp 41) (.tmp 42) rfl (x).cells blank13.cells _ 34 48 Try.underlying22 infoAc14 zszAc14 (by omega) (by omega) (acc_len HX.out.o.1) (acc_len (a := blank13) rfl) (by go_simp) (by go_simp) ?_
      have RL := Lib.hid (Row.new wr 48 ((x).cells ++ blank13.cells))
      have BL := Lib.hid ((Below.refl wr.heap.size wr).alloc (Nat.le_refl _) (.cells ((x).cells ++ blank13.cells).toArray 48))
      obtain ⟨gl, hgl⟩ : ∃ g, g = wr.heap.size := ⟨_, rfl⟩
      rw [← hgl] at RL ⊢
      clear hgl
      generalize wr.alloc (.cells ((x).cells ++ blank13.cells).toArray 48) = wl at *
      have ML := Lib.hid (MR.out.below BL.out)
      have RR := Lib.hid (RR.out.below BL.out RR.out.lt)
      refine hK.out _ _ ML.out ?_
      clear hK K
      try simp only [Act.put, List.setIfInBounds_toArray, List.set_cons_zero, List.set_cons_succ]
      refine readyL (i := 5) rfl (by kernel_rfl) (by kernel_rfl) fun K hK => ?_
      go_simp
      refine (do_some14 (two_in RL.out HOK.out RL.out.lt) (Nat.le_refl _) RR.out ML.out.a ML.out.d HML.out (by decide) HMB.out rfl (by decide) (two_bytes (by unfold IsByte; omega) (by unfold IsByte; omega)) HR.out).mono ?_
      rintro e we ⟨va, rfl, hva, hbe⟩
      have ME := Lib.hid (ML.out.below hbe)
      have OE : Hid (OA14 we w.heap.size va []) := Lib.hid ⟨by obtain ⟨A, c, c', e, h1, h2, h3⟩ := hva.is; exact ⟨A, c, c', e, h1, h2, own_baseR h3 ML.out.b.size⟩, hva.ok⟩
      clear hva hbe
      refine hK.out _ _ ME.out ?_
      clear hK K
      try simp only []
      refine takeL (i := 6) (v := ?_) rfl (by kernel_rfl) (by kernel_rfl) (by kernel_rfl) (fun _ _ _ h => h) (Or.inl ⟨by rfl, ?_⟩) ME.out ?_
      rotate_left
      · intro w hw
        try dsimp only at hw
        go_simp
        try with_reducible rfl
      try simp only [Act.put, List.setIfInBounds_toArray, List.set_cons_zero, List.set_cons_succ]
      refine takeL (i := 7) (v := ?_) rfl (by kernel_rfl) (by kernel_rfl) (by kernel_rfl) (fun _ _ _ h => h) (Or.inl ⟨by rfl, ?_⟩) ME.out ?_
      rotate_left
      · intro w hw
        try dsimp only at hw
        go_simp
        try with_reducible rfl
      try simp only [Act.put, List.setIfInBounds_toArray, List.set_cons_zero, List.set_cons_succ]
      refine takeL (i := 8) (v := ?_) rfl (by kernel_rfl) (by kernel_rfl) (by kernel_rfl) (fun _ _ _ h => h) (Or.inl ⟨by rfl, ?_⟩) ME.out ?_
      rotate_left
      · intro w hw
        try dsimp only at hw
        go_simp
        try with_reducible rfl
      try simp only [Act.put, List.setIfInBounds_toArray, List.set_cons_zero, List.set_cons_succ]
      refine takeL (i := 9) (v := ?_) rfl (by kernel_rfl) (by kernel_rfl) (by kernel_rfl) (fun _ _ _ h => h) (Or.inl ⟨by rfl, ?_⟩) ME.out ?_
      rotate_left
      · intro w hw
        try dsimp only at hw
        go_simp
        try with_reducible rfl
      try simp only [Act.put, List.setIfInBounds_toArray, List.set_cons_zero, List.set_cons_succ]
      refine takeL (i := 10) (v := ?_) rfl (by kernel_rfl) (by kernel_rfl) (by kernel_rfl) (fun _ _ _ h => h) (Or.inl ⟨by rfl, ?_⟩) ME.out ?_
      rotate_left
      · intro w hw
        try dsimp only at hw
        go_simp
        try with_reducible rfl
      try simp only [Act.put, List.setIfInBounds_toArray, List.set_cons_zero, List.set_cons_succ]
      refine takeL (i := 11) (v := ?_) rfl (by kernel_rfl) (by kernel_rfl) (by kernel_rfl) (fun _ _ _ h => h) (Or.inl ⟨by rfl, ?_⟩) ME.out ?_
      rotate_left
      · intro w hw
        try dsimp only at hw
        go_simp
        try with_reducible rfl
      try simp only [Act.put, List.setIfInBounds_toArray, List.set_cons_zero, List.set_cons_succ]
      refine takeL (i := 12) (v := ?_) rfl (by kernel_rfl) (by kernel_rfl) (by kernel_rfl) (fun _ _ _ h => h) (Or.inl ⟨by rfl, ?_⟩) ME.out ?_
      rotate_left
      · intro w hw
        try dsimp only at hw
        go_simp
        try with_reducible rfl
      try simp only [Act.put, List.setIfInBounds_toArray, List.set_cons_zero, List.set_cons_succ]
      refine wpAnyH_done (by kernel_rfl) ?_ _
      go_wp2_with fail
      go_meet
      exact ⟨va, rfl, rfl, rfl, ME.out, OE.out⟩
  case rest =>
  obtain ⟨va, rfl, rfl, rfl, hm, hoa⟩ := hcut
  have M := Lib.hid hm
  have OA := Lib.hid hoa
  clear hm hoa M9
  rename World => wx
  have NK := fun w => key_eql HX.out.o.1 key0_ok.1 w
  rw [decide_eq_false HK.out] at NK
  have cpc := M.out.pc
  have cps := M.out.ps HX.out.o.1
  go_upto_region 7 with (first
    | ((with_reducible show wpList _ _ _ ({ dst := some 51, op := Op.load _ _, type := _, pos := _, after := _, guard := _ } :: _) _ _); go_must (refine wpList_load_at rfl 46 (.tmp 50) rfl ⟨gp, 1, none⟩ (bv (x).o) _ Try.underlying46 rfl (by rw [size_key, bv_length, HX.out.o.1]) M.out.po ?_ ?_; go_simp))
    | ((with_reducible show wpList _ _ _ ({ dst := some 52, op := Op.build _ _, type := _, pos := _, after := _, guard := _ } :: _) _ _); go_must (refine wpList_plain rfl fun K hK => wp_built _ _ _ rfl (by simp only [List.map_toArray, List.map_nil]; exact built_key14) (hK _ _ ?_))))
  clear cpc cps NK
  go_wp2_with fail
  refine (lives14_ _).mono ?_
  rintro e wl ⟨rfl, hbl⟩
  have BL := Lib.hid (M.out.b.trans (hbl.mono M.out.b.size))
  clear hbl
  go_wp2_with fail
  go_ret
  exact ⟨rfl, BL.out⟩
set_option maxHeartbeats 16000000 in
theorem make_space14 (x : LAcc) (o : List Int) (c s : Int) (w : World) (hx : AccOk x) (hko : x.o = key0) (hxs : ¬ x.s = 0) (hc : 0 ≤ c ∧ c < 18446744073709551616) (hs : 0 ≤ s ∧ s < 18446744073709551616) (ho : o.length = 32 ∧ AllBytes o) : Calls Try.prog 6 #[.agg (x).cells.toArray, .agg #[.int .u64 c, .int .u64 s], .agg (bv o).toArray] w fun e w' => e = .returned (.bool true) ∧ Below w.heap.size w w' := by
  have HX := Lib.hid hx
  have HO := Lib.hid ho
  have HR : Hid (do14 [x, blank13] (b14 true) [0, 1] (mk14 c s o) = ⟨16, [], 0⟩) := Lib.hid ((do_k1 hc hs ho.1).trans (k1_owner (fun h => hxs h.2)))
  have HML := Lib.hid (mk14_len c s ho.1)
  have HMB := Lib.hid (mk14_bytes c s ho.2)
  have HN0 := Lib.hid (fun V => number14_ 0 4 V (by omega) (by omega) (by omega))
  have HNC := Lib.hid (fun V => number14_ c 8 V hc.1 hc.2 (by omega))
  have HNS := Lib.hid (fun V => number14_ s 8 V hs.1 hs.2 (by omega))
  have HOK : Hid (∀ z ∈ [x, blank13], AccOk z) := Lib.hid (fun z hz => by
    simp only [List.mem_cons, List.not_mem_nil, or_false] at hz
    rcases hz with rfl | rfl
    · exact hx
    · exact blank_ok)
  have HK := Lib.hid hko
  clear hko
  have HC := Lib.hid hc
  have HS := Lib.hid hs
  clear hx ho hc hs
  have RP := Lib.hid (((Row.new w 48 (x).cells).alloc (.cells #[.int .u64 c, .int .u64 s] 54)).alloc (.cells (bv o).toArray 46))
  have RZ := Lib.hid ((Row.new' (w.alloc (.cells (x).cells.toArray 48)) 54 [.int .u64 c, .int .u64 s] (g := w.heap.size + 1) (by simp)).alloc (.cells (bv o).toArray 46))
  have RO := Lib.hid (Row.new' ((w.alloc (.cells (x).cells.toArray 48)).alloc (.cells #[.int .u64 c, .int .u64 s] 54)) 46 (bv o) (g := w.heap.size + 1 + 1) (by simp))
  have B0 := Lib.hid ((((Below.refl w.heap.size w).alloc (Nat.le_refl _) (.cells (x).cells.toArray 48)).alloc (by simp) (.cells #[.int .u64 c, .int .u64 s] 54)).alloc (by simp; omega) (.cells (bv o).toArray 46))
  obtain ⟨go, hgo⟩ : ∃ g, g = w.heap.size + 1 + 1 := ⟨_, rfl⟩
  obtain ⟨gz, hgz⟩ : ∃ g, g = w.heap.size + 1 := ⟨_, rfl⟩
  obtain ⟨gp, hgp⟩ : ∃ g, g = w.heap.size := ⟨_, rfl⟩
  have HGO : Hid (w.heap.size + 1 + 1 = go) := Lib.hid hgo.symm
  have HGZ : Hid (w.heap.size + 1 = gz) := Lib.hid hgz.symm
  have HGP : Hid (w.heap.size = gp) := Lib.hid hgp.symm
  rw [← hgo] at RO
  rw [← hgz] at RZ
  rw [← hgp] at RP
  clear hgo hgz hgp
  have RZ' : Hid (Row (((w.alloc (.cells (x).cells.toArray 48)).alloc (.cells #[.int .u64 c, .int .u64 s] 54)).alloc (.cells (bv o).toArray 46)) gz 54 [.int .u64 c, .int .u64 s]) := Lib.hid RZ.out
  clear RZ
  generalize hW : ((w.alloc (.cells (x).cells.toArray 48)).alloc (.cells #[.int .u64 c, .int .u64 s] 54)).alloc (.cells (bv o).toArray 46) = W at *
  have HW := Lib.hid hW
  clear hW
  go_enter Try.func6, Try.ntmps6
  go_upto_region 1 with fail
  try rw [HGO.out]
  try rw [HGZ.out]
  try rw [HGP.out]
  rw [HW.out]
  clear HW HGO HGZ HGP
  have cz0 : W.cell? ⟨gz, 0, none⟩ = some (.int .u64 c) := RZ'.out.cell 0
  have cz1 : W.cell? ⟨gz, 1, none⟩ = some (.int .u64 s) := RZ'.out.cell 1
  go_upto_region 3 with fail
  clear cz0 cz1 RZ'
  refine wp_region_held_drew (S := fun _ => True) (by kernel_rfl) trivial (fun _ => ?_)
  have RP := Lib.hid RP.out.drew
  have RO := Lib.hid RO.out.drew
  have B0 := Lib.hid B0.out.drew
  generalize W.drew = W1 at *
  refine takeL (i := 1) (v := ?_) rfl (by kernel_rfl) (by kernel_rfl) (by kernel_rfl) (fun _ _ _ h => h) (Or.inl ⟨by rfl, ?_⟩) trivial ?_
  rotate_left
  · intro w hw
    try dsimp only at hw
    go_simp
    try with_reducible rfl
  try simp only [Act.put, List.setIfInBounds_toArray, List.set_cons_zero, List.set_cons_succ]
  refine takeL (i := 4) (v := ?_) rfl (by kernel_rfl) (by kernel_rfl) (by kernel_rfl) (fun _ _ _ h => h) (Or.inl ⟨by rfl, ?_⟩) trivial ?_
  rotate_left
  · intro w hw
    try dsimp only at hw
    go_simp
    try with_reducible rfl
  try simp only [Act.put, List.setIfInBounds_toArray, List.set_cons_zero, List.set_cons_succ]
  refine takeL (i := 7) (v := ?_) rfl (by kernel_rfl) (by kernel_rfl) (by kernel_rfl) (fun _ _ _ h => h) (Or.inl ⟨by rfl, ?_⟩) trivial ?_
  rotate_left
  · intro w hw
    try dsimp only at hw
    go_simp
    try with_reducible rfl
  try simp only [Act.put, List.setIfInBounds_toArray, List.set_cons_zero, List.set_cons_succ]
  refine readyL (i := 0) rfl (by kernel_rfl) (by kernel_rfl) fun K hK => ?_
  go_simp
  refine (HN0.out W1).mono ?_
  rintro e w1 ⟨v1, rfl, ho1, hb1⟩
  have O1 := Lib.hid ho1
  have A1 := Lib.hid hb1
  clear ho1 hb1 HN0
  refine hK.out _ _ trivial ?_
  clear hK K
  try simp only [Act.put, List.setIfInBounds_toArray, List.set_cons_zero, List.set_cons_succ]
  refine readyL (i := 2) rfl (by kernel_rfl) (by kernel_rfl) fun K hK => ?_
  go_simp
  refine (HNC.out w1).mono ?_
  rintro e w2 ⟨v2, rfl, ho2, hb2⟩
  have O1 := Lib.hid (O1.out.below hb2)
  have A2 := Lib.hid (A1.out.trans (hb2.mono A1.out.size))
  obtain ⟨D2, c2, rfl⟩ := ho2.form
  have HSE := Lib.hid ho2.sees
  clear ho2 hb2 HNC A1
  refine hK.out _ _ trivial ?_
  clear hK K
  try simp only [Act.put, List.setIfInBounds_toArray, List.set_cons_zero, List.set_cons_succ]
  refine readyL (i := 3) rfl (by kernel_rfl) (by kernel_rfl) fun K hK => ?_
  refine wp_addB14 (.tmp 28) (.tmp 30) rfl W1.heap.size v1 (dig 0 4) (dig c 8) D2 (dig c 8).length c2 _ (by go_simp) O1.out (by go_simp) HSE.out (by rw [dig_len, dig_len]; omega) A2.out.size (fun v3 w3 ho3 hb3 => ?_)
  have O3 := Lib.hid ho3
  have A3 := Lib.hid (A2.out.trans hb3)
  clear ho3 hb3 O1 HSE A2
  refine hK.out _ _ trivial ?_
  clear hK K
  try simp only [Act.put, List.setIfInBounds_toArray, List.set_cons_zero, List.set_cons_succ]
  refine readyL (i := 5) rfl (by kernel_rfl) (by kernel_rfl) fun K hK => ?_
  go_simp
  refine (HNS.out w3).mono ?_
  rintro e w4 ⟨v4, rfl, ho4, hb4⟩
  have O3 := Lib.hid (O3.out.below hb4)
  have A4 := Lib.hid (A3.out.trans (hb4.mono A3.out.size))
  obtain ⟨D4, c4, rfl⟩ := ho4.form
  have HSE := Lib.hid ho4.sees
  clear ho4 hb4 HNS A3
  refine hK.out _ _ trivial ?_
  clear hK K
  try simp only [Act.put, List.setIfInBounds_toArray, List.set_cons_zero, List.set_cons_succ]
  refine readyL (i := 6) rfl (by kernel_rfl) (by kernel_rfl) fun K hK => ?_
  refine wp_addB14 (.tmp 31) (.tmp 33) rfl W1.heap.size v3 (dig 0 4 ++ dig c 8) (dig s 8) D4 (dig s 8).length c4 _ (by go_simp) O3.out (by go_simp) HSE.out (by rw [List.length_append, dig_len, dig_len, dig_len]; omega) A4.out.size (fun v5 w5 ho5 hb5 => ?_)
  have O5 := Lib.hid ho5
  have A5 := Lib.hid (A4.out.trans hb5)
  clear ho5 hb5 O3 HSE A4
  have HSO : Hid (Sees w5 w5.heap.size (some ⟨go, 0, none⟩) 32 (bv o)) := Lib.hid (by have := (RO.out.below A5.out RO.out.lt).sees0; rwa [bv_length, HO.out.1] at this)
  refine hK.out _ _ trivial ?_
  clear hK K
  try simp only [Act.put, List.setIfInBounds_toArray, List.set_cons_zero, List.set_cons_succ]
  refine readyL (i := 8) rfl (by kernel_rfl) (by kernel_rfl) fun K hK => ?_
  refine wp_addB14 (.tmp 34) (.tmp 35) rfl W1.heap.size v5 (dig 0 4 ++ dig c 8 ++ dig s 8) o (some ⟨go, 0, none⟩) 32 32 _ (by go_simp) O5.out (by go_simp) HSO.out (by rw [List.length_append, List.length_append, dig_len, dig_len, dig_len]; omega) A5.out.size (fun v6 w6 ho6 hb6 => ?_)
  have O6 : Hid (OwnB w6 W1.heap.size v6 (mk14 c s o)) := Lib.hid ho6
  have A6 := Lib.hid (A5.out.trans hb6)
  clear ho6 hb6 O5 HSO A5
  refine hK.out _ _ trivial ?_
  clear hK K
  try simp only [Act.put, List.setIfInBounds_toArray, List.set_cons_zero, List.set_cons_succ]
  refine takeL (i := 9) (v := ?_) rfl (by kernel_rfl) (by kernel_rfl) (by kernel_rfl) (fun _ _ _ h => h) (Or.inl ⟨by rfl, ?_⟩) trivial ?_
  rotate_left
  · intro w hw
    try dsimp only at hw
    go_simp
    try with_reducible rfl
  try simp only [Act.put, List.setIfInBounds_toArray, List.set_cons_zero, List.set_cons_succ]
  refine wpAnyH_done (by kernel_rfl) ?_ _
  obtain ⟨D, cD, hv6⟩ := O6.out.form
  rw [HML.out] at hv6
  subst hv6
  have RP6 := Lib.hid (RP.out.below A6.out RP.out.lt)
  have RO6 := Lib.hid (RO.out.below A6.out RO.out.lt)
  have B6 := Lib.hid (B0.out.trans (A6.out.mono B0.out.size))
  have RA := Lib.hid (Row.new w6 5 (bv [0, 1]))
  have BA := Lib.hid ((Below.refl w6.heap.size w6).alloc (Nat.le_refl _) (.cells (bv [0, 1]).toArray 5))
  clear RP RO A6 B0
  go_upto_region 5 with (first
    | ((with_reducible show wpList _ _ _ ({ dst := some 39, op := Op.build _ _, type := _, pos := _, after := _, guard := _ } :: _) _ _); go_must (refine wpList_plain rfl fun K hK => wp_built _ _ _ rfl (by simp only [List.map_toArray, List.map_cons, List.map_nil]; exact built_ins14 _ _ _ _ _ _ _) (hK _ _ ?_)))
    | ((with_reducible show wpList _ _ _ ({ dst := some 10, op := Op.alloc _, type := _, pos := _, after := _, guard := _ } :: _) _ _); go_must (refine wpList_alloc_zero rfl 26 rfl (insC 0 none 0 0 none 0 0) zero_ins14 ?_))
    | ((with_reducible show wpList _ _ _ ({ dst := none, op := Op.store 26 (.tmp 10) _, type := _, pos := _, after := _, guard := _ } :: _) _ _); go_must (refine wpList_store_new rfl 26 (.tmp 10) (.tmp 39) rfl (insC 1 (some ⟨w6.heap.size, 0, none⟩) 2 2 D 52 cD) (size_ins14 _ _ _ _ _ _ _) (ins14_one _ _ _ _ _ _ _) rfl ?_ ?_ ?_; go_simp; go_simp; intro w9 hr9 hb9 hz9)))
  obtain ⟨ga, hga⟩ : ∃ g, g = w6.heap.size := ⟨_, rfl⟩
  have RA' : Hid (Row (w6.alloc (.cells #[.int .u8 0, .int .u8 1] 5)) w6.heap.size 5 (bv [0, 1])) := Lib.hid RA.out
  have BA' : Hid (Below w6.heap.size w6 (w6.alloc (.cells #[.int .u8 0, .int .u8 1] 5))) := Lib.hid BA.out
  clear RA BA
  generalize w6.alloc (.cells #[.int .u8 0, .int .u8 1] 5) = w7 at *
  have hb8 : Below w6.heap.size w6 w9 := BA'.out.trans (hb9.mono BA'.out.size)
  have M9 := Lib.hid (MK14.mk (V := w9) (gi := w7.heap.size) (B6.out.trans (hb8.mono B6.out.size)) (RP6.out.below hb8 RP6.out.lt) (RO6.out.below hb8 RO6.out.lt) hr9 (RA'.out.below hb9 RA'.out.lt) (O6.out.below hb8))
  rw [← hga] at M9 ⊢
  obtain ⟨gi, hgi⟩ : ∃ g, g = w7.heap.size := ⟨_, rfl⟩
  rw [← hgi] at M9 ⊢
  clear hga hgi hb8 hr9 hb9 hz9 RA' BA' RP6 RO6 B6 O6
  generalize W1.heap.size = bs at *
  go_frame
  go_cut [11, 12, 13] (fun s11 s12 s13 wx => ∃ v, s11 = v ∧ s12 = .int .u64 0 ∧ s13 = .int .i64 16 ∧ MK14 w wx gp go gi ga bs (x) o c s D cD ∧ OA14 wx w.heap.size v [])
  case first =>
    refine wp_region_held_drew (S := fun V => MK14 w V gp go gi ga bs (x) o c s D cD) (by kernel_rfl) M9.out.drew (fun _ => ?_)
    have MD := Lib.hid M9.out.drew
    generalize w9.drew = wd at *
    clear M9
    refine takeL (i := 0) (v := .agg (x).cells.toArray) rfl (by kernel_rfl) (by kernel_rfl) (by kernel_rfl) (fun _ _ _ h => h) (Or.inl ⟨by rfl, fun wz hwz => exec_load_at wz 48 (.tmp 3) rfl ⟨gp, 0, none⟩ (x).cells _ Try.underlying48 rfl (size_acc HX.out.o.1) hwz.pall (by go_simp)⟩) MD.out ?_
    try simp only [Act.put, List.setIfInBounds_toArray, List.set_cons_zero, List.set_cons_succ]
    refine takeL (i := 1) (v := .agg blank13.cells.toArray) rfl (by kernel_rfl) (by kernel_rfl) (by kernel_rfl) (fun _ _ _ h => h) (Or.inl ⟨by rfl, fun wz hwz => exec_built wz _ _ _ rfl (by simp only [List.map_toArray, List.map_nil]; exact built_blank)⟩) MD.out ?_
    try simp only [Act.put, List.setIfInBounds_toArray, List.set_cons_zero, List.set_cons_succ]
    refine takeL (i := 4) (v := .agg (insC 1 (some ⟨ga, 0, none⟩) 2 2 D 52 cD).toArray) rfl (by kernel_rfl) (by kernel_rfl) (by kernel_rfl) (fun _ _ _ h => h) (Or.inl ⟨by rfl, fun wz hwz => exec_load_at wz 26 (.tmp 10) rfl ⟨gi, 0, none⟩ (insC 1 (some ⟨ga, 0, none⟩) 2 2 D 52 cD) _ Try.underlying26 rfl (size_ins14 _ _ _ _ _ _ _) hwz.iall (by go_simp)⟩) MD.out ?_
    try simp only [Act.put, List.setIfInBounds_toArray, List.set_cons_zero, List.set_cons_succ]
    refine readyL2 (i := 2) (j := 3) rfl rfl (by kernel_rfl) (by kernel_rfl) (by kernel_rfl) (fun K hK => ?_) (fun K hK => ?_)
    · refine wp_buildTwo14 22 48 (.tmp 41) (.tmp 42) rfl (x).cells blank13.cells _ 34 48 Try.underlying22 infoAc14 zszAc14 (by omega) (by omega) (acc_len HX.out.o.1) (acc_len (a := blank13) rfl) (by go_simp) (by go_simp) ?_
      have RL := Lib.hid (Row.new wd 48 ((x).cells ++ blank13.cells))
      have BL := Lib.hid ((Below.refl wd.heap.size wd).alloc (Nat.le_refl _) (.cells ((x).cells ++ blank13.cells).toArray 48))
      obtain ⟨gl, hgl⟩ : ∃ g, g = wd.heap.size := ⟨_, rfl⟩
      rw [← hgl] at RL ⊢
      clear hgl
      generalize wd.alloc (.cells ((x).cells ++ blank13.cells).toArray 48) = wl at *
      have ML := Lib.hid (MD.out.below BL.out)
      refine hK.out _ _ ML.out ?_
      clear hK K
      try simp only [Act.put, List.setIfInBounds_toArray, List.set_cons_zero, List.set_cons_succ]
      refine readyL (i := 3) rfl (by kernel_rfl) (by kernel_rfl) fun K hK => ?_
      go_simp
      refine (both14_ wl).mono ?_
      rintro e wr ⟨rfl, hrr, hbr⟩
      have RR := Lib.hid hrr
      have BR := Lib.hid hbr
      have MR := Lib.hid (ML.out.below hbr)
      obtain ⟨gr, hgr⟩ : ∃ g, g = wl.heap.size := ⟨_, rfl⟩
      rw [← hgr] at RR ⊢
      clear hrr hbr hgr
      have RL := Lib.hid (RL.out.below BR.out RL.out.lt)
      refine hK.out _ _ MR.out ?_
      clear hK K
      try simp only [Act.put, List.setIfInBounds_toArray, List.set_cons_zero, List.set_cons_succ]
      refine readyL (i := 5) rfl (by kernel_rfl) (by kernel_rfl) fun K hK => ?_
      go_simp
      refine (do_some14 (two_in RL.out HOK.out RL.out.lt) (Nat.le_refl _) RR.out MR.out.a MR.out.d HML.out (by decide) HMB.out rfl (by decide) (two_bytes (by unfold IsByte; omega) (by unfold IsByte; omega)) HR.out).mono ?_
      rintro e we ⟨va, rfl, hva, hbe⟩
      have ME := Lib.hid (MR.out.below hbe)
      have OE : Hid (OA14 we w.heap.size va []) := Lib.hid ⟨by obtain ⟨A, c, c', e, h1, h2, h3⟩ := hva.is; exact ⟨A, c, c', e, h1, h2, own_baseR h3 MR.out.b.size⟩, hva.ok⟩
      clear hva hbe
      refine hK.out _ _ ME.out ?_
      clear hK K
      try simp only []
      refine takeL (i := 6) (v := ?_) rfl (by kernel_rfl) (by kernel_rfl) (by kernel_rfl) (fun _ _ _ h => h) (Or.inl ⟨by rfl, ?_⟩) ME.out ?_
      rotate_left
      · intro w hw
        try dsimp only at hw
        go_simp
        try with_reducible rfl
      try simp only [Act.put, List.setIfInBounds_toArray, List.set_cons_zero, List.set_cons_succ]
      refine takeL (i := 7) (v := ?_) rfl (by kernel_rfl) (by kernel_rfl) (by kernel_rfl) (fun _ _ _ h => h) (Or.inl ⟨by rfl, ?_⟩) ME.out ?_
      rotate_left
      · intro w hw
        try dsimp only at hw
        go_simp
        try with_reducible rfl
      try simp only [Act.put, List.setIfInBounds_toArray, List.set_cons_zero, List.set_cons_succ]
      refine takeL (i := 8) (v := ?_) rfl (by kernel_rfl) (by kernel_rfl) (by kernel_rfl) (fun _ _ _ h => h) (Or.inl ⟨by rfl, ?_⟩) ME.out ?_
      rotate_left
      · intro w hw
        try dsimp only at hw
        go_simp
        try with_reducible rfl
      try simp only [Act.put, List.setIfInBounds_toArray, List.set_cons_zero, List.set_cons_succ]
      refine takeL (i := 9) (v := ?_) rfl (by kernel_rfl) (by kernel_rfl) (by kernel_rfl) (fun _ _ _ h => h) (Or.inl ⟨by rfl, ?_⟩) ME.out ?_
      rotate_left
      · intro w hw
        try dsimp only at hw
        go_simp
        try with_reducible rfl
      try simp only [Act.put, List.setIfInBounds_toArray, List.set_cons_zero, List.set_cons_succ]
      refine takeL (i := 10) (v := ?_) rfl (by kernel_rfl) (by kernel_rfl) (by kernel_rfl) (fun _ _ _ h => h) (Or.inl ⟨by rfl, ?_⟩) ME.out ?_
      rotate_left
      · intro w hw
        try dsimp only at hw
        go_simp
        try with_reducible rfl
      try simp only [Act.put, List.setIfInBounds_toArray, List.set_cons_zero, List.set_cons_succ]
      refine takeL (i := 11) (v := ?_) rfl (by kernel_rfl) (by kernel_rfl) (by kernel_rfl) (fun _ _ _ h => h) (Or.inl ⟨by rfl, ?_⟩) ME.out ?_
      rotate_left
      · intro w hw
        try dsimp only at hw
        go_simp
        try with_reducible rfl
      try simp only [Act.put, List.setIfInBounds_toArray, List.set_cons_zero, List.set_cons_succ]
      refine takeL (i := 12) (v := ?_) rfl (by kernel_rfl) (by kernel_rfl) (by kernel_rfl) (fun _ _ _ h => h) (Or.inl ⟨by rfl, ?_⟩) ME.out ?_
      rotate_left
      · intro w hw
        try dsimp only at hw
        go_simp
        try with_reducible rfl
      try simp only [Act.put, List.setIfInBounds_toArray, List.set_cons_zero, List.set_cons_succ]
      refine wpAnyH_done (by kernel_rfl) ?_ _
      go_wp2_with fail
      go_meet
      exact ⟨va, rfl, rfl, rfl, ME.out, OE.out⟩
    · go_simp
      refine (both14_ wd).mono ?_
      rintro e wr ⟨rfl, hrr, hbr⟩
      have RR := Lib.hid hrr
      have BR := Lib.hid hbr
      have MR := Lib.hid (MD.out.below hbr)
      obtain ⟨gr, hgr⟩ : ∃ g, g = wd.heap.size := ⟨_, rfl⟩
      rw [← hgr] at RR ⊢
      clear hrr hbr hgr
      refine hK.out _ _ MR.out ?_
      clear hK K
      try simp only [Act.put, List.setIfInBounds_toArray, List.set_cons_zero, List.set_cons_succ]
      refine readyL (i := 2) rfl (by kernel_rfl) (by kernel_rfl) fun K hK => ?_
      refine wp_buildTwo14 22 48 (.tmp 41) (.tmp 42) rfl (x).cells blank13.cells _ 34 48 Try.underlying22 infoAc14 zszAc14 (by omega) (by omega) (acc_len HX.out.o.1) (acc_len (a := blank13) rfl) (by go_simp) (by go_simp) ?_
      have RL := Lib.hid (Row.new wr 48 ((x).cells ++ blank13.cells))
      have BL := Lib.hid ((Below.refl wr.heap.size wr).alloc (Nat.le_refl _) (.cells ((x).cells ++ blank13.cells).toArray 48))
      obtain ⟨gl, hgl⟩ : ∃ g, g = wr.heap.size := ⟨_, rfl⟩
      rw [← hgl] at RL ⊢
      clear hgl
      generalize wr.alloc (.cells ((x).cells ++ blank13.cells).toArray 48) = wl at *
      have ML := Lib.hid (MR.out.below BL.out)
      have RR := Lib.hid (RR.out.below BL.out RR.out.lt)
      refine hK.out _ _ ML.out ?_
      clear hK K
      try simp only [Act.put, List.setIfInBounds_toArray, List.set_cons_zero, List.set_cons_succ]
      refine readyL (i := 5) rfl (by kernel_rfl) (by kernel_rfl) fun K hK => ?_
      go_simp
      refine (do_some14 (two_in RL.out HOK.out RL.out.lt) (Nat.le_refl _) RR.out ML.out.a ML.out.d HML.out (by decide) HMB.out rfl (by decide) (two_bytes (by unfold IsByte; omega) (by unfold IsByte; omega)) HR.out).mono ?_
      rintro e we ⟨va, rfl, hva, hbe⟩
      have ME := Lib.hid (ML.out.below hbe)
      have OE : Hid (OA14 we w.heap.size va []) := Lib.hid ⟨by obtain ⟨A, c, c', e, h1, h2, h3⟩ := hva.is; exact ⟨A, c, c', e, h1, h2, own_baseR h3 ML.out.b.size⟩, hva.ok⟩
      clear hva hbe
      refine hK.out _ _ ME.out ?_
      clear hK K
      try simp only []
      refine takeL (i := 6) (v := ?_) rfl (by kernel_rfl) (by kernel_rfl) (by kernel_rfl) (fun _ _ _ h => h) (Or.inl ⟨by rfl, ?_⟩) ME.out ?_
      rotate_left
      · intro w hw
        try dsimp only at hw
        go_simp
        try with_reducible rfl
      try simp only [Act.put, List.setIfInBounds_toArray, List.set_cons_zero, List.set_cons_succ]
      refine takeL (i := 7) (v := ?_) rfl (by kernel_rfl) (by kernel_rfl) (by kernel_rfl) (fun _ _ _ h => h) (Or.inl ⟨by rfl, ?_⟩) ME.out ?_
      rotate_left
      · intro w hw
        try dsimp only at hw
        go_simp
        try with_reducible rfl
      try simp only [Act.put, List.setIfInBounds_toArray, List.set_cons_zero, List.set_cons_succ]
      refine takeL (i := 8) (v := ?_) rfl (by kernel_rfl) (by kernel_rfl) (by kernel_rfl) (fun _ _ _ h => h) (Or.inl ⟨by rfl, ?_⟩) ME.out ?_
      rotate_left
      · intro w hw
        try dsimp only at hw
        go_simp
        try with_reducible rfl
      try simp only [Act.put, List.setIfInBounds_toArray, List.set_cons_zero, List.set_cons_succ]
      refine takeL (i := 9) (v := ?_) rfl (by kernel_rfl) (by kernel_rfl) (by kernel_rfl) (fun _ _ _ h => h) (Or.inl ⟨by rfl, ?_⟩) ME.out ?_
      rotate_left
      · intro w hw
        try dsimp only at hw
        go_simp
        try with_reducible rfl
      try simp only [Act.put, List.setIfInBounds_toArray, List.set_cons_zero, List.set_cons_succ]
      refine takeL (i := 10) (v := ?_) rfl (by kernel_rfl) (by kernel_rfl) (by kernel_rfl) (fun _ _ _ h => h) (Or.inl ⟨by rfl, ?_⟩) ME.out ?_
      rotate_left
      · intro w hw
        try dsimp only at hw
        go_simp
        try with_reducible rfl
      try simp only [Act.put, List.setIfInBounds_toArray, List.set_cons_zero, List.set_cons_succ]
      refine takeL (i := 11) (v := ?_) rfl (by kernel_rfl) (by kernel_rfl) (by kernel_rfl) (fun _ _ _ h => h) (Or.inl ⟨by rfl, ?_⟩) ME.out ?_
      rotate_left
      · intro w hw
        try dsimp only at hw
        go_simp
        try with_reducible rfl
      try simp only [Act.put, List.setIfInBounds_toArray, List.set_cons_zero, List.set_cons_succ]
      refine takeL (i := 12) (v := ?_) rfl (by kernel_rfl) (by kernel_rfl) (by kernel_rfl) (fun _ _ _ h => h) (Or.inl ⟨by rfl, ?_⟩) ME.out ?_
      rotate_left
      · intro w hw
        try dsimp only at hw
        go_simp
        try with_reducible rfl
      try simp only [Act.put, List.setIfInBounds_toArray, List.set_cons_zero, List.set_cons_succ]
      refine wpAnyH_done (by kernel_rfl) ?_ _
      go_wp2_with fail
      go_meet
      exact ⟨va, rfl, rfl, rfl, ME.out, OE.out⟩
  case rest =>
  obtain ⟨va, rfl, rfl, rfl, hm, hoa⟩ := hcut
  have M := Lib.hid hm
  have OA := Lib.hid hoa
  clear hm hoa M9
  rename World => wx
  have NK := fun w => key_eql HX.out.o.1 key0_ok.1 w
  rw [decide_eq_true HK.out] at NK
  have cpc := M.out.pc
  have cps := M.out.ps HX.out.o.1
  go_upto_region 7 with (first
    | ((with_reducible show wpList _ _ _ ({ dst := some 51, op := Op.load _ _, type := _, pos := _, after := _, guard := _ } :: _) _ _); go_must (refine wpList_load_at rfl 46 (.tmp 50) rfl ⟨gp, 1, none⟩ (bv (x).o) _ Try.underlying46 rfl (by rw [size_key, bv_length, HX.out.o.1]) M.out.po ?_ ?_; go_simp))
    | ((with_reducible show wpList _ _ _ ({ dst := some 52, op := Op.build _ _, type := _, pos := _, after := _, guard := _ } :: _) _ _); go_must (refine wpList_plain rfl fun K hK => wp_built _ _ _ rfl (by simp only [List.map_toArray, List.map_nil]; exact built_key14) (hK _ _ ?_))))
  clear cpc cps NK
  go_wp2_with fail
  refine (lives14_ _).mono ?_
  rintro e wl ⟨rfl, hbl⟩
  have BL := Lib.hid (M.out.b.trans (hbl.mono M.out.b.size))
  clear hbl
  go_wp2_with fail
  go_ret
  exact ⟨rfl, BL.out⟩
set_option maxHeartbeats 16000000 in
theorem make_limit14 (xc : Int) (o : List Int) (c s : Int) (w : World) (hx : AccOk (LAcc.mk xc key0 0)) (hl : 1048576 < s) (hc : 0 ≤ c ∧ c < 18446744073709551616) (hs : 0 ≤ s ∧ s < 18446744073709551616) (ho : o.length = 32 ∧ AllBytes o) : Calls Try.prog 6 #[.agg ((LAcc.mk xc key0 0)).cells.toArray, .agg #[.int .u64 c, .int .u64 s], .agg (bv o).toArray] w fun e w' => e = .returned (.bool true) ∧ Below w.heap.size w w' := by
  have HX := Lib.hid hx
  have HO := Lib.hid ho
  have HR : Hid (do14 [(LAcc.mk xc key0 0), blank13] (b14 true) [0, 1] (mk14 c s o) = ⟨3, [], 0⟩) := Lib.hid ((do_k1 hc hs ho.1).trans (k1_limit ⟨rfl, rfl⟩ hl))
  have HML := Lib.hid (mk14_len c s ho.1)
  have HMB := Lib.hid (mk14_bytes c s ho.2)
  have HN0 := Lib.hid (fun V => number14_ 0 4 V (by omega) (by omega) (by omega))
  have HNC := Lib.hid (fun V => number14_ c 8 V hc.1 hc.2 (by omega))
  have HNS := Lib.hid (fun V => number14_ s 8 V hs.1 hs.2 (by omega))
  have HOK : Hid (∀ z ∈ [(LAcc.mk xc key0 0), blank13], AccOk z) := Lib.hid (fun z hz => by
    simp only [List.mem_cons, List.not_mem_nil, or_false] at hz
    rcases hz with rfl | rfl
    · exact hx
    · exact blank_ok)
  have HK : Hid ((LAcc.mk xc key0 0).o = key0) := Lib.hid rfl
  have HC := Lib.hid hc
  have HS := Lib.hid hs
  clear hx ho hc hs
  have RP := Lib.hid (((Row.new w 48 ((LAcc.mk xc key0 0)).cells).alloc (.cells #[.int .u64 c, .int .u64 s] 54)).alloc (.cells (bv o).toArray 46))
  have RZ := Lib.hid ((Row.new' (w.alloc (.cells ((LAcc.mk xc key0 0)).cells.toArray 48)) 54 [.int .u64 c, .int .u64 s] (g := w.heap.size + 1) (by simp)).alloc (.cells (bv o).toArray 46))
  have RO := Lib.hid (Row.new' ((w.alloc (.cells ((LAcc.mk xc key0 0)).cells.toArray 48)).alloc (.cells #[.int .u64 c, .int .u64 s] 54)) 46 (bv o) (g := w.heap.size + 1 + 1) (by simp))
  have B0 := Lib.hid ((((Below.refl w.heap.size w).alloc (Nat.le_refl _) (.cells ((LAcc.mk xc key0 0)).cells.toArray 48)).alloc (by simp) (.cells #[.int .u64 c, .int .u64 s] 54)).alloc (by simp; omega) (.cells (bv o).toArray 46))
  obtain ⟨go, hgo⟩ : ∃ g, g = w.heap.size + 1 + 1 := ⟨_, rfl⟩
  obtain ⟨gz, hgz⟩ : ∃ g, g = w.heap.size + 1 := ⟨_, rfl⟩
  obtain ⟨gp, hgp⟩ : ∃ g, g = w.heap.size := ⟨_, rfl⟩
  have HGO : Hid (w.heap.size + 1 + 1 = go) := Lib.hid hgo.symm
  have HGZ : Hid (w.heap.size + 1 = gz) := Lib.hid hgz.symm
  have HGP : Hid (w.heap.size = gp) := Lib.hid hgp.symm
  rw [← hgo] at RO
  rw [← hgz] at RZ
  rw [← hgp] at RP
  clear hgo hgz hgp
  have RZ' : Hid (Row (((w.alloc (.cells ((LAcc.mk xc key0 0)).cells.toArray 48)).alloc (.cells #[.int .u64 c, .int .u64 s] 54)).alloc (.cells (bv o).toArray 46)) gz 54 [.int .u64 c, .int .u64 s]) := Lib.hid RZ.out
  clear RZ
  generalize hW : ((w.alloc (.cells ((LAcc.mk xc key0 0)).cells.toArray 48)).alloc (.cells #[.int .u64 c, .int .u64 s] 54)).alloc (.cells (bv o).toArray 46) = W at *
  have HW := Lib.hid hW
  clear hW
  go_enter Try.func6, Try.ntmps6
  go_upto_region 1 with fail
  try rw [HGO.out]
  try rw [HGZ.out]
  try rw [HGP.out]
  rw [HW.out]
  clear HW HGO HGZ HGP
  have cz0 : W.cell? ⟨gz, 0, none⟩ = some (.int .u64 c) := RZ'.out.cell 0
  have cz1 : W.cell? ⟨gz, 1, none⟩ = some (.int .u64 s) := RZ'.out.cell 1
  go_upto_region 3 with fail
  clear cz0 cz1 RZ'
  refine wp_region_held_drew (S := fun _ => True) (by kernel_rfl) trivial (fun _ => ?_)
  have RP := Lib.hid RP.out.drew
  have RO := Lib.hid RO.out.drew
  have B0 := Lib.hid B0.out.drew
  generalize W.drew = W1 at *
  refine takeL (i := 1) (v := ?_) rfl (by kernel_rfl) (by kernel_rfl) (by kernel_rfl) (fun _ _ _ h => h) (Or.inl ⟨by rfl, ?_⟩) trivial ?_
  rotate_left
  · intro w hw
    try dsimp only at hw
    go_simp
    try with_reducible rfl
  try simp only [Act.put, List.setIfInBounds_toArray, List.set_cons_zero, List.set_cons_succ]
  refine takeL (i := 4) (v := ?_) rfl (by kernel_rfl) (by kernel_rfl) (by kernel_rfl) (fun _ _ _ h => h) (Or.inl ⟨by rfl, ?_⟩) trivial ?_
  rotate_left
  · intro w hw
    try dsimp only at hw
    go_simp
    try with_reducible rfl
  try simp only [Act.put, List.setIfInBounds_toArray, List.set_cons_zero, List.set_cons_succ]
  refine takeL (i := 7) (v := ?_) rfl (by kernel_rfl) (by kernel_rfl) (by kernel_rfl) (fun _ _ _ h => h) (Or.inl ⟨by rfl, ?_⟩) trivial ?_
  rotate_left
  · intro w hw
    try dsimp only at hw
    go_simp
    try with_reducible rfl
  try simp only [Act.put, List.setIfInBounds_toArray, List.set_cons_zero, List.set_cons_succ]
  refine readyL (i := 0) rfl (by kernel_rfl) (by kernel_rfl) fun K hK => ?_
  go_simp
  refine (HN0.out W1).mono ?_
  rintro e w1 ⟨v1, rfl, ho1, hb1⟩
  have O1 := Lib.hid ho1
  have A1 := Lib.hid hb1
  clear ho1 hb1 HN0
  refine hK.out _ _ trivial ?_
  clear hK K
  try simp only [Act.put, List.setIfInBounds_toArray, List.set_cons_zero, List.set_cons_succ]
  refine readyL (i := 2) rfl (by kernel_rfl) (by kernel_rfl) fun K hK => ?_
  go_simp
  refine (HNC.out w1).mono ?_
  rintro e w2 ⟨v2, rfl, ho2, hb2⟩
  have O1 := Lib.hid (O1.out.below hb2)
  have A2 := Lib.hid (A1.out.trans (hb2.mono A1.out.size))
  obtain ⟨D2, c2, rfl⟩ := ho2.form
  have HSE := Lib.hid ho2.sees
  clear ho2 hb2 HNC A1
  refine hK.out _ _ trivial ?_
  clear hK K
  try simp only [Act.put, List.setIfInBounds_toArray, List.set_cons_zero, List.set_cons_succ]
  refine readyL (i := 3) rfl (by kernel_rfl) (by kernel_rfl) fun K hK => ?_
  refine wp_addB14 (.tmp 28) (.tmp 30) rfl W1.heap.size v1 (dig 0 4) (dig c 8) D2 (dig c 8).length c2 _ (by go_simp) O1.out (by go_simp) HSE.out (by rw [dig_len, dig_len]; omega) A2.out.size (fun v3 w3 ho3 hb3 => ?_)
  have O3 := Lib.hid ho3
  have A3 := Lib.hid (A2.out.trans hb3)
  clear ho3 hb3 O1 HSE A2
  refine hK.out _ _ trivial ?_
  clear hK K
  try simp only [Act.put, List.setIfInBounds_toArray, List.set_cons_zero, List.set_cons_succ]
  refine readyL (i := 5) rfl (by kernel_rfl) (by kernel_rfl) fun K hK => ?_
  go_simp
  refine (HNS.out w3).mono ?_
  rintro e w4 ⟨v4, rfl, ho4, hb4⟩
  have O3 := Lib.hid (O3.out.below hb4)
  have A4 := Lib.hid (A3.out.trans (hb4.mono A3.out.size))
  obtain ⟨D4, c4, rfl⟩ := ho4.form
  have HSE := Lib.hid ho4.sees
  clear ho4 hb4 HNS A3
  refine hK.out _ _ trivial ?_
  clear hK K
  try simp only [Act.put, List.setIfInBounds_toArray, List.set_cons_zero, List.set_cons_succ]
  refine readyL (i := 6) rfl (by kernel_rfl) (by kernel_rfl) fun K hK => ?_
  refine wp_addB14 (.tmp 31) (.tmp 33) rfl W1.heap.size v3 (dig 0 4 ++ dig c 8) (dig s 8) D4 (dig s 8).length c4 _ (by go_simp) O3.out (by go_simp) HSE.out (by rw [List.length_append, dig_len, dig_len, dig_len]; omega) A4.out.size (fun v5 w5 ho5 hb5 => ?_)
  have O5 := Lib.hid ho5
  have A5 := Lib.hid (A4.out.trans hb5)
  clear ho5 hb5 O3 HSE A4
  have HSO : Hid (Sees w5 w5.heap.size (some ⟨go, 0, none⟩) 32 (bv o)) := Lib.hid (by have := (RO.out.below A5.out RO.out.lt).sees0; rwa [bv_length, HO.out.1] at this)
  refine hK.out _ _ trivial ?_
  clear hK K
  try simp only [Act.put, List.setIfInBounds_toArray, List.set_cons_zero, List.set_cons_succ]
  refine readyL (i := 8) rfl (by kernel_rfl) (by kernel_rfl) fun K hK => ?_
  refine wp_addB14 (.tmp 34) (.tmp 35) rfl W1.heap.size v5 (dig 0 4 ++ dig c 8 ++ dig s 8) o (some ⟨go, 0, none⟩) 32 32 _ (by go_simp) O5.out (by go_simp) HSO.out (by rw [List.length_append, List.length_append, dig_len, dig_len, dig_len]; omega) A5.out.size (fun v6 w6 ho6 hb6 => ?_)
  have O6 : Hid (OwnB w6 W1.heap.size v6 (mk14 c s o)) := Lib.hid ho6
  have A6 := Lib.hid (A5.out.trans hb6)
  clear ho6 hb6 O5 HSO A5
  refine hK.out _ _ trivial ?_
  clear hK K
  try simp only [Act.put, List.setIfInBounds_toArray, List.set_cons_zero, List.set_cons_succ]
  refine takeL (i := 9) (v := ?_) rfl (by kernel_rfl) (by kernel_rfl) (by kernel_rfl) (fun _ _ _ h => h) (Or.inl ⟨by rfl, ?_⟩) trivial ?_
  rotate_left
  · intro w hw
    try dsimp only at hw
    go_simp
    try with_reducible rfl
  try simp only [Act.put, List.setIfInBounds_toArray, List.set_cons_zero, List.set_cons_succ]
  refine wpAnyH_done (by kernel_rfl) ?_ _
  obtain ⟨D, cD, hv6⟩ := O6.out.form
  rw [HML.out] at hv6
  subst hv6
  have RP6 := Lib.hid (RP.out.below A6.out RP.out.lt)
  have RO6 := Lib.hid (RO.out.below A6.out RO.out.lt)
  have B6 := Lib.hid (B0.out.trans (A6.out.mono B0.out.size))
  have RA := Lib.hid (Row.new w6 5 (bv [0, 1]))
  have BA := Lib.hid ((Below.refl w6.heap.size w6).alloc (Nat.le_refl _) (.cells (bv [0, 1]).toArray 5))
  clear RP RO A6 B0
  go_upto_region 5 with (first
    | ((with_reducible show wpList _ _ _ ({ dst := some 39, op := Op.build _ _, type := _, pos := _, after := _, guard := _ } :: _) _ _); go_must (refine wpList_plain rfl fun K hK => wp_built _ _ _ rfl (by simp only [List.map_toArray, List.map_cons, List.map_nil]; exact built_ins14 _ _ _ _ _ _ _) (hK _ _ ?_)))
    | ((with_reducible show wpList _ _ _ ({ dst := some 10, op := Op.alloc _, type := _, pos := _, after := _, guard := _ } :: _) _ _); go_must (refine wpList_alloc_zero rfl 26 rfl (insC 0 none 0 0 none 0 0) zero_ins14 ?_))
    | ((with_reducible show wpList _ _ _ ({ dst := none, op := Op.store 26 (.tmp 10) _, type := _, pos := _, after := _, guard := _ } :: _) _ _); go_must (refine wpList_store_new rfl 26 (.tmp 10) (.tmp 39) rfl (insC 1 (some ⟨w6.heap.size, 0, none⟩) 2 2 D 52 cD) (size_ins14 _ _ _ _ _ _ _) (ins14_one _ _ _ _ _ _ _) rfl ?_ ?_ ?_; go_simp; go_simp; intro w9 hr9 hb9 hz9)))
  obtain ⟨ga, hga⟩ : ∃ g, g = w6.heap.size := ⟨_, rfl⟩
  have RA' : Hid (Row (w6.alloc (.cells #[.int .u8 0, .int .u8 1] 5)) w6.heap.size 5 (bv [0, 1])) := Lib.hid RA.out
  have BA' : Hid (Below w6.heap.size w6 (w6.alloc (.cells #[.int .u8 0, .int .u8 1] 5))) := Lib.hid BA.out
  clear RA BA
  generalize w6.alloc (.cells #[.int .u8 0, .int .u8 1] 5) = w7 at *
  have hb8 : Below w6.heap.size w6 w9 := BA'.out.trans (hb9.mono BA'.out.size)
  have M9 := Lib.hid (MK14.mk (V := w9) (gi := w7.heap.size) (B6.out.trans (hb8.mono B6.out.size)) (RP6.out.below hb8 RP6.out.lt) (RO6.out.below hb8 RO6.out.lt) hr9 (RA'.out.below hb9 RA'.out.lt) (O6.out.below hb8))
  rw [← hga] at M9 ⊢
  obtain ⟨gi, hgi⟩ : ∃ g, g = w7.heap.size := ⟨_, rfl⟩
  rw [← hgi] at M9 ⊢
  clear hga hgi hb8 hr9 hb9 hz9 RA' BA' RP6 RO6 B6 O6
  generalize W1.heap.size = bs at *
  go_frame
  go_cut [11, 12, 13] (fun s11 s12 s13 wx => ∃ v, s11 = v ∧ s12 = .int .u64 0 ∧ s13 = .int .i64 3 ∧ MK14 w wx gp go gi ga bs ((LAcc.mk xc key0 0)) o c s D cD ∧ OA14 wx w.heap.size v [])
  case first =>
    refine wp_region_held_drew (S := fun V => MK14 w V gp go gi ga bs ((LAcc.mk xc key0 0)) o c s D cD) (by kernel_rfl) M9.out.drew (fun _ => ?_)
    have MD := Lib.hid M9.out.drew
    generalize w9.drew = wd at *
    clear M9
    refine takeL (i := 0) (v := .agg ((LAcc.mk xc key0 0)).cells.toArray) rfl (by kernel_rfl) (by kernel_rfl) (by kernel_rfl) (fun _ _ _ h => h) (Or.inl ⟨by rfl, fun wz hwz => exec_load_at wz 48 (.tmp 3) rfl ⟨gp, 0, none⟩ ((LAcc.mk xc key0 0)).cells _ Try.underlying48 rfl (size_acc HX.out.o.1) hwz.pall (by go_simp)⟩) MD.out ?_
    try simp only [Act.put, List.setIfInBounds_toArray, List.set_cons_zero, List.set_cons_succ]
    refine takeL (i := 1) (v := .agg blank13.cells.toArray) rfl (by kernel_rfl) (by kernel_rfl) (by kernel_rfl) (fun _ _ _ h => h) (Or.inl ⟨by rfl, fun wz hwz => exec_built wz _ _ _ rfl (by simp only [List.map_toArray, List.map_nil]; exact built_blank)⟩) MD.out ?_
    try simp only [Act.put, List.setIfInBounds_toArray, List.set_cons_zero, List.set_cons_succ]
    refine takeL (i := 4) (v := .agg (insC 1 (some ⟨ga, 0, none⟩) 2 2 D 52 cD).toArray) rfl (by kernel_rfl) (by kernel_rfl) (by kernel_rfl) (fun _ _ _ h => h) (Or.inl ⟨by rfl, fun wz hwz => exec_load_at wz 26 (.tmp 10) rfl ⟨gi, 0, none⟩ (insC 1 (some ⟨ga, 0, none⟩) 2 2 D 52 cD) _ Try.underlying26 rfl (size_ins14 _ _ _ _ _ _ _) hwz.iall (by go_simp)⟩) MD.out ?_
    try simp only [Act.put, List.setIfInBounds_toArray, List.set_cons_zero, List.set_cons_succ]
    refine readyL2 (i := 2) (j := 3) rfl rfl (by kernel_rfl) (by kernel_rfl) (by kernel_rfl) (fun K hK => ?_) (fun K hK => ?_)
    · refine wp_buildTwo14 22 48 (.tmp 41) (.tmp 42) rfl ((LAcc.mk xc key0 0)).cells blank13.cells _ 34 48 Try.underlying22 infoAc14 zszAc14 (by omega) (by omega) (acc_len HX.out.o.1) (acc_len (a := blank13) rfl) (by go_simp) (by go_simp) ?_
      have RL := Lib.hid (Row.new wd 48 (((LAcc.mk xc key0 0)).cells ++ blank13.cells))
      have BL := Lib.hid ((Below.refl wd.heap.size wd).alloc (Nat.le_refl _) (.cells (((LAcc.mk xc key0 0)).cells ++ blank13.cells).toArray 48))
      obtain ⟨gl, hgl⟩ : ∃ g, g = wd.heap.size := ⟨_, rfl⟩
      rw [← hgl] at RL ⊢
      clear hgl
      generalize wd.alloc (.cells (((LAcc.mk xc key0 0)).cells ++ blank13.cells).toArray 48) = wl at *
      have ML := Lib.hid (MD.out.below BL.out)
      refine hK.out _ _ ML.out ?_
      clear hK K
      try simp only [Act.put, List.setIfInBounds_toArray, List.set_cons_zero, List.set_cons_succ]
      refine readyL (i := 3) rfl (by kernel_rfl) (by kernel_rfl) fun K hK => ?_
      go_simp
      refine (both14_ wl).mono ?_
      rintro e wr ⟨rfl, hrr, hbr⟩
      have RR := Lib.hid hrr
      have BR := Lib.hid hbr
      have MR := Lib.hid (ML.out.below hbr)
      obtain ⟨gr, hgr⟩ : ∃ g, g = wl.heap.size := ⟨_, rfl⟩
      rw [← hgr] at RR ⊢
      clear hrr hbr hgr
      have RL := Lib.hid (RL.out.below BR.out RL.out.lt)
      refine hK.out _ _ MR.out ?_
      clear hK K
      try simp only [Act.put, List.setIfInBounds_toArray, List.set_cons_zero, List.set_cons_succ]
      refine readyL (i := 5) rfl (by kernel_rfl) (by kernel_rfl) fun K hK => ?_
      go_simp
      refine (do_some14 (two_in RL.out HOK.out RL.out.lt) (Nat.le_refl _) RR.out MR.out.a MR.out.d HML.out (by decide) HMB.out rfl (by decide) (two_bytes (by unfold IsByte; omega) (by unfold IsByte; omega)) HR.out).mono ?_
      rintro e we ⟨va, rfl, hva, hbe⟩
      have ME := Lib.hid (MR.out.below hbe)
      have OE : Hid (OA14 we w.heap.size va []) := Lib.hid ⟨by obtain ⟨A, c, c', e, h1, h2, h3⟩ := hva.is; exact ⟨A, c, c', e, h1, h2, own_baseR h3 MR.out.b.size⟩, hva.ok⟩
      clear hva hbe
      refine hK.out _ _ ME.out ?_
      clear hK K
      try simp only []
      refine takeL (i := 6) (v := ?_) rfl (by kernel_rfl) (by kernel_rfl) (by kernel_rfl) (fun _ _ _ h => h) (Or.inl ⟨by rfl, ?_⟩) ME.out ?_
      rotate_left
      · intro w hw
        try dsimp only at hw
        go_simp
        try with_reducible rfl
      try simp only [Act.put, List.setIfInBounds_toArray, List.set_cons_zero, List.set_cons_succ]
      refine takeL (i := 7) (v := ?_) rfl (by kernel_rfl) (by kernel_rfl) (by kernel_rfl) (fun _ _ _ h => h) (Or.inl ⟨by rfl, ?_⟩) ME.out ?_
      rotate_left
      · intro w hw
        try dsimp only at hw
        go_simp
        try with_reducible rfl
      try simp only [Act.put, List.setIfInBounds_toArray, List.set_cons_zero, List.set_cons_succ]
      refine takeL (i := 8) (v := ?_) rfl (by kernel_rfl) (by kernel_rfl) (by kernel_rfl) (fun _ _ _ h => h) (Or.inl ⟨by rfl, ?_⟩) ME.out ?_
      rotate_left
      · intro w hw
        try dsimp only at hw
        go_simp
        try with_reducible rfl
      try simp only [Act.put, List.setIfInBounds_toArray, List.set_cons_zero, List.set_cons_succ]
      refine takeL (i := 9) (v := ?_) rfl (by kernel_rfl) (by kernel_rfl) (by kernel_rfl) (fun _ _ _ h => h) (Or.inl ⟨by rfl, ?_⟩) ME.out ?_
      rotate_left
      · intro w hw
        try dsimp only at hw
        go_simp
        try with_reducible rfl
      try simp only [Act.put, List.setIfInBounds_toArray, List.set_cons_zero, List.set_cons_succ]
      refine takeL (i := 10) (v := ?_) rfl (by kernel_rfl) (by kernel_rfl) (by kernel_rfl) (fun _ _ _ h => h) (Or.inl ⟨by rfl, ?_⟩) ME.out ?_
      rotate_left
      · intro w hw
        try dsimp only at hw
        go_simp
        try with_reducible rfl
      try simp only [Act.put, List.setIfInBounds_toArray, List.set_cons_zero, List.set_cons_succ]
      refine takeL (i := 11) (v := ?_) rfl (by kernel_rfl) (by kernel_rfl) (by kernel_rfl) (fun _ _ _ h => h) (Or.inl ⟨by rfl, ?_⟩) ME.out ?_
      rotate_left
      · intro w hw
        try dsimp only at hw
        go_simp
        try with_reducible rfl
      try simp only [Act.put, List.setIfInBounds_toArray, List.set_cons_zero, List.set_cons_succ]
      refine takeL (i := 12) (v := ?_) rfl (by kernel_rfl) (by kernel_rfl) (by kernel_rfl) (fun _ _ _ h => h) (Or.inl ⟨by rfl, ?_⟩) ME.out ?_
      rotate_left
      · intro w hw
        try dsimp only at hw
        go_simp
        try with_reducible rfl
      try simp only [Act.put, List.setIfInBounds_toArray, List.set_cons_zero, List.set_cons_succ]
      refine wpAnyH_done (by kernel_rfl) ?_ _
      go_wp2_with fail
      go_meet
      exact ⟨va, rfl, rfl, rfl, ME.out, OE.out⟩
    · go_simp
      refine (both14_ wd).mono ?_
      rintro e wr ⟨rfl, hrr, hbr⟩
      have RR := Lib.hid hrr
      have BR := Lib.hid hbr
      have MR := Lib.hid (MD.out.below hbr)
      obtain ⟨gr, hgr⟩ : ∃ g, g = wd.heap.size := ⟨_, rfl⟩
      rw [← hgr] at RR ⊢
      clear hrr hbr hgr
      refine hK.out _ _ MR.out ?_
      clear hK K
      try simp only [Act.put, List.setIfInBounds_toArray, List.set_cons_zero, List.set_cons_succ]
      refine readyL (i := 2) rfl (by kernel_rfl) (by kernel_rfl) fun K hK => ?_
      refine wp_buildTwo14 22 48 (.tmp 41) (.tmp 42) rfl ((LAcc.mk xc key0 0)).cells blank13.cells _ 34 48 Try.underlying22 infoAc14 zszAc14 (by omega) (by omega) (acc_len HX.out.o.1) (acc_len (a := blank13) rfl) (by go_simp) (by go_simp) ?_
      have RL := Lib.hid (Row.new wr 48 (((LAcc.mk xc key0 0)).cells ++ blank13.cells))
      have BL := Lib.hid ((Below.refl wr.heap.size wr).alloc (Nat.le_refl _) (.cells (((LAcc.mk xc key0 0)).cells ++ blank13.cells).toArray 48))
      obtain ⟨gl, hgl⟩ : ∃ g, g = wr.heap.size := ⟨_, rfl⟩
      rw [← hgl] at RL ⊢
      clear hgl
      generalize wr.alloc (.cells (((LAcc.mk xc key0 0)).cells ++ blank13.cells).toArray 48) = wl at *
      have ML := Lib.hid (MR.out.below BL.out)
      have RR := Lib.hid (RR.out.below BL.out RR.out.lt)
      refine hK.out _ _ ML.out ?_
      clear hK K
      try simp only [Act.put, List.setIfInBounds_toArray, List.set_cons_zero, List.set_cons_succ]
      refine readyL (i := 5) rfl (by kernel_rfl) (by kernel_rfl) fun K hK => ?_
      go_simp
      refine (do_some14 (two_in RL.out HOK.out RL.out.lt) (Nat.le_refl _) RR.out ML.out.a ML.out.d HML.out (by decide) HMB.out rfl (by decide) (two_bytes (by unfold IsByte; omega) (by unfold IsByte; omega)) HR.out).mono ?_
      rintro e we ⟨va, rfl, hva, hbe⟩
      have ME := Lib.hid (ML.out.below hbe)
      have OE : Hid (OA14 we w.heap.size va []) := Lib.hid ⟨by obtain ⟨A, c, c', e, h1, h2, h3⟩ := hva.is; exact ⟨A, c, c', e, h1, h2, own_baseR h3 ML.out.b.size⟩, hva.ok⟩
      clear hva hbe
      refine hK.out _ _ ME.out ?_
      clear hK K
      try simp only []
      refine takeL (i := 6) (v := ?_) rfl (by kernel_rfl) (by kernel_rfl) (by kernel_rfl) (fun _ _ _ h => h) (Or.inl ⟨by rfl, ?_⟩) ME.out ?_
      rotate_left
      · intro w hw
        try dsimp only at hw
        go_simp
        try with_reducible rfl
      try simp only [Act.put, List.setIfInBounds_toArray, List.set_cons_zero, List.set_cons_succ]
      refine takeL (i := 7) (v := ?_) rfl (by kernel_rfl) (by kernel_rfl) (by kernel_rfl) (fun _ _ _ h => h) (Or.inl ⟨by rfl, ?_⟩) ME.out ?_
      rotate_left
      · intro w hw
        try dsimp only at hw
        go_simp
        try with_reducible rfl
      try simp only [Act.put, List.setIfInBounds_toArray, List.set_cons_zero, List.set_cons_succ]
      refine takeL (i := 8) (v := ?_) rfl (by kernel_rfl) (by kernel_rfl) (by kernel_rfl) (fun _ _ _ h => h) (Or.inl ⟨by rfl, ?_⟩) ME.out ?_
      rotate_left
      · intro w hw
        try dsimp only at hw
        go_simp
        try with_reducible rfl
      try simp only [Act.put, List.setIfInBounds_toArray, List.set_cons_zero, List.set_cons_succ]
      refine takeL (i := 9) (v := ?_) rfl (by kernel_rfl) (by kernel_rfl) (by kernel_rfl) (fun _ _ _ h => h) (Or.inl ⟨by rfl, ?_⟩) ME.out ?_
      rotate_left
      · intro w hw
        try dsimp only at hw
        go_simp
        try with_reducible rfl
      try simp only [Act.put, List.setIfInBounds_toArray, List.set_cons_zero, List.set_cons_succ]
      refine takeL (i := 10) (v := ?_) rfl (by kernel_rfl) (by kernel_rfl) (by kernel_rfl) (fun _ _ _ h => h) (Or.inl ⟨by rfl, ?_⟩) ME.out ?_
      rotate_left
      · intro w hw
        try dsimp only at hw
        go_simp
        try with_reducible rfl
      try simp only [Act.put, List.setIfInBounds_toArray, List.set_cons_zero, List.set_cons_succ]
      refine takeL (i := 11) (v := ?_) rfl (by kernel_rfl) (by kernel_rfl) (by kernel_rfl) (fun _ _ _ h => h) (Or.inl ⟨by rfl, ?_⟩) ME.out ?_
      rotate_left
      · intro w hw
        try dsimp only at hw
        go_simp
        try with_reducible rfl
      try simp only [Act.put, List.setIfInBounds_toArray, List.set_cons_zero, List.set_cons_succ]
      refine takeL (i := 12) (v := ?_) rfl (by kernel_rfl) (by kernel_rfl) (by kernel_rfl) (fun _ _ _ h => h) (Or.inl ⟨by rfl, ?_⟩) ME.out ?_
      rotate_left
      · intro w hw
        try dsimp only at hw
        go_simp
        try with_reducible rfl
      try simp only [Act.put, List.setIfInBounds_toArray, List.set_cons_zero, List.set_cons_succ]
      refine wpAnyH_done (by kernel_rfl) ?_ _
      go_wp2_with fail
      go_meet
      exact ⟨va, rfl, rfl, rfl, ME.out, OE.out⟩
  case rest =>
  obtain ⟨va, rfl, rfl, rfl, hm, hoa⟩ := hcut
  have M := Lib.hid hm
  have OA := Lib.hid hoa
  clear hm hoa M9
  rename World => wx
  have hl' : ¬ s ≤ 1048576 := by omega
  have NK := fun w => key_eql HX.out.o.1 key0_ok.1 w
  rw [decide_eq_true HK.out] at NK
  have cpc := M.out.pc
  have cps := M.out.ps HX.out.o.1
  go_upto_region 7 with (first
    | ((with_reducible show wpList _ _ _ ({ dst := some 51, op := Op.load _ _, type := _, pos := _, after := _, guard := _ } :: _) _ _); go_must (refine wpList_load_at rfl 46 (.tmp 50) rfl ⟨gp, 1, none⟩ (bv ((LAcc.mk xc key0 0)).o) _ Try.underlying46 rfl (by rw [size_key, bv_length, HX.out.o.1]) M.out.po ?_ ?_; go_simp))
    | ((with_reducible show wpList _ _ _ ({ dst := some 52, op := Op.build _ _, type := _, pos := _, after := _, guard := _ } :: _) _ _); go_must (refine wpList_plain rfl fun K hK => wp_built _ _ _ rfl (by simp only [List.map_toArray, List.map_nil]; exact built_key14) (hK _ _ ?_))))
  clear cpc cps NK
  go_wp2_with fail
  refine (lives14_ _).mono ?_
  rintro e wl ⟨rfl, hbl⟩
  have BL := Lib.hid (M.out.b.trans (hbl.mono M.out.b.size))
  clear hbl
  go_wp2_with fail
  go_ret
  exact ⟨rfl, BL.out⟩
set_option maxHeartbeats 16000000 in
theorem make_funds14 (xc : Int) (o : List Int) (c s : Int) (w : World) (hx : AccOk (LAcc.mk xc key0 0)) (hl : ¬ 1048576 < s) (hf : xc < c) (hc : 0 ≤ c ∧ c < 18446744073709551616) (hs : 0 ≤ s ∧ s < 18446744073709551616) (ho : o.length = 32 ∧ AllBytes o) : Calls Try.prog 6 #[.agg ((LAcc.mk xc key0 0)).cells.toArray, .agg #[.int .u64 c, .int .u64 s], .agg (bv o).toArray] w fun e w' => e = .returned (.bool true) ∧ Below w.heap.size w w' := by
  have HX := Lib.hid hx
  have HO := Lib.hid ho
  have HR : Hid (do14 [(LAcc.mk xc key0 0), blank13] (b14 true) [0, 1] (mk14 c s o) = ⟨17, [], 0⟩) := Lib.hid ((do_k1 hc hs ho.1).trans (k1_funds ⟨rfl, rfl⟩ hl hf))
  have HML := Lib.hid (mk14_len c s ho.1)
  have HMB := Lib.hid (mk14_bytes c s ho.2)
  have HN0 := Lib.hid (fun V => number14_ 0 4 V (by omega) (by omega) (by omega))
  have HNC := Lib.hid (fun V => number14_ c 8 V hc.1 hc.2 (by omega))
  have HNS := Lib.hid (fun V => number14_ s 8 V hs.1 hs.2 (by omega))
  have HOK : Hid (∀ z ∈ [(LAcc.mk xc key0 0), blank13], AccOk z) := Lib.hid (fun z hz => by
    simp only [List.mem_cons, List.not_mem_nil, or_false] at hz
    rcases hz with rfl | rfl
    · exact hx
    · exact blank_ok)
  have HK : Hid ((LAcc.mk xc key0 0).o = key0) := Lib.hid rfl
  have HC := Lib.hid hc
  have HS := Lib.hid hs
  clear hx ho hc hs
  have RP := Lib.hid (((Row.new w 48 ((LAcc.mk xc key0 0)).cells).alloc (.cells #[.int .u64 c, .int .u64 s] 54)).alloc (.cells (bv o).toArray 46))
  have RZ := Lib.hid ((Row.new' (w.alloc (.cells ((LAcc.mk xc key0 0)).cells.toArray 48)) 54 [.int .u64 c, .int .u64 s] (g := w.heap.size + 1) (by simp)).alloc (.cells (bv o).toArray 46))
  have RO := Lib.hid (Row.new' ((w.alloc (.cells ((LAcc.mk xc key0 0)).cells.toArray 48)).alloc (.cells #[.int .u64 c, .int .u64 s] 54)) 46 (bv o) (g := w.heap.size + 1 + 1) (by simp))
  have B0 := Lib.hid ((((Below.refl w.heap.size w).alloc (Nat.le_refl _) (.cells ((LAcc.mk xc key0 0)).cells.toArray 48)).alloc (by simp) (.cells #[.int .u64 c, .int .u64 s] 54)).alloc (by simp; omega) (.cells (bv o).toArray 46))
  obtain ⟨go, hgo⟩ : ∃ g, g = w.heap.size + 1 + 1 := ⟨_, rfl⟩
  obtain ⟨gz, hgz⟩ : ∃ g, g = w.heap.size + 1 := ⟨_, rfl⟩
  obtain ⟨gp, hgp⟩ : ∃ g, g = w.heap.size := ⟨_, rfl⟩
  have HGO : Hid (w.heap.size + 1 + 1 = go) := Lib.hid hgo.symm
  have HGZ : Hid (w.heap.size + 1 = gz) := Lib.hid hgz.symm
  have HGP : Hid (w.heap.size = gp) := Lib.hid hgp.symm
  rw [← hgo] at RO
  rw [← hgz] at RZ
  rw [← hgp] at RP
  clear hgo hgz hgp
  have RZ' : Hid (Row (((w.alloc (.cells ((LAcc.mk xc key0 0)).cells.toArray 48)).alloc (.cells #[.int .u64 c, .int .u64 s] 54)).alloc (.cells (bv o).toArray 46)) gz 54 [.int .u64 c, .int .u64 s]) := Lib.hid RZ.out
  clear RZ
  generalize hW : ((w.alloc (.cells ((LAcc.mk xc key0 0)).cells.toArray 48)).alloc (.cells #[.int .u64 c, .int .u64 s] 54)).alloc (.cells (bv o).toArray 46) = W at *
  have HW := Lib.hid hW
  clear hW
  go_enter Try.func6, Try.ntmps6
  go_upto_region 1 with fail
  try rw [HGO.out]
  try rw [HGZ.out]
  try rw [HGP.out]
  rw [HW.out]
  clear HW HGO HGZ HGP
  have cz0 : W.cell? ⟨gz, 0, none⟩ = some (.int .u64 c) := RZ'.out.cell 0
  have cz1 : W.cell? ⟨gz, 1, none⟩ = some (.int .u64 s) := RZ'.out.cell 1
  go_upto_region 3 with fail
  clear cz0 cz1 RZ'
  refine wp_region_held_drew (S := fun _ => True) (by kernel_rfl) trivial (fun _ => ?_)
  have RP := Lib.hid RP.out.drew
  have RO := Lib.hid RO.out.drew
  have B0 := Lib.hid B0.out.drew
  generalize W.drew = W1 at *
  refine takeL (i := 1) (v := ?_) rfl (by kernel_rfl) (by kernel_rfl) (by kernel_rfl) (fun _ _ _ h => h) (Or.inl ⟨by rfl, ?_⟩) trivial ?_
  rotate_left
  · intro w hw
    try dsimp only at hw
    go_simp
    try with_reducible rfl
  try simp only [Act.put, List.setIfInBounds_toArray, List.set_cons_zero, List.set_cons_succ]
  refine takeL (i := 4) (v := ?_) rfl (by kernel_rfl) (by kernel_rfl) (by kernel_rfl) (fun _ _ _ h => h) (Or.inl ⟨by rfl, ?_⟩) trivial ?_
  rotate_left
  · intro w hw
    try dsimp only at hw
    go_simp
    try with_reducible rfl
  try simp only [Act.put, List.setIfInBounds_toArray, List.set_cons_zero, List.set_cons_succ]
  refine takeL (i := 7) (v := ?_) rfl (by kernel_rfl) (by kernel_rfl) (by kernel_rfl) (fun _ _ _ h => h) (Or.inl ⟨by rfl, ?_⟩) trivial ?_
  rotate_left
  · intro w hw
    try dsimp only at hw
    go_simp
    try with_reducible rfl
  try simp only [Act.put, List.setIfInBounds_toArray, List.set_cons_zero, List.set_cons_succ]
  refine readyL (i := 0) rfl (by kernel_rfl) (by kernel_rfl) fun K hK => ?_
  go_simp
  refine (HN0.out W1).mono ?_
  rintro e w1 ⟨v1, rfl, ho1, hb1⟩
  have O1 := Lib.hid ho1
  have A1 := Lib.hid hb1
  clear ho1 hb1 HN0
  refine hK.out _ _ trivial ?_
  clear hK K
  try simp only [Act.put, List.setIfInBounds_toArray, List.set_cons_zero, List.set_cons_succ]
  refine readyL (i := 2) rfl (by kernel_rfl) (by kernel_rfl) fun K hK => ?_
  go_simp
  refine (HNC.out w1).mono ?_
  rintro e w2 ⟨v2, rfl, ho2, hb2⟩
  have O1 := Lib.hid (O1.out.below hb2)
  have A2 := Lib.hid (A1.out.trans (hb2.mono A1.out.size))
  obtain ⟨D2, c2, rfl⟩ := ho2.form
  have HSE := Lib.hid ho2.sees
  clear ho2 hb2 HNC A1
  refine hK.out _ _ trivial ?_
  clear hK K
  try simp only [Act.put, List.setIfInBounds_toArray, List.set_cons_zero, List.set_cons_succ]
  refine readyL (i := 3) rfl (by kernel_rfl) (by kernel_rfl) fun K hK => ?_
  refine wp_addB14 (.tmp 28) (.tmp 30) rfl W1.heap.size v1 (dig 0 4) (dig c 8) D2 (dig c 8).length c2 _ (by go_simp) O1.out (by go_simp) HSE.out (by rw [dig_len, dig_len]; omega) A2.out.size (fun v3 w3 ho3 hb3 => ?_)
  have O3 := Lib.hid ho3
  have A3 := Lib.hid (A2.out.trans hb3)
  clear ho3 hb3 O1 HSE A2
  refine hK.out _ _ trivial ?_
  clear hK K
  try simp only [Act.put, List.setIfInBounds_toArray, List.set_cons_zero, List.set_cons_succ]
  refine readyL (i := 5) rfl (by kernel_rfl) (by kernel_rfl) fun K hK => ?_
  go_simp
  refine (HNS.out w3).mono ?_
  rintro e w4 ⟨v4, rfl, ho4, hb4⟩
  have O3 := Lib.hid (O3.out.below hb4)
  have A4 := Lib.hid (A3.out.trans (hb4.mono A3.out.size))
  obtain ⟨D4, c4, rfl⟩ := ho4.form
  have HSE := Lib.hid ho4.sees
  clear ho4 hb4 HNS A3
  refine hK.out _ _ trivial ?_
  clear hK K
  try simp only [Act.put, List.setIfInBounds_toArray, List.set_cons_zero, List.set_cons_succ]
  refine readyL (i := 6) rfl (by kernel_rfl) (by kernel_rfl) fun K hK => ?_
  refine wp_addB14 (.tmp 31) (.tmp 33) rfl W1.heap.size v3 (dig 0 4 ++ dig c 8) (dig s 8) D4 (dig s 8).length c4 _ (by go_simp) O3.out (by go_simp) HSE.out (by rw [List.length_append, dig_len, dig_len, dig_len]; omega) A4.out.size (fun v5 w5 ho5 hb5 => ?_)
  have O5 := Lib.hid ho5
  have A5 := Lib.hid (A4.out.trans hb5)
  clear ho5 hb5 O3 HSE A4
  have HSO : Hid (Sees w5 w5.heap.size (some ⟨go, 0, none⟩) 32 (bv o)) := Lib.hid (by have := (RO.out.below A5.out RO.out.lt).sees0; rwa [bv_length, HO.out.1] at this)
  refine hK.out _ _ trivial ?_
  clear hK K
  try simp only [Act.put, List.setIfInBounds_toArray, List.set_cons_zero, List.set_cons_succ]
  refine readyL (i := 8) rfl (by kernel_rfl) (by kernel_rfl) fun K hK => ?_
  refine wp_addB14 (.tmp 34) (.tmp 35) rfl W1.heap.size v5 (dig 0 4 ++ dig c 8 ++ dig s 8) o (some ⟨go, 0, none⟩) 32 32 _ (by go_simp) O5.out (by go_simp) HSO.out (by rw [List.length_append, List.length_append, dig_len, dig_len, dig_len]; omega) A5.out.size (fun v6 w6 ho6 hb6 => ?_)
  have O6 : Hid (OwnB w6 W1.heap.size v6 (mk14 c s o)) := Lib.hid ho6
  have A6 := Lib.hid (A5.out.trans hb6)
  clear ho6 hb6 O5 HSO A5
  refine hK.out _ _ trivial ?_
  clear hK K
  try simp only [Act.put, List.setIfInBounds_toArray, List.set_cons_zero, List.set_cons_succ]
  refine takeL (i := 9) (v := ?_) rfl (by kernel_rfl) (by kernel_rfl) (by kernel_rfl) (fun _ _ _ h => h) (Or.inl ⟨by rfl, ?_⟩) trivial ?_
  rotate_left
  · intro w hw
    try dsimp only at hw
    go_simp
    try with_reducible rfl
  try simp only [Act.put, List.setIfInBounds_toArray, List.set_cons_zero, List.set_cons_succ]
  refine wpAnyH_done (by kernel_rfl) ?_ _
  obtain ⟨D, cD, hv6⟩ := O6.out.form
  rw [HML.out] at hv6
  subst hv6
  have RP6 := Lib.hid (RP.out.below A6.out RP.out.lt)
  have RO6 := Lib.hid (RO.out.below A6.out RO.out.lt)
  have B6 := Lib.hid (B0.out.trans (A6.out.mono B0.out.size))
  have RA := Lib.hid (Row.new w6 5 (bv [0, 1]))
  have BA := Lib.hid ((Below.refl w6.heap.size w6).alloc (Nat.le_refl _) (.cells (bv [0, 1]).toArray 5))
  clear RP RO A6 B0
  go_upto_region 5 with (first
    | ((with_reducible show wpList _ _ _ ({ dst := some 39, op := Op.build _ _, type := _, pos := _, after := _, guard := _ } :: _) _ _); go_must (refine wpList_plain rfl fun K hK => wp_built _ _ _ rfl (by simp only [List.map_toArray, List.map_cons, List.map_nil]; exact built_ins14 _ _ _ _ _ _ _) (hK _ _ ?_)))
    | ((with_reducible show wpList _ _ _ ({ dst := some 10, op := Op.alloc _, type := _, pos := _, after := _, guard := _ } :: _) _ _); go_must (refine wpList_alloc_zero rfl 26 rfl (insC 0 none 0 0 none 0 0) zero_ins14 ?_))
    | ((with_reducible show wpList _ _ _ ({ dst := none, op := Op.store 26 (.tmp 10) _, type := _, pos := _, after := _, guard := _ } :: _) _ _); go_must (refine wpList_store_new rfl 26 (.tmp 10) (.tmp 39) rfl (insC 1 (some ⟨w6.heap.size, 0, none⟩) 2 2 D 52 cD) (size_ins14 _ _ _ _ _ _ _) (ins14_one _ _ _ _ _ _ _) rfl ?_ ?_ ?_; go_simp; go_simp; intro w9 hr9 hb9 hz9)))
  obtain ⟨ga, hga⟩ : ∃ g, g = w6.heap.size := ⟨_, rfl⟩
  have RA' : Hid (Row (w6.alloc (.cells #[.int .u8 0, .int .u8 1] 5)) w6.heap.size 5 (bv [0, 1])) := Lib.hid RA.out
  have BA' : Hid (Below w6.heap.size w6 (w6.alloc (.cells #[.int .u8 0, .int .u8 1] 5))) := Lib.hid BA.out
  clear RA BA
  generalize w6.alloc (.cells #[.int .u8 0, .int .u8 1] 5) = w7 at *
  have hb8 : Below w6.heap.size w6 w9 := BA'.out.trans (hb9.mono BA'.out.size)
  have M9 := Lib.hid (MK14.mk (V := w9) (gi := w7.heap.size) (B6.out.trans (hb8.mono B6.out.size)) (RP6.out.below hb8 RP6.out.lt) (RO6.out.below hb8 RO6.out.lt) hr9 (RA'.out.below hb9 RA'.out.lt) (O6.out.below hb8))
  rw [← hga] at M9 ⊢
  obtain ⟨gi, hgi⟩ : ∃ g, g = w7.heap.size := ⟨_, rfl⟩
  rw [← hgi] at M9 ⊢
  clear hga hgi hb8 hr9 hb9 hz9 RA' BA' RP6 RO6 B6 O6
  generalize W1.heap.size = bs at *
  go_frame
  go_cut [11, 12, 13] (fun s11 s12 s13 wx => ∃ v, s11 = v ∧ s12 = .int .u64 0 ∧ s13 = .int .i64 17 ∧ MK14 w wx gp go gi ga bs ((LAcc.mk xc key0 0)) o c s D cD ∧ OA14 wx w.heap.size v [])
  case first =>
    refine wp_region_held_drew (S := fun V => MK14 w V gp go gi ga bs ((LAcc.mk xc key0 0)) o c s D cD) (by kernel_rfl) M9.out.drew (fun _ => ?_)
    have MD := Lib.hid M9.out.drew
    generalize w9.drew = wd at *
    clear M9
    refine takeL (i := 0) (v := .agg ((LAcc.mk xc key0 0)).cells.toArray) rfl (by kernel_rfl) (by kernel_rfl) (by kernel_rfl) (fun _ _ _ h => h) (Or.inl ⟨by rfl, fun wz hwz => exec_load_at wz 48 (.tmp 3) rfl ⟨gp, 0, none⟩ ((LAcc.mk xc key0 0)).cells _ Try.underlying48 rfl (size_acc HX.out.o.1) hwz.pall (by go_simp)⟩) MD.out ?_
    try simp only [Act.put, List.setIfInBounds_toArray, List.set_cons_zero, List.set_cons_succ]
    refine takeL (i := 1) (v := .agg blank13.cells.toArray) rfl (by kernel_rfl) (by kernel_rfl) (by kernel_rfl) (fun _ _ _ h => h) (Or.inl ⟨by rfl, fun wz hwz => exec_built wz _ _ _ rfl (by simp only [List.map_toArray, List.map_nil]; exact built_blank)⟩) MD.out ?_
    try simp only [Act.put, List.setIfInBounds_toArray, List.set_cons_zero, List.set_cons_succ]
    refine takeL (i := 4) (v := .agg (insC 1 (some ⟨ga, 0, none⟩) 2 2 D 52 cD).toArray) rfl (by kernel_rfl) (by kernel_rfl) (by kernel_rfl) (fun _ _ _ h => h) (Or.inl ⟨by rfl, fun wz hwz => exec_load_at wz 26 (.tmp 10) rfl ⟨gi, 0, none⟩ (insC 1 (some ⟨ga, 0, none⟩) 2 2 D 52 cD) _ Try.underlying26 rfl (size_ins14 _ _ _ _ _ _ _) hwz.iall (by go_simp)⟩) MD.out ?_
    try simp only [Act.put, List.setIfInBounds_toArray, List.set_cons_zero, List.set_cons_succ]
    refine readyL2 (i := 2) (j := 3) rfl rfl (by kernel_rfl) (by kernel_rfl) (by kernel_rfl) (fun K hK => ?_) (fun K hK => ?_)
    · refine wp_buildTwo14 22 48 (.tmp 41) (.tmp 42) rfl ((LAcc.mk xc key0 0)).cells blank13.cells _ 34 48 Try.underlying22 infoAc14 zszAc14 (by omega) (by omega) (acc_len HX.out.o.1) (acc_len (a := blank13) rfl) (by go_simp) (by go_simp) ?_
      have RL := Lib.hid (Row.new wd 48 (((LAcc.mk xc key0 0)).cells ++ blank13.cells))
      have BL := Lib.hid ((Below.refl wd.heap.size wd).alloc (Nat.le_refl _) (.cells (((LAcc.mk xc key0 0)).cells ++ blank13.cells).toArray 48))
      obtain ⟨gl, hgl⟩ : ∃ g, g = wd.heap.size := ⟨_, rfl⟩
      rw [← hgl] at RL ⊢
      clear hgl
      generalize wd.alloc (.cells (((LAcc.mk xc key0 0)).cells ++ blank13.cells).toArray 48) = wl at *
      have ML := Lib.hid (MD.out.below BL.out)
      refine hK.out _ _ ML.out ?_
      clear hK K
      try simp only [Act.put, List.setIfInBounds_toArray, List.set_cons_zero, List.set_cons_succ]
      refine readyL (i := 3) rfl (by kernel_rfl) (by kernel_rfl) fun K hK => ?_
      go_simp
      refine (both14_ wl).mono ?_
      rintro e wr ⟨rfl, hrr, hbr⟩
      have RR := Lib.hid hrr
      have BR := Lib.hid hbr
      have MR := Lib.hid (ML.out.below hbr)
      obtain ⟨gr, hgr⟩ : ∃ g, g = wl.heap.size := ⟨_, rfl⟩
      rw [← hgr] at RR ⊢
      clear hrr hbr hgr
      have RL := Lib.hid (RL.out.below BR.out RL.out.lt)
      refine hK.out _ _ MR.out ?_
      clear hK K
      try simp only [Act.put, List.setIfInBounds_toArray, List.set_cons_zero, List.set_cons_succ]
      refine readyL (i := 5) rfl (by kernel_rfl) (by kernel_rfl) fun K hK => ?_
      go_simp
      refine (do_some14 (two_in RL.out HOK.out RL.out.lt) (Nat.le_refl _) RR.out MR.out.a MR.out.d HML.out (by decide) HMB.out rfl (by decide) (two_bytes (by unfold IsByte; omega) (by unfold IsByte; omega)) HR.out).mono ?_
      rintro e we ⟨va, rfl, hva, hbe⟩
      have ME := Lib.hid (MR.out.below hbe)
      have OE : Hid (OA14 we w.heap.size va []) := Lib.hid ⟨by obtain ⟨A, c, c', e, h1, h2, h3⟩ := hva.is; exact ⟨A, c, c', e, h1, h2, own_baseR h3 MR.out.b.size⟩, hva.ok⟩
      clear hva hbe
      refine hK.out _ _ ME.out ?_
      clear hK K
      try simp only []
      refine takeL (i := 6) (v := ?_) rfl (by kernel_rfl) (by kernel_rfl) (by kernel_rfl) (fun _ _ _ h => h) (Or.inl ⟨by rfl, ?_⟩) ME.out ?_
      rotate_left
      · intro w hw
        try dsimp only at hw
        go_simp
        try with_reducible rfl
      try simp only [Act.put, List.setIfInBounds_toArray, List.set_cons_zero, List.set_cons_succ]
      refine takeL (i := 7) (v := ?_) rfl (by kernel_rfl) (by kernel_rfl) (by kernel_rfl) (fun _ _ _ h => h) (Or.inl ⟨by rfl, ?_⟩) ME.out ?_
      rotate_left
      · intro w hw
        try dsimp only at hw
        go_simp
        try with_reducible rfl
      try simp only [Act.put, List.setIfInBounds_toArray, List.set_cons_zero, List.set_cons_succ]
      refine takeL (i := 8) (v := ?_) rfl (by kernel_rfl) (by kernel_rfl) (by kernel_rfl) (fun _ _ _ h => h) (Or.inl ⟨by rfl, ?_⟩) ME.out ?_
      rotate_left
      · intro w hw
        try dsimp only at hw
        go_simp
        try with_reducible rfl
      try simp only [Act.put, List.setIfInBounds_toArray, List.set_cons_zero, List.set_cons_succ]
      refine takeL (i := 9) (v := ?_) rfl (by kernel_rfl) (by kernel_rfl) (by kernel_rfl) (fun _ _ _ h => h) (Or.inl ⟨by rfl, ?_⟩) ME.out ?_
      rotate_left
      · intro w hw
        try dsimp only at hw
        go_simp
        try with_reducible rfl
      try simp only [Act.put, List.setIfInBounds_toArray, List.set_cons_zero, List.set_cons_succ]
      refine takeL (i := 10) (v := ?_) rfl (by kernel_rfl) (by kernel_rfl) (by kernel_rfl) (fun _ _ _ h => h) (Or.inl ⟨by rfl, ?_⟩) ME.out ?_
      rotate_left
      · intro w hw
        try dsimp only at hw
        go_simp
        try with_reducible rfl
      try simp only [Act.put, List.setIfInBounds_toArray, List.set_cons_zero, List.set_cons_succ]
      refine takeL (i := 11) (v := ?_) rfl (by kernel_rfl) (by kernel_rfl) (by kernel_rfl) (fun _ _ _ h => h) (Or.inl ⟨by rfl, ?_⟩) ME.out ?_
      rotate_left
      · intro w hw
        try dsimp only at hw
        go_simp
        try with_reducible rfl
      try simp only [Act.put, List.setIfInBounds_toArray, List.set_cons_zero, List.set_cons_succ]
      refine takeL (i := 12) (v := ?_) rfl (by kernel_rfl) (by kernel_rfl) (by kernel_rfl) (fun _ _ _ h => h) (Or.inl ⟨by rfl, ?_⟩) ME.out ?_
      rotate_left
      · intro w hw
        try dsimp only at hw
        go_simp
        try with_reducible rfl
      try simp only [Act.put, List.setIfInBounds_toArray, List.set_cons_zero, List.set_cons_succ]
      refine wpAnyH_done (by kernel_rfl) ?_ _
      go_wp2_with fail
      go_meet
      exact ⟨va, rfl, rfl, rfl, ME.out, OE.out⟩
    · go_simp
      refine (both14_ wd).mono ?_
      rintro e wr ⟨rfl, hrr, hbr⟩
      have RR := Lib.hid hrr
      have BR := Lib.hid hbr
      have MR := Lib.hid (MD.out.below hbr)
      obtain ⟨gr, hgr⟩ : ∃ g, g = wd.heap.size := ⟨_, rfl⟩
      rw [← hgr] at RR ⊢
      clear hrr hbr hgr
      refine hK.out _ _ MR.out ?_
      clear hK K
      try simp only [Act.put, List.setIfInBounds_toArray, List.set_cons_zero, List.set_cons_succ]
      refine readyL (i := 2) rfl (by kernel_rfl) (by kernel_rfl) fun K hK => ?_
      refine wp_buildTwo14 22 48 (.tmp 41) (.tmp 42) rfl ((LAcc.mk xc key0 0)).cells blank13.cells _ 34 48 Try.underlying22 infoAc14 zszAc14 (by omega) (by omega) (acc_len HX.out.o.1) (acc_len (a := blank13) rfl) (by go_simp) (by go_simp) ?_
      have RL := Lib.hid (Row.new wr 48 (((LAcc.mk xc key0 0)).cells ++ blank13.cells))
      have BL := Lib.hid ((Below.refl wr.heap.size wr).alloc (Nat.le_refl _) (.cells (((LAcc.mk xc key0 0)).cells ++ blank13.cells).toArray 48))
      obtain ⟨gl, hgl⟩ : ∃ g, g = wr.heap.size := ⟨_, rfl⟩
      rw [← hgl] at RL ⊢
      clear hgl
      generalize wr.alloc (.cells (((LAcc.mk xc key0 0)).cells ++ blank13.cells).toArray 48) = wl at *
      have ML := Lib.hid (MR.out.below BL.out)
      have RR := Lib.hid (RR.out.below BL.out RR.out.lt)
      refine hK.out _ _ ML.out ?_
      clear hK K
      try simp only [Act.put, List.setIfInBounds_toArray, List.set_cons_zero, List.set_cons_succ]
      refine readyL (i := 5) rfl (by kernel_rfl) (by kernel_rfl) fun K hK => ?_
      go_simp
      refine (do_some14 (two_in RL.out HOK.out RL.out.lt) (Nat.le_refl _) RR.out ML.out.a ML.out.d HML.out (by decide) HMB.out rfl (by decide) (two_bytes (by unfold IsByte; omega) (by unfold IsByte; omega)) HR.out).mono ?_
      rintro e we ⟨va, rfl, hva, hbe⟩
      have ME := Lib.hid (ML.out.below hbe)
      have OE : Hid (OA14 we w.heap.size va []) := Lib.hid ⟨by obtain ⟨A, c, c', e, h1, h2, h3⟩ := hva.is; exact ⟨A, c, c', e, h1, h2, own_baseR h3 ML.out.b.size⟩, hva.ok⟩
      clear hva hbe
      refine hK.out _ _ ME.out ?_
      clear hK K
      try simp only []
      refine takeL (i := 6) (v := ?_) rfl (by kernel_rfl) (by kernel_rfl) (by kernel_rfl) (fun _ _ _ h => h) (Or.inl ⟨by rfl, ?_⟩) ME.out ?_
      rotate_left
      · intro w hw
        try dsimp only at hw
        go_simp
        try with_reducible rfl
      try simp only [Act.put, List.setIfInBounds_toArray, List.set_cons_zero, List.set_cons_succ]
      refine takeL (i := 7) (v := ?_) rfl (by kernel_rfl) (by kernel_rfl) (by kernel_rfl) (fun _ _ _ h => h) (Or.inl ⟨by rfl, ?_⟩) ME.out ?_
      rotate_left
      · intro w hw
        try dsimp only at hw
        go_simp
        try with_reducible rfl
      try simp only [Act.put, List.setIfInBounds_toArray, List.set_cons_zero, List.set_cons_succ]
      refine takeL (i := 8) (v := ?_) rfl (by kernel_rfl) (by kernel_rfl) (by kernel_rfl) (fun _ _ _ h => h) (Or.inl ⟨by rfl, ?_⟩) ME.out ?_
      rotate_left
      · intro w hw
        try dsimp only at hw
        go_simp
        try with_reducible rfl
      try simp only [Act.put, List.setIfInBounds_toArray, List.set_cons_zero, List.set_cons_succ]
      refine takeL (i := 9) (v := ?_) rfl (by kernel_rfl) (by kernel_rfl) (by kernel_rfl) (fun _ _ _ h => h) (Or.inl ⟨by rfl, ?_⟩) ME.out ?_
      rotate_left
      · intro w hw
        try dsimp only at hw
        go_simp
        try with_reducible rfl
      try simp only [Act.put, List.setIfInBounds_toArray, List.set_cons_zero, List.set_cons_succ]
      refine takeL (i := 10) (v := ?_) rfl (by kernel_rfl) (by kernel_rfl) (by kernel_rfl) (fun _ _ _ h => h) (Or.inl ⟨by rfl, ?_⟩) ME.out ?_
      rotate_left
      · intro w hw
        try dsimp only at hw
        go_simp
        try with_reducible rfl
      try simp only [Act.put, List.setIfInBounds_toArray, List.set_cons_zero, List.set_cons_succ]
      refine takeL (i := 11) (v := ?_) rfl (by kernel_rfl) (by kernel_rfl) (by kernel_rfl) (fun _ _ _ h => h) (Or.inl ⟨by rfl, ?_⟩) ME.out ?_
      rotate_left
      · intro w hw
        try dsimp only at hw
        go_simp
        try with_reducible rfl
      try simp only [Act.put, List.setIfInBounds_toArray, List.set_cons_zero, List.set_cons_succ]
      refine takeL (i := 12) (v := ?_) rfl (by kernel_rfl) (by kernel_rfl) (by kernel_rfl) (fun _ _ _ h => h) (Or.inl ⟨by rfl, ?_⟩) ME.out ?_
      rotate_left
      · intro w hw
        try dsimp only at hw
        go_simp
        try with_reducible rfl
      try simp only [Act.put, List.setIfInBounds_toArray, List.set_cons_zero, List.set_cons_succ]
      refine wpAnyH_done (by kernel_rfl) ?_ _
      go_wp2_with fail
      go_meet
      exact ⟨va, rfl, rfl, rfl, ME.out, OE.out⟩
  case rest =>
  obtain ⟨va, rfl, rfl, rfl, hm, hoa⟩ := hcut
  have M := Lib.hid hm
  have OA := Lib.hid hoa
  clear hm hoa M9
  rename World => wx
  have hl' : s ≤ 1048576 := by omega
  have hf' : ¬ c ≤ xc := by omega
  have NK := fun w => key_eql HX.out.o.1 key0_ok.1 w
  rw [decide_eq_true HK.out] at NK
  have cpc := M.out.pc
  have cps := M.out.ps HX.out.o.1
  go_upto_region 7 with (first
    | ((with_reducible show wpList _ _ _ ({ dst := some 51, op := Op.load _ _, type := _, pos := _, after := _, guard := _ } :: _) _ _); go_must (refine wpList_load_at rfl 46 (.tmp 50) rfl ⟨gp, 1, none⟩ (bv ((LAcc.mk xc key0 0)).o) _ Try.underlying46 rfl (by rw [size_key, bv_length, HX.out.o.1]) M.out.po ?_ ?_; go_simp))
    | ((with_reducible show wpList _ _ _ ({ dst := some 52, op := Op.build _ _, type := _, pos := _, after := _, guard := _ } :: _) _ _); go_must (refine wpList_plain rfl fun K hK => wp_built _ _ _ rfl (by simp only [List.map_toArray, List.map_nil]; exact built_key14) (hK _ _ ?_))))
  clear cpc cps NK
  go_wp2_with fail
  refine (lives14_ _).mono ?_
  rintro e wl ⟨rfl, hbl⟩
  have BL := Lib.hid (M.out.b.trans (hbl.mono M.out.b.size))
  clear hbl
  go_wp2_with fail
  go_ret
  exact ⟨rfl, BL.out⟩
end Go.Proofs.Ytodoaebpkmhhmaa

/-
  Of part MakeMem14: what is needed here.
-/
namespace Go.Proofs.Ytodoaebpkmhhmaa
open Go.RowKit
set_option linter.unusedVariables false
set_option maxRecDepth 100000
theorem acc_c34 {V : World} {g : Nat} {x y : LAcc} {rest : List Value} (h : Row V g 48 (x.cells ++ (y.cells ++ rest))) (hx : x.o.length = 32) : V.cell? ⟨g, 34, none⟩ = some (.int .u64 y.c) := by
  have := (row_two14 h hx).2 0 _ (acc_c y)
  rwa [addr_row] at this
theorem acc_s67 {V : World} {g : Nat} {x y : LAcc} {rest : List Value} (h : Row V g 48 (x.cells ++ (y.cells ++ rest))) (hx : x.o.length = 32) (hy : y.o.length = 32) : V.cell? ⟨g, 67, none⟩ = some (.int .u64 y.s) := by
  have := (row_two14 h hx).2 33 _ (acc_s hy)
  rwa [addr_row] at this
end Go.Proofs.Ytodoaebpkmhhmaa
