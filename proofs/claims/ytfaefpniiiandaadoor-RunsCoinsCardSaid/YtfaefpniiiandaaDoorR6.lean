/-
  Parts joined: SysDeeds14 SysMap14.
-/
import Derived.Below
import Derived.Laws.OwnMore
import Derived.Deep.AppendLies
import Derived.Deep.Draws
import Derived.Lib.Hide
import Derived.Laws.MakeOwn
import Derived.Laws.CopyOwn
import Derived.Laws.Rows
import Derived.Laws.BitsAllLaws
import Derived.WalkKit
import Derived.Test.YtfaefpniiiandaaDoorRows
import Derived.WalkSpells
import Derived.WalkLawsBesides
import Derived.IntWalk
import Derived.Deep.MidRow
import Derived.Deep.WholeRow
import Derived.Maps.AppendAt
import Derived.OwnWalk
import Derived.Great.BuildSlice
import Derived.Recover
import Derived.Deep.RegionHeld
import Derived.Deep.QuietTactic
import Derived.BigQuiet
import Derived.ChangeKeysEq
import Derived.Deep.RegionHeld2
import Derived.Deep.CutBlock
import Derived.Laws.Tables
import Derived.ProofKit
import Derived.OpenShut
import Derived.ShutString
import Derived.ChangeOld
import Derived.Lib.SmallJoins
import Derived.Deep.Slices
import Derived.Deep.Strs
import Derived.SizedLaws
import Derived.Laws.StructEq
import Derived.Laws.Slices
import Derived.Deep.DeepCutAuto
import Derived.Maps.OwnSet
import Derived.DeepKeys4
import Derived.WideKeyArr
import Derived.Laws.EntriesVeiled
import Derived.Deep.RegionHeld3
import Derived.WideKeyEntry
import Derived.WalkMore
import Derived.Maps.RangeWalk
import Derived.Shelf.SlMaps.Clone
import Derived.Laws.Append
import Derived.Laws.AppendOwn
import Derived.LaidMore
import Derived.Maps.OwnOps
import Derived.Test.YtfaefpniiiandaaDoorR1
import Derived.Test.YtfaefpniiiandaaDoorR2
import Derived.Test.YtfaefpniiiandaaDoorR3
import Derived.Test.YtfaefpniiiandaaDoorR4
import Derived.Test.YtfaefpniiiandaaDoorR5
/-
  Of part SysDeeds14: what is needed here.
-/
namespace Go.Proofs.YtfaefpniiiandaaDoor
open Go.RowKit
set_option linter.unusedVariables false
set_option maxRecDepth 100000
def wrkC (x : LAsk) (pa pb : Value) : List Value := askC x ++ [pa, pb]
theorem wrk_len {x : LAsk} (h : x.owner.length = 32) (pa pb : Value) : (wrkC x pa pb).length = 37 := by simp [wrkC, ask_len h]
theorem wrk_a {x : LAsk} (h : x.owner.length = 32) (pa pb : Value) : (wrkC x pa pb)[35]? = some pa := by
  unfold wrkC
  rw [List.getElem?_append_right (by rw [ask_len h]; omega), ask_len h]
  rfl
theorem wrk_b {x : LAsk} (h : x.owner.length = 32) (pa pb : Value) : (wrkC x pa pb)[36]? = some pb := by
  unfold wrkC
  rw [List.getElem?_append_right (by rw [ask_len h]; omega), ask_len h]
  rfl
theorem wrk_o {x : LAsk} (h : x.owner.length = 32) (pa pb : Value) {j : Nat} {u : Value} (hu : (bv x.owner)[j]? = some u) : (wrkC x pa pb)[3 + j]? = some u := by
  have hj := (List.getElem?_eq_some_iff.1 hu).1
  rw [bv_length, h] at hj
  unfold wrkC
  rw [List.getElem?_append_left (by rw [ask_len h]; omega), Nat.add_comm]
  exact hu
/-- what lies there while a deed is done: the accounts in block g, the work in block h -/
structure DS (V0 V : World) (base g h cap n : Nat) (rest : List Value) (x : LAsk) (pa pb : Value) (out : List LAcc) : Prop where
  b : But g V0 V
  o : OutAt V base g cap n rest out
  rh : Row V h 183 (wrkC x pa pb)
  ne : h ≠ g
  xo : x.owner.length = 32
section
variable {V0 V V' : World} {base g h cap n k : Nat} {rest : List Value} {x : LAsk} {pa pb : Value} {out : List LAcc}
theorem DS.below (d : DS V0 V base g h cap n rest x pa pb out) (hb : Below V.heap.size V V') : DS V0 V' base g h cap n rest x pa pb out :=
  ⟨d.b.trans (.of_below hb g), d.o.below hb, d.rh.below hb d.rh.lt, d.ne, d.xo⟩
theorem DS.drewN (d : DS V0 V base g h cap n rest x pa pb out) (q : Nat) : DS V0 (V.drewN q) base g h cap n rest x pa pb out :=
  ⟨d.b.trans ⟨rfl, rfl, rfl, Nat.le_refl _, fun _ _ _ => rfl⟩, ⟨d.o.row.drewN q, d.o.lo, d.o.len, d.o.room, d.o.all, d.o.ok⟩, d.rh.drewN q, d.ne, d.xo⟩
theorem DS.drew (d : DS V0 V base g h cap n rest x pa pb out) : DS V0 V.drew base g h cap n rest x pa pb out :=
  ⟨d.b.trans ⟨rfl, rfl, rfl, Nat.le_refl _, fun _ _ _ => rfl⟩, ⟨d.o.row.drew, d.o.lo, d.o.len, d.o.room, d.o.all, d.o.ok⟩, d.rh.drew, d.ne, d.xo⟩
theorem DS.part (d : DS V0 V base g h cap n rest x pa pb out) (hk : k < n) {o : Nat} {cs : List Value} {y : LAcc} (hy : AccOk y) (hc : (getA out k).cells.take o ++ cs ++ (getA out k).cells.drop (o + cs.length) = y.cells) (ho : o + cs.length ≤ 34)
    (hr : Row V' g 59 ((accsC out ++ rest).take (k * 34 + o) ++ cs ++ (accsC out ++ rest).drop (k * 34 + o + cs.length))) (ht : Turned V V' g) : DS V0 V' base g h cap n rest x pa pb (out.set k y) :=
  ⟨d.b.trans (.of_turned ht), d.o.part hk hy hc ho hr, ht.row d.rh d.ne, d.ne, d.xo⟩
theorem DS.one (d : DS V0 V base g h cap n rest x pa pb out) (hk : k < n) {o : Nat} {u : Value} {y : LAcc} (hy : AccOk y) (ho : o < 34) (hc : (getA out k).cells.set o u = y.cells) : DS V0 (V.setCell ⟨g, k * 34 + o, none⟩ u) base g h cap n rest x pa pb (out.set k y) :=
  ⟨d.b.trans (.of_turned (turned_setCell V ⟨g, k * 34 + o, none⟩ u)), d.o.one hk hy ho hc, (turned_setCell V ⟨g, k * 34 + o, none⟩ u).row d.rh d.ne, d.ne, d.xo⟩
theorem DS.c (d : DS V0 V base g h cap n rest x pa pb out) (hk : k < n) : V.cell? ⟨g, k * 34, none⟩ = some (.int .u64 (getA out k).c) := d.o.cell hk (acc_c _)
theorem DS.s (d : DS V0 V base g h cap n rest x pa pb out) (hk : k < n) : V.cell? ⟨g, k * 34 + 33, none⟩ = some (.int .u64 (getA out k).s) := d.o.cell hk (acc_s (getA_ok d.o.ok k).o.1)
theorem DS.own (d : DS V0 V base g h cap n rest x pa pb out) (hk : k < n) : ∀ j u, (bv (getA out k).o)[j]? = some u → V.cell? ((⟨g, k * 34 + 1, none⟩ : Addr).add j) = some u := fun j u hu => by
  rw [addr_row, Nat.add_assoc]
  exact d.o.cell hk (acc_o hu)
theorem DS.all (d : DS V0 V base g h cap n rest x pa pb out) (hk : k < n) : ∀ j u, (getA out k).cells[j]? = some u → V.cell? ((⟨g, k * 34, none⟩ : Addr).add j) = some u := fun j u hu => by
  rw [addr_row]
  exact d.o.cell hk hu
theorem DS.x1 (d : DS V0 V base g h cap n rest x pa pb out) : V.cell? ⟨h, 1, none⟩ = some (.int .u64 x.coins) := d.rh.cell 1
theorem DS.x2 (d : DS V0 V base g h cap n rest x pa pb out) : V.cell? ⟨h, 2, none⟩ = some (.int .u64 x.space) := d.rh.cell 2
theorem DS.ptrA (d : DS V0 V base g h cap n rest x pa pb out) : V.cell? ⟨h, 35, none⟩ = some pa := (d.rh.cell 35).trans (wrk_a d.xo _ _)
theorem DS.ptrB (d : DS V0 V base g h cap n rest x pa pb out) : V.cell? ⟨h, 36, none⟩ = some pb := (d.rh.cell 36).trans (wrk_b d.xo _ _)
theorem DS.fz (d : DS V0 V base g h cap n rest x pa pb out) (i : Nat) : V.frozen? ⟨g, i, none⟩ = false := d.o.row.frozen i
theorem DS.room (d : DS V0 V base g h cap n rest x pa pb out) (hk : k < n) : k * 34 + 34 ≤ (accsC out ++ rest).length := by
  rw [d.o.all]
  have := Nat.mul_le_mul_right 34 (show k + 1 ≤ cap from Nat.le_trans hk d.o.room.1)
  omega
end
theorem row_own14 {V : World} {h : Nat} {x : LAsk} {pa pb : Value} (hr : Row V h 183 (wrkC x pa pb)) (hx : x.owner.length = 32) : ∀ j u, (bv x.owner)[j]? = some u → V.cell? ((⟨h, 3, none⟩ : Addr).add j) = some u := fun j u hu => by
  rw [addr_row, hr.cell]
  have := wrk_o hx pa pb hu
  simpa [Nat.add_comm] using this
/-- what a deed leaves -/
def DeedDone (V0 : World) (base g h cap n : Nat) (rest : List Value) (x : LAsk) (pa pb : Value) (R : Res14) (e : Ending) (V' : World) : Prop :=
  e = .returned (.int .i64 R.e) ∧ ∃ out', DS V0 V' base g h cap n rest x pa pb out' ∧ (R.e = 0 → out' = R.l)
theorem deed_bad14 {V0 V' : World} {base g h cap n : Nat} {rest : List Value} {x : LAsk} {pa pb : Value} {R : Res14} {out : List LAcc} {v : Int} (hR : R = bad14 v) (hv : v ≠ 0) (d : DS V0 V' base g h cap n rest x pa pb out) : DeedDone V0 base g h cap n rest x pa pb R (.returned (.int .i64 v)) V' := by
  subst hR
  exact ⟨rfl, out, d, fun e => absurd e hv⟩
theorem deed_good14 {V0 V' : World} {base g h cap n : Nat} {rest : List Value} {x : LAsk} {pa pb : Value} {R : Res14} {out : List LAcc} {k : Int} (hR : R = ⟨0, out, k⟩) (d : DS V0 V' base g h cap n rest x pa pb out) : DeedDone V0 base g h cap n rest x pa pb R (.returned (.int .i64 0)) V' := by
  subst hR
  exact ⟨rfl, out, d, fun _ => rfl⟩
theorem built_own14 : Tryd.prog.built 59 [(1, .agg (bv k0).toArray)] = some blank13.cells.toArray := by kernel_rfl
/-- coins go: first from a, then to b, who may be a -/
theorem move_over14 {l : List LAcc} {x : LAsk} {a b : Nat} (hl : ∀ a ∈ l, AccOk a) (hx : AskOk x) (ha : a < l.length) (h1 : plain14 (getA l a)) (h2 : ¬ (getA l a).c < x.coins) (h3 : 18446744073709551615 - x.coins < (getA (l.set a ⟨(getA l a).c - x.coins, (getA l a).o, (getA l a).s⟩) b).c) : move14 l x a b = bad14 18 := by
  have oa := (getA_ok hl a).c
  have xc := hx.c
  rw [getA_set ha] at h3
  have hne : ¬ a = b := fun e => by
    rw [if_pos e.symm] at h3
    dsimp only at h3
    omega
  have q : ¬ b = a := fun e => hne e.symm
  rw [if_neg q] at h3
  unfold move14
  rw [if_neg (not_not_intro h1), if_neg h2, if_neg hne, if_pos h3]
theorem move_good14 {l : List LAcc} {x : LAsk} {a b : Nat} (hl : ∀ a ∈ l, AccOk a) (hx : AskOk x) (ha : a < l.length) (h1 : plain14 (getA l a)) (h2 : ¬ (getA l a).c < x.coins) (h3 : ¬ 18446744073709551615 - x.coins < (getA (l.set a ⟨(getA l a).c - x.coins, (getA l a).o, (getA l a).s⟩) b).c) :
    move14 l x a b = ⟨0, (l.set a ⟨(getA l a).c - x.coins, (getA l a).o, (getA l a).s⟩).set b ⟨(getA (l.set a ⟨(getA l a).c - x.coins, (getA l a).o, (getA l a).s⟩) b).c + x.coins, (getA (l.set a ⟨(getA l a).c - x.coins, (getA l a).o, (getA l a).s⟩) b).o, (getA (l.set a ⟨(getA l a).c - x.coins, (getA l a).o, (getA l a).s⟩) b).s⟩, 0⟩ := by
  rw [getA_set ha] at h3 ⊢
  unfold move14
  by_cases hab : a = b
  · subst hab
    rw [if_neg (not_not_intro h1), if_neg h2, if_pos rfl, if_pos rfl]
    congr 1
    rw [List.set_set]
    dsimp only
    have e : (⟨(getA l a).c - x.coins + x.coins, (getA l a).o, (getA l a).s⟩ : LAcc) = getA l a := by
      rw [Int.sub_add_cancel]
    rw [e]
    apply List.ext_getElem?
    intro i
    rw [List.getElem?_set]
    by_cases hi : a = i
    · subst hi
      rw [if_pos rfl, if_pos ha, getA_some ha]
    · rw [if_neg hi]
  · have q : ¬ b = a := fun e => hab e.symm
    rw [if_neg q] at h3 ⊢
    rw [if_neg (not_not_intro h1), if_neg h2, if_neg hab, if_neg h3]
set_option maxHeartbeats 8000000 in
theorem mk_there14 (base g h cap n : Nat) (rest : List Value) (x : LAsk) (hx : AskOk x) (a b : Nat) (pa pb : Value) (l : List LAcc) (V : World) (hd : DS V V base g h cap n rest x pa pb l) (ha : a < n) (hpa : pa = .pointer (some ⟨g, a * 34, none⟩)) (hb : b < n) (hpb : pb = .pointer (some ⟨g, b * 34, none⟩)) (h1 : getA l b ≠ blank13) :
    Calls Tryd.prog 83 #[.pointer (some ⟨h, 0, none⟩)] V (DeedDone V base g h cap n rest x pa pb (make14 l x a b)) := by
  have HX := Lib.hid hx
  have HA := Lib.hid ha
  have P := Lib.hid hd
  have HD : Hid (make14 l x a b = bad14 12) := Lib.hid (by
    unfold make14
    rw [if_pos h1])
  have HB := Lib.hid hb
  subst hpb
  clear hb
  subst hpa
  clear hd hx ha
  have NE := Lib.hid (fun w => acc_neq (getA_ok P.out.o.ok b).o.1 (show blank13.o.length = 32 from rfl) w)
  rw [decide_eq_false h1] at NE
  clear h1
  go_enter Tryd.func83, Tryd.ntmps83
  go_upto_region 1 with fail
  refine wp_region_held_drew (S := (fun V2 => DS V V2 base g h cap n rest x (.pointer (some ⟨g, a * 34, none⟩)) (.pointer (some ⟨g, b * 34, none⟩)) l)) (by kernel_rfl) P.out.drew (fun _ => ?_)
  refine takeL (i := 0) (v := ?_) rfl (by kernel_rfl) (by kernel_rfl) (by kernel_rfl) (fun _ _ _ h => h) (Or.inl ⟨by rfl, ?_⟩) P.out.drew ?_
  rotate_left
  · intro w hw
    try dsimp only at hw
    go_simp
    try with_reducible rfl
  try simp only [Act.put, List.setIfInBounds_toArray, List.set_cons_zero, List.set_cons_succ]
  refine takeL (i := 1) (v := ?_) rfl (by kernel_rfl) (by kernel_rfl) (by kernel_rfl) (fun _ _ _ h => h) (Or.inl ⟨by rfl, ?_⟩) P.out.drew ?_
  rotate_left
  · intro w hw
    try dsimp only at hw
    go_simp
    try with_reducible rfl
  try simp only [Act.put, List.setIfInBounds_toArray, List.set_cons_zero, List.set_cons_succ]
  refine takeL (i := 2) (v := ?_) rfl (by kernel_rfl) (by kernel_rfl) (by kernel_rfl) (fun _ _ _ h => h) (Or.inl ⟨by rfl, ?_⟩) P.out.drew ?_
  rotate_left
  · intro w hw
    try dsimp only at hw
    go_simp
    try with_reducible rfl
  try simp only [Act.put, List.setIfInBounds_toArray, List.set_cons_zero, List.set_cons_succ]
  refine takeL (i := 3) (v := ?_) rfl (by kernel_rfl) (by kernel_rfl) (by kernel_rfl) (fun _ _ _ h => h) (Or.inl ⟨by rfl, ?_⟩) P.out.drew ?_
  rotate_left
  · intro w hw
    try dsimp only at hw
    have c36 := hw.ptrB
    go_simp
    try with_reducible rfl
  try simp only [Act.put, List.setIfInBounds_toArray, List.set_cons_zero, List.set_cons_succ]
  refine takeL (i := 4) (v := ?_) rfl (by kernel_rfl) (by kernel_rfl) (by kernel_rfl) (fun _ _ _ h => h) (Or.inl ⟨by rfl, ?_⟩) P.out.drew ?_
  rotate_left
  · intro w hw
    try dsimp only at hw
    go_simp
    try with_reducible rfl
  try simp only [Act.put, List.setIfInBounds_toArray, List.set_cons_zero, List.set_cons_succ]
  refine takeL (i := 5) (v := .agg (getA l b).cells.toArray) rfl (by kernel_rfl) (by kernel_rfl) (by kernel_rfl) (fun _ _ _ h => h) (Or.inl ⟨by rfl, fun wz hwz => exec_load_at wz 59 (.tmp 8) rfl ⟨g, b * 34, none⟩ (getA l b).cells _ Tryd.underlying59 rfl (size_acc (getA_ok P.out.o.ok _).o.1) (hwz.all HB.out) (by go_simp)⟩) P.out.drew ?_
  try simp only [Act.put, List.setIfInBounds_toArray, List.set_cons_zero, List.set_cons_succ]
  refine readyL (i := 6) rfl (by kernel_rfl) (by kernel_rfl) fun K hK => ?_
  go_simp
  refine (system_ _).mono ?_
  rintro e w1 ⟨rfl, hb1⟩
  have P1 := Lib.hid (P.out.drew.below hb1)
  clear hb1
  have ne1 := NE.out
  refine hK.out _ _ P1.out ?_
  clear hK K P
  try simp only [Act.put, List.setIfInBounds_toArray, List.set_cons_zero, List.set_cons_succ]
  refine takeL (i := 7) (v := .agg blank13.cells.toArray) rfl (by kernel_rfl) (by kernel_rfl) (by kernel_rfl) (fun _ _ _ h => h) (Or.inl ⟨by rfl, fun wz hwz => exec_built wz _ _ _ rfl (by simp only [List.map_toArray, List.map_cons, List.map_nil]; exact built_own14)⟩) P1.out ?_
  try simp only [Act.put, List.setIfInBounds_toArray, List.set_cons_zero, List.set_cons_succ]
  refine takeL (i := 8) (v := ?_) rfl (by kernel_rfl) (by kernel_rfl) (by kernel_rfl) (fun _ _ _ h => h) (Or.inl ⟨by rfl, ?_⟩) P1.out ?_
  rotate_left
  · intro w hw
    try dsimp only at hw
    go_simp
    try with_reducible rfl
  try simp only [Act.put, List.setIfInBounds_toArray, List.set_cons_zero, List.set_cons_succ]
  refine takeL (i := 9) (v := ?_) rfl (by kernel_rfl) (by kernel_rfl) (by kernel_rfl) (fun _ _ _ h => h) (Or.inl ⟨by rfl, ?_⟩) P1.out ?_
  rotate_left
  · intro w hw
    try dsimp only at hw
    go_simp
    try with_reducible rfl
  try simp only [Act.put, List.setIfInBounds_toArray, List.set_cons_zero, List.set_cons_succ]
  refine wpAnyH_done (by kernel_rfl) ?_ _
  go_wp2_with fail
  go_ret
  exact deed_bad14 HD.out (by decide) P1.out
set_option maxHeartbeats 8000000 in
theorem mk_owner14 (base g h cap n : Nat) (rest : List Value) (x : LAsk) (hx : AskOk x) (a b : Nat) (pa pb : Value) (l : List LAcc) (V : World) (hd : DS V V base g h cap n rest x pa pb l) (ha : a < n) (hpa : pa = .pointer (some ⟨g, a * 34, none⟩)) (hb : b < n) (hpb : pb = .pointer (some ⟨g, b * 34, none⟩)) (h1 : getA l b = blank13) (h2 : ¬ plain14 (getA l a)) :
    Calls Tryd.prog 83 #[.pointer (some ⟨h, 0, none⟩)] V (DeedDone V base g h cap n rest x pa pb (make14 l x a b)) := by
  have HX := Lib.hid hx
  have HA := Lib.hid ha
  have P := Lib.hid hd
  have HD : Hid (make14 l x a b = bad14 16) := Lib.hid (by
    unfold make14
    rw [if_neg (by simpa using h1), if_pos h2])
  have HB := Lib.hid hb
  subst hpb
  clear hb
  subst hpa
  clear hd hx ha
  have NE := Lib.hid (fun w => acc_neq (getA_ok P.out.o.ok b).o.1 (show blank13.o.length = 32 from rfl) w)
  rw [decide_eq_true h1] at NE
  clear h1
  go_enter Tryd.func83, Tryd.ntmps83
  go_upto_region 1 with fail
  refine wp_region_held_drew (S := (fun V2 => DS V V2 base g h cap n rest x (.pointer (some ⟨g, a * 34, none⟩)) (.pointer (some ⟨g, b * 34, none⟩)) l)) (by kernel_rfl) P.out.drew (fun _ => ?_)
  refine takeL (i := 0) (v := ?_) rfl (by kernel_rfl) (by kernel_rfl) (by kernel_rfl) (fun _ _ _ h => h) (Or.inl ⟨by rfl, ?_⟩) P.out.drew ?_
  rotate_left
  · intro w hw
    try dsimp only at hw
    go_simp
    try with_reducible rfl
  try simp only [Act.put, List.setIfInBounds_toArray, List.set_cons_zero, List.set_cons_succ]
  refine takeL (i := 1) (v := ?_) rfl (by kernel_rfl) (by kernel_rfl) (by kernel_rfl) (fun _ _ _ h => h) (Or.inl ⟨by rfl, ?_⟩) P.out.drew ?_
  rotate_left
  · intro w hw
    try dsimp only at hw
    go_simp
    try with_reducible rfl
  try simp only [Act.put, List.setIfInBounds_toArray, List.set_cons_zero, List.set_cons_succ]
  refine takeL (i := 2) (v := ?_) rfl (by kernel_rfl) (by kernel_rfl) (by kernel_rfl) (fun _ _ _ h => h) (Or.inl ⟨by rfl, ?_⟩) P.out.drew ?_
  rotate_left
  · intro w hw
    try dsimp only at hw
    go_simp
    try with_reducible rfl
  try simp only [Act.put, List.setIfInBounds_toArray, List.set_cons_zero, List.set_cons_succ]
  refine takeL (i := 3) (v := ?_) rfl (by kernel_rfl) (by kernel_rfl) (by kernel_rfl) (fun _ _ _ h => h) (Or.inl ⟨by rfl, ?_⟩) P.out.drew ?_
  rotate_left
  · intro w hw
    try dsimp only at hw
    have c36 := hw.ptrB
    go_simp
    try with_reducible rfl
  try simp only [Act.put, List.setIfInBounds_toArray, List.set_cons_zero, List.set_cons_succ]
  refine takeL (i := 4) (v := ?_) rfl (by kernel_rfl) (by kernel_rfl) (by kernel_rfl) (fun _ _ _ h => h) (Or.inl ⟨by rfl, ?_⟩) P.out.drew ?_
  rotate_left
  · intro w hw
    try dsimp only at hw
    go_simp
    try with_reducible rfl
  try simp only [Act.put, List.setIfInBounds_toArray, List.set_cons_zero, List.set_cons_succ]
  refine takeL (i := 5) (v := .agg (getA l b).cells.toArray) rfl (by kernel_rfl) (by kernel_rfl) (by kernel_rfl) (fun _ _ _ h => h) (Or.inl ⟨by rfl, fun wz hwz => exec_load_at wz 59 (.tmp 8) rfl ⟨g, b * 34, none⟩ (getA l b).cells _ Tryd.underlying59 rfl (size_acc (getA_ok P.out.o.ok _).o.1) (hwz.all HB.out) (by go_simp)⟩) P.out.drew ?_
  try simp only [Act.put, List.setIfInBounds_toArray, List.set_cons_zero, List.set_cons_succ]
  refine readyL (i := 6) rfl (by kernel_rfl) (by kernel_rfl) fun K hK => ?_
  go_simp
  refine (system_ _).mono ?_
  rintro e w1 ⟨rfl, hb1⟩
  have P1 := Lib.hid (P.out.drew.below hb1)
  clear hb1
  have ne1 := NE.out
  refine hK.out _ _ P1.out ?_
  clear hK K P
  try simp only [Act.put, List.setIfInBounds_toArray, List.set_cons_zero, List.set_cons_succ]
  refine takeL (i := 7) (v := .agg blank13.cells.toArray) rfl (by kernel_rfl) (by kernel_rfl) (by kernel_rfl) (fun _ _ _ h => h) (Or.inl ⟨by rfl, fun wz hwz => exec_built wz _ _ _ rfl (by simp only [List.map_toArray, List.map_cons, List.map_nil]; exact built_own14)⟩) P1.out ?_
  try simp only [Act.put, List.setIfInBounds_toArray, List.set_cons_zero, List.set_cons_succ]
  refine takeL (i := 8) (v := ?_) rfl (by kernel_rfl) (by kernel_rfl) (by kernel_rfl) (fun _ _ _ h => h) (Or.inl ⟨by rfl, ?_⟩) P1.out ?_
  rotate_left
  · intro w hw
    try dsimp only at hw
    go_simp
    try with_reducible rfl
  try simp only [Act.put, List.setIfInBounds_toArray, List.set_cons_zero, List.set_cons_succ]
  refine takeL (i := 9) (v := ?_) rfl (by kernel_rfl) (by kernel_rfl) (by kernel_rfl) (fun _ _ _ h => h) (Or.inl ⟨by rfl, ?_⟩) P1.out ?_
  rotate_left
  · intro w hw
    try dsimp only at hw
    go_simp
    try with_reducible rfl
  try simp only [Act.put, List.setIfInBounds_toArray, List.set_cons_zero, List.set_cons_succ]
  refine wpAnyH_done (by kernel_rfl) ?_ _
  have HPL := Lib.hid (fun V => plainS14 (getA l a) V (getA_ok P1.out.o.ok a))
  rw [decide_eq_false h2] at HPL
  clear h2
  have c35 := P1.out.ptrA
  go_wp2_with (first
    | ((with_reducible show wpList _ _ _ ({ dst := some 19, op := Op.load _ _, type := _, pos := _, after := _, guard := _ } :: _) _ _); go_must (refine wpList_load_at rfl 59 (.tmp 18) rfl ⟨g, a * 34, none⟩ (getA l a).cells _ Tryd.underlying59 rfl (size_acc (getA_ok P1.out.o.ok _).o.1) (P1.out.all HA.out) ?_ ?_; go_simp)))
  refine (HPL.out _).mono ?_
  rintro e w2 ⟨rfl, hb5⟩
  have P2 := Lib.hid (P1.out.below hb5)
  clear hb5 HPL P1 c35
  go_wp2_with fail
  go_ret
  exact deed_bad14 HD.out (by decide) P2.out
set_option maxHeartbeats 8000000 in
theorem mk_limit14 (base g h cap n : Nat) (rest : List Value) (x : LAsk) (hx : AskOk x) (a b : Nat) (pa pb : Value) (l : List LAcc) (V : World) (hd : DS V V base g h cap n rest x pa pb l) (ha : a < n) (hpa : pa = .pointer (some ⟨g, a * 34, none⟩)) (hb : b < n) (hpb : pb = .pointer (some ⟨g, b * 34, none⟩)) (h1 : getA l b = blank13) (h2 : plain14 (getA l a)) (h3 : 1048576 < x.space) :
    Calls Tryd.prog 83 #[.pointer (some ⟨h, 0, none⟩)] V (DeedDone V base g h cap n rest x pa pb (make14 l x a b)) := by
  have HX := Lib.hid hx
  have HA := Lib.hid ha
  have P := Lib.hid hd
  have HD : Hid (make14 l x a b = bad14 3) := Lib.hid (by
    unfold make14
    rw [if_neg (by simpa using h1), if_neg (by simpa using h2), if_pos h3])
  have HB := Lib.hid hb
  subst hpb
  clear hb
  subst hpa
  clear hd hx ha
  have NE := Lib.hid (fun w => acc_neq (getA_ok P.out.o.ok b).o.1 (show blank13.o.length = 32 from rfl) w)
  rw [decide_eq_true h1] at NE
  clear h1
  go_enter Tryd.func83, Tryd.ntmps83
  go_upto_region 1 with fail
  refine wp_region_held_drew (S := (fun V2 => DS V V2 base g h cap n rest x (.pointer (some ⟨g, a * 34, none⟩)) (.pointer (some ⟨g, b * 34, none⟩)) l)) (by kernel_rfl) P.out.drew (fun _ => ?_)
  refine takeL (i := 0) (v := ?_) rfl (by kernel_rfl) (by kernel_rfl) (by kernel_rfl) (fun _ _ _ h => h) (Or.inl ⟨by rfl, ?_⟩) P.out.drew ?_
  rotate_left
  · intro w hw
    try dsimp only at hw
    go_simp
    try with_reducible rfl
  try simp only [Act.put, List.setIfInBounds_toArray, List.set_cons_zero, List.set_cons_succ]
  refine takeL (i := 1) (v := ?_) rfl (by kernel_rfl) (by kernel_rfl) (by kernel_rfl) (fun _ _ _ h => h) (Or.inl ⟨by rfl, ?_⟩) P.out.drew ?_
  rotate_left
  · intro w hw
    try dsimp only at hw
    go_simp
    try with_reducible rfl
  try simp only [Act.put, List.setIfInBounds_toArray, List.set_cons_zero, List.set_cons_succ]
  refine takeL (i := 2) (v := ?_) rfl (by kernel_rfl) (by kernel_rfl) (by kernel_rfl) (fun _ _ _ h => h) (Or.inl ⟨by rfl, ?_⟩) P.out.drew ?_
  rotate_left
  · intro w hw
    try dsimp only at hw
    go_simp
    try with_reducible rfl
  try simp only [Act.put, List.setIfInBounds_toArray, List.set_cons_zero, List.set_cons_succ]
  refine takeL (i := 3) (v := ?_) rfl (by kernel_rfl) (by kernel_rfl) (by kernel_rfl) (fun _ _ _ h => h) (Or.inl ⟨by rfl, ?_⟩) P.out.drew ?_
  rotate_left
  · intro w hw
    try dsimp only at hw
    have c36 := hw.ptrB
    go_simp
    try with_reducible rfl
  try simp only [Act.put, List.setIfInBounds_toArray, List.set_cons_zero, List.set_cons_succ]
  refine takeL (i := 4) (v := ?_) rfl (by kernel_rfl) (by kernel_rfl) (by kernel_rfl) (fun _ _ _ h => h) (Or.inl ⟨by rfl, ?_⟩) P.out.drew ?_
  rotate_left
  · intro w hw
    try dsimp only at hw
    go_simp
    try with_reducible rfl
  try simp only [Act.put, List.setIfInBounds_toArray, List.set_cons_zero, List.set_cons_succ]
  refine takeL (i := 5) (v := .agg (getA l b).cells.toArray) rfl (by kernel_rfl) (by kernel_rfl) (by kernel_rfl) (fun _ _ _ h => h) (Or.inl ⟨by rfl, fun wz hwz => exec_load_at wz 59 (.tmp 8) rfl ⟨g, b * 34, none⟩ (getA l b).cells _ Tryd.underlying59 rfl (size_acc (getA_ok P.out.o.ok _).o.1) (hwz.all HB.out) (by go_simp)⟩) P.out.drew ?_
  try simp only [Act.put, List.setIfInBounds_toArray, List.set_cons_zero, List.set_cons_succ]
  refine readyL (i := 6) rfl (by kernel_rfl) (by kernel_rfl) fun K hK => ?_
  go_simp
  refine (system_ _).mono ?_
  rintro e w1 ⟨rfl, hb1⟩
  have P1 := Lib.hid (P.out.drew.below hb1)
  clear hb1
  have ne1 := NE.out
  refine hK.out _ _ P1.out ?_
  clear hK K P
  try simp only [Act.put, List.setIfInBounds_toArray, List.set_cons_zero, List.set_cons_succ]
  refine takeL (i := 7) (v := .agg blank13.cells.toArray) rfl (by kernel_rfl) (by kernel_rfl) (by kernel_rfl) (fun _ _ _ h => h) (Or.inl ⟨by rfl, fun wz hwz => exec_built wz _ _ _ rfl (by simp only [List.map_toArray, List.map_cons, List.map_nil]; exact built_own14)⟩) P1.out ?_
  try simp only [Act.put, List.setIfInBounds_toArray, List.set_cons_zero, List.set_cons_succ]
  refine takeL (i := 8) (v := ?_) rfl (by kernel_rfl) (by kernel_rfl) (by kernel_rfl) (fun _ _ _ h => h) (Or.inl ⟨by rfl, ?_⟩) P1.out ?_
  rotate_left
  · intro w hw
    try dsimp only at hw
    go_simp
    try with_reducible rfl
  try simp only [Act.put, List.setIfInBounds_toArray, List.set_cons_zero, List.set_cons_succ]
  refine takeL (i := 9) (v := ?_) rfl (by kernel_rfl) (by kernel_rfl) (by kernel_rfl) (fun _ _ _ h => h) (Or.inl ⟨by rfl, ?_⟩) P1.out ?_
  rotate_left
  · intro w hw
    try dsimp only at hw
    go_simp
    try with_reducible rfl
  try simp only [Act.put, List.setIfInBounds_toArray, List.set_cons_zero, List.set_cons_succ]
  refine wpAnyH_done (by kernel_rfl) ?_ _
  have HPL := Lib.hid (fun V => plainS14 (getA l a) V (getA_ok P1.out.o.ok a))
  rw [decide_eq_true h2] at HPL
  clear h2
  have c35 := P1.out.ptrA
  go_wp2_with (first
    | ((with_reducible show wpList _ _ _ ({ dst := some 19, op := Op.load _ _, type := _, pos := _, after := _, guard := _ } :: _) _ _); go_must (refine wpList_load_at rfl 59 (.tmp 18) rfl ⟨g, a * 34, none⟩ (getA l a).cells _ Tryd.underlying59 rfl (size_acc (getA_ok P1.out.o.ok _).o.1) (P1.out.all HA.out) ?_ ?_; go_simp)))
  refine (HPL.out _).mono ?_
  rintro e w2 ⟨rfl, hb5⟩
  have P2 := Lib.hid (P1.out.below hb5)
  clear hb5 HPL P1 c35
  have c2 := P2.out.x2
  go_wp2_with fail
  go_ret
  exact deed_bad14 HD.out (by decide) P2.out
set_option maxHeartbeats 8000000 in
theorem mk_funds14 (base g h cap n : Nat) (rest : List Value) (x : LAsk) (hx : AskOk x) (a b : Nat) (pa pb : Value) (l : List LAcc) (V : World) (hd : DS V V base g h cap n rest x pa pb l) (ha : a < n) (hpa : pa = .pointer (some ⟨g, a * 34, none⟩)) (hb : b < n) (hpb : pb = .pointer (some ⟨g, b * 34, none⟩)) (h1 : getA l b = blank13) (h2 : plain14 (getA l a)) (h3 : ¬ 1048576 < x.space) (h4 : (getA l a).c < x.coins) :
    Calls Tryd.prog 83 #[.pointer (some ⟨h, 0, none⟩)] V (DeedDone V base g h cap n rest x pa pb (make14 l x a b)) := by
  have HX := Lib.hid hx
  have HA := Lib.hid ha
  have P := Lib.hid hd
  have HD : Hid (make14 l x a b = bad14 17) := Lib.hid (by
    unfold make14
    rw [if_neg (by simpa using h1), if_neg (by simpa using h2), if_neg h3, if_pos h4])
  have HB := Lib.hid hb
  subst hpb
  clear hb
  subst hpa
  clear hd hx ha
  have NE := Lib.hid (fun w => acc_neq (getA_ok P.out.o.ok b).o.1 (show blank13.o.length = 32 from rfl) w)
  rw [decide_eq_true h1] at NE
  clear h1
  go_enter Tryd.func83, Tryd.ntmps83
  go_upto_region 1 with fail
  refine wp_region_held_drew (S := (fun V2 => DS V V2 base g h cap n rest x (.pointer (some ⟨g, a * 34, none⟩)) (.pointer (some ⟨g, b * 34, none⟩)) l)) (by kernel_rfl) P.out.drew (fun _ => ?_)
  refine takeL (i := 0) (v := ?_) rfl (by kernel_rfl) (by kernel_rfl) (by kernel_rfl) (fun _ _ _ h => h) (Or.inl ⟨by rfl, ?_⟩) P.out.drew ?_
  rotate_left
  · intro w hw
    try dsimp only at hw
    go_simp
    try with_reducible rfl
  try simp only [Act.put, List.setIfInBounds_toArray, List.set_cons_zero, List.set_cons_succ]
  refine takeL (i := 1) (v := ?_) rfl (by kernel_rfl) (by kernel_rfl) (by kernel_rfl) (fun _ _ _ h => h) (Or.inl ⟨by rfl, ?_⟩) P.out.drew ?_
  rotate_left
  · intro w hw
    try dsimp only at hw
    go_simp
    try with_reducible rfl
  try simp only [Act.put, List.setIfInBounds_toArray, List.set_cons_zero, List.set_cons_succ]
  refine takeL (i := 2) (v := ?_) rfl (by kernel_rfl) (by kernel_rfl) (by kernel_rfl) (fun _ _ _ h => h) (Or.inl ⟨by rfl, ?_⟩) P.out.drew ?_
  rotate_left
  · intro w hw
    try dsimp only at hw
    go_simp
    try with_reducible rfl
  try simp only [Act.put, List.setIfInBounds_toArray, List.set_cons_zero, List.set_cons_succ]
  refine takeL (i := 3) (v := ?_) rfl (by kernel_rfl) (by kernel_rfl) (by kernel_rfl) (fun _ _ _ h => h) (Or.inl ⟨by rfl, ?_⟩) P.out.drew ?_
  rotate_left
  · intro w hw
    try dsimp only at hw
    have c36 := hw.ptrB
    go_simp
    try with_reducible rfl
  try simp only [Act.put, List.setIfInBounds_toArray, List.set_cons_zero, List.set_cons_succ]
  refine takeL (i := 4) (v := ?_) rfl (by kernel_rfl) (by kernel_rfl) (by kernel_rfl) (fun _ _ _ h => h) (Or.inl ⟨by rfl, ?_⟩) P.out.drew ?_
  rotate_left
  · intro w hw
    try dsimp only at hw
    go_simp
    try with_reducible rfl
  try simp only [Act.put, List.setIfInBounds_toArray, List.set_cons_zero, List.set_cons_succ]
  refine takeL (i := 5) (v := .agg (getA l b).cells.toArray) rfl (by kernel_rfl) (by kernel_rfl) (by kernel_rfl) (fun _ _ _ h => h) (Or.inl ⟨by rfl, fun wz hwz => exec_load_at wz 59 (.tmp 8) rfl ⟨g, b * 34, none⟩ (getA l b).cells _ Tryd.underlying59 rfl (size_acc (getA_ok P.out.o.ok _).o.1) (hwz.all HB.out) (by go_simp)⟩) P.out.drew ?_
  try simp only [Act.put, List.setIfInBounds_toArray, List.set_cons_zero, List.set_cons_succ]
  refine readyL (i := 6) rfl (by kernel_rfl) (by kernel_rfl) fun K hK => ?_
  go_simp
  refine (system_ _).mono ?_
  rintro e w1 ⟨rfl, hb1⟩
  have P1 := Lib.hid (P.out.drew.below hb1)
  clear hb1
  have ne1 := NE.out
  refine hK.out _ _ P1.out ?_
  clear hK K P
  try simp only [Act.put, List.setIfInBounds_toArray, List.set_cons_zero, List.set_cons_succ]
  refine takeL (i := 7) (v := .agg blank13.cells.toArray) rfl (by kernel_rfl) (by kernel_rfl) (by kernel_rfl) (fun _ _ _ h => h) (Or.inl ⟨by rfl, fun wz hwz => exec_built wz _ _ _ rfl (by simp only [List.map_toArray, List.map_cons, List.map_nil]; exact built_own14)⟩) P1.out ?_
  try simp only [Act.put, List.setIfInBounds_toArray, List.set_cons_zero, List.set_cons_succ]
  refine takeL (i := 8) (v := ?_) rfl (by kernel_rfl) (by kernel_rfl) (by kernel_rfl) (fun _ _ _ h => h) (Or.inl ⟨by rfl, ?_⟩) P1.out ?_
  rotate_left
  · intro w hw
    try dsimp only at hw
    go_simp
    try with_reducible rfl
  try simp only [Act.put, List.setIfInBounds_toArray, List.set_cons_zero, List.set_cons_succ]
  refine takeL (i := 9) (v := ?_) rfl (by kernel_rfl) (by kernel_rfl) (by kernel_rfl) (fun _ _ _ h => h) (Or.inl ⟨by rfl, ?_⟩) P1.out ?_
  rotate_left
  · intro w hw
    try dsimp only at hw
    go_simp
    try with_reducible rfl
  try simp only [Act.put, List.setIfInBounds_toArray, List.set_cons_zero, List.set_cons_succ]
  refine wpAnyH_done (by kernel_rfl) ?_ _
  have HPL := Lib.hid (fun V => plainS14 (getA l a) V (getA_ok P1.out.o.ok a))
  rw [decide_eq_true h2] at HPL
  clear h2
  have c35 := P1.out.ptrA
  go_wp2_with (first
    | ((with_reducible show wpList _ _ _ ({ dst := some 19, op := Op.load _ _, type := _, pos := _, after := _, guard := _ } :: _) _ _); go_must (refine wpList_load_at rfl 59 (.tmp 18) rfl ⟨g, a * 34, none⟩ (getA l a).cells _ Tryd.underlying59 rfl (size_acc (getA_ok P1.out.o.ok _).o.1) (P1.out.all HA.out) ?_ ?_; go_simp)))
  refine (HPL.out _).mono ?_
  rintro e w2 ⟨rfl, hb5⟩
  have P2 := Lib.hid (P1.out.below hb5)
  clear hb5 HPL P1 c35
  have c2 := P2.out.x2
  have c1 := P2.out.x1
  have c35 := P2.out.ptrA
  have cac := P2.out.c HA.out
  go_upto_region 7 with fail
  clear c2
  go_quiet (fail)
  go_wp2_with fail
  go_ret
  exact deed_bad14 HD.out (by decide) (P2.out.drewN nq)
set_option maxHeartbeats 8000000 in
theorem mk_good14 (base g h cap n : Nat) (rest : List Value) (x : LAsk) (hx : AskOk x) (a b : Nat) (pa pb : Value) (l : List LAcc) (V : World) (hd : DS V V base g h cap n rest x pa pb l) (ha : a < n) (hpa : pa = .pointer (some ⟨g, a * 34, none⟩)) (hb : b < n) (hpb : pb = .pointer (some ⟨g, b * 34, none⟩)) (h1 : getA l b = blank13) (h2 : plain14 (getA l a)) (h3 : ¬ 1048576 < x.space) (h4 : ¬ (getA l a).c < x.coins) :
    Calls Tryd.prog 83 #[.pointer (some ⟨h, 0, none⟩)] V (DeedDone V base g h cap n rest x pa pb (make14 l x a b)) := by
  have HX := Lib.hid hx
  have HA := Lib.hid ha
  have P := Lib.hid hd
  have HD : Hid (make14 l x a b = ⟨0, (l.set a ⟨(getA l a).c - x.coins, (getA l a).o, (getA l a).s⟩).set b ⟨x.coins, x.owner, x.space⟩, x.space⟩) := Lib.hid (by
    unfold make14
    rw [if_neg (by simpa using h1), if_neg (by simpa using h2), if_neg h3, if_neg h4])
  have HB := Lib.hid hb
  subst hpb
  clear hb
  subst hpa
  clear hd hx ha
  have NE := Lib.hid (fun w => acc_neq (getA_ok P.out.o.ok b).o.1 (show blank13.o.length = 32 from rfl) w)
  rw [decide_eq_true h1] at NE
  clear h1
  go_enter Tryd.func83, Tryd.ntmps83
  go_upto_region 1 with fail
  refine wp_region_held_drew (S := (fun V2 => DS V V2 base g h cap n rest x (.pointer (some ⟨g, a * 34, none⟩)) (.pointer (some ⟨g, b * 34, none⟩)) l)) (by kernel_rfl) P.out.drew (fun _ => ?_)
  refine takeL (i := 0) (v := ?_) rfl (by kernel_rfl) (by kernel_rfl) (by kernel_rfl) (fun _ _ _ h => h) (Or.inl ⟨by rfl, ?_⟩) P.out.drew ?_
  rotate_left
  · intro w hw
    try dsimp only at hw
    go_simp
    try with_reducible rfl
  try simp only [Act.put, List.setIfInBounds_toArray, List.set_cons_zero, List.set_cons_succ]
  refine takeL (i := 1) (v := ?_) rfl (by kernel_rfl) (by kernel_rfl) (by kernel_rfl) (fun _ _ _ h => h) (Or.inl ⟨by rfl, ?_⟩) P.out.drew ?_
  rotate_left
  · intro w hw
    try dsimp only at hw
    go_simp
    try with_reducible rfl
  try simp only [Act.put, List.setIfInBounds_toArray, List.set_cons_zero, List.set_cons_succ]
  refine takeL (i := 2) (v := ?_) rfl (by kernel_rfl) (by kernel_rfl) (by kernel_rfl) (fun _ _ _ h => h) (Or.inl ⟨by rfl, ?_⟩) P.out.drew ?_
  rotate_left
  · intro w hw
    try dsimp only at hw
    go_simp
    try with_reducible rfl
  try simp only [Act.put, List.setIfInBounds_toArray, List.set_cons_zero, List.set_cons_succ]
  refine takeL (i := 3) (v := ?_) rfl (by kernel_rfl) (by kernel_rfl) (by kernel_rfl) (fun _ _ _ h => h) (Or.inl ⟨by rfl, ?_⟩) P.out.drew ?_
  rotate_left
  · intro w hw
    try dsimp only at hw
    have c36 := hw.ptrB
    go_simp
    try with_reducible rfl
  try simp only [Act.put, List.setIfInBounds_toArray, List.set_cons_zero, List.set_cons_succ]
  refine takeL (i := 4) (v := ?_) rfl (by kernel_rfl) (by kernel_rfl) (by kernel_rfl) (fun _ _ _ h => h) (Or.inl ⟨by rfl, ?_⟩) P.out.drew ?_
  rotate_left
  · intro w hw
    try dsimp only at hw
    go_simp
    try with_reducible rfl
  try simp only [Act.put, List.setIfInBounds_toArray, List.set_cons_zero, List.set_cons_succ]
  refine takeL (i := 5) (v := .agg (getA l b).cells.toArray) rfl (by kernel_rfl) (by kernel_rfl) (by kernel_rfl) (fun _ _ _ h => h) (Or.inl ⟨by rfl, fun wz hwz => exec_load_at wz 59 (.tmp 8) rfl ⟨g, b * 34, none⟩ (getA l b).cells _ Tryd.underlying59 rfl (size_acc (getA_ok P.out.o.ok _).o.1) (hwz.all HB.out) (by go_simp)⟩) P.out.drew ?_
  try simp only [Act.put, List.setIfInBounds_toArray, List.set_cons_zero, List.set_cons_succ]
  refine readyL (i := 6) rfl (by kernel_rfl) (by kernel_rfl) fun K hK => ?_
  go_simp
  refine (system_ _).mono ?_
  rintro e w1 ⟨rfl, hb1⟩
  have P1 := Lib.hid (P.out.drew.below hb1)
  clear hb1
  have ne1 := NE.out
  refine hK.out _ _ P1.out ?_
  clear hK K P
  try simp only [Act.put, List.setIfInBounds_toArray, List.set_cons_zero, List.set_cons_succ]
  refine takeL (i := 7) (v := .agg blank13.cells.toArray) rfl (by kernel_rfl) (by kernel_rfl) (by kernel_rfl) (fun _ _ _ h => h) (Or.inl ⟨by rfl, fun wz hwz => exec_built wz _ _ _ rfl (by simp only [List.map_toArray, List.map_cons, List.map_nil]; exact built_own14)⟩) P1.out ?_
  try simp only [Act.put, List.setIfInBounds_toArray, List.set_cons_zero, List.set_cons_succ]
  refine takeL (i := 8) (v := ?_) rfl (by kernel_rfl) (by kernel_rfl) (by kernel_rfl) (fun _ _ _ h => h) (Or.inl ⟨by rfl, ?_⟩) P1.out ?_
  rotate_left
  · intro w hw
    try dsimp only at hw
    go_simp
    try with_reducible rfl
  try simp only [Act.put, List.setIfInBounds_toArray, List.set_cons_zero, List.set_cons_succ]
  refine takeL (i := 9) (v := ?_) rfl (by kernel_rfl) (by kernel_rfl) (by kernel_rfl) (fun _ _ _ h => h) (Or.inl ⟨by rfl, ?_⟩) P1.out ?_
  rotate_left
  · intro w hw
    try dsimp only at hw
    go_simp
    try with_reducible rfl
  try simp only [Act.put, List.setIfInBounds_toArray, List.set_cons_zero, List.set_cons_succ]
  refine wpAnyH_done (by kernel_rfl) ?_ _
  have HPL := Lib.hid (fun V => plainS14 (getA l a) V (getA_ok P1.out.o.ok a))
  rw [decide_eq_true h2] at HPL
  clear h2
  have c35 := P1.out.ptrA
  go_wp2_with (first
    | ((with_reducible show wpList _ _ _ ({ dst := some 19, op := Op.load _ _, type := _, pos := _, after := _, guard := _ } :: _) _ _); go_must (refine wpList_load_at rfl 59 (.tmp 18) rfl ⟨g, a * 34, none⟩ (getA l a).cells _ Tryd.underlying59 rfl (size_acc (getA_ok P1.out.o.ok _).o.1) (P1.out.all HA.out) ?_ ?_; go_simp)))
  refine (HPL.out _).mono ?_
  rintro e w2 ⟨rfl, hb5⟩
  have P2 := Lib.hid (P1.out.below hb5)
  clear hb5 HPL P1 c35
  have c2 := P2.out.x2
  have c1 := P2.out.x1
  have c35 := P2.out.ptrA
  have cac := P2.out.c HA.out
  go_upto_region 7 with fail
  clear c2
  go_quiet (fail)
  go_upto_region 9 with fail
  have fac := P2.out.fz (a * 34)
  go_region
  have E1 : IntKind.u64.wrap ((getA l a).c - x.coins) = (getA l a).c - x.coins := by rw [IntKind.wrap_u64]; have := (getA_ok P2.out.o.ok a).c; have := HX.out.c; omega
  have P5 := Lib.hid (show DS V ((w2.drewN (nq + 1)).setCell ⟨g, a * 34, none⟩ (.int .u64 ((getA l a).c - x.coins))) base g h cap n rest x (.pointer (some ⟨g, a * 34, none⟩)) (.pointer (some ⟨g, b * 34, none⟩)) (l.set a ⟨(getA l a).c - x.coins, (getA l a).o, (getA l a).s⟩) from (P2.out.drewN (nq + 1)).one HA.out (o := 0) (y := ⟨(getA l a).c - x.coins, (getA l a).o, (getA l a).s⟩) ⟨by have := (getA_ok P2.out.o.ok a).c; have := HX.out.c; constructor <;> dsimp only <;> omega, (getA_ok P2.out.o.ok a).o, (getA_ok P2.out.o.ok a).s⟩ (by decide) (acc_setC14 _ _))
  rw [E1]
  clear E1 P2 c1 c35 cac fac
  obtain ⟨out, hout⟩ : ∃ out, out = l.set a ⟨(getA l a).c - x.coins, (getA l a).o, (getA l a).s⟩ := ⟨_, rfl⟩
  rw [← hout] at P5 HD
  generalize hW6 : (w2.drewN (nq + 1)).setCell ⟨g, a * 34, none⟩ (.int .u64 ((getA l a).c - x.coins)) = w6 at *
  clear hW6 hout
  have HBU := Lib.hid (built_acc14 x.coins x.space HX.out.o.1)
  have HS := Lib.hid P5.out.rh.drew
  go_upto_region 10 with fail
  refine wp_region_held_drew (S := (fun V2 => Row V2 h 183 (wrkC x (.pointer (some ⟨g, a * 34, none⟩)) (.pointer (some ⟨g, b * 34, none⟩))))) (by kernel_rfl) HS.out (fun _ => ?_)
  refine takeL (i := 0) (v := ?_) rfl (by kernel_rfl) (by kernel_rfl) (by kernel_rfl) (fun _ _ _ h => h) (Or.inl ⟨by rfl, ?_⟩) HS.out ?_
  rotate_left
  · intro w hw
    try dsimp only at hw
    go_simp
    try with_reducible rfl
  try simp only [Act.put, List.setIfInBounds_toArray, List.set_cons_zero, List.set_cons_succ]
  refine takeL (i := 1) (v := ?_) rfl (by kernel_rfl) (by kernel_rfl) (by kernel_rfl) (fun _ _ _ h => h) (Or.inl ⟨by rfl, ?_⟩) HS.out ?_
  rotate_left
  · intro w hw
    try dsimp only at hw
    go_simp
    try with_reducible rfl
  try simp only [Act.put, List.setIfInBounds_toArray, List.set_cons_zero, List.set_cons_succ]
  refine takeL (i := 2) (v := ?_) rfl (by kernel_rfl) (by kernel_rfl) (by kernel_rfl) (fun _ _ _ h => h) (Or.inl ⟨by rfl, ?_⟩) HS.out ?_
  rotate_left
  · intro w hw
    try dsimp only at hw
    go_simp
    try with_reducible rfl
  try simp only [Act.put, List.setIfInBounds_toArray, List.set_cons_zero, List.set_cons_succ]
  refine takeL (i := 3) (v := ?_) rfl (by kernel_rfl) (by kernel_rfl) (by kernel_rfl) (fun _ _ _ h => h) (Or.inl ⟨by rfl, ?_⟩) HS.out ?_
  rotate_left
  · intro w hw
    try dsimp only at hw
    have c36 := (hw.cell 36).trans (wrk_b HX.out.o.1 _ _)
    go_simp
    try with_reducible rfl
  try simp only [Act.put, List.setIfInBounds_toArray, List.set_cons_zero, List.set_cons_succ]
  refine takeL (i := 4) (v := ?_) rfl (by kernel_rfl) (by kernel_rfl) (by kernel_rfl) (fun _ _ _ h => h) (Or.inl ⟨by rfl, ?_⟩) HS.out ?_
  rotate_left
  · intro w hw
    try dsimp only at hw
    go_simp
    try with_reducible rfl
  try simp only [Act.put, List.setIfInBounds_toArray, List.set_cons_zero, List.set_cons_succ]
  refine takeL (i := 5) (v := ?_) rfl (by kernel_rfl) (by kernel_rfl) (by kernel_rfl) (fun _ _ _ h => h) (Or.inl ⟨by rfl, ?_⟩) HS.out ?_
  rotate_left
  · intro w hw
    try dsimp only at hw
    go_simp
    try with_reducible rfl
  try simp only [Act.put, List.setIfInBounds_toArray, List.set_cons_zero, List.set_cons_succ]
  refine takeL (i := 6) (v := ?_) rfl (by kernel_rfl) (by kernel_rfl) (by kernel_rfl) (fun _ _ _ h => h) (Or.inl ⟨by rfl, ?_⟩) HS.out ?_
  rotate_left
  · intro w hw
    try dsimp only at hw
    go_simp
    try with_reducible rfl
  try simp only [Act.put, List.setIfInBounds_toArray, List.set_cons_zero, List.set_cons_succ]
  refine takeL (i := 7) (v := ?_) rfl (by kernel_rfl) (by kernel_rfl) (by kernel_rfl) (fun _ _ _ h => h) (Or.inl ⟨by rfl, ?_⟩) HS.out ?_
  rotate_left
  · intro w hw
    try dsimp only at hw
    go_simp
    try with_reducible rfl
  try simp only [Act.put, List.setIfInBounds_toArray, List.set_cons_zero, List.set_cons_succ]
  refine takeL (i := 8) (v := ?_) rfl (by kernel_rfl) (by kernel_rfl) (by kernel_rfl) (fun _ _ _ h => h) (Or.inl ⟨by rfl, ?_⟩) HS.out ?_
  rotate_left
  · intro w hw
    try dsimp only at hw
    have c1 : w.cell? ⟨h, 1, none⟩ = some (.int .u64 x.coins) := hw.cell 1
    go_simp
    try with_reducible rfl
  try simp only [Act.put, List.setIfInBounds_toArray, List.set_cons_zero, List.set_cons_succ]
  refine takeL (i := 9) (v := ?_) rfl (by kernel_rfl) (by kernel_rfl) (by kernel_rfl) (fun _ _ _ h => h) (Or.inl ⟨by rfl, ?_⟩) HS.out ?_
  rotate_left
  · intro w hw
    try dsimp only at hw
    go_simp
    try with_reducible rfl
  try simp only [Act.put, List.setIfInBounds_toArray, List.set_cons_zero, List.set_cons_succ]
  refine takeL (i := 10) (v := ?_) rfl (by kernel_rfl) (by kernel_rfl) (by kernel_rfl) (fun _ _ _ h => h) (Or.inl ⟨by rfl, ?_⟩) HS.out ?_
  rotate_left
  · intro w hw
    try dsimp only at hw
    go_simp
    try with_reducible rfl
  try simp only [Act.put, List.setIfInBounds_toArray, List.set_cons_zero, List.set_cons_succ]
  refine takeL (i := 11) (v := ?_) rfl (by kernel_rfl) (by kernel_rfl) (by kernel_rfl) (fun _ _ _ h => h) (Or.inl ⟨by rfl, ?_⟩) HS.out ?_
  rotate_left
  · intro w hw
    try dsimp only at hw
    go_simp
    try with_reducible rfl
  try simp only [Act.put, List.setIfInBounds_toArray, List.set_cons_zero, List.set_cons_succ]
  refine takeL (i := 12) (v := ?_) rfl (by kernel_rfl) (by kernel_rfl) (by kernel_rfl) (fun _ _ _ h => h) (Or.inl ⟨by rfl, ?_⟩) HS.out ?_
  rotate_left
  · intro w hw
    try dsimp only at hw
    go_simp
    try with_reducible rfl
  try simp only [Act.put, List.setIfInBounds_toArray, List.set_cons_zero, List.set_cons_succ]
  refine takeL (i := 13) (v := .agg (bv x.owner).toArray) rfl (by kernel_rfl) (by kernel_rfl) (by kernel_rfl) (fun _ _ _ h => h) (Or.inl ⟨by rfl, fun wz hwz => exec_load_at wz 57 (.tmp 70) rfl ⟨h, 3, none⟩ (bv x.owner) _ Tryd.underlying57 rfl (key_size14 HX.out.o.1) (row_own14 hwz HX.out.o.1) (by go_simp)⟩) HS.out ?_
  try simp only [Act.put, List.setIfInBounds_toArray, List.set_cons_zero, List.set_cons_succ]
  refine takeL (i := 14) (v := ?_) rfl (by kernel_rfl) (by kernel_rfl) (by kernel_rfl) (fun _ _ _ h => h) (Or.inl ⟨by rfl, ?_⟩) HS.out ?_
  rotate_left
  · intro w hw
    try dsimp only at hw
    go_simp
    try with_reducible rfl
  try simp only [Act.put, List.setIfInBounds_toArray, List.set_cons_zero, List.set_cons_succ]
  refine takeL (i := 15) (v := ?_) rfl (by kernel_rfl) (by kernel_rfl) (by kernel_rfl) (fun _ _ _ h => h) (Or.inl ⟨by rfl, ?_⟩) HS.out ?_
  rotate_left
  · intro w hw
    try dsimp only at hw
    go_simp
    try with_reducible rfl
  try simp only [Act.put, List.setIfInBounds_toArray, List.set_cons_zero, List.set_cons_succ]
  refine takeL (i := 16) (v := ?_) rfl (by kernel_rfl) (by kernel_rfl) (by kernel_rfl) (fun _ _ _ h => h) (Or.inl ⟨by rfl, ?_⟩) HS.out ?_
  rotate_left
  · intro w hw
    try dsimp only at hw
    go_simp
    try with_reducible rfl
  try simp only [Act.put, List.setIfInBounds_toArray, List.set_cons_zero, List.set_cons_succ]
  refine takeL (i := 17) (v := ?_) rfl (by kernel_rfl) (by kernel_rfl) (by kernel_rfl) (fun _ _ _ h => h) (Or.inl ⟨by rfl, ?_⟩) HS.out ?_
  rotate_left
  · intro w hw
    try dsimp only at hw
    go_simp
    try with_reducible rfl
  try simp only [Act.put, List.setIfInBounds_toArray, List.set_cons_zero, List.set_cons_succ]
  refine takeL (i := 18) (v := ?_) rfl (by kernel_rfl) (by kernel_rfl) (by kernel_rfl) (fun _ _ _ h => h) (Or.inl ⟨by rfl, ?_⟩) HS.out ?_
  rotate_left
  · intro w hw
    try dsimp only at hw
    have c2 : w.cell? ⟨h, 2, none⟩ = some (.int .u64 x.space) := hw.cell 2
    go_simp
    try with_reducible rfl
  try simp only [Act.put, List.setIfInBounds_toArray, List.set_cons_zero, List.set_cons_succ]
  refine takeL (i := 19) (v := .agg (LAcc.mk x.coins x.owner x.space).cells.toArray) rfl (by kernel_rfl) (by kernel_rfl) (by kernel_rfl) (fun _ _ _ h => h) (Or.inl ⟨by rfl, fun wz hwz => exec_built wz _ _ _ rfl (by simp only [List.map_toArray, List.map_cons, List.map_nil]; exact HBU.out)⟩) HS.out ?_
  try simp only [Act.put, List.setIfInBounds_toArray, List.set_cons_zero, List.set_cons_succ]
  refine takeL (i := 20) (v := ?_) rfl (by kernel_rfl) (by kernel_rfl) (by kernel_rfl) (fun _ _ _ h => h) (Or.inl ⟨by rfl, ?_⟩) HS.out ?_
  rotate_left
  · intro w hw
    try dsimp only at hw
    go_simp
    try with_reducible rfl
  try simp only [Act.put, List.setIfInBounds_toArray, List.set_cons_zero, List.set_cons_succ]
  refine readyL (i := 21) rfl (by kernel_rfl) (by kernel_rfl) fun K hK => ?_
  refine wp_store_part 59 (.tmp 78) (.tmp 77) rfl g 59 (b * 34 + 0) (accsC out ++ rest) (LAcc.mk x.coins x.owner x.space).cells P5.out.o.row.drew (size_acc HX.out.o.1) (by rw [acc_len HX.out.o.1]; exact P5.out.room HB.out) (acc_one _) (by go_simp) (by go_simp) (fun w7 hr7 ht7 => ?_)
  have P7 := Lib.hid (P5.out.drew.part HB.out (o := 0) (y := ⟨x.coins, x.owner, x.space⟩) ⟨HX.out.c, HX.out.o, HX.out.s⟩ (accs_whole14 (getA_ok P5.out.o.ok b).o.1 HX.out.o.1) (by rw [acc_len HX.out.o.1]; decide) hr7 ht7)
  clear hr7 ht7 P5
  refine hK.out _ _ P7.out.rh ?_
  clear hK K
  try simp only [Act.put]
  refine wpAnyH_done (by kernel_rfl) ?_ _
  go_wp2_with fail
  go_ret
  exact deed_good14 HD.out P7.out
set_option maxHeartbeats 8000000 in
theorem as_owner14 (base g h cap n : Nat) (rest : List Value) (x : LAsk) (hx : AskOk x) (a b : Nat) (pa pb : Value) (l : List LAcc) (V : World) (hd : DS V V base g h cap n rest x pa pb l) (ha : a < n) (hpa : pa = .pointer (some ⟨g, a * 34, none⟩)) (h1 : (getA l a).o ≠ k0) :
    Calls Tryd.prog 84 #[.pointer (some ⟨h, 0, none⟩)] V (DeedDone V base g h cap n rest x pa pb (assign14 l x a)) := by
  have HX := Lib.hid hx
  have HA := Lib.hid ha
  have P := Lib.hid hd
  have HD : Hid (assign14 l x a = bad14 16) := Lib.hid (by
    unfold assign14; rw [if_pos (show (getA l a).o ≠ key0 from h1)])
  subst hpa
  clear hd hx ha
  have NE := Lib.hid (fun w => key_neq (getA_ok P.out.o.ok a).o.1 (show k0.length = 32 from rfl) w)
  rw [decide_eq_false h1] at NE
  clear h1
  go_enter Tryd.func84, Tryd.ntmps84
  go_upto_region 1 with fail
  refine wp_region_held_drew (S := (fun V2 => DS V V2 base g h cap n rest x (.pointer (some ⟨g, a * 34, none⟩)) pb l)) (by kernel_rfl) P.out.drew (fun _ => ?_)
  refine takeL (i := 0) (v := ?_) rfl (by kernel_rfl) (by kernel_rfl) (by kernel_rfl) (fun _ _ _ h => h) (Or.inl ⟨by rfl, ?_⟩) P.out.drew ?_
  rotate_left
  · intro w hw
    try dsimp only at hw
    go_simp
    try with_reducible rfl
  try simp only [Act.put, List.setIfInBounds_toArray, List.set_cons_zero, List.set_cons_succ]
  refine takeL (i := 1) (v := ?_) rfl (by kernel_rfl) (by kernel_rfl) (by kernel_rfl) (fun _ _ _ h => h) (Or.inl ⟨by rfl, ?_⟩) P.out.drew ?_
  rotate_left
  · intro w hw
    try dsimp only at hw
    go_simp
    try with_reducible rfl
  try simp only [Act.put, List.setIfInBounds_toArray, List.set_cons_zero, List.set_cons_succ]
  refine takeL (i := 2) (v := ?_) rfl (by kernel_rfl) (by kernel_rfl) (by kernel_rfl) (fun _ _ _ h => h) (Or.inl ⟨by rfl, ?_⟩) P.out.drew ?_
  rotate_left
  · intro w hw
    try dsimp only at hw
    go_simp
    try with_reducible rfl
  try simp only [Act.put, List.setIfInBounds_toArray, List.set_cons_zero, List.set_cons_succ]
  refine takeL (i := 3) (v := ?_) rfl (by kernel_rfl) (by kernel_rfl) (by kernel_rfl) (fun _ _ _ h => h) (Or.inl ⟨by rfl, ?_⟩) P.out.drew ?_
  rotate_left
  · intro w hw
    try dsimp only at hw
    have c35 := hw.ptrA
    go_simp
    try with_reducible rfl
  try simp only [Act.put, List.setIfInBounds_toArray, List.set_cons_zero, List.set_cons_succ]
  refine takeL (i := 4) (v := ?_) rfl (by kernel_rfl) (by kernel_rfl) (by kernel_rfl) (fun _ _ _ h => h) (Or.inl ⟨by rfl, ?_⟩) P.out.drew ?_
  rotate_left
  · intro w hw
    try dsimp only at hw
    go_simp
    try with_reducible rfl
  try simp only [Act.put, List.setIfInBounds_toArray, List.set_cons_zero, List.set_cons_succ]
  refine takeL (i := 5) (v := ?_) rfl (by kernel_rfl) (by kernel_rfl) (by kernel_rfl) (fun _ _ _ h => h) (Or.inl ⟨by rfl, ?_⟩) P.out.drew ?_
  rotate_left
  · intro w hw
    try dsimp only at hw
    go_simp
    try with_reducible rfl
  try simp only [Act.put, List.setIfInBounds_toArray, List.set_cons_zero, List.set_cons_succ]
  refine takeL (i := 6) (v := .agg (bv (getA l a).o).toArray) rfl (by kernel_rfl) (by kernel_rfl) (by kernel_rfl) (fun _ _ _ h => h) (Or.inl ⟨by rfl, fun wz hwz => exec_load_at wz 57 (.tmp 8) rfl ⟨g, a * 34 + 1, none⟩ (bv (getA l a).o) _ Tryd.underlying57 rfl (key_size14 (getA_ok P.out.o.ok _).o.1) (hwz.own HA.out) (by go_simp)⟩) P.out.drew ?_
  try simp only [Act.put, List.setIfInBounds_toArray, List.set_cons_zero, List.set_cons_succ]
  refine readyL (i := 7) rfl (by kernel_rfl) (by kernel_rfl) fun K hK => ?_
  go_simp
  refine (system_ _).mono ?_
  rintro e w1 ⟨rfl, hb1⟩
  have P1 := Lib.hid (P.out.drew.below hb1)
  clear hb1
  have ne1 := NE.out
  refine hK.out _ _ P1.out ?_
  clear hK K P
  try simp only [Act.put, List.setIfInBounds_toArray, List.set_cons_zero, List.set_cons_succ]
  refine takeL (i := 8) (v := ?_) rfl (by kernel_rfl) (by kernel_rfl) (by kernel_rfl) (fun _ _ _ h => h) (Or.inl ⟨by rfl, ?_⟩) P1.out ?_
  rotate_left
  · intro w hw
    try dsimp only at hw
    go_simp
    try with_reducible rfl
  try simp only [Act.put, List.setIfInBounds_toArray, List.set_cons_zero, List.set_cons_succ]
  refine wpAnyH_done (by kernel_rfl) ?_ _
  go_wp2_with fail
  go_ret
  exact deed_bad14 HD.out (by decide) P1.out
set_option maxHeartbeats 8000000 in
theorem as_good14 (base g h cap n : Nat) (rest : List Value) (x : LAsk) (hx : AskOk x) (a b : Nat) (pa pb : Value) (l : List LAcc) (V : World) (hd : DS V V base g h cap n rest x pa pb l) (ha : a < n) (hpa : pa = .pointer (some ⟨g, a * 34, none⟩)) (h1 : (getA l a).o = k0) :
    Calls Tryd.prog 84 #[.pointer (some ⟨h, 0, none⟩)] V (DeedDone V base g h cap n rest x pa pb (assign14 l x a)) := by
  have HX := Lib.hid hx
  have HA := Lib.hid ha
  have P := Lib.hid hd
  have HD : Hid (assign14 l x a = ⟨0, l.set a ⟨(getA l a).c, x.owner, (getA l a).s⟩, 0⟩) := Lib.hid (by
    unfold assign14; rw [if_neg (show ¬ (getA l a).o ≠ key0 from fun hne => hne h1)])
  subst hpa
  clear hd hx ha
  have NE := Lib.hid (fun w => key_neq (getA_ok P.out.o.ok a).o.1 (show k0.length = 32 from rfl) w)
  rw [decide_eq_true h1] at NE
  clear h1
  go_enter Tryd.func84, Tryd.ntmps84
  go_upto_region 1 with fail
  refine wp_region_held_drew (S := (fun V2 => DS V V2 base g h cap n rest x (.pointer (some ⟨g, a * 34, none⟩)) pb l)) (by kernel_rfl) P.out.drew (fun _ => ?_)
  refine takeL (i := 0) (v := ?_) rfl (by kernel_rfl) (by kernel_rfl) (by kernel_rfl) (fun _ _ _ h => h) (Or.inl ⟨by rfl, ?_⟩) P.out.drew ?_
  rotate_left
  · intro w hw
    try dsimp only at hw
    go_simp
    try with_reducible rfl
  try simp only [Act.put, List.setIfInBounds_toArray, List.set_cons_zero, List.set_cons_succ]
  refine takeL (i := 1) (v := ?_) rfl (by kernel_rfl) (by kernel_rfl) (by kernel_rfl) (fun _ _ _ h => h) (Or.inl ⟨by rfl, ?_⟩) P.out.drew ?_
  rotate_left
  · intro w hw
    try dsimp only at hw
    go_simp
    try with_reducible rfl
  try simp only [Act.put, List.setIfInBounds_toArray, List.set_cons_zero, List.set_cons_succ]
  refine takeL (i := 2) (v := ?_) rfl (by kernel_rfl) (by kernel_rfl) (by kernel_rfl) (fun _ _ _ h => h) (Or.inl ⟨by rfl, ?_⟩) P.out.drew ?_
  rotate_left
  · intro w hw
    try dsimp only at hw
    go_simp
    try with_reducible rfl
  try simp only [Act.put, List.setIfInBounds_toArray, List.set_cons_zero, List.set_cons_succ]
  refine takeL (i := 3) (v := ?_) rfl (by kernel_rfl) (by kernel_rfl) (by kernel_rfl) (fun _ _ _ h => h) (Or.inl ⟨by rfl, ?_⟩) P.out.drew ?_
  rotate_left
  · intro w hw
    try dsimp only at hw
    have c35 := hw.ptrA
    go_simp
    try with_reducible rfl
  try simp only [Act.put, List.setIfInBounds_toArray, List.set_cons_zero, List.set_cons_succ]
  refine takeL (i := 4) (v := ?_) rfl (by kernel_rfl) (by kernel_rfl) (by kernel_rfl) (fun _ _ _ h => h) (Or.inl ⟨by rfl, ?_⟩) P.out.drew ?_
  rotate_left
  · intro w hw
    try dsimp only at hw
    go_simp
    try with_reducible rfl
  try simp only [Act.put, List.setIfInBounds_toArray, List.set_cons_zero, List.set_cons_succ]
  refine takeL (i := 5) (v := ?_) rfl (by kernel_rfl) (by kernel_rfl) (by kernel_rfl) (fun _ _ _ h => h) (Or.inl ⟨by rfl, ?_⟩) P.out.drew ?_
  rotate_left
  · intro w hw
    try dsimp only at hw
    go_simp
    try with_reducible rfl
  try simp only [Act.put, List.setIfInBounds_toArray, List.set_cons_zero, List.set_cons_succ]
  refine takeL (i := 6) (v := .agg (bv (getA l a).o).toArray) rfl (by kernel_rfl) (by kernel_rfl) (by kernel_rfl) (fun _ _ _ h => h) (Or.inl ⟨by rfl, fun wz hwz => exec_load_at wz 57 (.tmp 8) rfl ⟨g, a * 34 + 1, none⟩ (bv (getA l a).o) _ Tryd.underlying57 rfl (key_size14 (getA_ok P.out.o.ok _).o.1) (hwz.own HA.out) (by go_simp)⟩) P.out.drew ?_
  try simp only [Act.put, List.setIfInBounds_toArray, List.set_cons_zero, List.set_cons_succ]
  refine readyL (i := 7) rfl (by kernel_rfl) (by kernel_rfl) fun K hK => ?_
  go_simp
  refine (system_ _).mono ?_
  rintro e w1 ⟨rfl, hb1⟩
  have P1 := Lib.hid (P.out.drew.below hb1)
  clear hb1
  have ne1 := NE.out
  refine hK.out _ _ P1.out ?_
  clear hK K P
  try simp only [Act.put, List.setIfInBounds_toArray, List.set_cons_zero, List.set_cons_succ]
  refine takeL (i := 8) (v := ?_) rfl (by kernel_rfl) (by kernel_rfl) (by kernel_rfl) (fun _ _ _ h => h) (Or.inl ⟨by rfl, ?_⟩) P1.out ?_
  rotate_left
  · intro w hw
    try dsimp only at hw
    go_simp
    try with_reducible rfl
  try simp only [Act.put, List.setIfInBounds_toArray, List.set_cons_zero, List.set_cons_succ]
  refine wpAnyH_done (by kernel_rfl) ?_ _
  have HS := Lib.hid P1.out.rh.drew
  go_upto_region 3 with fail
  refine wp_region_held_drew (S := (fun V2 => Row V2 h 183 (wrkC x (.pointer (some ⟨g, a * 34, none⟩)) pb))) (by kernel_rfl) HS.out (fun _ => ?_)
  refine takeL (i := 0) (v := ?_) rfl (by kernel_rfl) (by kernel_rfl) (by kernel_rfl) (fun _ _ _ h => h) (Or.inl ⟨by rfl, ?_⟩) HS.out ?_
  rotate_left
  · intro w hw
    try dsimp only at hw
    go_simp
    try with_reducible rfl
  try simp only [Act.put, List.setIfInBounds_toArray, List.set_cons_zero, List.set_cons_succ]
  refine takeL (i := 1) (v := ?_) rfl (by kernel_rfl) (by kernel_rfl) (by kernel_rfl) (fun _ _ _ h => h) (Or.inl ⟨by rfl, ?_⟩) HS.out ?_
  rotate_left
  · intro w hw
    try dsimp only at hw
    go_simp
    try with_reducible rfl
  try simp only [Act.put, List.setIfInBounds_toArray, List.set_cons_zero, List.set_cons_succ]
  refine takeL (i := 2) (v := ?_) rfl (by kernel_rfl) (by kernel_rfl) (by kernel_rfl) (fun _ _ _ h => h) (Or.inl ⟨by rfl, ?_⟩) HS.out ?_
  rotate_left
  · intro w hw
    try dsimp only at hw
    go_simp
    try with_reducible rfl
  try simp only [Act.put, List.setIfInBounds_toArray, List.set_cons_zero, List.set_cons_succ]
  refine takeL (i := 3) (v := ?_) rfl (by kernel_rfl) (by kernel_rfl) (by kernel_rfl) (fun _ _ _ h => h) (Or.inl ⟨by rfl, ?_⟩) HS.out ?_
  rotate_left
  · intro w hw
    try dsimp only at hw
    have c35 := (hw.cell 35).trans (wrk_a HX.out.o.1 _ _)
    go_simp
    try with_reducible rfl
  try simp only [Act.put, List.setIfInBounds_toArray, List.set_cons_zero, List.set_cons_succ]
  refine takeL (i := 4) (v := ?_) rfl (by kernel_rfl) (by kernel_rfl) (by kernel_rfl) (fun _ _ _ h => h) (Or.inl ⟨by rfl, ?_⟩) HS.out ?_
  rotate_left
  · intro w hw
    try dsimp only at hw
    go_simp
    try with_reducible rfl
  try simp only [Act.put, List.setIfInBounds_toArray, List.set_cons_zero, List.set_cons_succ]
  refine takeL (i := 5) (v := ?_) rfl (by kernel_rfl) (by kernel_rfl) (by kernel_rfl) (fun _ _ _ h => h) (Or.inl ⟨by rfl, ?_⟩) HS.out ?_
  rotate_left
  · intro w hw
    try dsimp only at hw
    go_simp
    try with_reducible rfl
  try simp only [Act.put, List.setIfInBounds_toArray, List.set_cons_zero, List.set_cons_succ]
  refine takeL (i := 6) (v := ?_) rfl (by kernel_rfl) (by kernel_rfl) (by kernel_rfl) (fun _ _ _ h => h) (Or.inl ⟨by rfl, ?_⟩) HS.out ?_
  rotate_left
  · intro w hw
    try dsimp only at hw
    go_simp
    try with_reducible rfl
  try simp only [Act.put, List.setIfInBounds_toArray, List.set_cons_zero, List.set_cons_succ]
  refine takeL (i := 7) (v := ?_) rfl (by kernel_rfl) (by kernel_rfl) (by kernel_rfl) (fun _ _ _ h => h) (Or.inl ⟨by rfl, ?_⟩) HS.out ?_
  rotate_left
  · intro w hw
    try dsimp only at hw
    go_simp
    try with_reducible rfl
  try simp only [Act.put, List.setIfInBounds_toArray, List.set_cons_zero, List.set_cons_succ]
  refine takeL (i := 8) (v := .agg (bv x.owner).toArray) rfl (by kernel_rfl) (by kernel_rfl) (by kernel_rfl) (fun _ _ _ h => h) (Or.inl ⟨by rfl, fun wz hwz => exec_load_at wz 57 (.tmp 19) rfl ⟨h, 3, none⟩ (bv x.owner) _ Tryd.underlying57 rfl (key_size14 HX.out.o.1) (row_own14 hwz HX.out.o.1) (by go_simp)⟩) HS.out ?_
  try simp only [Act.put, List.setIfInBounds_toArray, List.set_cons_zero, List.set_cons_succ]
  refine takeL (i := 9) (v := ?_) rfl (by kernel_rfl) (by kernel_rfl) (by kernel_rfl) (fun _ _ _ h => h) (Or.inl ⟨by rfl, ?_⟩) HS.out ?_
  rotate_left
  · intro w hw
    try dsimp only at hw
    go_simp
    try with_reducible rfl
  try simp only [Act.put, List.setIfInBounds_toArray, List.set_cons_zero, List.set_cons_succ]
  refine takeL (i := 10) (v := ?_) rfl (by kernel_rfl) (by kernel_rfl) (by kernel_rfl) (fun _ _ _ h => h) (Or.inl ⟨by rfl, ?_⟩) HS.out ?_
  rotate_left
  · intro w hw
    try dsimp only at hw
    go_simp
    try with_reducible rfl
  try simp only [Act.put, List.setIfInBounds_toArray, List.set_cons_zero, List.set_cons_succ]
  refine readyL (i := 11) rfl (by kernel_rfl) (by kernel_rfl) fun K hK => ?_
  refine wp_store_part 57 (.tmp 22) (.tmp 20) rfl g 59 (a * 34 + 1) (accsC l ++ rest) (bv x.owner) P1.out.o.row.drew (key_size14 HX.out.o.1) (by have := P1.out.room HA.out; rw [bv_length, HX.out.o.1]; omega) (bv_one _) (by go_simp) (by go_simp) (fun w7 hr7 ht7 => ?_)
  have P7 := Lib.hid (P1.out.drew.part HA.out (o := 1) (y := ⟨(getA l a).c, x.owner, (getA l a).s⟩) ⟨(getA_ok P1.out.o.ok a).c, HX.out.o, (getA_ok P1.out.o.ok a).s⟩ (acc_setO14 (getA_ok P1.out.o.ok a).o.1 HX.out.o.1) (by rw [bv_length, HX.out.o.1]; decide) hr7 ht7)
  clear hr7 ht7 P1
  refine hK.out _ _ P7.out.rh ?_
  clear hK K
  try simp only [Act.put]
  refine wpAnyH_done (by kernel_rfl) ?_ _
  go_wp2_with fail
  go_ret
  exact deed_good14 HD.out P7.out
set_option maxHeartbeats 8000000 in
theorem tk_there14 (base g h cap n : Nat) (rest : List Value) (x : LAsk) (hx : AskOk x) (a b : Nat) (pa pb : Value) (l : List LAcc) (V : World) (hd : DS V V base g h cap n rest x pa pb l) (ha : a < n) (hpa : pa = .pointer (some ⟨g, a * 34, none⟩)) (h2 : ¬ plain14 (getA l a)) :
    Calls Tryd.prog 86 #[.pointer (some ⟨h, 0, none⟩)] V (DeedDone V base g h cap n rest x pa pb (space14 l x a)) := by
  have HX := Lib.hid hx
  have HA := Lib.hid ha
  have P := Lib.hid hd
  have HD : Hid (space14 l x a = bad14 12) := Lib.hid (by
    unfold space14; rw [if_pos h2])
  subst hpa
  clear hd hx ha
  go_enter Tryd.func86, Tryd.ntmps86
  have HPL := Lib.hid (fun V => plainS14 (getA l a) V (getA_ok P.out.o.ok a))
  rw [decide_eq_false h2] at HPL
  clear h2
  have c35 := P.out.ptrA
  go_wp2_with (first
    | ((with_reducible show wpList _ _ _ ({ dst := some 9, op := Op.load _ _, type := _, pos := _, after := _, guard := _ } :: _) _ _); go_must (refine wpList_load_at rfl 59 (.tmp 8) rfl ⟨g, a * 34, none⟩ (getA l a).cells _ Tryd.underlying59 rfl (size_acc (getA_ok P.out.o.ok _).o.1) (P.out.all HA.out) ?_ ?_; go_simp)))
  refine (HPL.out _).mono ?_
  rintro e w2 ⟨rfl, hb5⟩
  have P2 := Lib.hid (P.out.below hb5)
  clear hb5 HPL P c35
  go_wp2_with fail
  go_ret
  exact deed_bad14 HD.out (by decide) P2.out
set_option maxHeartbeats 8000000 in
theorem tk_limit14 (base g h cap n : Nat) (rest : List Value) (x : LAsk) (hx : AskOk x) (a b : Nat) (pa pb : Value) (l : List LAcc) (V : World) (hd : DS V V base g h cap n rest x pa pb l) (ha : a < n) (hpa : pa = .pointer (some ⟨g, a * 34, none⟩)) (h2 : plain14 (getA l a)) (h3 : 1048576 < x.space) :
    Calls Tryd.prog 86 #[.pointer (some ⟨h, 0, none⟩)] V (DeedDone V base g h cap n rest x pa pb (space14 l x a)) := by
  have HX := Lib.hid hx
  have HA := Lib.hid ha
  have P := Lib.hid hd
  have HD : Hid (space14 l x a = bad14 3) := Lib.hid (by
    unfold space14; rw [if_neg (by simpa using h2), if_pos h3])
  subst hpa
  clear hd hx ha
  go_enter Tryd.func86, Tryd.ntmps86
  have HPL := Lib.hid (fun V => plainS14 (getA l a) V (getA_ok P.out.o.ok a))
  rw [decide_eq_true h2] at HPL
  clear h2
  have c35 := P.out.ptrA
  go_wp2_with (first
    | ((with_reducible show wpList _ _ _ ({ dst := some 9, op := Op.load _ _, type := _, pos := _, after := _, guard := _ } :: _) _ _); go_must (refine wpList_load_at rfl 59 (.tmp 8) rfl ⟨g, a * 34, none⟩ (getA l a).cells _ Tryd.underlying59 rfl (size_acc (getA_ok P.out.o.ok _).o.1) (P.out.all HA.out) ?_ ?_; go_simp)))
  refine (HPL.out _).mono ?_
  rintro e w2 ⟨rfl, hb5⟩
  have P2 := Lib.hid (P.out.below hb5)
  clear hb5 HPL P c35
  have c2 := P2.out.x2
  go_wp2_with fail
  go_ret
  exact deed_bad14 HD.out (by decide) P2.out
set_option maxHeartbeats 8000000 in
theorem tk_good14 (base g h cap n : Nat) (rest : List Value) (x : LAsk) (hx : AskOk x) (a b : Nat) (pa pb : Value) (l : List LAcc) (V : World) (hd : DS V V base g h cap n rest x pa pb l) (ha : a < n) (hpa : pa = .pointer (some ⟨g, a * 34, none⟩)) (h2 : plain14 (getA l a)) (h3 : ¬ 1048576 < x.space) :
    Calls Tryd.prog 86 #[.pointer (some ⟨h, 0, none⟩)] V (DeedDone V base g h cap n rest x pa pb (space14 l x a)) := by
  have HX := Lib.hid hx
  have HA := Lib.hid ha
  have P := Lib.hid hd
  have HD : Hid (space14 l x a = ⟨0, l.set a ⟨(getA l a).c, (getA l a).o, x.space⟩, x.space⟩) := Lib.hid (by
    unfold space14; rw [if_neg (by simpa using h2), if_neg h3])
  subst hpa
  clear hd hx ha
  go_enter Tryd.func86, Tryd.ntmps86
  have HPL := Lib.hid (fun V => plainS14 (getA l a) V (getA_ok P.out.o.ok a))
  rw [decide_eq_true h2] at HPL
  clear h2
  have c35 := P.out.ptrA
  go_wp2_with (first
    | ((with_reducible show wpList _ _ _ ({ dst := some 9, op := Op.load _ _, type := _, pos := _, after := _, guard := _ } :: _) _ _); go_must (refine wpList_load_at rfl 59 (.tmp 8) rfl ⟨g, a * 34, none⟩ (getA l a).cells _ Tryd.underlying59 rfl (size_acc (getA_ok P.out.o.ok _).o.1) (P.out.all HA.out) ?_ ?_; go_simp)))
  refine (HPL.out _).mono ?_
  rintro e w2 ⟨rfl, hb5⟩
  have P2 := Lib.hid (P.out.below hb5)
  clear hb5 HPL P c35
  have c2 := P2.out.x2
  have c35 := P2.out.ptrA
  have cas := P2.out.s HA.out
  have fas := P2.out.fz (a * 34 + 33)
  go_upto_region 5 with fail
  go_region
  have P5 := Lib.hid (P2.out.drew.one HA.out (o := 33) (u := .int .u64 x.space) (y := ⟨(getA l a).c, (getA l a).o, x.space⟩) ⟨(getA_ok P2.out.o.ok a).c, (getA_ok P2.out.o.ok a).o, HX.out.s⟩ (by decide) (acc_setS14 (getA_ok P2.out.o.ok a).o.1 _))
  clear c2 c35 cas fas P2
  go_wp2_with fail
  go_ret
  exact deed_good14 HD.out P5.out
set_option maxHeartbeats 8000000 in
theorem mv_owner14 (base g h cap n : Nat) (rest : List Value) (x : LAsk) (hx : AskOk x) (a b : Nat) (pa pb : Value) (l : List LAcc) (V : World) (hd : DS V V base g h cap n rest x pa pb l) (ha : a < n) (hpa : pa = .pointer (some ⟨g, a * 34, none⟩)) (hb : b < n) (hpb : pb = .pointer (some ⟨g, b * 34, none⟩)) (h2 : ¬ plain14 (getA l a)) :
    Calls Tryd.prog 85 #[.pointer (some ⟨h, 0, none⟩)] V (DeedDone V base g h cap n rest x pa pb (move14 l x a b)) := by
  have HX := Lib.hid hx
  have HA := Lib.hid ha
  have P := Lib.hid hd
  have HD : Hid (move14 l x a b = bad14 16) := Lib.hid (by unfold move14; rw [if_pos h2])
  have HB := Lib.hid hb
  subst hpb
  clear hb
  subst hpa
  clear hd hx ha
  go_enter Tryd.func85, Tryd.ntmps85
  have HPL := Lib.hid (fun V => plainS14 (getA l a) V (getA_ok P.out.o.ok a))
  rw [decide_eq_false h2] at HPL
  clear h2
  have c35 := P.out.ptrA
  go_wp2_with (first
    | ((with_reducible show wpList _ _ _ ({ dst := some 9, op := Op.load _ _, type := _, pos := _, after := _, guard := _ } :: _) _ _); go_must (refine wpList_load_at rfl 59 (.tmp 8) rfl ⟨g, a * 34, none⟩ (getA l a).cells _ Tryd.underlying59 rfl (size_acc (getA_ok P.out.o.ok _).o.1) (P.out.all HA.out) ?_ ?_; go_simp)))
  refine (HPL.out _).mono ?_
  rintro e w2 ⟨rfl, hb5⟩
  have P2 := Lib.hid (P.out.below hb5)
  clear hb5 HPL P c35
  go_wp2_with fail
  go_ret
  exact deed_bad14 HD.out (by decide) P2.out
set_option maxHeartbeats 8000000 in
theorem mv_funds14 (base g h cap n : Nat) (rest : List Value) (x : LAsk) (hx : AskOk x) (a b : Nat) (pa pb : Value) (l : List LAcc) (V : World) (hd : DS V V base g h cap n rest x pa pb l) (ha : a < n) (hpa : pa = .pointer (some ⟨g, a * 34, none⟩)) (hb : b < n) (hpb : pb = .pointer (some ⟨g, b * 34, none⟩)) (h2 : plain14 (getA l a)) (h4 : (getA l a).c < x.coins) :
    Calls Tryd.prog 85 #[.pointer (some ⟨h, 0, none⟩)] V (DeedDone V base g h cap n rest x pa pb (move14 l x a b)) := by
  have HX := Lib.hid hx
  have HA := Lib.hid ha
  have P := Lib.hid hd
  have HD : Hid (move14 l x a b = bad14 17) := Lib.hid (by unfold move14; rw [if_neg (by simpa using h2), if_pos h4])
  have HB := Lib.hid hb
  subst hpb
  clear hb
  subst hpa
  clear hd hx ha
  go_enter Tryd.func85, Tryd.ntmps85
  have HPL := Lib.hid (fun V => plainS14 (getA l a) V (getA_ok P.out.o.ok a))
  rw [decide_eq_true h2] at HPL
  clear h2
  have c35 := P.out.ptrA
  go_wp2_with (first
    | ((with_reducible show wpList _ _ _ ({ dst := some 9, op := Op.load _ _, type := _, pos := _, after := _, guard := _ } :: _) _ _); go_must (refine wpList_load_at rfl 59 (.tmp 8) rfl ⟨g, a * 34, none⟩ (getA l a).cells _ Tryd.underlying59 rfl (size_acc (getA_ok P.out.o.ok _).o.1) (P.out.all HA.out) ?_ ?_; go_simp)))
  refine (HPL.out _).mono ?_
  rintro e w2 ⟨rfl, hb5⟩
  have P2 := Lib.hid (P.out.below hb5)
  clear hb5 HPL P c35
  have c1 := P2.out.x1
  have c35 := P2.out.ptrA
  have cac := P2.out.c HA.out
  go_upto_region 3 with fail
  go_quiet (fail)
  go_wp2_with fail
  go_ret
  exact deed_bad14 HD.out (by decide) (P2.out.drewN nq)
set_option maxHeartbeats 8000000 in
theorem mv_over14 (base g h cap n : Nat) (rest : List Value) (x : LAsk) (hx : AskOk x) (a b : Nat) (pa pb : Value) (l : List LAcc) (V : World) (hd : DS V V base g h cap n rest x pa pb l) (ha : a < n) (hpa : pa = .pointer (some ⟨g, a * 34, none⟩)) (hb : b < n) (hpb : pb = .pointer (some ⟨g, b * 34, none⟩)) (h2 : plain14 (getA l a)) (h4 : ¬ (getA l a).c < x.coins) (h3 : 18446744073709551615 - x.coins < (getA (l.set a ⟨(getA l a).c - x.coins, (getA l a).o, (getA l a).s⟩) b).c) :
    Calls Tryd.prog 85 #[.pointer (some ⟨h, 0, none⟩)] V (DeedDone V base g h cap n rest x pa pb (move14 l x a b)) := by
  have HX := Lib.hid hx
  have HA := Lib.hid ha
  have P := Lib.hid hd
  have HD : Hid (move14 l x a b = bad14 18) := Lib.hid (move_over14 hd.o.ok hx (by rw [hd.o.len]; exact ha) h2 h4 h3)
  have HB := Lib.hid hb
  subst hpb
  clear hb
  subst hpa
  clear hd hx ha
  go_enter Tryd.func85, Tryd.ntmps85
  have HPL := Lib.hid (fun V => plainS14 (getA l a) V (getA_ok P.out.o.ok a))
  rw [decide_eq_true h2] at HPL
  clear h2
  have c35 := P.out.ptrA
  go_wp2_with (first
    | ((with_reducible show wpList _ _ _ ({ dst := some 9, op := Op.load _ _, type := _, pos := _, after := _, guard := _ } :: _) _ _); go_must (refine wpList_load_at rfl 59 (.tmp 8) rfl ⟨g, a * 34, none⟩ (getA l a).cells _ Tryd.underlying59 rfl (size_acc (getA_ok P.out.o.ok _).o.1) (P.out.all HA.out) ?_ ?_; go_simp)))
  refine (HPL.out _).mono ?_
  rintro e w2 ⟨rfl, hb5⟩
  have P2 := Lib.hid (P.out.below hb5)
  clear hb5 HPL P c35
  have c1 := P2.out.x1
  have c35 := P2.out.ptrA
  have cac := P2.out.c HA.out
  go_upto_region 3 with fail
  go_quiet (fail)
  go_upto_region 5 with fail
  have fac := P2.out.fz (a * 34)
  go_region
  have E1 : IntKind.u64.wrap ((getA l a).c - x.coins) = (getA l a).c - x.coins := by rw [IntKind.wrap_u64]; have := (getA_ok P2.out.o.ok a).c; have := HX.out.c; omega
  have P5 := Lib.hid (show DS V ((w2.drewN (nq + 1)).setCell ⟨g, a * 34, none⟩ (.int .u64 ((getA l a).c - x.coins))) base g h cap n rest x (.pointer (some ⟨g, a * 34, none⟩)) (.pointer (some ⟨g, b * 34, none⟩)) (l.set a ⟨(getA l a).c - x.coins, (getA l a).o, (getA l a).s⟩) from (P2.out.drewN (nq + 1)).one HA.out (o := 0) (y := ⟨(getA l a).c - x.coins, (getA l a).o, (getA l a).s⟩) ⟨by have := (getA_ok P2.out.o.ok a).c; have := HX.out.c; constructor <;> dsimp only <;> omega, (getA_ok P2.out.o.ok a).o, (getA_ok P2.out.o.ok a).s⟩ (by decide) (acc_setC14 _ _))
  rw [E1]
  clear E1 P2 c1 c35 cac fac
  obtain ⟨out, hout⟩ : ∃ out, out = l.set a ⟨(getA l a).c - x.coins, (getA l a).o, (getA l a).s⟩ := ⟨_, rfl⟩
  rw [← hout] at P5 h3
  generalize hW6 : (w2.drewN (nq + 1)).setCell ⟨g, a * 34, none⟩ (.int .u64 ((getA l a).c - x.coins)) = w6 at *
  clear hW6 hout
  have c1 := P5.out.x1
  have c36 := P5.out.ptrB
  have cbc := P5.out.c HB.out
  have hw : IntKind.u64.wrap (18446744073709551615 - x.coins) = 18446744073709551615 - x.coins := by rw [IntKind.wrap_u64]; have := HX.out.c; omega
  go_upto_region 6 with fail
  rename Nat => nr
  go_quiet (fail)
  go_wp2_with fail
  go_ret
  exact deed_bad14 HD.out (by decide) (P5.out.drewN nq)
set_option maxHeartbeats 8000000 in
theorem mv_good14 (base g h cap n : Nat) (rest : List Value) (x : LAsk) (hx : AskOk x) (a b : Nat) (pa pb : Value) (l : List LAcc) (V : World) (hd : DS V V base g h cap n rest x pa pb l) (ha : a < n) (hpa : pa = .pointer (some ⟨g, a * 34, none⟩)) (hb : b < n) (hpb : pb = .pointer (some ⟨g, b * 34, none⟩)) (h2 : plain14 (getA l a)) (h4 : ¬ (getA l a).c < x.coins) (h3 : ¬ 18446744073709551615 - x.coins < (getA (l.set a ⟨(getA l a).c - x.coins, (getA l a).o, (getA l a).s⟩) b).c) :
    Calls Tryd.prog 85 #[.pointer (some ⟨h, 0, none⟩)] V (DeedDone V base g h cap n rest x pa pb (move14 l x a b)) := by
  have HX := Lib.hid hx
  have HA := Lib.hid ha
  have P := Lib.hid hd
  have HD : Hid (move14 l x a b = _) := Lib.hid (move_good14 hd.o.ok hx (by rw [hd.o.len]; exact ha) h2 h4 h3)
  have HB := Lib.hid hb
  subst hpb
  clear hb
  subst hpa
  clear hd hx ha
  go_enter Tryd.func85, Tryd.ntmps85
  have HPL := Lib.hid (fun V => plainS14 (getA l a) V (getA_ok P.out.o.ok a))
  rw [decide_eq_true h2] at HPL
  clear h2
  have c35 := P.out.ptrA
  go_wp2_with (first
    | ((with_reducible show wpList _ _ _ ({ dst := some 9, op := Op.load _ _, type := _, pos := _, after := _, guard := _ } :: _) _ _); go_must (refine wpList_load_at rfl 59 (.tmp 8) rfl ⟨g, a * 34, none⟩ (getA l a).cells _ Tryd.underlying59 rfl (size_acc (getA_ok P.out.o.ok _).o.1) (P.out.all HA.out) ?_ ?_; go_simp)))
  refine (HPL.out _).mono ?_
  rintro e w2 ⟨rfl, hb5⟩
  have P2 := Lib.hid (P.out.below hb5)
  clear hb5 HPL P c35
  have c1 := P2.out.x1
  have c35 := P2.out.ptrA
  have cac := P2.out.c HA.out
  go_upto_region 3 with fail
  go_quiet (fail)
  go_upto_region 5 with fail
  have fac := P2.out.fz (a * 34)
  go_region
  have E1 : IntKind.u64.wrap ((getA l a).c - x.coins) = (getA l a).c - x.coins := by rw [IntKind.wrap_u64]; have := (getA_ok P2.out.o.ok a).c; have := HX.out.c; omega
  have P5 := Lib.hid (show DS V ((w2.drewN (nq + 1)).setCell ⟨g, a * 34, none⟩ (.int .u64 ((getA l a).c - x.coins))) base g h cap n rest x (.pointer (some ⟨g, a * 34, none⟩)) (.pointer (some ⟨g, b * 34, none⟩)) (l.set a ⟨(getA l a).c - x.coins, (getA l a).o, (getA l a).s⟩) from (P2.out.drewN (nq + 1)).one HA.out (o := 0) (y := ⟨(getA l a).c - x.coins, (getA l a).o, (getA l a).s⟩) ⟨by have := (getA_ok P2.out.o.ok a).c; have := HX.out.c; constructor <;> dsimp only <;> omega, (getA_ok P2.out.o.ok a).o, (getA_ok P2.out.o.ok a).s⟩ (by decide) (acc_setC14 _ _))
  rw [E1]
  clear E1 P2 c1 c35 cac fac
  obtain ⟨out, hout⟩ : ∃ out, out = l.set a ⟨(getA l a).c - x.coins, (getA l a).o, (getA l a).s⟩ := ⟨_, rfl⟩
  rw [← hout] at P5 HD h3
  generalize hW6 : (w2.drewN (nq + 1)).setCell ⟨g, a * 34, none⟩ (.int .u64 ((getA l a).c - x.coins)) = w6 at *
  clear hW6 hout
  have c1 := P5.out.x1
  have c36 := P5.out.ptrB
  have cbc := P5.out.c HB.out
  have hw : IntKind.u64.wrap (18446744073709551615 - x.coins) = 18446744073709551615 - x.coins := by rw [IntKind.wrap_u64]; have := HX.out.c; omega
  go_upto_region 6 with fail
  rename Nat => nr
  go_quiet (fail)
  go_upto_region 8 with fail
  have fbc := P5.out.fz (b * 34)
  go_region
  have E2 : IntKind.u64.wrap ((getA out b).c + x.coins) = (getA out b).c + x.coins := by rw [IntKind.wrap_u64]; have := (getA_ok P5.out.o.ok b).c; have := HX.out.c; omega
  rw [E2]
  have P8 := Lib.hid (show DS V ((w6.drewN (nq + 1)).setCell ⟨g, b * 34, none⟩ (.int .u64 ((getA out b).c + x.coins))) base g h cap n rest x (.pointer (some ⟨g, a * 34, none⟩)) (.pointer (some ⟨g, b * 34, none⟩)) (out.set b ⟨(getA out b).c + x.coins, (getA out b).o, (getA out b).s⟩) from (P5.out.drewN (nq + 1)).one HB.out (o := 0) (y := ⟨(getA out b).c + x.coins, (getA out b).o, (getA out b).s⟩) ⟨by have := (getA_ok P5.out.o.ok b).c; have := HX.out.c; constructor <;> dsimp only <;> omega, (getA_ok P5.out.o.ok b).o, (getA_ok P5.out.o.ok b).s⟩ (by decide) (acc_setC14 _ _))
  clear E2 P5 c1 c36 cbc fbc
  go_wp2_with fail
  go_ret
  exact deed_good14 HD.out P8.out
end Go.Proofs.YtfaefpniiiandaaDoor

/-
  Of part SysMap14: what is needed here.
-/
namespace Go.Proofs.YtfaefpniiiandaaDoor
open Go.RowKit Go.Maps
set_option linter.unusedVariables false
set_option maxRecDepth 100000
set_option maxHeartbeats 400000 in
theorem clip14 (A : Option Addr) (n c : Nat) (w : World) (hnc : n ≤ c) (hc : c ≤ maxLen) :
    Calls Tryd.prog 76 #[.slice A n c] w fun e w' => e = .returned (.slice A n n) ∧ w = w' := by
  unfold maxLen at hc
  go_enter Tryd.func76, Tryd.ntmps76
  go_wp2
  go_ret
  exact ⟨rfl, rfl⟩
theorem own_empty14 (w : World) (t : TypeId) (size : Nat) : (w.alloc (.cells #[] t)).ownsRow w.heap.size t size (.slice (some ⟨w.heap.size, 0, none⟩) 0 0) 0 [] := by
  refine ⟨?_, .inr ⟨w.heap.size, 0, #[], rfl, Nat.le_refl _, ?_, ?_⟩⟩
  · simp
  · exact heap_alloc_new w _
  · simp
set_option maxHeartbeats 2000000 in
theorem clone14 (ad : Addr) (n c B : Nat) (l : List LAcc) (w : World) (hl : AccsIn w B (some ad) n l) (hB : B ≤ w.heap.size) (hn : n ≤ 100000) (h0 : 0 < n) :
    Calls Tryd.prog 77 #[.slice (some ad) n c] w fun e w' => ∃ g cap rest, e = .returned (.slice (some ⟨g, 0, none⟩) n cap) ∧ OutAt w' w.heap.size g cap n rest l ∧ Below w.heap.size w w' := by
  have hb0 := (Below.refl w.heap.size w).alloc (Nat.le_refl _) (.cells #[] 59)
  have HB0 := Lib.hid hb0
  have HLS := Lib.hid (hl.below (hb0.mono hB)).sees
  have HE := Lib.hid (own_empty14 w 59 34)
  have HO := Lib.hid hl.ok
  have HLN := Lib.hid hl.len
  have ne1 : ∀ w, (binOp .eql 49 (.slice (some ad) n c) (.slice none 0 0)).run Tryd.prog w = .ok (.bool false) w := fun w => by first | rfl | kernel_rfl
  clear hl hb0
  go_enter Tryd.func77, Tryd.ntmps77
  go_wp2_with (first
    | ((with_reducible show wpList _ _ _ ({ dst := some 7, op := _, type := _, pos := _, after := _, guard := _ } :: _) _ _); go_must (refine wpList_appendN rfl (.tmp 5) (.tmp 6) 49 59 _ 34 48 rfl Tryd.underlying49 infoAc14 zszAc14 (by omega) (.slice (some ⟨w.heap.size, 0, none⟩) 0 0) 0 [] w.heap.size B (some ad) n c (accsC l) ?_ HE.out ?_ HLS.out (accsC_one _) (by unfold maxLen; omega) (by omega) (by simp) ?_; go_simp; go_simp; intro v4 w4 ho4 hg4)))
  rw [Nat.zero_add, List.nil_append] at ho4
  obtain ⟨g, cap, rest, rfl, hO⟩ := own_out14 ho4 HLN.out h0 HO.out
  go_ret
  exact ⟨g, cap, rest, rfl, hO, HB0.out.trans (hg4.below HE.out (by simp))⟩
open Classical in
/-- how a deed in a map reads -/
noncomputable def fnE (v : Value) : Option (DataW Unit × List MemPlace) := if h : ∃ f : Nat, v = .func (.func f) #[] #[] then some (.lit (.int .i64 h.choose), []) else if v = .nilFunc then some (.lit (.int .i64 (-1)), []) else none
theorem fnE_mk (f : Nat) : fnE (.func (.func f) #[] #[]) = some (.lit (.int .i64 f), []) := by
  have h : ∃ k : Nat, Value.func (.func f) #[] #[] = .func (.func k) #[] #[] := ⟨f, rfl⟩
  unfold fnE
  rw [dif_pos h]
  have h1 := h.choose_spec
  injection h1 with h1
  injection h1 with h1
  rw [← h1]
theorem fnE_nil : fnE .nilFunc = some (.lit (.int .i64 (-1)), []) := by
  unfold fnE
  rw [dif_neg (by rintro ⟨f, h⟩; cases h), if_pos rfl]
theorem fnE_inv {v : Value} {f : Nat} {ps : List MemPlace} (h : fnE v = some (.lit (.int .i64 f), ps)) : v = .func (.func f) #[] #[] := by
  unfold fnE at h
  split at h
  · rename_i hx
    have h1 := hx.choose_spec
    injection h with h
    injection h with h _
    injection h with h
    injection h with _ h
    have h2 : hx.choose = f := by exact_mod_cast h
    rw [h1, h2]
  · split at h
    · injection h with h
      injection h with h _
      injection h with h
      injection h with _ h
      omega
    · cases h
theorem law_u64 : Keyed Tryd.prog 37 := int_keyed Tryd.underlying37
theorem wpList_insert_own14 {H : Type} {P : Program} (w : World) {ops : Array Oper} {rest : List Oper} {o : Oper} {a : Act} {Q : Exit → Act → World → Prop}
    (hg : o.guard = none) (m x v : Operand) (t : TypeId) (hop : o.op = Op.insert t m x v)
    (k e : TypeId) (K : Keyed P k) (ht : P.underlying t = some (.map k e)) (R : Value → Option (DataW H × List MemPlace)) (b n : Nat) (D : DataW H)
    (hm : a.eval m = .map (some b)) (hown : w.ownsMap P k R b n D) (hn : n < maxLen) (key val : Value) (kl : Lit) (hx : a.eval x = key) (hv : a.eval v = val) (hkey : Go.keyOf P k key = some kl)
    (d : DataW H) (ps : List MemPlace) (hval : R val = some (d, ps))
    (hK : ∀ w', w'.ownsMap P k R b (n + 1) (D.put kl d) → w.grownBy w' (some b) → wpList P ops Q rest (a.put o.dst undef) w') :
    wpList P ops Q (o :: rest) a w := by
  refine wpList_plain hg fun K' hK' => ?_
  obtain ⟨w', hrun, r1, r2⟩ := hown.update K ht hn hkey hval
  unfold Oper.wp
  simp [execOp, hop, hm, hx, hv, hrun, Result.andThen]
  exact hK' _ _ (hK w' r1 r2)
def KeyD14 (k : Int) : Lit := .int .u64 k
def FnD14 (f : Nat) : DataW Unit := .lit (.int .i64 f)
/-- what the map of deeds reads as -/
def DD14 : DataW Unit := ((((DataW.map []).put (KeyD14 0) (FnD14 83)).put (KeyD14 1) (FnD14 84)).put (KeyD14 2) (FnD14 85)).put (KeyD14 8) (FnD14 86)
theorem key_u64 (k : Int) (h0 : 0 ≤ k) (h1 : k < 18446744073709551616) : Go.keyOf Tryd.prog 37 (.int .u64 k) = some (KeyD14 k) := keyOf_int_mk Tryd.underlying37 (show (decide ((0 : Int) ≤ k) && decide (k ≤ 18446744073709551615)) = true by rw [Bool.and_eq_true, decide_eq_true_iff, decide_eq_true_iff]; omega)
/-- the deed of a tag -/
def deedF (t : Int) : Nat := if t = 0 then 83 else if t = 1 then 84 else if t = 2 then 85 else 86
theorem dd_at14 {t : Int} (h : t = 0 ∨ t = 1 ∨ t = 2 ∨ t = 8) (z : DataW Unit) : DD14.atKey (KeyD14 t) z = FnD14 (deedF t) := by
  rcases h with rfl | rfl | rfl | rfl <;> rfl
theorem deed_look14 {w : World} {b n : Nat} (hown : w.ownsMap Tryd.prog 37 fnE b n DD14) {t : Int} (h : t = 0 ∨ t = 1 ∨ t = 2 ∨ t = 8) : (Instr.lookup 185 (.map (some b)) (.int .u64 t) false).run Tryd.prog w = .ok (.func (.func (deedF t)) #[] #[]) w := by
  obtain ⟨v, ps, hrun, hv⟩ := hown.lookup law_u64 Tryd.underlying185 (show (zeroValue 184).run Tryd.prog w = .ok .nilFunc w by kernel_rfl) fnE_nil (key_u64 t (by omega) (by omega))
  rw [dd_at14 h] at hv
  rw [hrun, fnE_inv hv]
set_option maxHeartbeats 2000000 in
theorem deeds14 (w : World) : Calls Tryd.prog 78 #[] w fun e w' => e = .returned (.map (some w.heap.size)) ∧ w'.ownsMap Tryd.prog 37 fnE w.heap.size 4 DD14 ∧ Below w.heap.size w w' := by
  have HM := Lib.hid (World.ownsMap_made w Tryd.prog 37 fnE)
  have HB := Lib.hid ((Below.refl w.heap.size w).alloc (Nat.le_refl _) (.map #[] 0))
  have hmm : ∀ w, (Instr.makeMap 185 none).run Tryd.prog w = .ok (.map (some w.heap.size)) (w.alloc (.map #[] 0)) := fun w => by first | rfl | kernel_rfl
  go_enter Tryd.func78, Tryd.ntmps78
  go_upto_region 1 with fail
  go_wp2_with (first
    | ((with_reducible show wpList _ _ _ ({ dst := none, op := Op.insert _ _ (.const (.int .u64 0)) _, type := _, pos := _, after := _, guard := _ } :: _) _ _); go_must (refine wpList_insert_own14 _ rfl (.tmp 1) (.const (.int .u64 0)) (.func 83) 185 rfl 37 184 law_u64 Tryd.underlying185 fnE w.heap.size 0 _ ?_ HM.out (by decide) (.int .u64 0) (.func (.func 83) #[] #[]) (KeyD14 0) rfl rfl (key_u64 0 (by decide) (by decide)) (FnD14 83) [] (fnE_mk _) ?_; go_simp; intro w1 ho1 hg1; have H1 := Lib.hid ho1; have B1 := Lib.hid (HB.out.grown hg1 HB.out.size (fun k hk => by cases hk; exact Nat.le_refl _)); clear ho1 hg1))
    | ((with_reducible show wpList _ _ _ ({ dst := none, op := Op.insert _ _ (.const (.int .u64 1)) _, type := _, pos := _, after := _, guard := _ } :: _) _ _); go_must (refine wpList_insert_own14 _ rfl (.tmp 1) (.const (.int .u64 1)) (.func 84) 185 rfl 37 184 law_u64 Tryd.underlying185 fnE w.heap.size 1 _ ?_ H1.out (by decide) (.int .u64 1) (.func (.func 84) #[] #[]) (KeyD14 1) rfl rfl (key_u64 1 (by decide) (by decide)) (FnD14 84) [] (fnE_mk _) ?_; go_simp; intro w2 ho2 hg2; have H2 := Lib.hid ho2; have B2 := Lib.hid (B1.out.grown hg2 B1.out.size (fun k hk => by cases hk; exact Nat.le_refl _)); clear ho2 hg2))
    | ((with_reducible show wpList _ _ _ ({ dst := none, op := Op.insert _ _ (.const (.int .u64 2)) _, type := _, pos := _, after := _, guard := _ } :: _) _ _); go_must (refine wpList_insert_own14 _ rfl (.tmp 1) (.const (.int .u64 2)) (.func 85) 185 rfl 37 184 law_u64 Tryd.underlying185 fnE w.heap.size 2 _ ?_ H2.out (by decide) (.int .u64 2) (.func (.func 85) #[] #[]) (KeyD14 2) rfl rfl (key_u64 2 (by decide) (by decide)) (FnD14 85) [] (fnE_mk _) ?_; go_simp; intro w3 ho3 hg3; have H3 := Lib.hid ho3; have B3 := Lib.hid (B2.out.grown hg3 B2.out.size (fun k hk => by cases hk; exact Nat.le_refl _)); clear ho3 hg3))
    | ((with_reducible show wpList _ _ _ ({ dst := none, op := Op.insert _ _ (.const (.int .u64 8)) _, type := _, pos := _, after := _, guard := _ } :: _) _ _); go_must (refine wpList_insert_own14 _ rfl (.tmp 1) (.const (.int .u64 8)) (.func 86) 185 rfl 37 184 law_u64 Tryd.underlying185 fnE w.heap.size 3 _ ?_ H3.out (by decide) (.int .u64 8) (.func (.func 86) #[] #[]) (KeyD14 8) rfl rfl (key_u64 8 (by decide) (by decide)) (FnD14 86) [] (fnE_mk _) ?_; go_simp; intro w4 ho4 hg4; have H4 := Lib.hid ho4; have B4 := Lib.hid (B3.out.grown hg4 B3.out.size (fun k hk => by cases hk; exact Nat.le_refl _)); clear ho4 hg4)))
  go_ret
  exact ⟨rfl, H4.out, B4.out⟩
end Go.Proofs.YtfaefpniiiandaaDoor
