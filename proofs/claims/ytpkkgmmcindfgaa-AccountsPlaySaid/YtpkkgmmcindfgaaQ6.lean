/-
  Parts joined: Made13 LastMath13 LastWalk13 AgainWalk13 CoinsWalk13.
-/
import Derived.Below
import Derived.Laws.OwnMore
import Derived.Deep.AppendLies
import Derived.Deep.Draws
import Derived.Lib.Hide
import Derived.Laws.MakeOwn
import Derived.Laws.CopyOwn
import Derived.Laws.Rows
import Derived.Laws.BitsAllLaws
import Derived.WalkKit
import Derived.Test.YtpkkgmmcindfgaaRows
import Derived.WalkSpells
import Derived.WalkLawsBesides
import Derived.IntWalk
import Derived.Deep.MidRow
import Derived.Deep.WholeRow
import Derived.Maps.AppendAt
import Derived.OwnWalk
import Derived.Great.BuildSlice
import Derived.Recover
import Derived.Deep.RegionHeld
import Derived.Deep.QuietTactic
import Derived.BigQuiet
import Derived.ChangeKeysEq
import Derived.ProofKit
import Derived.OpenShut
import Derived.ShutString
import Derived.ChangeOld
import Derived.Lib.SmallJoins
import Derived.Deep.Slices
import Derived.Deep.Strs
import Derived.SizedLaws
import Derived.Deep.RegionHeld2
import Derived.Deep.CutBlock
import Derived.Laws.Tables
import Derived.Laws.StructEq
import Derived.Maps.OwnSet
import Derived.DeepKeys4
import Derived.WideKeyArr
import Derived.Maps.RangeWalk
import Derived.Laws.Slices
import Derived.Deep.DeepCutAuto
import Derived.Laws.EntriesVeiled
import Derived.Deep.RegionHeld3
import Derived.WalkMore
import Derived.WideKeyEntry
import Derived.Shelf.SlMaps.Clone
import Derived.Laws.BytesArg
import Derived.Laws.Strings
import Derived.Lib.Strings
import Derived.Great.Walk
import Derived.Laws.Bits64b
import Derived.Laws.Externs
import Derived.Shelf.SlSortCmp.WholeK
import Derived.Shelf.SlSortCmp.NoneTotal
import Derived.Ground.SlsfProg
import Derived.Lib.BytesEntry
import Derived.Laws.Append
import Derived.Laws.AppendOwn
import Derived.LaidMore
import Derived.Test.YtpkkgmmcindfgaaQ1
import Derived.Test.YtpkkgmmcindfgaaQ2
import Derived.Test.YtpkkgmmcindfgaaQ3
import Derived.Test.YtpkkgmmcindfgaaQ4
import Derived.Test.YtpkkgmmcindfgaaQ5
/-
  Of part Made13: what is needed here.
-/
namespace Go.Proofs.Ytpkkgmmcindfgaa
open Go.RowKit
set_option linter.unusedVariables false
set_option maxRecDepth 100000
/-- what puts leave -/
def puts13 (l : List LAct13) : List LHold := l.foldl (fun L x => putH L x.k x.a) []
theorem puts13_succ {l : List LAct13} {k : Nat} {x : LAct13} (h : l[k]? = some x) : puts13 (l.take (k + 1)) = putH (puts13 (l.take k)) x.k x.a := by
  unfold puts13
  rw [List.take_add_one, h, Option.toList_some, List.foldl_append]
  rfl
theorem puts13_len (l : List LAct13) : (puts13 l).length ≤ l.length := by
  have : ∀ (l : List LAct13) (L : List LHold), (l.foldl (fun L x => putH L x.k x.a) L).length ≤ L.length + l.length := fun l => by
    induction l with
    | nil => intro L; simp
    | cons x l ih =>
      intro L
      have := ih (putH L x.k x.a)
      have := putH_len L x.k x.a
      simp only [List.foldl_cons, List.length_cons]
      omega
  have := this l []
  unfold puts13
  simpa using this
def MadeDone13 (w : World) (L : List LHold) (e : Ending) (w' : World) : Prop := ∃ sb mb, e = .returned (.pointer (some ⟨sb, 0, none⟩)) ∧ StIn w' sb mb L ∧ w.heap.size ≤ sb ∧ w.heap.size ≤ mb ∧ Below w.heap.size w w'
set_option maxHeartbeats 4000000 in
theorem made13 (A : Option Addr) (n c : Nat) (l : List LAct13) (w : World) (hl : ActsIn13 w w.heap.size A n l) (hn : n ≤ 150) : Calls Try.prog 24 #[.slice A n c] w (MadeDone13 w (puts13 l)) := by
  have HM := Lib.hid hl
  clear hl
  go_enter Try.func24, Try.ntmps24
  go_wp2_with fail
  refine (new13 w).mono ?_
  rintro e w1 ⟨sb, mb, rfl, hs, h1, h2, hb⟩
  have S1 := Lib.hid hs
  have B1 := Lib.hid hb
  have HLO := Lib.hid (And.intro h1 h2)
  clear hs hb h1 h2
  go_wp2_with fail
  go_loopw [4] (fun i wr => ∃ k : Nat, k ≤ n ∧ i = .int .i64 k ∧ StIn wr sb mb (puts13 (l.take k)) ∧ Below w.heap.size w wr) (fun i _ => n - (intOf i).toNat)
  case atStart => exact ⟨0, Nat.zero_le _, rfl, S1.out, B1.out⟩
  case round =>
    clear S1 B1
    obtain ⟨k, hk, rfl, hst, hb⟩ := hrel
    have HST := Lib.hid hst
    have HB := Lib.hid hb
    clear hst hb
    by_cases hlt : k < n
    · have hlt' : (k : Int) < n := by omega
      obtain ⟨a, x, rfl, hab, hx, hok, hcs⟩ := HM.out.get hlt
      have HX := Lib.hid hok
      have HMT := Lib.hid (puts13_succ hx)
      have HLN : Hid ((puts13 (l.take k)).length ≤ 900) := Lib.hid (by have := puts13_len (l.take k); have := List.length_take_le k l; omega)
      have HSK : Hid ((Try.prog.info? 24).map (·.size) = some (bv x.k).length) := Lib.hid (by rw [size_key, bv_length, hok.k.1])
      have HSA := Lib.hid (size_acc hok.a.o.1)
      have HCK : Hid (∀ V, Below w.heap.size w V → ∀ j u, (bv x.k)[j]? = some u → V.cell? ((⟨(a.add (k * 67)).block, (a.add (k * 67)).off + 1, none⟩ : Addr).add j) = some u) := Lib.hid fun V hV j u hu => by
        rw [addr_field _ (by omega), addr_add, hV.cell (by rw [addr_block, addr_block]; exact hab), ← addr_add]
        rw [addr_add]
        exact hcs _ _ (act13_k hu)
      have HCA : Hid (∀ V, Below w.heap.size w V → ∀ j u, x.a.cells[j]? = some u → V.cell? ((⟨(a.add (k * 67)).block, (a.add (k * 67)).off + 33, none⟩ : Addr).add j) = some u) := Lib.hid fun V hV j u hu => by
        rw [addr_field _ (by omega), addr_add, hV.cell (by rw [addr_block, addr_block]; exact hab)]
        exact hcs _ _ (act13_a hok.k.1 hu)
      clear hab hcs hx hok
      go_upto_region 5 with fail
      refine wp_region_held_drew (S := (fun V => Below w.heap.size w V)) (by kernel_rfl) HB.out.drew (fun _ => ?_)
      refine takeL (i := 0) (v := ?_) rfl (by kernel_rfl) (by kernel_rfl) (by kernel_rfl) (fun _ _ _ h => h) (Or.inl ⟨by rfl, ?_⟩) HB.out.drew ?_
      rotate_left
      · intro w hw
        try dsimp only at hw
        go_simp
        try with_reducible rfl
      try simp only [Act.put, List.setIfInBounds_toArray, List.set_cons_zero, List.set_cons_succ]
      refine takeL (i := 1) (v := ?_) rfl (by kernel_rfl) (by kernel_rfl) (by kernel_rfl) (fun _ _ _ h => h) (Or.inl ⟨by rfl, ?_⟩) HB.out.drew ?_
      rotate_left
      · intro w hw
        try dsimp only at hw
        go_simp
        try with_reducible rfl
      try simp only [Act.put, List.setIfInBounds_toArray, List.set_cons_zero, List.set_cons_succ]
      refine takeL (i := 2) (v := ?_) rfl (by kernel_rfl) (by kernel_rfl) (by kernel_rfl) (fun _ _ _ h => h) (Or.inl ⟨by rfl, ?_⟩) HB.out.drew ?_
      rotate_left
      · intro w hw
        try dsimp only at hw
        go_simp
        try with_reducible rfl
      try simp only [Act.put, List.setIfInBounds_toArray, List.set_cons_zero, List.set_cons_succ]
      refine takeL (i := 3) (v := ?_) rfl (by kernel_rfl) (by kernel_rfl) (by kernel_rfl) (fun _ _ _ h => h) (Or.inl ⟨by rfl, ?_⟩) HB.out.drew ?_
      rotate_left
      · intro w hw
        try dsimp only at hw
        go_simp
        try with_reducible rfl
      try simp only [Act.put, List.setIfInBounds_toArray, List.set_cons_zero, List.set_cons_succ]
      refine takeL (i := 4) (v := ?_) rfl (by kernel_rfl) (by kernel_rfl) (by kernel_rfl) (fun _ _ _ h => h) (Or.inl ⟨by rfl, ?_⟩) HB.out.drew ?_
      rotate_left
      · intro w hw
        try dsimp only at hw
        go_simp
        try with_reducible rfl
      try simp only [Act.put, List.setIfInBounds_toArray, List.set_cons_zero, List.set_cons_succ]
      refine takeL (i := 5) (v := .agg (bv x.k).toArray) rfl (by kernel_rfl) (by kernel_rfl) (by kernel_rfl) (fun _ _ _ h => h) (Or.inl ⟨by rfl, fun wz hwz => exec_load_at wz 24 (.tmp 16) rfl ⟨(a.add (k * 67)).block, (a.add (k * 67)).off + 1, none⟩ (bv x.k) _ Try.underlying24 rfl HSK.out (HCK.out wz hwz) (by go_simp)⟩) HB.out.drew ?_
      try simp only [Act.put, List.setIfInBounds_toArray, List.set_cons_zero, List.set_cons_succ]
      refine takeL (i := 6) (v := ?_) rfl (by kernel_rfl) (by kernel_rfl) (by kernel_rfl) (fun _ _ _ h => h) (Or.inl ⟨by rfl, ?_⟩) HB.out.drew ?_
      rotate_left
      · intro w hw
        try dsimp only at hw
        go_simp
        try with_reducible rfl
      try simp only [Act.put, List.setIfInBounds_toArray, List.set_cons_zero, List.set_cons_succ]
      refine takeL (i := 7) (v := ?_) rfl (by kernel_rfl) (by kernel_rfl) (by kernel_rfl) (fun _ _ _ h => h) (Or.inl ⟨by rfl, ?_⟩) HB.out.drew ?_
      rotate_left
      · intro w hw
        try dsimp only at hw
        go_simp
        try with_reducible rfl
      try simp only [Act.put, List.setIfInBounds_toArray, List.set_cons_zero, List.set_cons_succ]
      refine takeL (i := 8) (v := ?_) rfl (by kernel_rfl) (by kernel_rfl) (by kernel_rfl) (fun _ _ _ h => h) (Or.inl ⟨by rfl, ?_⟩) HB.out.drew ?_
      rotate_left
      · intro w hw
        try dsimp only at hw
        go_simp
        try with_reducible rfl
      try simp only [Act.put, List.setIfInBounds_toArray, List.set_cons_zero, List.set_cons_succ]
      refine takeL (i := 9) (v := ?_) rfl (by kernel_rfl) (by kernel_rfl) (by kernel_rfl) (fun _ _ _ h => h) (Or.inl ⟨by rfl, ?_⟩) HB.out.drew ?_
      rotate_left
      · intro w hw
        try dsimp only at hw
        go_simp
        try with_reducible rfl
      try simp only [Act.put, List.setIfInBounds_toArray, List.set_cons_zero, List.set_cons_succ]
      refine takeL (i := 10) (v := .agg x.a.cells.toArray) rfl (by kernel_rfl) (by kernel_rfl) (by kernel_rfl) (fun _ _ _ h => h) (Or.inl ⟨by rfl, fun wz hwz => exec_load_at wz 35 (.tmp 21) rfl ⟨(a.add (k * 67)).block, (a.add (k * 67)).off + 33, none⟩ x.a.cells _ Try.underlying35 rfl HSA.out (HCA.out wz hwz) (by go_simp)⟩) HB.out.drew ?_
      try simp only [Act.put, List.setIfInBounds_toArray, List.set_cons_zero, List.set_cons_succ]
      refine readyL (i := 11) rfl (by kernel_rfl) (by kernel_rfl) fun K hK => ?_
      go_simp
      refine (put13 sb mb (puts13 (l.take k)) x.k x.a _ (HST.out.below (Below.refl _ _).drew) HX.out.k HX.out.a HLN.out).mono ?_
      rintro e w2 ⟨rfl, hs, hg⟩
      rw [← HMT.out] at hs
      have ST2 := Lib.hid hs
      have B2 := Lib.hid (show Below w.heap.size w w2 from (HB.out.drew).grown hg (HB.out.drew).size (fun j hj => by cases hj; exact HLO.out.2))
      clear hs hg
      refine hK.out _ _ B2.out ?_
      clear hK K
      try simp only [Act.put, List.setIfInBounds_toArray, List.set_cons_zero, List.set_cons_succ]
      refine wpAnyH_done (by kernel_rfl) ?_ _
      go_wp2_with fail
      go_roundw
      case rel => exact ⟨k + 1, by omega, by go_num, ST2.out, B2.out⟩
      case measure => simp [intOf]; omega
    · have hke : k = n := by omega
      have hlt' : ¬ (k : Int) < n := by omega
      have HT : Hid (l.take k = l) := Lib.hid (by rw [hke, ← HM.out.len]; exact List.take_length)
      rw [HT.out] at HST
      go_wp2_with fail
      go_ret
      exact ⟨sb, mb, rfl, HST.out, HLO.out.1, HLO.out.2, HB.out⟩
end Go.Proofs.Ytpkkgmmcindfgaa

/-
  Of part LastMath13: what is needed here.
-/
namespace Go.Proofs.Ytpkkgmmcindfgaa
set_option linter.unusedVariables false
def KS13 (l : List LAct13) : List (List Int) := l.foldl (fun ks x => addK ks x.k) []
def FS13 (l : List LAct13) : List Int → LAcc := l.foldl (fun f x => updF f x.k x.a) (fun _ => blank13)
theorem KS13_succ {l : List LAct13} {k : Nat} {x : LAct13} (h : l[k]? = some x) : KS13 (l.take (k + 1)) = addK (KS13 (l.take k)) x.k := by
  unfold KS13
  rw [List.take_add_one, h, Option.toList_some, List.foldl_append]
  rfl
theorem FS13_succ {l : List LAct13} {k : Nat} {x : LAct13} (h : l[k]? = some x) : FS13 (l.take (k + 1)) = updF (FS13 (l.take k)) x.k x.a := by
  unfold FS13
  rw [List.take_add_one, h, Option.toList_some, List.foldl_append]
  rfl
theorem last_fold : ∀ (l : List LAct13) (L : List LHold) (ks : List (List Int)) (f : List Int → LAcc), (∀ x ∈ l, ActOk13 x) → Sto L → (∀ k, getH L k = f k) → (∀ k, k ∉ ks → f k = blank13) →
    Sto (l.foldl (fun L x => putH L x.k x.a) L) ∧ (∀ k, getH (l.foldl (fun L x => putH L x.k x.a) L) k = l.foldl (fun f x => updF f x.k x.a) f k) ∧ ∀ k, k ∉ l.foldl (fun ks x => addK ks x.k) ks → l.foldl (fun f x => updF f x.k x.a) f k = blank13
  | [], L, ks, f, _, h1, h2, h3 => ⟨h1, h2, h3⟩
  | x :: r, L, ks, f, hok, h1, h2, h3 => by
    have hx := hok x List.mem_cons_self
    refine last_fold r (putH L x.k x.a) (addK ks x.k) (updF f x.k x.a) (fun y hy => hok y (List.mem_cons_of_mem _ hy)) (h1.put hx.k hx.a) (fun k => ?_) fun k hk => ?_
    · rw [getH_put h1 hx.k hx.a, h2]
      rfl
    · unfold updF
      rw [if_neg fun e => hk (mem_addK.2 (.inr e)), h3 k fun hm => hk (mem_addK.2 (.inl hm))]
theorem last_is {l : List LAct13} (hok : ∀ x ∈ l, ActOk13 x) : Sto (puts13 l) ∧ (∀ k, getH (puts13 l) k = FS13 l k) ∧ ∀ k, k ∉ KS13 l → FS13 l k = blank13 :=
  last_fold l [] [] (fun _ => blank13) hok sto_nil (fun _ => rfl) fun _ _ => rfl
theorem KS13_len (l : List LAct13) : (KS13 l).length ≤ l.length := by
  have : ∀ (l : List LAct13) (ks : List (List Int)), (l.foldl (fun ks x => addK ks x.k) ks).length ≤ ks.length + l.length := fun l => by
    induction l with
    | nil => intro ks; simp
    | cons x r ih =>
      intro ks
      have h1 := ih (addK ks x.k)
      have h2 : (addK ks x.k).length ≤ ks.length + 1 := by
        unfold addK
        split
        · omega
        · simp
      simp only [List.foldl_cons, List.length_cons]
      omega
  have := this l []
  unfold KS13
  simpa using this
theorem nodup_le {α : Type} [DecidableEq α] : ∀ {l m : List α}, l.Nodup → (∀ x ∈ l, x ∈ m) → l.length ≤ m.length
  | [], _, _, _ => Nat.zero_le _
  | x :: r, m, hd, h => by
    have hd' := List.nodup_cons.1 hd
    have hx := h x List.mem_cons_self
    have h1 := nodup_le (m := m.erase x) hd'.2 fun y hy => (List.mem_erase_of_ne (fun e => hd'.1 (by rw [← e]; exact hy))).2 (h y (List.mem_cons_of_mem _ hy))
    rw [List.length_erase_of_mem hx] at h1
    have h2 : 0 < m.length := List.length_pos_of_mem hx
    simp only [List.length_cons]
    omega
theorem sto_keys_nodup {L : List LHold} (h : Sto L) : (L.map (·.k)).Nodup := by
  rw [List.nodup_iff_pairwise_ne, List.pairwise_map]
  exact h.rise.imp fun hk => kless_ne hk
theorem sto_keys_mem {L : List LHold} (h : Sto L) (k : List Int) : k ∈ L.map (·.k) ↔ getH L k ≠ blank13 := by
  rw [List.mem_map]
  constructor
  · rintro ⟨x, hx, rfl⟩
    rw [(h.mem.1 hx).2]
    exact (h.mem.1 hx).1
  · intro hne
    rcases getH_cases L k with ⟨_, h1⟩ | h1
    · exact absurd h1 hne
    · exact ⟨_, h1, rfl⟩
/-- so many keys have an account that is not blank -/
theorem count_last {L : List LHold} (h : Sto L) {ks vs : List (List Int)} {f : List Int → LAcc} (hf : ∀ k, getH L k = f k) (hb : ∀ k, k ∉ ks → f k = blank13) (hd : vs.Nodup) (hv : ∀ k ∈ ks, k ∈ vs) : (vs.filter fun k => f k ≠ blank13).length = L.length := by
  have hm : ∀ k, k ∈ (vs.filter fun k => f k ≠ blank13) ↔ f k ≠ blank13 := fun k => by
    rw [List.mem_filter]
    constructor
    · intro h
      simpa using h.2
    · intro h
      refine ⟨hv k (Classical.byContradiction fun hk => h (hb k hk)), by simpa using h⟩
  have h1 := nodup_le (l := vs.filter fun k => f k ≠ blank13) (m := L.map (·.k)) (hd.filter _) fun k hk => (sto_keys_mem h k).2 (by rw [hf]; exact (hm k).1 hk)
  have h2 := nodup_le (l := L.map (·.k)) (m := vs.filter fun k => f k ≠ blank13) (sto_keys_nodup h) fun k hk => (hm k).2 (by rw [← hf]; exact (sto_keys_mem h k).1 hk)
  rw [List.length_map] at h1 h2
  omega
/-- so many are not blank -/
def nb13 (f : List Int → LAcc) (vs : List (List Int)) : Nat := (vs.filter fun k => f k ≠ blank13).length
theorem nb13_yes {f : List Int → LAcc} {vs : List (List Int)} {k : List Int} (h : f k ≠ blank13) : nb13 f (k :: vs) = nb13 f vs + 1 := by
  unfold nb13
  rw [List.filter_cons_of_pos (by simpa using h)]
  rfl
theorem nb13_no {f : List Int → LAcc} {vs : List (List Int)} {k : List Int} (h : f k = blank13) : nb13 f (k :: vs) = nb13 f vs := by
  unfold nb13
  rw [List.filter_cons_of_neg (by simpa using h)]
theorem nb13_le (f : List Int → LAcc) (vs : List (List Int)) : nb13 f vs ≤ vs.length := List.length_filter_le _ _
theorem kless_next {L : List LHold} (h : Sto L) {j : Nat} {x y : LHold} (hx : L[j]? = some x) (hy : L[j + 1]? = some y) : kless x.k y.k = true := by
  obtain ⟨h1, rfl⟩ := List.getElem?_eq_some_iff.1 hx
  obtain ⟨h2, rfl⟩ := List.getElem?_eq_some_iff.1 hy
  exact List.pairwise_iff_getElem.1 h.rise j (j + 1) h1 h2 (by omega)
end Go.Proofs.Ytpkkgmmcindfgaa

/-
  Of part LastWalk13: what is needed here.
-/
namespace Go.Proofs.Ytpkkgmmcindfgaa
open Go.RowKit Go.Maps
set_option linter.unusedVariables false
set_option maxRecDepth 100000
theorem quiet_built13 {ops : Array Oper} {C : World → Prop} {Q : Act → Prop} {a : Act} {o : Oper} {rest : List Oper} (hw : Region.wanted o (yielded ops a.tmps) = true) (t : TypeId) (parts : Array (Nat × Operand)) (cells : Array Value) (ho : o.op = .build t parts) (h : Try.prog.built t (parts.map fun (i, x) => (i, a.eval x)).toList = some cells)
    (hk : wpQuiet Try.prog ops C Q rest (a.put o.dst (.agg cells))) : wpQuiet Try.prog ops C Q (o :: rest) a :=
  BigFrame.wpQuiet_want hw fun K hK => ⟨_, fun w hC => by
    unfold Oper.quietAt
    rw [exec_built w t parts cells ho h]
    exact ⟨rfl, rfl⟩, hK _ hk⟩
theorem StIn.far2 {V V' : World} {sb mb nb : Nat} {L : List LHold} (h : StIn V sb mb L) (hg : V.grownBy V' (some nb)) (h1 : sb ≠ nb ∧ mb ≠ nb) : StIn V' sb mb L :=
  h.keep (hg.block sb h.lt.1 fun e => h1.1 (Option.some.inj e)) (hg.block mb h.lt.2 fun e => h1.2 (Option.some.inj e))
set_option maxHeartbeats 16000000 in
theorem last_walk13 (A : Option Addr) (n c : Nat) (l : List LAct13) (w : World) (hl : ActsIn13 w w.heap.size A n l) : Calls Try.prog 5 #[.slice A n c] w fun e w' => e = .returned (.bool true) ∧ Below w.heap.size w w' := by
  have HM := Lib.hid hl
  clear hl
  by_cases h5 : 150 < n
  · have h5' : (150 : Int) < n := by omega
    go_enter Try.func5, Try.ntmps5
    go_wp2_with fail
    refine (lives13 _).mono ?_
    rintro e w2 ⟨rfl, hb⟩
    have HB := Lib.hid hb
    clear hb
    go_wp2_with fail
    go_ret
    exact ⟨rfl, HB.out⟩
  have h5' : ¬ (150 : Int) < n := by omega
  have HLS := Lib.hid (last_is HM.out.ok)
  have HLN : Hid ((puts13 l).length ≤ 150) := Lib.hid (by have := puts13_len l; have := HM.out.len; omega)
  go_enter Try.func5, Try.ntmps5
  go_wp2_with fail
  refine (made13 A n c l w HM.out (by omega)).mono ?_
  rintro e w1 ⟨sb, mb, rfl, hs, h1, h2, hb⟩
  generalize puts13 l = L at *
  have S1 := Lib.hid hs
  have B1 := Lib.hid hb
  clear hs hb h1 h2
  have hmm := @run_makeMap Try.prog
  go_upto_region 6 with fail
  clear hmm
  have HNE : Hid (sb ≠ w1.heap.size ∧ mb ≠ w1.heap.size ∧ w.heap.size ≤ w1.heap.size) := Lib.hid (by have := S1.out.lt; have := B1.out.size; omega)
  have O2 := Lib.hid (World.ownsMap_made w1 Try.prog 24 accE)
  have S2 := Lib.hid (S1.out.below ((Below.refl w1.heap.size w1).alloc (Nat.le_refl _) (.map #[] 0)))
  have B2 := Lib.hid (B1.out.alloc B1.out.size (.map #[] 0))
  obtain ⟨lb, hlb⟩ : ∃ b, b = w1.heap.size := ⟨_, rfl⟩
  rw [← hlb] at HNE O2 ⊢
  clear hlb S1 B1
  generalize w1.alloc (.map #[] 0) = w2 at *
  go_loopw [5] (fun i wr => ∃ (k : Nat) (D : DataW Unit), k ≤ n ∧ i = .int .i64 k ∧ StIn wr sb mb L ∧ wr.ownsMap Try.prog 24 accE lb k D ∧ AD D (KS13 (l.take k)) (FS13 (l.take k)) ∧ Below w.heap.size w wr) (fun i _ => n - (intOf i).toNat)
  case atStart => exact ⟨0, _, Nat.zero_le _, rfl, S2.out, O2.out, ad_nil _, B2.out⟩
  case round =>
    clear S2 O2 B2
    obtain ⟨k, D, hk, rfl, hst, hown, had, hb⟩ := hrel
    have HST := Lib.hid hst
    have HOW := Lib.hid hown
    have HAD := Lib.hid had
    have HB := Lib.hid hb
    clear hst hown had hb
    by_cases hlt : k < n
    · have hlt' : (k : Int) < n := by omega
      obtain ⟨a, x, rfl, hab, hx, hok, hcs⟩ := HM.out.get hlt
      have HX := Lib.hid hok
      have HKS := Lib.hid (KS13_succ hx)
      have HFS := Lib.hid (FS13_succ hx)
      have HSK : Hid ((Try.prog.info? 24).map (·.size) = some (bv x.k).length) := Lib.hid (by rw [size_key, bv_length, hok.k.1])
      have HSA := Lib.hid (size_acc hok.a.o.1)
      have HCK : Hid (∀ V, Below w.heap.size w V → ∀ j u, (bv x.k)[j]? = some u → V.cell? ((⟨(a.add (k * 67)).block, (a.add (k * 67)).off + 1, none⟩ : Addr).add j) = some u) := Lib.hid fun V hV j u hu => by
        rw [addr_field _ (by omega), addr_add, hV.cell (by rw [addr_block, addr_block]; exact hab)]
        exact hcs _ _ (act13_k hu)
      have HCA : Hid (∀ V, Below w.heap.size w V → ∀ j u, x.a.cells[j]? = some u → V.cell? ((⟨(a.add (k * 67)).block, (a.add (k * 67)).off + 33, none⟩ : Addr).add j) = some u) := Lib.hid fun V hV j u hu => by
        rw [addr_field _ (by omega), addr_add, hV.cell (by rw [addr_block, addr_block]; exact hab)]
        exact hcs _ _ (act13_a hok.k.1 hu)
      clear hab hcs hx hok
      go_upto_region 8 with fail
      refine wp_region_held_drew (S := (fun V => Below w.heap.size w V)) (by kernel_rfl) HB.out.drew (fun _ => ?_)
      refine takeL (i := 0) (v := ?_) rfl (by kernel_rfl) (by kernel_rfl) (by kernel_rfl) (fun _ _ _ h => h) (Or.inl ⟨by rfl, ?_⟩) HB.out.drew ?_
      rotate_left
      · intro w hw
        try dsimp only at hw
        go_simp
        try with_reducible rfl
      try simp only [Act.put, List.setIfInBounds_toArray, List.set_cons_zero, List.set_cons_succ]
      refine takeL (i := 1) (v := ?_) rfl (by kernel_rfl) (by kernel_rfl) (by kernel_rfl) (fun _ _ _ h => h) (Or.inl ⟨by rfl, ?_⟩) HB.out.drew ?_
      rotate_left
      · intro w hw
        try dsimp only at hw
        go_simp
        try with_reducible rfl
      try simp only [Act.put, List.setIfInBounds_toArray, List.set_cons_zero, List.set_cons_succ]
      refine takeL (i := 2) (v := ?_) rfl (by kernel_rfl) (by kernel_rfl) (by kernel_rfl) (fun _ _ _ h => h) (Or.inl ⟨by rfl, ?_⟩) HB.out.drew ?_
      rotate_left
      · intro w hw
        try dsimp only at hw
        go_simp
        try with_reducible rfl
      try simp only [Act.put, List.setIfInBounds_toArray, List.set_cons_zero, List.set_cons_succ]
      refine takeL (i := 3) (v := ?_) rfl (by kernel_rfl) (by kernel_rfl) (by kernel_rfl) (fun _ _ _ h => h) (Or.inl ⟨by rfl, ?_⟩) HB.out.drew ?_
      rotate_left
      · intro w hw
        try dsimp only at hw
        go_simp
        try with_reducible rfl
      try simp only [Act.put, List.setIfInBounds_toArray, List.set_cons_zero, List.set_cons_succ]
      refine takeL (i := 4) (v := ?_) rfl (by kernel_rfl) (by kernel_rfl) (by kernel_rfl) (fun _ _ _ h => h) (Or.inl ⟨by rfl, ?_⟩) HB.out.drew ?_
      rotate_left
      · intro w hw
        try dsimp only at hw
        go_simp
        try with_reducible rfl
      try simp only [Act.put, List.setIfInBounds_toArray, List.set_cons_zero, List.set_cons_succ]
      refine takeL (i := 5) (v := .agg (bv x.k).toArray) rfl (by kernel_rfl) (by kernel_rfl) (by kernel_rfl) (fun _ _ _ h => h) (Or.inl ⟨by rfl, fun wz hwz => exec_load_at wz 24 (.tmp 28) rfl ⟨(a.add (k * 67)).block, (a.add (k * 67)).off + 1, none⟩ (bv x.k) _ Try.underlying24 rfl HSK.out (HCK.out wz hwz) (by go_simp)⟩) HB.out.drew ?_
      try simp only [Act.put, List.setIfInBounds_toArray, List.set_cons_zero, List.set_cons_succ]
      refine takeL (i := 6) (v := ?_) rfl (by kernel_rfl) (by kernel_rfl) (by kernel_rfl) (fun _ _ _ h => h) (Or.inl ⟨by rfl, ?_⟩) HB.out.drew ?_
      rotate_left
      · intro w hw
        try dsimp only at hw
        go_simp
        try with_reducible rfl
      try simp only [Act.put, List.setIfInBounds_toArray, List.set_cons_zero, List.set_cons_succ]
      refine takeL (i := 7) (v := ?_) rfl (by kernel_rfl) (by kernel_rfl) (by kernel_rfl) (fun _ _ _ h => h) (Or.inl ⟨by rfl, ?_⟩) HB.out.drew ?_
      rotate_left
      · intro w hw
        try dsimp only at hw
        go_simp
        try with_reducible rfl
      try simp only [Act.put, List.setIfInBounds_toArray, List.set_cons_zero, List.set_cons_succ]
      refine takeL (i := 8) (v := ?_) rfl (by kernel_rfl) (by kernel_rfl) (by kernel_rfl) (fun _ _ _ h => h) (Or.inl ⟨by rfl, ?_⟩) HB.out.drew ?_
      rotate_left
      · intro w hw
        try dsimp only at hw
        go_simp
        try with_reducible rfl
      try simp only [Act.put, List.setIfInBounds_toArray, List.set_cons_zero, List.set_cons_succ]
      refine takeL (i := 9) (v := ?_) rfl (by kernel_rfl) (by kernel_rfl) (by kernel_rfl) (fun _ _ _ h => h) (Or.inl ⟨by rfl, ?_⟩) HB.out.drew ?_
      rotate_left
      · intro w hw
        try dsimp only at hw
        go_simp
        try with_reducible rfl
      try simp only [Act.put, List.setIfInBounds_toArray, List.set_cons_zero, List.set_cons_succ]
      refine takeL (i := 10) (v := .agg x.a.cells.toArray) rfl (by kernel_rfl) (by kernel_rfl) (by kernel_rfl) (fun _ _ _ h => h) (Or.inl ⟨by rfl, fun wz hwz => exec_load_at wz 35 (.tmp 33) rfl ⟨(a.add (k * 67)).block, (a.add (k * 67)).off + 33, none⟩ x.a.cells _ Try.underlying35 rfl HSA.out (HCA.out wz hwz) (by go_simp)⟩) HB.out.drew ?_
      try simp only [Act.put, List.setIfInBounds_toArray, List.set_cons_zero, List.set_cons_succ]
      refine readyL (i := 11) rfl (by kernel_rfl) (by kernel_rfl) fun K hK => ?_
      refine wp_mapUpdate_acc (.tmp 24) (.tmp 29) (.tmp 34) rfl lb k D ?_ (show (World.drew _).ownsMap Try.prog 24 accE lb k D from HOW.out) (by unfold maxLen; omega) HX.out.k HX.out.a ?_ ?_ ?_
      · go_simp
      · go_simp
      · go_simp
      intro w3 ho hg
      have A3 := Lib.hid (HAD.out.put HX.out.k HX.out.a)
      rw [← HKS.out, ← HFS.out] at A3
      have O3 := Lib.hid ho
      have S3 := Lib.hid (show StIn w3 sb mb L from (HST.out.below (Below.refl wr.heap.size wr).drew).far2 hg ⟨HNE.out.1, HNE.out.2.1⟩)
      have B3 := Lib.hid (show Below w.heap.size w w3 from HB.out.drew.grown hg HB.out.drew.size (fun j hj => by cases hj; exact HNE.out.2.2))
      clear ho hg
      refine hK.out _ _ B3.out ?_
      clear hK K
      try simp only [Act.put]
      refine wpAnyH_done (by kernel_rfl) ?_ _
      go_wp2_with fail
      go_roundw
      case rel => exact ⟨k + 1, _, by omega, by go_num, S3.out, O3.out, A3.out, B3.out⟩
      case measure => simp [intOf]; omega
    · have hke : k = n := by omega
      have hlt' : ¬ (k : Int) < n := by omega
      have HT : Hid (l.take k = l) := Lib.hid (by rw [hke, ← HM.out.len]; exact List.take_length)
      rw [HT.out] at HAD
      have HKN : Hid ((KS13 l).length ≤ 150) := Lib.hid (by have := KS13_len l; have := HM.out.len; omega)
      generalize KS13 l = ks at *
      generalize FS13 l = f at *
      clear HT HM hke hlt
      go_wp2_with (at_range; go_must (refine wpList_range_own _ rfl (.tmp 35) 53 rfl 24 35 key_law Try.underlying53 accE lb k D rfl HOW.out ?_; intro w4 hrg hg hsz))
      try go_frame
      have HNR : Hid (sb ≠ wr.heap.size ∧ mb ≠ wr.heap.size ∧ w.heap.size ≤ wr.heap.size) := Lib.hid (by have := HST.out.lt; have := HB.out.size; omega)
      have hb4 : Below wr.heap.size wr w4 := (Below.refl _ _).grown hg (Nat.le_refl _) (by intro k hk; cases hk)
      have S4 := Lib.hid (HST.out.below hb4)
      have B4 := Lib.hid (HB.out.trans (hb4.mono HB.out.size))
      have RG4 := Lib.hid hrg
      obtain ⟨rr, hrr⟩ : ∃ r, r = wr.heap.size := ⟨_, rfl⟩
      rw [← hrr] at RG4 HNR ⊢
      clear hrr hrg hg hsz hb4 HST HB HOW hlt' hk
      go_loopw [6] (fun s6 wx => ∃ (left : Lit → Bool) (cnt : Nat) (vs : List (List Int)), wx.ranges Try.prog 24 accE lb rr k D left cnt ∧ (∀ kl, left kl = true → Go.Maps.has D kl = true) ∧ (∀ x ∈ ks, left (KL x) = decide (x ∉ vs)) ∧ vs.Nodup ∧ s6 = .int .i64 (nb13 f vs) ∧ (∀ x ∈ vs, x ∈ ks) ∧ StIn wx sb mb L ∧ Below w.heap.size w wx) (fun _ wx => wx.rangeLeft lb rr)
      case atStart => exact ⟨_, _, [], RG4.out, fun _ h => h, fun x hx => by rw [HAD.out.has_key (HAD.out.ok x hx).1, decide_eq_true hx]; simp, List.nodup_nil, rfl, by simp, S4.out, B4.out⟩
      case round =>
        clear S4 B4 RG4
        obtain ⟨left, cnt, vs, hrg, hlf, hlk, hvd, rfl, hvk, hst, hb⟩ := hrel
        have RG := Lib.hid hrg
        have HLF := Lib.hid hlf
        have HLK := Lib.hid hlk
        have HVD := Lib.hid hvd
        have HVK := Lib.hid hvk
        have HST := Lib.hid hst
        have HB := Lib.hid hb
        clear hrg hlf hlk hvd hvk hst hb
        have HVL : Hid (nb13 f vs ≤ 150) := Lib.hid (Nat.le_trans (nb13_le _ _) (Nat.le_trans (nodup_le HVD.out HVK.out) HKN.out))
        go_wp2_with (at_next; go_must (refine wpList_next_acc rfl (.tmp 36) rfl lb rr k D ks f left cnt rfl RG.out HAD.out HLF.out ?_ ?_))
        · intro hc0 hl0
          have HCT : Hid (nb13 f vs = L.length) := Lib.hid (count_last HLS.out.1 HLS.out.2.1 HLS.out.2.2 HVD.out fun x hx => by
            have := HLK.out x hx
            rw [hl0] at this
            simpa using this.symm)
          have OW := Lib.hid RG.out.owns
          rw [HCT.out]
          obtain ⟨m, hm⟩ : ∃ m, m = L.length := ⟨_, rfl⟩
          have HML : Hid (L.length = m) := Lib.hid hm.symm
          have hm1 : m ≤ 150 := by have := HLN.out; omega
          rw [← hm]
          clear hm hc0 hl0 HCT HVL HVK HVD HLK HLF RG
          go_wp2_with fail
          refine (list13 sb mb L wr HST.out (by rw [HML.out]; omega)).mono ?_
          rintro e w5 ⟨Al, cl, rfl, ho, hb⟩
          have HH := Lib.hid (ho.holds HST.out.sto.ok)
          have OW5 := Lib.hid (OW.out.kept (grown_none hb) (by simp))
          have B5 := Lib.hid (HB.out.trans (hb.mono HB.out.size))
          have HS := Lib.hid HST.out.sto
          clear ho hb HST HB OW
          rw [HML.out] at HH ⊢
          go_wp2_with fail
          go_loopw [10] (fun i wx => ∃ j q : Nat, j ≤ m ∧ i = .int .i64 j ∧ wx = w5.drewN q) (fun i _ => m - (intOf i).toNat)
          case atStart => exact ⟨0, 0, Nat.zero_le _, rfl, rfl⟩
          case round =>
            obtain ⟨j, q, hj, rfl, rfl⟩ := hrel
            by_cases hjm : j < m
            · have hjm' : (j : Int) < m := by omega
              obtain ⟨a, y, rfl, hab, hy, hok, hcs⟩ := HH.out.get hjm
              have hym := List.mem_of_getElem? hy
              have HY := Lib.hid hok
              have hyb := HS.out.nb y hym
              have hyg := (HS.out.mem.1 hym).2
              have hyk : y.k ∈ ks := Classical.byContradiction fun h => hyb (by rw [← hyg, HLS.out.2.1, HLS.out.2.2 _ h])
              have hyf : f y.k = y.a := by rw [← HLS.out.2.1, hyg]
              have HNL : Hid (∀ q, (Instr.lookup 53 (.map (some lb)) (.agg (bv y.k).toArray) false).run Try.prog (w5.drewN q) = .ok (.agg y.a.cells.toArray) (w5.drewN q)) := Lib.hid fun q => by
                have := acc_lookup (w := w5.drewN q) (show (w5.drewN q).ownsMap Try.prog 24 accE lb k D from OW5.out) HAD.out hok.k
                rwa [if_pos hyk, hyf] at this
              have HNB := Lib.hid (fun w => acc_eql (x := y.a) (y := blank13) hok.a.o.1 rfl w)
              have HNN := Lib.hid (fun w => acc_neq (x := y.a) (y := y.a) hok.a.o.1 hok.a.o.1 w)
              rw [decide_eq_false hyb] at HNB
              rw [decide_eq_true rfl] at HNN
              have HSK : Hid ((Try.prog.info? 24).map (·.size) = some (bv y.k).length) := Lib.hid (by rw [size_key, bv_length, hok.k.1])
              have HSA := Lib.hid (size_acc hok.a.o.1)
              have HCK : Hid (∀ j' u, (bv y.k)[j']? = some u → w5.cell? ((a.add (j * 66)).add j') = some u) := Lib.hid fun j' u hu => hcs _ _ (hold_k hu)
              have HCA : Hid (∀ j' u, y.a.cells[j']? = some u → w5.cell? ((⟨(a.add (j * 66)).block, (a.add (j * 66)).off + 32, none⟩ : Addr).add j') = some u) := Lib.hid fun j' u hu => by
                rw [addr_field _ (by omega), addr_add]
                exact hcs _ _ (hold_a hok.k.1 hu)
              by_cases hj0 : j = 0
              · subst hj0
                clear hab hcs hok hym hyb hyg hyk hyf hy
                go_upto_region 21 with fail
                have NL := HNL.out
                have NB := HNB.out
                have NN := HNN.out
                refine wp_region_quiet_lit (by kernel_rfl) (by kernel_rfl) ?_
                repeat (first
                  | ((with_reducible show wpQuiet _ _ _ _ ({ dst := some 64, op := Op.load _ _, type := _, pos := _, after := _, guard := _ } :: _) _); go_must (refine quiet_load_at (by kernel_rfl) 35 (.tmp 63) rfl ⟨(a.add (0 * 66)).block, (a.add (0 * 66)).off + 32, none⟩ y.a.cells _ Try.underlying35 rfl HSA.out (by rintro _ ⟨nq, rfl⟩; exact HCA.out) ?_ ?_; go_simp; go_simp))
                  | ((with_reducible show wpQuiet _ _ _ _ ({ dst := some 65, op := Op.build _ _, type := _, pos := _, after := _, guard := _ } :: _) _); go_must (refine quiet_built13 (by kernel_rfl) _ _ blank13.cells.toArray rfl (by simp only [List.map_toArray, List.map_nil]; exact built_blank) ?_; go_frame))
                  | ((with_reducible show wpQuiet _ _ _ _ ({ dst := some 73, op := Op.load _ _, type := _, pos := _, after := _, guard := _ } :: _) _); go_must (refine quiet_load_at (by kernel_rfl) 24 (.tmp 72) rfl (a.add (0 * 66)) (bv y.k) _ Try.underlying24 rfl HSK.out (by rintro _ ⟨nq, rfl⟩; exact HCK.out) ?_ ?_; go_simp; go_simp))
                  | ((with_reducible show wpQuiet _ _ _ _ ({ dst := some 79, op := Op.load _ _, type := _, pos := _, after := _, guard := _ } :: _) _); go_must (refine quiet_load_at (by kernel_rfl) 35 (.tmp 78) rfl ⟨(a.add (0 * 66)).block, (a.add (0 * 66)).off + 32, none⟩ y.a.cells _ Try.underlying35 rfl HSA.out (by rintro _ ⟨nq, rfl⟩; exact HCA.out) ?_ ?_; go_simp; go_simp))
                  | go_big_quiet_step (fail))
                refine wpQuiet_nil ?_
                intro nq
                clear NL NB NN
                go_wp2_with fail
                go_roundw
                case rel => exact ⟨1, q + nq, by omega, by go_num, rfl⟩
                case measure => simp [intOf]; omega
              · obtain ⟨i, rfl⟩ : ∃ i, j = i + 1 := ⟨j - 1, by omega⟩
                obtain ⟨a', x, ea, _, hx, hokx, hcx⟩ := HH.out.get (k := i) (by omega)
                obtain rfl := Option.some.inj ea
                have hks := kless_next HS.out hx hy
                have HXO := Lib.hid hokx
                have HNC1 : Hid (∀ q, (convert 61 9 (.slice (some (a.add (i * 66))) 32 32)).run Try.prog (w5.drewN q) = .ok (.string (strOfNums x.k)) (w5.drewN q)) := Lib.hid fun q => conv_key (w5.drewN q) (a.add (i * 66)) 32 hokx.k.1 fun j' u hu => hcx _ _ (hold_k hu)
                have HNC2 : Hid (∀ q, (convert 61 9 (.slice (some (a.add ((i + 1) * 66))) 32 32)).run Try.prog (w5.drewN q) = .ok (.string (strOfNums y.k)) (w5.drewN q)) := Lib.hid fun q => conv_key (w5.drewN q) (a.add ((i + 1) * 66)) 32 hok.k.1 HCK.out
                have HSG : Hid (Op.bytesLess (strOfNums x.k).toList (strOfNums y.k).toList = true) := Lib.hid (by rw [str_list, str_list, bytesLess_is hokx.k.2 hok.k.2]; exact hks)
                have hi1 : (0 : Int) < ((i + 1 : Nat) : Int) := by omega
                have hi2 : ((i + 1 : Nat) : Int) - 1 = i := by omega
                have hi3 : (i : Int) < m := by omega
                clear hab hcs hok hym hyb hyg hyk hyf hy hx hokx hcx ea hks
                go_upto_region 21 with fail
                have NL := HNL.out
                have NB := HNB.out
                have NN := HNN.out
                have NC1 := HNC1.out
                have NC2 := HNC2.out
                have NG := HSG.out
                refine wp_region_quiet_lit (by kernel_rfl) (by kernel_rfl) ?_
                repeat (first
                  | ((with_reducible show wpQuiet _ _ _ _ ({ dst := some 64, op := Op.load _ _, type := _, pos := _, after := _, guard := _ } :: _) _); go_must (refine quiet_load_at (by kernel_rfl) 35 (.tmp 63) rfl ⟨(a.add ((i + 1) * 66)).block, (a.add ((i + 1) * 66)).off + 32, none⟩ y.a.cells _ Try.underlying35 rfl HSA.out (by rintro _ ⟨nq, rfl⟩; exact HCA.out) ?_ ?_; go_simp; go_simp))
                  | ((with_reducible show wpQuiet _ _ _ _ ({ dst := some 65, op := Op.build _ _, type := _, pos := _, after := _, guard := _ } :: _) _); go_must (refine quiet_built13 (by kernel_rfl) _ _ blank13.cells.toArray rfl (by simp only [List.map_toArray, List.map_nil]; exact built_blank) ?_; go_frame))
                  | ((with_reducible show wpQuiet _ _ _ _ ({ dst := some 73, op := Op.load _ _, type := _, pos := _, after := _, guard := _ } :: _) _); go_must (refine quiet_load_at (by kernel_rfl) 24 (.tmp 72) rfl (a.add ((i + 1) * 66)) (bv y.k) _ Try.underlying24 rfl HSK.out (by rintro _ ⟨nq, rfl⟩; exact HCK.out) ?_ ?_; go_simp; go_simp))
                  | ((with_reducible show wpQuiet _ _ _ _ ({ dst := some 79, op := Op.load _ _, type := _, pos := _, after := _, guard := _ } :: _) _); go_must (refine quiet_load_at (by kernel_rfl) 35 (.tmp 78) rfl ⟨(a.add ((i + 1) * 66)).block, (a.add ((i + 1) * 66)).off + 32, none⟩ y.a.cells _ Try.underlying35 rfl HSA.out (by rintro _ ⟨nq, rfl⟩; exact HCA.out) ?_ ?_; go_simp; go_simp))
                  | go_big_quiet_step (fail))
                refine wpQuiet_nil ?_
                intro nq
                clear NL NB NN NC1 NC2 NG
                go_wp2_with fail
                go_roundw
                case rel => exact ⟨i + 1 + 1, q + nq, by omega, by go_num, rfl⟩
                case measure => simp [intOf]; omega
            · have hjm' : ¬ (j : Int) < m := by omega
              go_wp2_with fail
              refine (lives13 _).mono ?_
              rintro e w6 ⟨rfl, hb⟩
              have HB6 := Lib.hid (show Below w.heap.size w w6 from (show Below w.heap.size w (w5.drewN q) from B5.out.trans ⟨rfl, rfl, rfl, Nat.le_refl _, fun _ _ => rfl⟩).trans (hb.mono (show w.heap.size ≤ (w5.drewN q).heap.size from B5.out.size)))
              clear hb
              go_wp2_with fail
              go_ret
              exact ⟨rfl, HB6.out⟩
        · intro k1 w5 cnt1 hk1 hlk1 hrg1 hlt1 hg1 hs1 hen
          have HK1 := Lib.hid (HAD.out.ok k1 hk1)
          have HIN := Lib.hid hk1
          have HNV : Hid (k1 ∉ vs) := Lib.hid (by have := HLK.out k1 hk1; rw [hlk1] at this; simpa using this.symm)
          have HLF1 : Hid (∀ kl, (left kl && !kl.sameKey (KL k1)) = true → Go.Maps.has D kl = true) := Lib.hid fun kl hkl => HLF.out kl (by simp at hkl; exact hkl.1)
          have HLK1 := Lib.hid (left_strike HAD.out HLK.out hk1)
          have RG1 := Lib.hid hrg1
          have HLT := Lib.hid hlt1
          have HGF : Hid (getH L k1 = f k1) := Lib.hid (HLS.out.2.1 k1)
          have S5 := Lib.hid (HST.out.far2 hg1 ⟨HNR.out.1, HNR.out.2.1⟩)
          have B5 := Lib.hid (HB.out.grown hg1 HB.out.size (fun j hj => by cases hj; exact HNR.out.2.2))
          have HSK : Hid ((Try.prog.info? 24).map (·.size) = some (bv k1).length) := Lib.hid (by rw [size_key, bv_length, HK1.out.1.1])
          have HSF := Lib.hid (size_acc HK1.out.2.o.1)
          have RA := Lib.hid ((Row.new w5 24 (bv (List.replicate 32 0))).alloc (.cells blank13.cells.toArray 35))
          have RB := Lib.hid (Row.new' (w5.alloc (.cells (bv (List.replicate 32 0)).toArray 24)) 35 blank13.cells (g := w5.heap.size + 1) (by simp))
          have BW := Lib.hid (((Below.refl w5.heap.size w5).alloc (Nat.le_refl _) (.cells (bv (List.replicate 32 0)).toArray 24)).alloc (by simp) (.cells blank13.cells.toArray 35))
          have HLZ : Hid ((bv (List.replicate 32 0)).length = (bv k1).length) := Lib.hid (by rw [bv_length, bv_length, HK1.out.1.1]; rfl)
          have HLA : Hid (blank13.cells.length = (f k1).cells.length) := Lib.hid (by rw [acc_len HK1.out.2.o.1]; rfl)
          clear hk1 hlk1 hrg1 hlt1 hg1 hs1
          go_upto_region 13 with (first
    | ((with_reducible show wpList _ _ _ ({ dst := some 7, op := Op.alloc _, type := _, pos := _, after := _, guard := _ } :: _) _ _); go_must (refine wpList_alloc_zero rfl 24 rfl (bv (List.replicate 32 0)) zero_key ?_))
    | ((with_reducible show wpList _ _ _ ({ dst := some 8, op := Op.alloc _, type := _, pos := _, after := _, guard := _ } :: _) _ _); go_must (refine wpList_alloc_zero rfl 35 rfl blank13.cells zero_acc ?_))
    | ((with_reducible show wpList _ _ _ ({ dst := none, op := Op.store 24 _ _, type := _, pos := _, after := _, guard := _ } :: _) _ _); go_must (refine wpList_store_whole rfl 24 (.tmp 7) (.tmp 40) rfl w5.heap.size (bv (List.replicate 32 0)) (bv k1) RA.out HSK.out HLZ.out (bv_one _) ?_ ?_ ?_; go_simp; go_simp; intro w6 hr ht; have RA6 := Lib.hid hr; have RB6 := Lib.hid (ht.row RB.out (by omega)); have BW6 := Lib.hid (BW.out.trans (ht.below (Nat.le_refl _))); clear hr ht))
    | ((with_reducible show wpList _ _ _ ({ dst := none, op := Op.store 35 _ _, type := _, pos := _, after := _, guard := _ } :: _) _ _); go_must (refine wpList_store_whole rfl 35 (.tmp 8) (.tmp 41) rfl (w5.heap.size + 1) blank13.cells (f k1).cells RB6.out HSF.out HLA.out (acc_one _) ?_ ?_ ?_; go_simp; go_simp; intro w7 hr ht; have RB7 := Lib.hid hr; have RA7 := Lib.hid (ht.row RA6.out (by omega)); have BW7 := Lib.hid (BW6.out.trans (ht.below (by omega))); clear hr ht)))
          clear hen
          try go_frame
          have e8 : (w5.alloc (.cells (bv (List.replicate 32 0)).toArray 24)).heap.size = w5.heap.size + 1 := by simp
          try rw [e8]
          clear e8
          obtain ⟨ga, hga⟩ : ∃ g, g = w5.heap.size := ⟨_, rfl⟩
          obtain ⟨gb, hgb⟩ : ∃ g, g = w5.heap.size + 1 := ⟨_, rfl⟩
          rw [← hgb] at RB7 ⊢
          rw [← hga] at RA7 ⊢
          clear hgb hga
          have HL7 : Hid (StIn w7 sb mb L) := Lib.hid (S5.out.below BW7.out)
          refine wp_region_held_drew (S := (fun V => Below w7.heap.size w7 V)) (by kernel_rfl) (Below.refl w7.heap.size w7).drew (fun _ => ?_)
          refine takeL (i := 0) (v := ?_) rfl (by kernel_rfl) (by kernel_rfl) (by kernel_rfl) (fun _ _ _ h => h) (Or.inl ⟨by rfl, ?_⟩) (Below.refl w7.heap.size w7).drew ?_
          rotate_left
          · intro w hw
            try dsimp only at hw
            go_simp
            try with_reducible rfl
          try simp only [Act.put, List.setIfInBounds_toArray, List.set_cons_zero, List.set_cons_succ]
          refine takeL (i := 1) (v := .agg (bv k1).toArray) rfl (by kernel_rfl) (by kernel_rfl) (by kernel_rfl) (fun _ _ _ h => h) (Or.inl ⟨by rfl, fun wz hwz => exec_load_at wz 24 (.tmp 7) rfl ⟨ga, 0, none⟩ (bv k1) _ Try.underlying24 rfl HSK.out (fun j u hu => by rw [addr_row, Nat.zero_add]; exact ((RA7.out.below hwz RA7.out.lt).cell j).trans hu) (by go_simp)⟩) (Below.refl w7.heap.size w7).drew ?_
          try simp only [Act.put, List.setIfInBounds_toArray, List.set_cons_zero, List.set_cons_succ]
          refine takeL (i := 3) (v := .agg (f k1).cells.toArray) rfl (by kernel_rfl) (by kernel_rfl) (by kernel_rfl) (fun _ _ _ h => h) (Or.inl ⟨by rfl, fun wz hwz => exec_load_at wz 35 (.tmp 8) rfl ⟨gb, 0, none⟩ (f k1).cells _ Try.underlying35 rfl HSF.out (fun j u hu => by rw [addr_row, Nat.zero_add]; exact ((RB7.out.below hwz RB7.out.lt).cell j).trans hu) (by go_simp)⟩) (Below.refl w7.heap.size w7).drew ?_
          try simp only [Act.put, List.setIfInBounds_toArray, List.set_cons_zero, List.set_cons_succ]
          refine readyL (i := 2) rfl (by kernel_rfl) (by kernel_rfl) fun K hK => ?_
          go_simp
          refine (get13 sb mb L k1 _ (HL7.out.below (Below.refl _ _).drew) HK1.out.1).mono ?_
          rintro e w8 ⟨rfl, hb⟩
          rw [HGF.out]
          have B8 := Lib.hid (show Below w7.heap.size w7 w8 from (Below.refl w7.heap.size w7).drew.trans hb)
          clear hb
          have NE := fun w => acc_neq (x := f k1) (y := f k1) HK1.out.2.o.1 HK1.out.2.o.1 w
          rw [decide_eq_true rfl] at NE
          refine hK.out _ _ B8.out ?_
          clear hK K
          try simp only [Act.put, List.setIfInBounds_toArray, List.set_cons_zero, List.set_cons_succ]
          refine takeL (i := 4) (v := ?_) rfl (by kernel_rfl) (by kernel_rfl) (by kernel_rfl) (fun _ _ _ h => h) (Or.inl ⟨by rfl, ?_⟩) B8.out ?_
          rotate_left
          · intro w hw
            try dsimp only at hw
            go_simp
            try with_reducible rfl
          try simp only [Act.put, List.setIfInBounds_toArray, List.set_cons_zero, List.set_cons_succ]
          refine wpAnyH_done (by kernel_rfl) ?_ _
          clear NE
          have RB8 := Lib.hid (RB7.out.below B8.out RB7.out.lt)
          have S8 := Lib.hid (HL7.out.below B8.out)
          have BW8 := Lib.hid (BW7.out.trans (B8.out.mono BW7.out.size))
          have B9 := Lib.hid (B5.out.trans (BW8.out.mono B5.out.size))
          have RG8 := Lib.hid (RG1.out.kept (grown_none BW8.out) (by simp) (by simp))
          have NB := fun w => acc_neq (x := f k1) (y := blank13) HK1.out.2.o.1 rfl w
          clear RA7 RB7 BW7 B8 HL7 S5 B5 RG1
          have hvl := HVL.out
          by_cases hfb : f k1 = blank13
          · rw [decide_eq_true hfb] at NB
            have HFB := Lib.hid hfb
            clear hfb
            go_wp2_with (first
    | ((with_reducible show wpList _ _ _ ({ dst := some 47, op := Op.load _ _, type := _, pos := _, after := _, guard := _ } :: _) _ _); go_must (refine wpList_load_whole rfl 35 (.tmp 8) rfl gb 35 (f k1).cells _ Try.underlying35 rfl HSF.out RB8.out ?_ ?_; go_simp))
    | ((with_reducible show wpList _ _ _ ({ dst := some 48, op := Op.build _ _, type := _, pos := _, after := _, guard := _ } :: _) _ _); go_must (refine wpList_plain rfl fun K hK => wp_built _ _ _ rfl (by simp only [List.map_toArray, List.map_nil]; exact built_blank) (hK _ _ ?_))))
            go_roundw
            case rel => exact ⟨_, cnt1, k1 :: vs, RG8.out, HLF1.out, HLK1.out, List.nodup_cons.2 ⟨HNV.out, HVD.out⟩, by rw [nb13_no HFB.out], fun x hx => by rcases List.mem_cons.1 hx with rfl | hx; exact HIN.out; exact HVK.out x hx, S8.out, B9.out⟩
            case measure =>
              show World.rangeLeft _ lb rr < World.rangeLeft _ lb rr
              rw [RG8.out.left_eq, RG.out.left_eq]
              exact HLT.out
          · rw [decide_eq_false hfb] at NB
            have HFB := Lib.hid hfb
            clear hfb
            go_wp2_with (first
    | ((with_reducible show wpList _ _ _ ({ dst := some 47, op := Op.load _ _, type := _, pos := _, after := _, guard := _ } :: _) _ _); go_must (refine wpList_load_whole rfl 35 (.tmp 8) rfl gb 35 (f k1).cells _ Try.underlying35 rfl HSF.out RB8.out ?_ ?_; go_simp))
    | ((with_reducible show wpList _ _ _ ({ dst := some 48, op := Op.build _ _, type := _, pos := _, after := _, guard := _ } :: _) _ _); go_must (refine wpList_plain rfl fun K hK => wp_built _ _ _ rfl (by simp only [List.map_toArray, List.map_nil]; exact built_blank) (hK _ _ ?_))))
            go_roundw
            case rel => exact ⟨_, cnt1, k1 :: vs, RG8.out, HLF1.out, HLK1.out, List.nodup_cons.2 ⟨HNV.out, HVD.out⟩, by rw [nb13_yes HFB.out]; go_num, fun x hx => by rcases List.mem_cons.1 hx with rfl | hx; exact HIN.out; exact HVK.out x hx, S8.out, B9.out⟩
            case measure =>
              show World.rangeLeft _ lb rr < World.rangeLeft _ lb rr
              rw [RG8.out.left_eq, RG.out.left_eq]
              exact HLT.out
end Go.Proofs.Ytpkkgmmcindfgaa

/-
  Of part AgainWalk13: what is needed here.
-/
namespace Go.Proofs.Ytpkkgmmcindfgaa
open Go.RowKit
set_option linter.unusedVariables false
set_option maxRecDepth 100000
theorem sto_cons {x : LHold} {r : List LHold} (h : Sto (x :: r)) : putH r x.k x.a = x :: r := by
  have hx := h.ok x List.mem_cons_self
  refine (h.tail.put hx.k hx.a).ext h fun k' => ?_
  rw [getH_put h.tail hx.k hx.a, getH]
  by_cases e : k' = x.k
  · rw [if_pos e, if_pos e.symm]
  · rw [if_neg e, if_neg fun h => e h.symm]
theorem sto_drop {L : List LHold} : ∀ (k : Nat), Sto L → Sto (L.drop k) := by
  induction L with
  | nil => intro k h; simpa using h
  | cons x r ih =>
    intro k h
    cases k with
    | zero => simpa using h
    | succ k => exact ih k h.tail
theorem putH_same {L : List LHold} (h : Sto L) {k : List Int} {a : LAcc} (hk : k.length = 32 ∧ AllBytes k) (ha : AccOk a) : L = putH L k a ↔ getH L k = a := by
  constructor
  · intro e
    have := getH_put h hk ha k
    rw [← e, if_pos rfl] at this
    exact this
  · intro e
    refine h.ext (h.put hk ha) fun k' => ?_
    rw [getH_put h hk ha]
    by_cases e' : k' = k
    · rw [if_pos e', e', e]
    · rw [if_neg e']
theorem StIn.far {V V' : World} {sb mb nb : Nat} {L : List LHold} (h : StIn V sb mb L) (hg : V.grownBy V' (some nb)) (h1 : sb ≠ nb) (h2 : mb ≠ nb) : StIn V' sb mb L :=
  h.keep (hg.block sb h.lt.1 fun e => h1 (Option.some.inj e)) (hg.block mb h.lt.2 fun e => h2 (Option.some.inj e))
theorem act13_size {x : LAct13} (h : ActOk13 x) : (Try.prog.info? 37).map (·.size) = some x.cells.length := by
  rw [act13_len h]
  kernel_rfl
theorem row_actk {V : World} {ga t : Nat} {x : LAct13} (h : Row V ga t x.cells) : ∀ j u, (bv x.k)[j]? = some u → V.cell? ((⟨ga, 1, none⟩ : Addr).add j) = some u := fun j u hu => by
  rw [addr_row, h.cell]
  exact act13_k hu
theorem row_acta {V : World} {ga t : Nat} {x : LAct13} (hx : x.k.length = 32) (h : Row V ga t x.cells) : ∀ j u, x.a.cells[j]? = some u → V.cell? ((⟨ga, 33, none⟩ : Addr).add j) = some u := fun j u hu => by
  rw [addr_row, h.cell]
  exact act13_a hx hu
theorem row_acc {V : World} {g t : Nat} {a : LAcc} (h : Row V g t a.cells) : ∀ j u, a.cells[j]? = some u → V.cell? ((⟨g, 0, none⟩ : Addr).add j) = some u := fun j u hu => by
  rw [addr_row, h.cell, Nat.zero_add]
  exact hu
/-- two stores, the list of the one, an act -/
structure AG (w V : World) (sb mb ob nb ga B : Nat) (Al : Option Addr) (x : LAct13) (L M : List LHold) : Prop where
  b : Below w.heap.size w V
  s : StIn V sb mb L
  o : StIn V ob nb M
  l : HoldsIn V B Al L.length L
  x : Row V ga 37 x.cells
  lo : w.heap.size ≤ ob ∧ w.heap.size ≤ nb
  bn : B ≤ nb ∧ B ≤ V.heap.size
  far : sb ≠ nb ∧ mb ≠ nb
section
variable {w V V' : World} {sb mb ob nb ga B : Nat} {Al : Option Addr} {x : LAct13} {L M M' : List LHold}
theorem AG.below (h : AG w V sb mb ob nb ga B Al x L M) (hb : Below V.heap.size V V') : AG w V' sb mb ob nb ga B Al x L M :=
  ⟨h.b.trans (hb.mono h.b.size), h.s.below hb, h.o.below hb, h.l.below (hb.mono h.bn.2), h.x.below hb h.x.lt, h.lo, ⟨h.bn.1, Nat.le_trans h.bn.2 hb.size⟩, h.far⟩
theorem AG.put (h : AG w V sb mb ob nb ga B Al x L M) (hs : StIn V' ob nb M') (hg : V.grownBy V' (some nb)) : AG w V' sb mb ob nb ga B Al x L M' := by
  have hb : Below B V V' := (Below.refl B V).grown hg h.bn.2 fun k hk => by cases hk; exact h.bn.1
  exact ⟨h.b.grown hg h.b.size (fun k hk => by cases hk; exact h.lo.2), h.s.far hg h.far.1 h.far.2, hs, h.l.below hb, h.x.grown hg (fun e => h.o.row_ne h.x (Option.some.inj e)), h.lo, ⟨h.bn.1, Nat.le_trans h.bn.2 hb.size⟩, h.far⟩
end
set_option maxHeartbeats 16000000 in
theorem again_walk13 (A : Option Addr) (n c : Nat) (l : List LAct13) (x : LAct13) (w : World) (hl : ActsIn13 w w.heap.size A n l) (hx : ActOk13 x) : Calls Try.prog 6 #[.slice A n c, .agg x.cells.toArray] w fun e w' => e = .returned (.bool true) ∧ Below w.heap.size w w' := by
  have HSX := Lib.hid (act13_size hx)
  have HXO := Lib.hid hx
  have hb0 := (Below.refl w.heap.size w).alloc (Nat.le_refl _) (.cells x.cells.toArray 37)
  have HB0 := Lib.hid hb0
  have RX0 := Lib.hid (Row.new w 37 x.cells)
  have HM := Lib.hid ((hl.below hb0).more hb0.size)
  clear hb0 hl hx
  by_cases h5 : 150 < n
  · have h5' : (150 : Int) < n := by omega
    go_enter Try.func6, Try.ntmps6
    go_wp2_with fail
    refine (lives13 _).mono ?_
    rintro e w2 ⟨rfl, hb⟩
    have HB := Lib.hid (HB0.out.trans (hb.mono HB0.out.size))
    clear hb
    go_wp2_with fail
    go_ret
    exact ⟨rfl, HB.out⟩
  have h5' : ¬ (150 : Int) < n := by omega
  obtain ⟨ga, hga⟩ : ∃ ga, ga = w.heap.size := ⟨_, rfl⟩
  have HGA : Hid (w.heap.size = ga) := Lib.hid hga.symm
  have RX : Hid (Row (w.alloc (.cells x.cells.toArray 37)) ga 37 x.cells) := Lib.hid (by rw [hga]; exact RX0.out)
  clear hga RX0
  generalize hW0 : w.alloc (.cells x.cells.toArray 37) = W0 at *
  have HW0 := Lib.hid hW0
  clear hW0
  go_enter Try.func6, Try.ntmps6
  go_wp2_with fail
  rw [HW0.out, HGA.out]
  clear HW0 HGA
  refine (made13 A n c l W0 HM.out (by omega)).mono ?_
  rintro e w1 ⟨sb, mb, rfl, hs, h1, h2, hb⟩
  have HLN : Hid ((puts13 l).length ≤ 150) := Lib.hid (by have := puts13_len l; have := HM.out.len; omega)
  generalize puts13 l = L at *
  have S1 := Lib.hid hs
  have B1 := Lib.hid (HB0.out.trans (hb.mono HB0.out.size))
  have RX1 := Lib.hid (RX.out.below hb RX.out.lt)
  clear hs hb h1 h2 RX HB0 HM
  go_wp2_with fail
  refine (list13 sb mb L w1 S1.out (by have := HLN.out; omega)).mono ?_
  rintro e w2 ⟨Al, cl, rfl, ho, hb⟩
  have HH2 := Lib.hid (ho.holds S1.out.sto.ok)
  have S2 := Lib.hid (S1.out.below hb)
  have B2 := Lib.hid (B1.out.trans (hb.mono B1.out.size))
  have RX2 := Lib.hid (RX1.out.below hb RX1.out.lt)
  clear ho hb RX1 B1 S1
  go_wp2_with fail
  refine (new13 w2).mono ?_
  rintro e w3 ⟨ob, nb, rfl, hs, h1, h2, hb⟩
  have A3 : Hid (AG w w3 sb mb ob nb ga w2.heap.size Al x L []) := Lib.hid ⟨B2.out.trans (hb.mono B2.out.size), S2.out.below hb, hs, HH2.out.below hb, RX2.out.below hb RX2.out.lt, ⟨by have := B2.out.size; omega, by have := B2.out.size; omega⟩, ⟨h2, hb.size⟩, by have := S2.out.lt; omega⟩
  clear hs hb h1 h2 RX2 B2 S2 HH2
  generalize w2.heap.size = B at *
  obtain ⟨m, hm⟩ : ∃ m, m = L.length := ⟨_, rfl⟩
  have HML : Hid (L.length = m) := Lib.hid hm.symm
  have hm1 : m ≤ 150 := by have := HLN.out; omega
  rw [← hm]
  clear hm HLN
  go_upto_region 7 with fail
  go_loopw [8] (fun i wr => ∃ k : Nat, k ≤ m ∧ i = .int .i64 ((k : Int) - 1) ∧ AG w wr sb mb ob nb ga B Al x L (L.drop k)) (fun i _ => (intOf i + 1).toNat)
  case atStart => exact ⟨m, Nat.le_refl _, by go_num, by rw [← HML.out, List.drop_length]; exact A3.out⟩
  case round =>
    clear A3
    obtain ⟨k, hk, rfl, hag⟩ := hrel
    have AR := Lib.hid hag
    clear hag
    by_cases hk0 : 0 < k
    · obtain ⟨j, rfl⟩ : ∃ j, k = j + 1 := ⟨k - 1, by omega⟩
      have hj : ((j + 1 : Nat) : Int) - 1 = j := by omega
      rw [hj]
      have hlt' : (0 : Int) ≤ j := by omega
      have hlt2 : (j : Int) < m := by omega
      have hlm : (j : Int) < L.length := by rw [HML.out]; exact hlt2
      obtain ⟨a, y, hAl, hab, hy, hok, hcs⟩ := AR.out.l.get (k := j) (by rw [HML.out]; omega)
      have hAR := AR.out
      rw [hAl] at hAR
      subst hAl
      have HY := Lib.hid hok
      have HSK : Hid ((Try.prog.info? 24).map (·.size) = some (bv y.k).length) := Lib.hid (by rw [size_key, bv_length, hok.k.1])
      have HSA := Lib.hid (size_acc hok.a.o.1)
      have HDR : Hid (L.drop j = y :: L.drop (j + 1)) := Lib.hid (by
        obtain ⟨hj1, hj2⟩ := List.getElem?_eq_some_iff.1 hy
        rw [← hj2]
        exact List.drop_eq_getElem_cons hj1)
      have HPT : Hid (putH (L.drop (j + 1)) y.k y.a = L.drop j) := Lib.hid (by rw [HDR.out]; exact sto_cons (by rw [← HDR.out]; exact sto_drop j AR.out.s.sto))
      have HCK : Hid (∀ V, Below B wr V → ∀ j' u, (bv y.k)[j']? = some u → V.cell? ((a.add (j * 66)).add j') = some u) := Lib.hid fun V hV j' u hu => by
        rw [hV.cell (by rw [addr_block, addr_block]; exact hab)]
        exact hcs _ _ (hold_k hu)
      have HCA : Hid (∀ V, Below B wr V → ∀ j' u, y.a.cells[j']? = some u → V.cell? ((⟨(a.add (j * 66)).block, (a.add (j * 66)).off + 32, none⟩ : Addr).add j') = some u) := Lib.hid fun V hV j' u hu => by
        rw [addr_field _ (by omega), addr_add, hV.cell (by rw [addr_block, addr_block]; exact hab)]
        exact hcs _ _ (hold_a hok.k.1 hu)
      have HLN2 : Hid ((L.drop (j + 1)).length ≤ 900) := Lib.hid (by rw [List.length_drop, HML.out]; omega)
      clear hab hcs hy hok hAR
      go_upto_region 9 with fail
      refine wp_region_held_drew (S := (fun V => Below B wr V)) (by kernel_rfl) (Below.refl B wr).drew (fun _ => ?_)
      refine takeL (i := 0) (v := ?_) rfl (by kernel_rfl) (by kernel_rfl) (by kernel_rfl) (fun _ _ _ h => h) (Or.inl ⟨by rfl, ?_⟩) (Below.refl B wr).drew ?_
      rotate_left
      · intro w hw
        try dsimp only at hw
        go_simp
        try with_reducible rfl
      try simp only [Act.put, List.setIfInBounds_toArray, List.set_cons_zero, List.set_cons_succ]
      refine takeL (i := 1) (v := ?_) rfl (by kernel_rfl) (by kernel_rfl) (by kernel_rfl) (fun _ _ _ h => h) (Or.inl ⟨by rfl, ?_⟩) (Below.refl B wr).drew ?_
      rotate_left
      · intro w hw
        try dsimp only at hw
        go_simp
        try with_reducible rfl
      try simp only [Act.put, List.setIfInBounds_toArray, List.set_cons_zero, List.set_cons_succ]
      refine takeL (i := 2) (v := ?_) rfl (by kernel_rfl) (by kernel_rfl) (by kernel_rfl) (fun _ _ _ h => h) (Or.inl ⟨by rfl, ?_⟩) (Below.refl B wr).drew ?_
      rotate_left
      · intro w hw
        try dsimp only at hw
        go_simp
        try with_reducible rfl
      try simp only [Act.put, List.setIfInBounds_toArray, List.set_cons_zero, List.set_cons_succ]
      refine takeL (i := 3) (v := ?_) rfl (by kernel_rfl) (by kernel_rfl) (by kernel_rfl) (fun _ _ _ h => h) (Or.inl ⟨by rfl, ?_⟩) (Below.refl B wr).drew ?_
      rotate_left
      · intro w hw
        try dsimp only at hw
        go_simp
        try with_reducible rfl
      try simp only [Act.put, List.setIfInBounds_toArray, List.set_cons_zero, List.set_cons_succ]
      refine takeL (i := 4) (v := ?_) rfl (by kernel_rfl) (by kernel_rfl) (by kernel_rfl) (fun _ _ _ h => h) (Or.inl ⟨by rfl, ?_⟩) (Below.refl B wr).drew ?_
      rotate_left
      · intro w hw
        try dsimp only at hw
        go_simp
        try with_reducible rfl
      try simp only [Act.put, List.setIfInBounds_toArray, List.set_cons_zero, List.set_cons_succ]
      refine takeL (i := 5) (v := .agg (bv y.k).toArray) rfl (by kernel_rfl) (by kernel_rfl) (by kernel_rfl) (fun _ _ _ h => h) (Or.inl ⟨by rfl, fun wz hwz => exec_load_at wz 24 (.tmp 31) rfl (a.add (j * 66)) (bv y.k) _ Try.underlying24 rfl HSK.out (HCK.out wz hwz) (by go_simp)⟩) (Below.refl B wr).drew ?_
      try simp only [Act.put, List.setIfInBounds_toArray, List.set_cons_zero, List.set_cons_succ]
      refine takeL (i := 6) (v := ?_) rfl (by kernel_rfl) (by kernel_rfl) (by kernel_rfl) (fun _ _ _ h => h) (Or.inl ⟨by rfl, ?_⟩) (Below.refl B wr).drew ?_
      rotate_left
      · intro w hw
        try dsimp only at hw
        go_simp
        try with_reducible rfl
      try simp only [Act.put, List.setIfInBounds_toArray, List.set_cons_zero, List.set_cons_succ]
      refine takeL (i := 7) (v := ?_) rfl (by kernel_rfl) (by kernel_rfl) (by kernel_rfl) (fun _ _ _ h => h) (Or.inl ⟨by rfl, ?_⟩) (Below.refl B wr).drew ?_
      rotate_left
      · intro w hw
        try dsimp only at hw
        go_simp
        try with_reducible rfl
      try simp only [Act.put, List.setIfInBounds_toArray, List.set_cons_zero, List.set_cons_succ]
      refine takeL (i := 8) (v := ?_) rfl (by kernel_rfl) (by kernel_rfl) (by kernel_rfl) (fun _ _ _ h => h) (Or.inl ⟨by rfl, ?_⟩) (Below.refl B wr).drew ?_
      rotate_left
      · intro w hw
        try dsimp only at hw
        go_simp
        try with_reducible rfl
      try simp only [Act.put, List.setIfInBounds_toArray, List.set_cons_zero, List.set_cons_succ]
      refine takeL (i := 9) (v := ?_) rfl (by kernel_rfl) (by kernel_rfl) (by kernel_rfl) (fun _ _ _ h => h) (Or.inl ⟨by rfl, ?_⟩) (Below.refl B wr).drew ?_
      rotate_left
      · intro w hw
        try dsimp only at hw
        go_simp
        try with_reducible rfl
      try simp only [Act.put, List.setIfInBounds_toArray, List.set_cons_zero, List.set_cons_succ]
      refine takeL (i := 10) (v := .agg y.a.cells.toArray) rfl (by kernel_rfl) (by kernel_rfl) (by kernel_rfl) (fun _ _ _ h => h) (Or.inl ⟨by rfl, fun wz hwz => exec_load_at wz 35 (.tmp 36) rfl ⟨(a.add (j * 66)).block, (a.add (j * 66)).off + 32, none⟩ y.a.cells _ Try.underlying35 rfl HSA.out (HCA.out wz hwz) (by go_simp)⟩) (Below.refl B wr).drew ?_
      try simp only [Act.put, List.setIfInBounds_toArray, List.set_cons_zero, List.set_cons_succ]
      refine readyL (i := 11) rfl (by kernel_rfl) (by kernel_rfl) fun K hK => ?_
      go_simp
      refine (put13 ob nb (L.drop (j + 1)) y.k y.a _ (AR.out.below (Below.refl _ _).drew).o HY.out.k HY.out.a HLN2.out).mono ?_
      rintro e w5 ⟨rfl, hs, hg⟩
      rw [HPT.out] at hs
      have A5 := Lib.hid ((AR.out.below (Below.refl _ _).drew).put hs hg)
      have BB := Lib.hid (show Below B wr w5 from (Below.refl B wr).drew.grown hg AR.out.bn.2 (fun k hk => by cases hk; exact AR.out.bn.1))
      clear hs hg
      refine hK.out _ _ BB.out ?_
      clear hK K
      try simp only [Act.put, List.setIfInBounds_toArray, List.set_cons_zero, List.set_cons_succ]
      refine wpAnyH_done (by kernel_rfl) ?_ _
      go_wp2_with fail
      go_roundw
      case rel => exact ⟨j, by omega, by go_num, A5.out⟩
      case measure => simp [intOf]
    · have hke : k = 0 := by omega
      subst hke
      have hlt' : ¬ (0 : Int) ≤ ((0 : Nat) : Int) - 1 := by omega
      have AE := Lib.hid (show AG w wr sb mb ob nb ga B Al x L L by have := AR.out; rwa [List.drop_zero] at this)
      clear AR
      go_wp2_with fail
      refine (copy13 sb mb L wr AE.out.s (by rw [HML.out]; omega)).mono ?_
      rintro e w5 ⟨cb, db, rfl, hs, h1, h2, hb⟩
      have A5 := Lib.hid (AE.out.below hb)
      have HN := AE.out.o.lt
      have C5 := Lib.hid hs
      have HCD : Hid (cb ≠ nb ∧ db ≠ nb) := Lib.hid (by omega)
      clear hs hb h1 h2 HN AE
      have HSM := Lib.hid (fun V (hb : Below w5.heap.size w5 V) => same13 sb mb ob nb L L V (A5.out.below hb).s (A5.out.below hb).o (by rw [HML.out]; omega) (by rw [HML.out]; omega))
      have HSN := Lib.hid (fun V (hb : Below w5.heap.size w5 V) => same13 ob nb sb mb L L V (A5.out.below hb).o (A5.out.below hb).s (by rw [HML.out]; omega) (by rw [HML.out]; omega))
      have HSC := Lib.hid (fun V (hb : Below w5.heap.size w5 V) => same13 sb mb cb db L L V (A5.out.below hb).s (C5.out.below hb) (by rw [HML.out]; omega) (by rw [HML.out]; omega))
      rw [decide_eq_true rfl] at HSM HSN HSC
      go_wp2_with fail
      refine (HSM.out _ (Below.refl _ _)).mono ?_
      rintro e w6 ⟨rfl, hb6⟩
      go_wp2_with fail
      refine (HSN.out _ hb6).mono ?_
      rintro e w7 ⟨rfl, hb7⟩
      have hb7' := hb6.trans (hb7.mono hb6.size)
      go_wp2_with fail
      refine (HSC.out _ hb7').mono ?_
      rintro e w8 ⟨rfl, hb8⟩
      have hb8' := hb7'.trans (hb8.mono hb7'.size)
      have A8 := Lib.hid (A5.out.below hb8')
      have C8 := Lib.hid (C5.out.below hb8')
      clear hb6 hb7 hb8 hb7' hb8' HSM HSN HSC A5 C5
      have HXK := Lib.hid HXO.out.k
      have HSK : Hid ((Try.prog.info? 24).map (·.size) = some (bv x.k).length) := Lib.hid (by rw [size_key, bv_length, HXK.out.1])
      have HSA := Lib.hid (size_acc HXO.out.a.o.1)
      have HKX := Lib.hid (row_actk A8.out.x)
      go_wp2_with ((with_reducible show wpList _ _ _ ({ dst := some 59, op := Op.load _ _, type := _, pos := _, after := _, guard := _ } :: _) _ _); go_must (refine wpList_load_at rfl 24 (.tmp 58) rfl ⟨ga, 1, none⟩ (bv x.k) _ Try.underlying24 rfl HSK.out HKX.out ?_ ?_; go_simp))
      refine (get13 ob nb L x.k w8 A8.out.o HXK.out).mono ?_
      rintro e w9 ⟨rfl, hb9⟩
      have A9 := Lib.hid (A8.out.below hb9)
      have C9 := Lib.hid (C8.out.below hb9)
      clear hb9 A8 C8 HKX
      have HGO := Lib.hid (A9.out.s.sto.get_ok x.k)
      have HSG := Lib.hid (size_acc HGO.out.o.1)
      go_upto_region 14 with (first
        | ((with_reducible show wpList _ _ _ ({ dst := some 10, op := Op.alloc _, type := _, pos := _, after := _, guard := _ } :: _) _ _); go_must (refine wpList_alloc_zero rfl 35 rfl blank13.cells zero_acc ?_))
        | ((with_reducible show wpList _ _ _ ({ dst := none, op := Op.store 35 _ _, type := _, pos := _, after := _, guard := _ } :: _) _ _); go_must (refine wpList_store_new rfl 35 (.tmp 10) (.tmp 60) rfl (getH L x.k).cells HSG.out (acc_one _) (by rw [acc_len HGO.out.o.1]; rfl) ?_ ?_ ?_; go_simp; go_simp; intro w10 hr hb hz; have RG := Lib.hid hr; have A10 := Lib.hid (A9.out.below hb); have C10 := Lib.hid (C9.out.below hb); clear hr hb hz)))
      obtain ⟨gw, hgw⟩ : ∃ g, g = w9.heap.size := ⟨_, rfl⟩
      rw [← hgw] at RG ⊢
      clear hgw A9 C9
      have HKX := Lib.hid (row_actk A10.out.x)
      have HAX := Lib.hid (row_acta HXK.out.1 A10.out.x)
      go_wp2_with (first
        | ((with_reducible show wpList _ _ _ ({ dst := some 63, op := Op.load _ _, type := _, pos := _, after := _, guard := _ } :: _) _ _); go_must (refine wpList_load_at rfl 24 (.tmp 62) rfl ⟨ga, 1, none⟩ (bv x.k) _ Try.underlying24 rfl HSK.out HKX.out ?_ ?_; go_simp))
        | ((with_reducible show wpList _ _ _ ({ dst := some 65, op := Op.load _ _, type := _, pos := _, after := _, guard := _ } :: _) _ _); go_must (refine wpList_load_at rfl 35 (.tmp 64) rfl ⟨ga, 33, none⟩ x.a.cells _ Try.underlying35 rfl HSA.out HAX.out ?_ ?_; go_simp)))
      refine (put13 ob nb L x.k x.a w10 A10.out.o HXK.out HXO.out.a (by rw [HML.out]; omega)).mono ?_
      rintro e w11 ⟨rfl, hs, hg⟩
      have A11 := Lib.hid (A10.out.put hs hg)
      have C11 := Lib.hid (C10.out.far hg HCD.out.1 HCD.out.2)
      have RG2 := Lib.hid (RG.out.grown hg (fun e => A10.out.o.row_ne RG.out (Option.some.inj e)))
      clear hs hg HKX HAX A10 C10 RG
      have HBE : Hid (decide (L = putH L x.k x.a) = decide (getH L x.k = x.a)) := Lib.hid (decide_eq_decide.2 (putH_same A11.out.s.sto HXK.out HXO.out.a))
      have HLP : Hid ((putH L x.k x.a).length ≤ 900) := Lib.hid (by have := putH_len L x.k x.a; have := HML.out; omega)
      have HSM := Lib.hid (fun V (hb : Below w11.heap.size w11 V) => same13 sb mb ob nb L _ V (A11.out.below hb).s (A11.out.below hb).o (by rw [HML.out]; omega) HLP.out)
      have HSC := Lib.hid (fun V (hb : Below w11.heap.size w11 V) => same13 sb mb cb db L L V (A11.out.below hb).s (C11.out.below hb) (by rw [HML.out]; omega) (by rw [HML.out]; omega))
      have HGT := Lib.hid (fun V (hb : Below w11.heap.size w11 V) => get13 sb mb L x.k V (A11.out.below hb).s HXK.out)
      rw [HBE.out] at HSM
      rw [decide_eq_true rfl] at HSC
      have NE1 := fun w => acc_eql (x := getH L x.k) (y := x.a) HGO.out.o.1 HXO.out.a.o.1 w
      have NE2 := fun w => acc_eql (x := getH L x.k) (y := getH L x.k) HGO.out.o.1 HGO.out.o.1 w
      rw [decide_eq_true rfl] at NE2
      have HKX := Lib.hid (fun V (hb : Below w11.heap.size w11 V) => row_actk (A11.out.below hb).x)
      have HAX := Lib.hid (fun V (hb : Below w11.heap.size w11 V) => row_acta HXK.out.1 (A11.out.below hb).x)
      have HGX := Lib.hid (fun V (hb : Below w11.heap.size w11 V) => row_acc (RG2.out.below hb RG2.out.lt))
      have HBW := Lib.hid (A11.out.b)
      clear C11 RG2 HBE HLP A11
      generalize decide (getH L x.k = x.a) = bb at *
      go_upto_region 15 with fail
      refine wp_region_held_drew (S := (fun V => Below w11.heap.size w11 V)) (by kernel_rfl) (Below.refl w11.heap.size w11).drew (fun _ => ?_)
      refine takeL (i := 0) (v := ?_) rfl (by kernel_rfl) (by kernel_rfl) (by kernel_rfl) (fun _ _ _ h => h) (Or.inl ⟨by rfl, ?_⟩) (Below.refl w11.heap.size w11).drew ?_
      rotate_left
      · intro w hw
        try dsimp only at hw
        go_simp
        try with_reducible rfl
      try simp only [Act.put, List.setIfInBounds_toArray, List.set_cons_zero, List.set_cons_succ]
      refine takeL (i := 1) (v := ?_) rfl (by kernel_rfl) (by kernel_rfl) (by kernel_rfl) (fun _ _ _ h => h) (Or.inl ⟨by rfl, ?_⟩) (Below.refl w11.heap.size w11).drew ?_
      rotate_left
      · intro w hw
        try dsimp only at hw
        go_simp
        try with_reducible rfl
      try simp only [Act.put, List.setIfInBounds_toArray, List.set_cons_zero, List.set_cons_succ]
      refine takeL (i := 3) (v := .agg (getH L x.k).cells.toArray) rfl (by kernel_rfl) (by kernel_rfl) (by kernel_rfl) (fun _ _ _ h => h) (Or.inl ⟨by rfl, fun wz hwz => exec_load_at wz 35 (.tmp 10) rfl ⟨gw, 0, none⟩ (getH L x.k).cells _ Try.underlying35 rfl HSG.out (HGX.out wz hwz) (by go_simp)⟩) (Below.refl w11.heap.size w11).drew ?_
      try simp only [Act.put, List.setIfInBounds_toArray, List.set_cons_zero, List.set_cons_succ]
      refine takeL (i := 4) (v := ?_) rfl (by kernel_rfl) (by kernel_rfl) (by kernel_rfl) (fun _ _ _ h => h) (Or.inl ⟨by rfl, ?_⟩) (Below.refl w11.heap.size w11).drew ?_
      rotate_left
      · intro w hw
        try dsimp only at hw
        go_simp
        try with_reducible rfl
      try simp only [Act.put, List.setIfInBounds_toArray, List.set_cons_zero, List.set_cons_succ]
      refine takeL (i := 5) (v := .agg x.a.cells.toArray) rfl (by kernel_rfl) (by kernel_rfl) (by kernel_rfl) (fun _ _ _ h => h) (Or.inl ⟨by rfl, fun wz hwz => exec_load_at wz 35 (.tmp 71) rfl ⟨ga, 33, none⟩ x.a.cells _ Try.underlying35 rfl HSA.out (HAX.out wz hwz) (by go_simp)⟩) (Below.refl w11.heap.size w11).drew ?_
      try simp only [Act.put, List.setIfInBounds_toArray, List.set_cons_zero, List.set_cons_succ]
      refine takeL (i := 6) (v := ?_) rfl (by kernel_rfl) (by kernel_rfl) (by kernel_rfl) (fun _ _ _ h => h) (Or.inl ⟨by rfl, ?_⟩) (Below.refl w11.heap.size w11).drew ?_
      rotate_left
      · intro w hw
        try dsimp only at hw
        go_simp
        try with_reducible rfl
      try simp only [Act.put, List.setIfInBounds_toArray, List.set_cons_zero, List.set_cons_succ]
      refine readyL (i := 2) rfl (by kernel_rfl) (by kernel_rfl) fun K hK => ?_
      go_simp
      refine (HSM.out _ (Below.refl _ _).drew).mono ?_
      rintro e w12 ⟨rfl, hb⟩
      have B12 := Lib.hid (show Below w11.heap.size w11 w12 from (Below.refl w11.heap.size w11).drew.trans hb)
      clear hb
      refine hK.out _ _ B12.out ?_
      clear hK K
      try simp only [Act.put, List.setIfInBounds_toArray, List.set_cons_zero, List.set_cons_succ]
      refine takeL (i := 7) (v := .bool true) rfl (by kernel_rfl) (by kernel_rfl) (by kernel_rfl) (fun _ _ _ h => h) (Or.inl ⟨by rfl, fun wz hwz => by cases bb <;> (go_simp; try rfl)⟩) B12.out ?_
      try simp only [Act.put, List.setIfInBounds_toArray, List.set_cons_zero, List.set_cons_succ]
      refine takeL (i := 8) (v := ?_) rfl (by kernel_rfl) (by kernel_rfl) (by kernel_rfl) (fun _ _ _ h => h) (Or.inl ⟨by rfl, ?_⟩) B12.out ?_
      rotate_left
      · intro w hw
        try dsimp only at hw
        go_simp
        try with_reducible rfl
      try simp only [Act.put, List.setIfInBounds_toArray, List.set_cons_zero, List.set_cons_succ]
      refine takeL (i := 9) (v := ?_) rfl (by kernel_rfl) (by kernel_rfl) (by kernel_rfl) (fun _ _ _ h => h) (Or.inl ⟨by rfl, ?_⟩) B12.out ?_
      rotate_left
      · intro w hw
        try dsimp only at hw
        go_simp
        try with_reducible rfl
      try simp only [Act.put, List.setIfInBounds_toArray, List.set_cons_zero, List.set_cons_succ]
      refine takeL (i := 10) (v := ?_) rfl (by kernel_rfl) (by kernel_rfl) (by kernel_rfl) (fun _ _ _ h => h) (Or.inl ⟨by rfl, ?_⟩) B12.out ?_
      rotate_left
      · intro w hw
        try dsimp only at hw
        go_simp
        try with_reducible rfl
      try simp only [Act.put, List.setIfInBounds_toArray, List.set_cons_zero, List.set_cons_succ]
      refine readyL (i := 11) rfl (by kernel_rfl) (by kernel_rfl) fun K hK => ?_
      go_simp
      refine (HSC.out _ B12.out).mono ?_
      rintro e w13 ⟨rfl, hb⟩
      have B13 := Lib.hid (B12.out.trans (hb.mono B12.out.size))
      clear hb
      refine hK.out _ _ B13.out ?_
      clear hK K
      try simp only [Act.put, List.setIfInBounds_toArray, List.set_cons_zero, List.set_cons_succ]
      refine takeL (i := 12) (v := ?_) rfl (by kernel_rfl) (by kernel_rfl) (by kernel_rfl) (fun _ _ _ h => h) (Or.inl ⟨by rfl, ?_⟩) B13.out ?_
      rotate_left
      · intro w hw
        try dsimp only at hw
        go_simp
        try with_reducible rfl
      try simp only [Act.put, List.setIfInBounds_toArray, List.set_cons_zero, List.set_cons_succ]
      refine takeL (i := 13) (v := ?_) rfl (by kernel_rfl) (by kernel_rfl) (by kernel_rfl) (fun _ _ _ h => h) (Or.inl ⟨by rfl, ?_⟩) B13.out ?_
      rotate_left
      · intro w hw
        try dsimp only at hw
        go_simp
        try with_reducible rfl
      try simp only [Act.put, List.setIfInBounds_toArray, List.set_cons_zero, List.set_cons_succ]
      refine takeL (i := 14) (v := ?_) rfl (by kernel_rfl) (by kernel_rfl) (by kernel_rfl) (fun _ _ _ h => h) (Or.inl ⟨by rfl, ?_⟩) B13.out ?_
      rotate_left
      · intro w hw
        try dsimp only at hw
        go_simp
        try with_reducible rfl
      try simp only [Act.put, List.setIfInBounds_toArray, List.set_cons_zero, List.set_cons_succ]
      refine takeL (i := 15) (v := ?_) rfl (by kernel_rfl) (by kernel_rfl) (by kernel_rfl) (fun _ _ _ h => h) (Or.inl ⟨by rfl, ?_⟩) B13.out ?_
      rotate_left
      · intro w hw
        try dsimp only at hw
        go_simp
        try with_reducible rfl
      try simp only [Act.put, List.setIfInBounds_toArray, List.set_cons_zero, List.set_cons_succ]
      refine takeL (i := 16) (v := .agg (bv x.k).toArray) rfl (by kernel_rfl) (by kernel_rfl) (by kernel_rfl) (fun _ _ _ h => h) (Or.inl ⟨by rfl, fun wz hwz => exec_load_at wz 24 (.tmp 82) rfl ⟨ga, 1, none⟩ (bv x.k) _ Try.underlying24 rfl HSK.out (HKX.out wz hwz) (by go_simp)⟩) B13.out ?_
      try simp only [Act.put, List.setIfInBounds_toArray, List.set_cons_zero, List.set_cons_succ]
      refine takeL (i := 18) (v := .agg (getH L x.k).cells.toArray) rfl (by kernel_rfl) (by kernel_rfl) (by kernel_rfl) (fun _ _ _ h => h) (Or.inl ⟨by rfl, fun wz hwz => exec_load_at wz 35 (.tmp 10) rfl ⟨gw, 0, none⟩ (getH L x.k).cells _ Try.underlying35 rfl HSG.out (HGX.out wz hwz) (by go_simp)⟩) B13.out ?_
      try simp only [Act.put, List.setIfInBounds_toArray, List.set_cons_zero, List.set_cons_succ]
      refine readyL (i := 17) rfl (by kernel_rfl) (by kernel_rfl) fun K hK => ?_
      go_simp
      refine (HGT.out _ B13.out).mono ?_
      rintro e w14 ⟨rfl, hb⟩
      have B14 := Lib.hid (B13.out.trans (hb.mono B13.out.size))
      clear hb
      refine hK.out _ _ B14.out ?_
      clear hK K
      try simp only [Act.put, List.setIfInBounds_toArray, List.set_cons_zero, List.set_cons_succ]
      refine takeL (i := 19) (v := ?_) rfl (by kernel_rfl) (by kernel_rfl) (by kernel_rfl) (fun _ _ _ h => h) (Or.inl ⟨by rfl, ?_⟩) B14.out ?_
      rotate_left
      · intro w hw
        try dsimp only at hw
        go_simp
        try with_reducible rfl
      try simp only [Act.put, List.setIfInBounds_toArray, List.set_cons_zero, List.set_cons_succ]
      refine takeL (i := 20) (v := ?_) rfl (by kernel_rfl) (by kernel_rfl) (by kernel_rfl) (fun _ _ _ h => h) (Or.inl ⟨by rfl, ?_⟩) B14.out ?_
      rotate_left
      · intro w hw
        try dsimp only at hw
        go_simp
        try with_reducible rfl
      try simp only [Act.put, List.setIfInBounds_toArray, List.set_cons_zero, List.set_cons_succ]
      refine takeL (i := 21) (v := ?_) rfl (by kernel_rfl) (by kernel_rfl) (by kernel_rfl) (fun _ _ _ h => h) (Or.inl ⟨by rfl, ?_⟩) B14.out ?_
      rotate_left
      · intro w hw
        try dsimp only at hw
        go_simp
        try with_reducible rfl
      try simp only [Act.put, List.setIfInBounds_toArray, List.set_cons_zero, List.set_cons_succ]
      refine readyL (i := 22) rfl (by kernel_rfl) (by kernel_rfl) fun K hK => ?_
      go_simp
      refine (lives13 _).mono ?_
      rintro e w15 ⟨rfl, hb⟩
      have B15 := Lib.hid (B14.out.trans (hb.mono B14.out.size))
      clear hb
      refine hK.out _ _ B15.out ?_
      clear hK K
      try simp only [Act.put, List.setIfInBounds_toArray, List.set_cons_zero, List.set_cons_succ]
      refine takeL (i := 23) (v := ?_) rfl (by kernel_rfl) (by kernel_rfl) (by kernel_rfl) (fun _ _ _ h => h) (Or.inl ⟨by rfl, ?_⟩) B15.out ?_
      rotate_left
      · intro w hw
        try dsimp only at hw
        go_simp
        try with_reducible rfl
      try simp only [Act.put, List.setIfInBounds_toArray, List.set_cons_zero, List.set_cons_succ]
      refine takeL (i := 24) (v := ?_) rfl (by kernel_rfl) (by kernel_rfl) (by kernel_rfl) (fun _ _ _ h => h) (Or.inl ⟨by rfl, ?_⟩) B15.out ?_
      rotate_left
      · intro w hw
        try dsimp only at hw
        go_simp
        try with_reducible rfl
      try simp only [Act.put, List.setIfInBounds_toArray, List.set_cons_zero, List.set_cons_succ]
      refine wpAnyH_done (by kernel_rfl) ?_ _
      go_wp2_with fail
      go_ret
      exact ⟨rfl, HBW.out.trans (B15.out.mono HBW.out.size)⟩
end Go.Proofs.Ytpkkgmmcindfgaa

/-
  Of part CoinsWalk13: what is needed here.
-/
namespace Go.Proofs.Ytpkkgmmcindfgaa
open Go.RowKit
set_option linter.unusedVariables false
set_option maxRecDepth 100000
theorem wpList_load_atg13 {P : Program} {ops : Array Oper} {rest : List Oper} {op : Oper} {a : Act} {w : World} {Q : Exit → Act → World → Prop} (hw : Region.wanted op (yielded ops a.tmps) = true) (ty : TypeId) (x : Operand) (ho : op.op = .load ty x)
    (p : Addr) (cs : List Value) (d : TypeDesc) (hu : P.underlying ty = some d) (hd : d.isRow = true) (hi : (P.info? ty).map (·.size) = some cs.length) (hc : ∀ j v, cs[j]? = some v → w.cell? (p.add j) = some v)
    (hx : a.eval x = .pointer (some p)) (h : wpList P ops Q rest (a.put op.dst (.agg cs.toArray)) w) : wpList P ops Q (op :: rest) a w :=
  BigFrame.wpList_want hw fun _ hK => by
    unfold Oper.wp execOp
    simp only [ho, hx, Sem.run_bind, Sem.run_pure, run_loadAt_at w p ty cs d hc hu hd hi, Result.andThen_ok]
    exact hK _ _ h
theorem coins_moved {L : List LHold} (h : Sto L) {k k' : List Int} (hk : k.length = 32 ∧ AllBytes k) (hne : k ≠ k') {a b : LAcc} (ha : AccOk a) (hc : a.c + b.c = (getH L k).c + (getH L k').c) :
    sumH (putH (putH L k a) k' b) = sumH L := by
  rw [sum_put (h.put hk ha), sum_put h, getH_put h hk ha, if_neg (Ne.symm hne)]
  omega
theorem coins_then {L : List LHold} (h : Sto L) {k k' : List Int} (hk : k.length = 32 ∧ AllBytes k) (hk' : k'.length = 32 ∧ AllBytes k') (hne : k ≠ k') {a b : LAcc} (ha : AccOk a) (hb : AccOk b) (a' : LAcc) :
    sumH (putH (putH (putH L k a) k' b) k a') = sumH (putH (putH L k a) k' b) - a.c + a'.c := by
  rw [sum_put ((h.put hk ha).put hk' hb), getH_put (h.put hk ha) hk' hb, if_neg hne, getH_put h hk ha, if_pos rfl]
theorem row_key0 {V : World} {ga t : Nat} {k0 k1 : List Int} (hk : k0.length = 32) (h : Row V ga t (bv k0 ++ bv k1)) : ∀ j u, (bv k0)[j]? = some u → V.cell? ((⟨ga, 0, none⟩ : Addr).add j) = some u := fun j u hu => by
  rw [addr_row, h.cell, Nat.zero_add, List.getElem?_append_left (List.getElem?_eq_some_iff.1 hu).1]
  exact hu
theorem row_key1 {V : World} {ga t : Nat} {k0 k1 : List Int} (hk : k0.length = 32) (h : Row V ga t (bv k0 ++ bv k1)) : ∀ j u, (bv k1)[j]? = some u → V.cell? ((⟨ga, 32, none⟩ : Addr).add j) = some u := fun j u hu => by
  rw [addr_row, h.cell, List.getElem?_append_right (by rw [bv_length, hk]; omega), bv_length, hk, Nat.add_sub_cancel_left]
  exact hu
theorem row_acc13 {V : World} {g t : Nat} {a : LAcc} (h : Row V g t a.cells) : ∀ j u, a.cells[j]? = some u → V.cell? ((⟨g, 0, none⟩ : Addr).add j) = some u := fun j u hu => by
  rw [addr_row, h.cell, Nat.zero_add]
  exact hu
theorem two_size {k0 k1 : List Int} (h0 : k0.length = 32) (h1 : k1.length = 32) : (Try.prog.info? 64).map (·.size) = some (bv k0 ++ bv k1).length := by
  rw [List.length_append, bv_length, bv_length, h0, h1]
  kernel_rfl
theorem acc_setC (a : LAcc) (z : Int) : a.cells.set 0 (.int .u64 z) = (LAcc.mk z a.o a.s).cells := rfl
theorem acc_setS {a : LAcc} (h : a.o.length = 32) (z : Int) : a.cells.set 33 (.int .u64 z) = (LAcc.mk a.c a.o z).cells := by
  unfold LAcc.cells
  rw [show (33 : Nat) = 32 + 1 from rfl, List.set_cons_succ, List.set_append_right _ _ (by rw [bv_length, h]; omega), bv_length, h]
  rfl
theorem acc_setO {a : LAcc} (h : a.o.length = 32) {o : List Int} (ho : o.length = 32) : a.cells.take 1 ++ bv o ++ a.cells.drop (1 + (bv o).length) = (LAcc.mk a.c o a.s).cells := by
  unfold LAcc.cells
  rw [bv_length, ho, show (1 + 32 : Nat) = 32 + 1 from rfl, List.drop_succ_cons, List.drop_append, bv_length, h]
  simp [bv_length, h]
/-- a store, two keys, two accounts -/
structure CG (w V : World) (sb mb ga ra rb : Nat) (k0 k1 : List Int) (L : List LHold) (a b : LAcc) : Prop where
  bel : Below w.heap.size w V
  s : StIn V sb mb L
  x : Row V ga 64 (bv k0 ++ bv k1)
  rowA : Row V ra 35 a.cells
  rowB : Row V rb 35 b.cells
  ne : ra ≠ rb ∧ sb ≠ ra ∧ sb ≠ rb ∧ ga ≠ ra ∧ ga ≠ rb
  lo : w.heap.size ≤ ra ∧ w.heap.size ≤ rb ∧ w.heap.size ≤ mb
section
variable {w V V' : World} {sb mb ga ra rb : Nat} {k0 k1 : List Int} {L L' : List LHold} {a b a' b' : LAcc}
theorem CG.below (h : CG w V sb mb ga ra rb k0 k1 L a b) (hb : Below V.heap.size V V') : CG w V' sb mb ga ra rb k0 k1 L a b :=
  ⟨h.bel.trans (hb.mono h.bel.size), h.s.below hb, h.x.below hb h.x.lt, h.rowA.below hb h.rowA.lt, h.rowB.below hb h.rowB.lt, h.ne, h.lo⟩
theorem CG.setA (h : CG w V sb mb ga ra rb k0 k1 L a b) (hr : Row V' ra 35 a'.cells) (ht : Turned V V' ra) : CG w V' sb mb ga ra rb k0 k1 L a' b :=
  ⟨h.bel.trans (ht.below h.lo.1), h.s.keep (ht.block _ h.ne.2.1) (ht.block _ (Ne.symm (h.s.row_ne h.rowA))), ht.row h.x h.ne.2.2.2.1, hr, ht.row h.rowB (Ne.symm h.ne.1), h.ne, h.lo⟩
theorem CG.setB (h : CG w V sb mb ga ra rb k0 k1 L a b) (hr : Row V' rb 35 b'.cells) (ht : Turned V V' rb) : CG w V' sb mb ga ra rb k0 k1 L a b' :=
  ⟨h.bel.trans (ht.below h.lo.2.1), h.s.keep (ht.block _ h.ne.2.2.1) (ht.block _ (Ne.symm (h.s.row_ne h.rowB))), ht.row h.x h.ne.2.2.2.2, ht.row h.rowA h.ne.1, hr, h.ne, h.lo⟩
theorem CG.put (h : CG w V sb mb ga ra rb k0 k1 L a b) (hs : StIn V' sb mb L') (hg : V.grownBy V' (some mb)) : CG w V' sb mb ga ra rb k0 k1 L' a b :=
  ⟨h.bel.grown hg h.bel.size (fun k hk => by cases hk; exact h.lo.2.2), hs, h.x.grown hg (fun e => h.s.row_ne h.x (Option.some.inj e)), h.rowA.grown hg (fun e => h.s.row_ne h.rowA (Option.some.inj e)), h.rowB.grown hg (fun e => h.s.row_ne h.rowB (Option.some.inj e)), h.ne, h.lo⟩
end
theorem built_k9 : Try.prog.built 24 [(0, .int .u8 9)] = some (bv (k13 9)).toArray := by kernel_rfl
set_option maxHeartbeats 16000000 in
theorem coins_walk13 (A : Option Addr) (n c : Nat) (l : List LAct13) (k0 k1 : List Int) (z : Int) (w : World) (hl : ActsIn13 w w.heap.size A n l) (hk0 : k0.length = 32 ∧ AllBytes k0) (hk1 : k1.length = 32 ∧ AllBytes k1) (z0 : 0 ≤ z) (z1 : z < 18446744073709551616) : Calls Try.prog 7 #[.slice A n c, .agg (bv k0 ++ bv k1).toArray, .int .u64 z] w fun e w' => e = .returned (.bool true) ∧ Below w.heap.size w w' := by
  have HSX := Lib.hid (two_size hk0.1 hk1.1)
  have HK0 := Lib.hid hk0
  have HK1 := Lib.hid hk1
  have HS0 : Hid ((Try.prog.info? 24).map (·.size) = some (bv k0).length) := Lib.hid (by rw [size_key, bv_length, hk0.1])
  have HS1 : Hid ((Try.prog.info? 24).map (·.size) = some (bv k1).length) := Lib.hid (by rw [size_key, bv_length, hk1.1])
  have HZ := Lib.hid (And.intro z0 z1)
  have hb0 := (Below.refl w.heap.size w).alloc (Nat.le_refl _) (.cells (bv k0 ++ bv k1).toArray 64)
  have HB0 := Lib.hid hb0
  have RX0 := Lib.hid (Row.new w 64 (bv k0 ++ bv k1))
  have HM := Lib.hid ((hl.below hb0).more hb0.size)
  have NE := fun w => key_eql hk0.1 hk1.1 w
  clear hb0 hl hk0 hk1 z0 z1
  obtain ⟨ga, hga⟩ : ∃ ga, ga = w.heap.size := ⟨_, rfl⟩
  have HGA : Hid (w.heap.size = ga) := Lib.hid hga.symm
  have RX : Hid (Row (w.alloc (.cells (bv k0 ++ bv k1).toArray 64)) ga 64 (bv k0 ++ bv k1)) := Lib.hid (by rw [hga]; exact RX0.out)
  clear hga RX0
  generalize hW0 : w.alloc (.cells (bv k0 ++ bv k1).toArray 64) = W0 at *
  have HW0 := Lib.hid hW0
  clear hW0
  by_cases h5 : 150 < n
  · have h5' : (150 : Int) < n := by omega
    go_enter Try.func7, Try.ntmps7
    go_wp2_with fail
    refine (lives13 _).mono ?_
    rintro e w2 ⟨rfl, hb⟩
    rw [HW0.out] at hb
    have HB := Lib.hid (HB0.out.trans (hb.mono HB0.out.size))
    clear hb
    go_wp2_with fail
    go_ret
    exact ⟨rfl, HB.out⟩
  have h5' : ¬ (150 : Int) < n := by omega
  by_cases hkk : k0 = k1
  · rw [decide_eq_true hkk] at NE
    clear hkk
    go_enter Try.func7, Try.ntmps7
    go_upto_region 1 with fail
    rw [HW0.out, HGA.out]
    clear HW0 HGA
    go_wp2_with (first
      | ((with_reducible show wpList _ _ _ ({ dst := some 25, op := Op.load _ _, type := _, pos := _, after := _, guard := _ } :: _) _ _); go_must (refine wpList_load_atg13 (by kernel_rfl) 24 (.tmp 24) rfl ⟨ga, 0, none⟩ (bv k0) _ Try.underlying24 rfl HS0.out (row_key0 HK0.out.1 RX.out) ?_ ?_; go_simp))
      | ((with_reducible show wpList _ _ _ ({ dst := some 27, op := Op.load _ _, type := _, pos := _, after := _, guard := _ } :: _) _ _); go_must (refine wpList_load_atg13 (by kernel_rfl) 24 (.tmp 26) rfl ⟨ga, 32, none⟩ (bv k1) _ Try.underlying24 rfl HS1.out (row_key1 HK0.out.1 RX.out) ?_ ?_; go_simp)))
    refine (lives13 _).mono ?_
    rintro e w2 ⟨rfl, hb⟩
    have HB := Lib.hid (HB0.out.trans (hb.mono HB0.out.size))
    clear hb
    go_wp2_with fail
    go_ret
    exact ⟨rfl, HB.out⟩
  rw [decide_eq_false hkk] at NE
  have HNE := Lib.hid hkk
  clear hkk
  go_enter Try.func7, Try.ntmps7
  go_upto_region 1 with fail
  rw [HW0.out, HGA.out]
  clear HW0 HGA
  go_upto_region 3 with (first
    | ((with_reducible show wpList _ _ _ ({ dst := some 25, op := Op.load _ _, type := _, pos := _, after := _, guard := _ } :: _) _ _); go_must (refine wpList_load_atg13 (by kernel_rfl) 24 (.tmp 24) rfl ⟨ga, 0, none⟩ (bv k0) _ Try.underlying24 rfl HS0.out (row_key0 HK0.out.1 RX.out) ?_ ?_; go_simp))
    | ((with_reducible show wpList _ _ _ ({ dst := some 27, op := Op.load _ _, type := _, pos := _, after := _, guard := _ } :: _) _ _); go_must (refine wpList_load_atg13 (by kernel_rfl) 24 (.tmp 26) rfl ⟨ga, 32, none⟩ (bv k1) _ Try.underlying24 rfl HS1.out (row_key1 HK0.out.1 RX.out) ?_ ?_; go_simp)))
  clear NE
  go_wp2_with fail
  refine (made13 A n c l W0 HM.out (by omega)).mono ?_
  rintro e w1 ⟨sb, mb, rfl, hs, h1, h2, hb⟩
  have HLN : Hid ((puts13 l).length ≤ 150) := Lib.hid (by have := puts13_len l; have := HM.out.len; omega)
  generalize puts13 l = L at *
  have S1 := Lib.hid hs
  have B1 := Lib.hid (HB0.out.trans (hb.mono HB0.out.size))
  have R1 := Lib.hid (RX.out.below hb RX.out.lt)
  have HLO : Hid (w.heap.size ≤ sb ∧ w.heap.size ≤ mb) := Lib.hid (by have := HB0.out.size; omega)
  clear hs hb h1 h2 RX HB0 HM
  go_wp2_with fail
  refine (coins13 sb mb L w1 S1.out (by have := HLN.out; omega)).mono ?_
  rintro e w2 ⟨rfl, hb⟩
  have S2 := Lib.hid (S1.out.below hb)
  have B2 := Lib.hid (B1.out.trans (hb.mono B1.out.size))
  have R2 := Lib.hid (R1.out.below hb R1.out.lt)
  clear hb S1 B1 R1
  go_wp2_with ((with_reducible show wpList _ _ _ ({ dst := some 40, op := Op.load _ _, type := _, pos := _, after := _, guard := _ } :: _) _ _); go_must (refine wpList_load_at rfl 24 (.tmp 39) rfl ⟨ga, 0, none⟩ (bv k0) _ Try.underlying24 rfl HS0.out (row_key0 HK0.out.1 R2.out) ?_ ?_; go_simp))
  refine (get13 sb mb L k0 w2 S2.out HK0.out).mono ?_
  rintro e w3 ⟨rfl, hb⟩
  have HOA := Lib.hid (S2.out.sto.get_ok k0)
  have HOB := Lib.hid (S2.out.sto.get_ok k1)
  obtain ⟨aa, haa⟩ : ∃ a, a = getH L k0 := ⟨_, rfl⟩
  obtain ⟨bb, hbb⟩ : ∃ a, a = getH L k1 := ⟨_, rfl⟩
  rw [← haa] at HOA ⊢
  rw [← hbb] at HOB
  have HAA := Lib.hid haa
  have HBB := Lib.hid hbb
  have S3 := Lib.hid (S2.out.below hb)
  have B3 := Lib.hid (B2.out.trans (hb.mono B2.out.size))
  have R3 := Lib.hid (R2.out.below hb R2.out.lt)
  clear hb S2 B2 R2 haa hbb
  go_upto_region 6 with (first
    | ((with_reducible show wpList _ _ _ ({ dst := some 10, op := Op.alloc _, type := _, pos := _, after := _, guard := _ } :: _) _ _); go_must (refine wpList_alloc_zero rfl 35 rfl blank13.cells zero_acc ?_))
    | ((with_reducible show wpList _ _ _ ({ dst := none, op := Op.store 35 _ _, type := _, pos := _, after := _, guard := _ } :: _) _ _); go_must (refine wpList_store_new rfl 35 (.tmp 10) (.tmp 41) rfl aa.cells (size_acc HOA.out.o.1) (acc_one _) (by rw [acc_len HOA.out.o.1]; rfl) ?_ ?_ ?_; go_simp; go_simp; intro w4 hr hb hz; have RA4 := Lib.hid hr; have S4 := Lib.hid (S3.out.below hb); have B4 := Lib.hid (B3.out.trans (hb.mono B3.out.size)); have R4 := Lib.hid (R3.out.below hb R3.out.lt); clear hr hb hz)))

  obtain ⟨ra, hra⟩ : ∃ g, g = w3.heap.size := ⟨_, rfl⟩
  have HRA : Hid (sb ≠ ra ∧ ga ≠ ra ∧ w.heap.size ≤ ra) := Lib.hid (by have := S3.out.lt; have := R3.out.lt; have := B3.out.size; omega)
  rw [← hra] at RA4 ⊢
  clear hra S3 B3 R3
  go_wp2_with ((with_reducible show wpList _ _ _ ({ dst := some 44, op := Op.load _ _, type := _, pos := _, after := _, guard := _ } :: _) _ _); go_must (refine wpList_load_at rfl 24 (.tmp 43) rfl ⟨ga, 32, none⟩ (bv k1) _ Try.underlying24 rfl HS1.out (row_key1 HK0.out.1 R4.out) ?_ ?_; go_simp))
  refine (get13 sb mb L k1 w4 S4.out HK1.out).mono ?_
  rintro e w5 ⟨rfl, hb⟩
  rw [← HBB.out]
  have S5 := Lib.hid (S4.out.below hb)
  have B5 := Lib.hid (B4.out.trans (hb.mono B4.out.size))
  have R5 := Lib.hid (R4.out.below hb R4.out.lt)
  have RA5 := Lib.hid (RA4.out.below hb RA4.out.lt)
  clear hb S4 B4 R4 RA4
  go_upto_region 7 with (first
    | ((with_reducible show wpList _ _ _ ({ dst := some 11, op := Op.alloc _, type := _, pos := _, after := _, guard := _ } :: _) _ _); go_must (refine wpList_alloc_zero rfl 35 rfl blank13.cells zero_acc ?_))
    | ((with_reducible show wpList _ _ _ ({ dst := none, op := Op.store 35 _ _, type := _, pos := _, after := _, guard := _ } :: _) _ _); go_must (refine wpList_store_new rfl 35 (.tmp 11) (.tmp 45) rfl bb.cells (size_acc HOB.out.o.1) (acc_one _) (by rw [acc_len HOB.out.o.1]; rfl) ?_ ?_ ?_; go_simp; go_simp; intro w6 hr hb hz; have RB6 := Lib.hid hr; have S6 := Lib.hid (S5.out.below hb); have B6 := Lib.hid (B5.out.trans (hb.mono B5.out.size)); have R6 := Lib.hid (R5.out.below hb R5.out.lt); have RA6 := Lib.hid (RA5.out.below hb RA5.out.lt); clear hr hb hz)))

  obtain ⟨rb, hrb⟩ : ∃ g, g = w5.heap.size := ⟨_, rfl⟩
  have HRB : Hid (ra ≠ rb ∧ sb ≠ rb ∧ ga ≠ rb ∧ w.heap.size ≤ rb) := Lib.hid (by have := S5.out.lt; have := R5.out.lt; have := B5.out.size; have := RA5.out.lt; omega)
  rw [← hrb] at RB6 ⊢
  have G6 : Hid (CG w w6 sb mb ga ra rb k0 k1 L aa bb) := Lib.hid ⟨B6.out, S6.out, R6.out, RA6.out, RB6.out, ⟨HRB.out.1, HRA.out.1, HRB.out.2.1, HRA.out.2.1, HRB.out.2.2.1⟩, HRA.out.2.2, HRB.out.2.2.2, HLO.out.2⟩
  have hcA := RA6.out.cell 0
  have hcB := RB6.out.cell 0
  rw [acc_c] at hcA hcB
  clear hrb S5 B5 R5 RA5 S6 B6 R6 RA6 RB6 HRA HRB
  go_upto_region 9 with fail
  clear hcA hcB
  have hw : IntKind.u64.wrap (18446744073709551615 - bb.c) = 18446744073709551615 - bb.c := by rw [IntKind.wrap_u64]; have := HOB.out.c; omega
  rw [hw]
  clear hw
  obtain ⟨mv, hmv⟩ : ∃ mv, mv = (if 18446744073709551615 - bb.c < if aa.c < z then aa.c else z then 18446744073709551615 - bb.c else if aa.c < z then aa.c else z) := ⟨_, rfl⟩
  have HMV : Hid (0 ≤ mv ∧ mv ≤ aa.c ∧ mv ≤ 18446744073709551615 - bb.c) := Lib.hid (by
    have := HOA.out.c
    have := HOB.out.c
    have := HZ.out
    rw [hmv]
    split <;> split <;> omega)
  rw [← hmv]
  clear hmv
  have E1 : IntKind.u64.wrap (aa.c - mv) = aa.c - mv := by rw [IntKind.wrap_u64]; have := HOA.out.c; have := HMV.out; omega
  have hcA := G6.out.rowA.cell 0
  rw [acc_c] at hcA
  have fA := G6.out.rowA.frozen 0
  go_upto_region 10 with fail
  have hr7 := G6.out.rowA.set_ 0 (.int .u64 (aa.c - mv))
  rw [acc_setC] at hr7
  have G7 := Lib.hid (G6.out.setA hr7 (turned_setCell w6 ⟨ra, 0, none⟩ _))
  clear hr7 G6 hcA fA E1
  generalize w6.setCell ⟨ra, 0, none⟩ (.int .u64 (aa.c - mv)) = w7 at *
  have E2 : IntKind.u64.wrap (bb.c + mv) = bb.c + mv := by rw [IntKind.wrap_u64]; have := HOB.out.c; have := HMV.out; omega
  have hcB := G7.out.rowB.cell 0
  rw [acc_c] at hcB
  have fB := G7.out.rowB.frozen 0
  go_upto_region 11 with fail
  have hr8 := G7.out.rowB.set_ 0 (.int .u64 (bb.c + mv))
  rw [acc_setC] at hr8
  have G8 := Lib.hid (G7.out.setB hr8 (turned_setCell w7 ⟨rb, 0, none⟩ _))
  clear hr8 G7 hcB fB E2
  generalize w7.setCell ⟨rb, 0, none⟩ (.int .u64 (bb.c + mv)) = w8 at *
  have hcB := G8.out.rowB.cell 33
  rw [acc_s (show (LAcc.mk (bb.c + mv) bb.o bb.s).o.length = 32 from HOB.out.o.1)] at hcB
  have fB := G8.out.rowB.frozen 33
  go_upto_region 12 with fail
  obtain ⟨sp, hsp⟩ : ∃ sp, sp = IntKind.u64.wrap (bb.s + 1) := ⟨_, rfl⟩
  have HSP : Hid (0 ≤ sp ∧ sp < 18446744073709551616) := Lib.hid (by rw [hsp, IntKind.wrap_u64]; omega)
  rw [← hsp]
  have hr9 := G8.out.rowB.set_ 33 (.int .u64 sp)
  rw [acc_setS (show (LAcc.mk (bb.c + mv) bb.o bb.s).o.length = 32 from HOB.out.o.1)] at hr9
  have G9 := Lib.hid (G8.out.setB hr9 (turned_setCell w8 ⟨rb, 33, none⟩ _))
  clear hr9 G8 hcB fB hsp
  generalize w8.setCell ⟨rb, 33, none⟩ (.int .u64 sp) = w9 at *
  obtain ⟨b2, hb2⟩ : ∃ b : LAcc, b = ⟨bb.c + mv, bb.o, sp⟩ := ⟨_, rfl⟩
  have OB2 : Hid (AccOk b2) := Lib.hid (by rw [hb2]; exact ⟨by have := HOB.out.c; have := HMV.out; show 0 ≤ bb.c + mv ∧ bb.c + mv < 18446744073709551616; omega, HOB.out.o, HSP.out⟩)
  have CB2 : Hid (b2.c = bb.c + mv) := Lib.hid (by rw [hb2])
  rw [show LAcc.mk (LAcc.mk (bb.c + mv) bb.o bb.s).c (LAcc.mk (bb.c + mv) bb.o bb.s).o sp = b2 from hb2.symm] at G9
  clear hb2
  go_upto_region 13 with (first
    | ((with_reducible show wpList _ _ _ ({ dst := some 68, op := Op.build _ _, type := _, pos := _, after := _, guard := _ } :: _) _ _); go_must (refine wpList_plain rfl fun K hK => wp_built _ _ _ rfl (by simp only [List.map_toArray, List.map_cons, List.map_nil]; exact built_k9) (hK _ _ ?_)))
    | ((with_reducible show wpList _ _ _ ({ dst := none, op := Op.store 24 _ _, type := _, pos := _, after := _, guard := _ } :: _) _ _); go_must (refine wpList_store_part rfl 24 (.tmp 69) (.tmp 68) rfl ra 35 1 _ (bv (k13 9)) G9.out.rowA (by rw [size_key, bv_length]; rfl) (by rw [acc_len (a := LAcc.mk (aa.c - mv) aa.o aa.s) HOA.out.o.1, bv_length]; decide) (bv_one _) ?_ ?_ ?_; go_simp; go_simp; intro w10 hr10 ht10)))
  rw [acc_setO (show (LAcc.mk (aa.c - mv) aa.o aa.s).o.length = 32 from HOA.out.o.1) rfl] at hr10
  have G10 := Lib.hid (G9.out.setA hr10 ht10)
  obtain ⟨a2, ha2⟩ : ∃ a : LAcc, a = ⟨aa.c - mv, k13 9, aa.s⟩ := ⟨_, rfl⟩
  have OA2 : Hid (AccOk a2) := Lib.hid (by rw [ha2]; exact ⟨by have := HOA.out.c; have := HMV.out; show 0 ≤ aa.c - mv ∧ aa.c - mv < 18446744073709551616; omega, k13_ok 9 (by unfold IsByte; omega), HOA.out.s⟩)
  have CA2 : Hid (a2.c = aa.c - mv) := Lib.hid (by rw [ha2])
  rw [show LAcc.mk (LAcc.mk (aa.c - mv) aa.o aa.s).c (k13 9) (LAcc.mk (aa.c - mv) aa.o aa.s).s = a2 from ha2.symm] at G10
  clear hr10 ht10 ha2 G9
  go_wp2_with (first
    | ((with_reducible show wpList _ _ _ ({ dst := some 72, op := Op.load _ _, type := _, pos := _, after := _, guard := _ } :: _) _ _); go_must (refine wpList_load_at rfl 24 (.tmp 71) rfl ⟨ga, 0, none⟩ (bv k0) _ Try.underlying24 rfl HS0.out (row_key0 HK0.out.1 G10.out.x) ?_ ?_; go_simp))
    | ((with_reducible show wpList _ _ _ ({ dst := some 73, op := Op.load 35 _, type := _, pos := _, after := _, guard := _ } :: _) _ _); go_must (refine wpList_load_at rfl 35 (.tmp 10) rfl ⟨ra, 0, none⟩ a2.cells _ Try.underlying35 rfl (size_acc OA2.out.o.1) (row_acc13 G10.out.rowA) ?_ ?_; go_simp)))
  refine (put13 sb mb L k0 a2 w10 G10.out.s HK0.out OA2.out (by have := HLN.out; omega)).mono ?_
  rintro e w11 ⟨rfl, hs, hg⟩
  have G11 := Lib.hid (G10.out.put hs hg)
  have HL1 : Hid ((putH L k0 a2).length ≤ 151) := Lib.hid (by have := putH_len L k0 a2; have := HLN.out; omega)
  clear hs hg
  go_wp2_with (first
    | ((with_reducible show wpList _ _ _ ({ dst := some 77, op := Op.load _ _, type := _, pos := _, after := _, guard := _ } :: _) _ _); go_must (refine wpList_load_at rfl 24 (.tmp 76) rfl ⟨ga, 32, none⟩ (bv k1) _ Try.underlying24 rfl HS1.out (row_key1 HK0.out.1 G11.out.x) ?_ ?_; go_simp))
    | ((with_reducible show wpList _ _ _ ({ dst := some 78, op := Op.load 35 _, type := _, pos := _, after := _, guard := _ } :: _) _ _); go_must (refine wpList_load_at rfl 35 (.tmp 11) rfl ⟨rb, 0, none⟩ b2.cells _ Try.underlying35 rfl (size_acc OB2.out.o.1) (row_acc13 G11.out.rowB) ?_ ?_; go_simp)))
  refine (put13 sb mb _ k1 b2 w11 G11.out.s HK1.out OB2.out (by have := HL1.out; omega)).mono ?_
  rintro e w12 ⟨rfl, hs, hg⟩
  have G12 := Lib.hid (G11.out.put hs hg)
  have HL2 : Hid ((putH (putH L k0 a2) k1 b2).length ≤ 152) := Lib.hid (by have := putH_len (putH L k0 a2) k1 b2; have := HL1.out; omega)
  have HSU : Hid (sumH (putH (putH L k0 a2) k1 b2) = sumH L) := Lib.hid (coins_moved G10.out.s.sto HK0.out HNE.out OA2.out (by rw [CA2.out, CB2.out, ← HAA.out, ← HBB.out]; omega))
  have HST : Hid (∀ a', sumH (putH (putH (putH L k0 a2) k1 b2) k0 a') = sumH L - a2.c + a'.c) := Lib.hid fun a' => by rw [coins_then G10.out.s.sto HK0.out HK1.out HNE.out OA2.out OB2.out, HSU.out]
  have HTB : Hid (0 ≤ sumH L ∧ sumH L < 18446744073709551616000) := Lib.hid (by
    have h1 := sumH_nonneg G10.out.s.sto.ok
    have h2 := sumH_bound G10.out.s.sto.ok
    have h3 := HLN.out
    omega)
  clear hs hg HL1 G11 G10
  go_wp2_with fail
  refine (coins13 sb mb _ w12 G12.out.s (by have := HL2.out; omega)).mono ?_
  rintro e w13 ⟨rfl, hb⟩
  have G13 := Lib.hid (G12.out.below hb)
  rw [show hi13 (putH (putH L k0 a2) k1 b2) = hi13 L by unfold hi13; rw [HSU.out], show lo13 (putH (putH L k0 a2) k1 b2) = lo13 L by unfold lo13; rw [HSU.out]]
  clear hb G12
  have hcA := G13.out.rowA.cell 0
  rw [acc_c] at hcA
  have fA := G13.out.rowA.frozen 0
  go_upto_region 19 with fail
  have hw : IntKind.u64.wrap (18446744073709551615 - a2.c) = 18446744073709551615 - a2.c := by rw [IntKind.wrap_u64]; have := OA2.out.c; omega
  rw [hw]
  clear hw
  obtain ⟨mo, hmo⟩ : ∃ mo, mo = min z (18446744073709551615 - a2.c) := ⟨_, rfl⟩
  have HMO : Hid (0 ≤ mo ∧ mo ≤ 18446744073709551615 - a2.c) := Lib.hid (by
    have := OA2.out.c
    have := HZ.out
    omega)
  rw [← hmo]
  clear hmo
  have E3 : IntKind.u64.wrap (a2.c + mo) = a2.c + mo := by rw [IntKind.wrap_u64]; have := OA2.out.c; have := HMO.out; omega
  go_upto_region 20 with fail
  have hr14 := G13.out.rowA.set_ 0 (.int .u64 (a2.c + mo))
  rw [acc_setC] at hr14
  have G14 := Lib.hid (G13.out.setA hr14 (turned_setCell w13 ⟨ra, 0, none⟩ _))
  clear hr14 G13 hcA fA E3
  generalize w13.setCell ⟨ra, 0, none⟩ (.int .u64 (a2.c + mo)) = w14 at *
  obtain ⟨a3, ha3⟩ : ∃ a : LAcc, a = ⟨a2.c + mo, a2.o, a2.s⟩ := ⟨_, rfl⟩
  have OA3 : Hid (AccOk a3) := Lib.hid (by rw [ha3]; exact ⟨by have := OA2.out.c; have := HMO.out; show 0 ≤ a2.c + mo ∧ a2.c + mo < 18446744073709551616; omega, OA2.out.o, OA2.out.s⟩)
  have CA3 : Hid (a3.c = a2.c + mo) := Lib.hid (by rw [ha3])
  rw [← ha3] at G14
  clear ha3
  go_wp2_with (first
    | ((with_reducible show wpList _ _ _ ({ dst := some 106, op := Op.load _ _, type := _, pos := _, after := _, guard := _ } :: _) _ _); go_must (refine wpList_load_at rfl 24 (.tmp 105) rfl ⟨ga, 0, none⟩ (bv k0) _ Try.underlying24 rfl HS0.out (row_key0 HK0.out.1 G14.out.x) ?_ ?_; go_simp))
    | ((with_reducible show wpList _ _ _ ({ dst := some 107, op := Op.load 35 _, type := _, pos := _, after := _, guard := _ } :: _) _ _); go_must (refine wpList_load_at rfl 35 (.tmp 10) rfl ⟨ra, 0, none⟩ a3.cells _ Try.underlying35 rfl (size_acc OA3.out.o.1) (row_acc13 G14.out.rowA) ?_ ?_; go_simp)))
  refine (put13 sb mb _ k0 a3 w14 G14.out.s HK0.out OA3.out (by have := HL2.out; omega)).mono ?_
  rintro e w15 ⟨rfl, hs, hg⟩
  have G15 := Lib.hid (G14.out.put hs hg)
  have HL3 : Hid ((putH (putH (putH L k0 a2) k1 b2) k0 a3).length ≤ 153) := Lib.hid (by have := putH_len (putH (putH L k0 a2) k1 b2) k0 a3; have := HL2.out; omega)
  have HS3 : Hid (sumH (putH (putH (putH L k0 a2) k1 b2) k0 a3) = sumH L + mo) := Lib.hid (by rw [HST.out, CA3.out]; omega)
  clear hs hg G14 HST HSU HL2
  generalize putH (putH (putH L k0 a2) k1 b2) k0 a3 = L3 at *
  go_wp2_with fail
  refine (coins13 sb mb L3 w15 G15.out.s (by have := HL3.out; omega)).mono ?_
  rintro e w16 ⟨rfl, hb⟩
  have B16 := Lib.hid (G15.out.bel.trans (hb.mono G15.out.bel.size))
  clear hb G15 HL3
  have hst := coin_step (T := sumH L) (n := mo) HTB.out.1 HTB.out.2 HMO.out.1 (by have := HMO.out; have := OA2.out.c; omega)
  have e2 : IntKind.u64.wrap (lo13 L + mo) = lo13 L3 := by unfold lo13; rw [HS3.out]; exact hst.2.1
  obtain ⟨D, hD⟩ : ∃ D, D = 18446744073709551615 - mo := ⟨_, rfl⟩
  have e1 : IntKind.u64.wrap (18446744073709551615 - mo) = D := by rw [hD]; exact hst.1
  have HC1 : Hid (D < lo13 L → IntKind.u64.wrap (hi13 L + 1) = hi13 L3) := Lib.hid (by rw [hD]; unfold lo13 hi13; rw [HS3.out]; exact hst.2.2.1)
  have HC2 : Hid (¬ D < lo13 L → hi13 L = hi13 L3) := Lib.hid (by rw [hD]; unfold lo13 hi13; rw [HS3.out]; exact hst.2.2.2)
  have HHI : Hid (IntKind.u64.wrap (hi13 L) = hi13 L) := Lib.hid (by unfold hi13; rw [IntKind.wrap_u64]; have := HTB.out; omega)
  clear hst hD HS3 HTB
  generalize hi13 L = hL at *
  generalize lo13 L = oL at *
  generalize hi13 L3 = hM at *
  generalize lo13 L3 = oM at *
  by_cases hc : D < oL
  · have e3 := HC1.out hc
    clear HC1 HC2
    go_wp2_with fail
    refine (lives13 _).mono ?_
    rintro e w17 ⟨rfl, hb⟩
    have HB := Lib.hid (B16.out.trans (hb.mono B16.out.size))
    clear hb
    go_wp2_with fail
    go_ret
    exact ⟨rfl, HB.out⟩
  · have e3 := HC2.out hc
    have e4 := HHI.out
    subst e3
    clear HC1 HC2
    go_wp2_with fail
    refine (lives13 _).mono ?_
    rintro e w17 ⟨rfl, hb⟩
    have HB := Lib.hid (B16.out.trans (hb.mono B16.out.size))
    clear hb
    go_wp2_with fail
    go_ret
    exact ⟨rfl, HB.out⟩
end Go.Proofs.Ytpkkgmmcindfgaa
