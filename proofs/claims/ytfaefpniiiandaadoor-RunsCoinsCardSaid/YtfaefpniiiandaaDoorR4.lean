/-
  Parts joined: SysRdWalk14.
-/
import Derived.Below
import Derived.Laws.OwnMore
import Derived.Deep.AppendLies
import Derived.Deep.Draws
import Derived.Lib.Hide
import Derived.Laws.MakeOwn
import Derived.Laws.CopyOwn
import Derived.Laws.Rows
import Derived.Laws.BitsAllLaws
import Derived.WalkKit
import Derived.Test.YtfaefpniiiandaaDoorRows
import Derived.WalkSpells
import Derived.WalkLawsBesides
import Derived.IntWalk
import Derived.Deep.MidRow
import Derived.Deep.WholeRow
import Derived.Maps.AppendAt
import Derived.OwnWalk
import Derived.Great.BuildSlice
import Derived.Recover
import Derived.Deep.RegionHeld
import Derived.Deep.QuietTactic
import Derived.BigQuiet
import Derived.ChangeKeysEq
import Derived.Deep.RegionHeld2
import Derived.Deep.CutBlock
import Derived.Laws.Tables
import Derived.ProofKit
import Derived.OpenShut
import Derived.ShutString
import Derived.ChangeOld
import Derived.Lib.SmallJoins
import Derived.Deep.Slices
import Derived.Deep.Strs
import Derived.SizedLaws
import Derived.Laws.StructEq
import Derived.Laws.Slices
import Derived.Deep.DeepCutAuto
import Derived.Maps.OwnSet
import Derived.DeepKeys4
import Derived.WideKeyArr
import Derived.Laws.EntriesVeiled
import Derived.Deep.RegionHeld3
import Derived.WideKeyEntry
import Derived.WalkMore
import Derived.Maps.RangeWalk
import Derived.Shelf.SlMaps.Clone
import Derived.Laws.Append
import Derived.Laws.AppendOwn
import Derived.LaidMore
import Derived.Test.YtfaefpniiiandaaDoorR1
import Derived.Test.YtfaefpniiiandaaDoorR2
import Derived.Test.YtfaefpniiiandaaDoorR3
/-
  Of part SysRdWalk14: what is needed here.
-/
namespace Go.Proofs.YtfaefpniiiandaaDoor
open Go.RowKit
set_option linter.unusedVariables false
set_option maxRecDepth 100000
theorem zero_ord14 : (Tryd.prog.info? 174).map (·.zero) = some (some (.agg (askC ask0).toArray)) := by kernel_rfl
theorem size_ord14 {x : LAsk} (h : x.owner.length = 32) : (Tryd.prog.info? 174).map (·.size) = some (askC x).length := by
  rw [ask_len h]
  kernel_rfl
theorem built_ord0 : Tryd.prog.built 174 [] = some (askC ask0).toArray := by kernel_rfl
theorem built_ord1 (t : Int) : Tryd.prog.built 174 [(0, .int .u64 t)] = some (askC ⟨t, 0, 0, key0⟩).toArray := by kernel_rfl
theorem zero_fld14 : (Tryd.prog.info? 189).map (·.zero) = some (some (.agg (fldC none 0 0 false).toArray)) := by kernel_rfl
theorem size_fld14 (A : Option Addr) (n c : Nat) (sh : Bool) : (Tryd.prog.info? 189).map (·.size) = some (fldC A n c sh).length := by kernel_rfl
theorem built_fld14 (A : Option Addr) (n c : Nat) : Tryd.prog.built 189 [(0, .slice A n c)] = some (fldC A n c false).toArray := by kernel_rfl
theorem fld_one14 (A : Option Addr) (n c : Nat) (sh : Bool) : ∀ u ∈ fldC A n c sh, u.oneCell' = true := by
  intro u hu
  unfold fldC at hu
  simp only [List.mem_cons, List.not_mem_nil, or_false] at hu
  rcases hu with rfl | rfl <;> rfl
theorem run_load_ord14 {w : World} {g : Nat} {cs : List Value} (hr : Row w g 174 cs) (hi : (Tryd.prog.info? 174).map (·.size) = some cs.length) : (loadVar 174 ⟨g, 0, none⟩).run Tryd.prog w = .ok (.agg cs.toArray) w := by
  have := run_loadAt_at (P := Tryd.prog) w ⟨g, 0, none⟩ 174 cs _ (fun j v hv => by rw [addr_row, Nat.zero_add]; exact (hr.cell j).trans hv) Tryd.underlying174 rfl hi
  simpa [Instr.loadAt, Instr.sureAddr] using this
/-- what lies there while data are read -/
structure RS4 (w V : World) (g2 g4 g5 S : Nat) (zs : List Int) (sh : Bool) (y : LAsk) : Prop where
  b : Below w.heap.size w V
  r2 : Row V g2 174 (askC ask0)
  f : FIn V g4 S zs sh
  r5 : Row V g5 174 (askC y)
  ne : g2 ≠ g4 ∧ g5 ≠ g4 ∧ g2 ≠ g5
  lo : w.heap.size ≤ g2 ∧ w.heap.size ≤ g4 ∧ w.heap.size ≤ g5 ∧ S ≤ w.heap.size
section
variable {w V V' : World} {g2 g4 g5 S : Nat} {zs zs' : List Int} {sh sh' : Bool} {y y' : LAsk}
theorem RS4.sg (h : RS4 w V g2 g4 g5 S zs sh y) : S ≤ g4 := Nat.le_trans h.lo.2.2.2 h.lo.2.1
theorem RS4.but (h : RS4 w V g2 g4 g5 S zs sh y) (hf : FIn V' g4 S zs' sh') (hb : But g4 V V') : RS4 w V' g2 g4 g5 S zs' sh' y :=
  ⟨h.b.trans (hb.below h.lo.2.1 h.b.size), hb.row h.r2 h.ne.1, hf, hb.row h.r5 h.ne.2.1, h.ne, h.lo⟩
theorem RS4.turn (h : RS4 w V g2 g4 g5 S zs sh y) (hr : Row V' g5 174 (askC y')) (ht : Turned V V' g5) : RS4 w V' g2 g4 g5 S zs sh y' :=
  ⟨h.b.trans (ht.below h.lo.2.2.1), ht.row h.r2 h.ne.2.2, h.f.keep h.sg (But.of_turned ht) h.ne.2.1 (Nat.le_trans h.lo.2.2.2 h.lo.2.2.1), hr, h.ne, h.lo⟩
theorem RS4.set (h : RS4 w V g2 g4 g5 S zs sh y) (k : Nat) (u : Value) (e : (askC y).set k u = askC y') : RS4 w (V.setCell ⟨g5, k, none⟩ u) g2 g4 g5 S zs sh y' :=
  h.turn (by have := h.r5.set_ k u; rwa [e] at this) (turned_setCell V ⟨g5, k, none⟩ u)
end
/-- what read answers -/
def ReadDone14 (w : World) (r : Rd14) (e : Ending) (w' : World) : Prop := e = .returned (.tuple #[.agg (askC r.y).toArray, .bool r.ok]) ∧ r.y.owner.length = 32 ∧ Below w.heap.size w w'
theorem rd_ends14 {w w' : World} {r : Rd14} {y : LAsk} {b : Bool} (h : r = ⟨y, b⟩) (ho : y.owner.length = 32) (hb : Below w.heap.size w w') : ReadDone14 w r (.returned (.tuple #[.agg (askC y).toArray, .bool b])) w' := by
  subst h
  exact ⟨rfl, ho, hb⟩
set_option maxHeartbeats 8000000 in
theorem read_014 (A : Option Addr) (n c S : Nat) (zs : List Int) (w : World) (hs : Sees w S A n (bv zs)) (hS : S ≤ w.heap.size) (hnc : n ≤ c) (hc : c ≤ maxLen) (hz : AllBytes zs) (ht : numS zs false 4 = 0) :
    Calls Tryd.prog 72 #[.slice A n c] w (ReadDone14 w (rd14 zs)) := by
  have HL := Lib.hid (show zs.length = n by have := hs.len; rwa [bv_length] at this)
  have HX := Lib.hid hs
  have HCC := Lib.hid (And.intro hnc hc)
  have HZ := Lib.hid hz
  have HS0 := Lib.hid hS
  have HT := Lib.hid ht
  clear hs hnc hc hz ht hS
  go_enter Tryd.func72, Tryd.ntmps72
  go_upto_region 2 with (first
    | ((with_reducible show wpList _ _ _ ({ dst := some 2, op := Op.alloc _, type := _, pos := _, after := _, guard := _ } :: _) _ _); go_must (refine wpList_alloc_zero rfl 174 rfl (askC ask0) zero_ord14 ?_))
    | ((with_reducible show wpList _ _ _ ({ dst := some 7, op := Op.build _ _, type := _, pos := _, after := _, guard := _ } :: _) _ _); go_must (refine wpList_plain rfl fun K hK => wp_built _ _ _ rfl (by simp only [List.map_toArray, List.map_cons, List.map_nil]; exact built_fld14 _ _ _) (hK _ _ ?_)))
    | ((with_reducible show wpList _ _ _ ({ dst := some 4, op := Op.alloc _, type := _, pos := _, after := _, guard := _ } :: _) _ _); go_must (refine wpList_alloc_zero rfl 189 rfl (fldC none 0 0 false) zero_fld14 ?_))
    | ((with_reducible show wpList _ _ _ ({ dst := none, op := Op.store 189 (.tmp 4) _, type := _, pos := _, after := _, guard := _ } :: _) _ _); go_must (refine wpList_store_new rfl 189 (.tmp 4) (.tmp 7) rfl (fldC A n c false) (size_fld14 _ _ _ _) (fld_one14 _ _ _ _) rfl ?_ ?_ ?_; go_simp; go_simp; intro w4 hr4 hb4 hz4)))
  obtain ⟨g2, hg2⟩ : ∃ g, g = w.heap.size := ⟨_, rfl⟩
  have BA := Lib.hid ((Below.refl w.heap.size w).alloc (Nat.le_refl _) (.cells (askC ask0).toArray 174))
  have R2 := Lib.hid ((Row.new w 174 (askC ask0)).below hb4 (by simp))
  obtain ⟨g4, hg4⟩ : ∃ g, g = (w.alloc (.cells (askC ask0).toArray 174)).heap.size := ⟨_, rfl⟩
  have H24 : Hid (g4 = w.heap.size + 1) := Lib.hid (by rw [hg4]; simp)
  have H42 := Lib.hid hg2
  have B4 := Lib.hid (BA.out.trans (hb4.mono BA.out.size))
  rw [← hg4] at hr4 ⊢
  rw [← hg2] at R2 ⊢
  have F4 : Hid (FIn w4 g4 S zs false) := Lib.hid ⟨⟨A, c, by rw [HL.out]; exact hr4, by rw [HL.out]; exact HX.out.below (B4.out.mono HS0.out), by rw [HL.out]; exact HCC.out.1, HCC.out.2⟩, HZ.out⟩
  have SG : Hid (S ≤ g4) := Lib.hid (by have := H24.out; have := HS0.out; omega)
  clear hr4 hb4 hz4 hg2 hg4 BA
  have HN := Lib.hid (number14 g4 S 4 false zs w4 F4.out SG.out (by omega) (by omega))
  go_wp2_with fail
  refine HN.out.mono ?_
  rintro e w5 ⟨rfl, hf, hb⟩
  have F5 := Lib.hid hf
  have HB5 := Lib.hid hb
  have R25 := Lib.hid (hb.row R2.out (by have := H24.out; have := H42.out; omega))
  have B5 := Lib.hid (B4.out.trans (hb.below (by have := H24.out; omega) B4.out.size))
  have L25 := Lib.hid R25.out.lt
  clear hf hb HN R2 F4
  go_upto_region 3 with (first
    | ((with_reducible show wpList _ _ _ ({ dst := some 9, op := Op.build _ _, type := _, pos := _, after := _, guard := _ } :: _) _ _); go_must (refine wpList_plain rfl fun K hK => wp_built _ _ _ rfl (by simp only [List.map_toArray, List.map_cons, List.map_nil]; exact built_ord1 _) (hK _ _ ?_)))
    | ((with_reducible show wpList _ _ _ ({ dst := some 5, op := Op.alloc _, type := _, pos := _, after := _, guard := _ } :: _) _ _); go_must (refine wpList_alloc_zero rfl 174 rfl (askC ask0) zero_ord14 ?_))
    | ((with_reducible show wpList _ _ _ ({ dst := none, op := Op.store 174 (.tmp 5) _, type := _, pos := _, after := _, guard := _ } :: _) _ _); go_must (refine wpList_store_new rfl 174 (.tmp 5) (.tmp 9) rfl (askC ⟨numS zs false 4, 0, 0, key0⟩) (size_ord14 key0_ok.1) (ask_one _) rfl ?_ ?_ ?_; go_simp; go_simp; intro w6 hr6 hb6 hz6)))
  obtain ⟨g5, hg5⟩ : ∃ g, g = w5.heap.size := ⟨_, rfl⟩
  have P6 : Hid (RS4 w w6 g2 g4 w5.heap.size S (resS zs 4) (shS zs false 4) ⟨numS zs false 4, 0, 0, key0⟩) := Lib.hid ⟨B5.out.trans (hb6.mono B5.out.size), R25.out.below hb6 R25.out.lt, F5.out.keep SG.out (But.of_below hb6 w5.heap.size) (Ne.symm (Nat.ne_of_lt F5.out.lt)) (Nat.le_trans HS0.out B5.out.size), hr6, ⟨by have := H24.out; have := H42.out; omega, Ne.symm (Nat.ne_of_lt F5.out.lt), Nat.ne_of_lt L25.out⟩, ⟨Nat.le_of_eq H42.out.symm, by have := H24.out; omega, B5.out.size, HS0.out⟩⟩
  rw [← hg5] at P6 ⊢
  clear hr6 hb6 hz6 hg5 F5 HB5 R25 B5 L25 B4 SG H24 H42 HX HCC HL
  rw [HT.out] at P6
  have c50 : w6.cell? ⟨g5, 0, none⟩ = some (.int .u64 0) := P6.out.r5.cell 0
  go_upto_region 6 with fail
  clear c50
  have HN := Lib.hid (number14 g4 S 8 (shS zs false 4) (resS zs 4) w6 P6.out.f P6.out.sg (by omega) (by omega))
  go_wp2_with fail
  refine HN.out.mono ?_
  rintro e w7 ⟨rfl, hf, hb⟩
  have PM := Lib.hid (P6.out.but hf hb)
  clear hf hb HN P6
  have ck : w7.cell? ⟨g5, 1, none⟩ = some (.int .u64 0) := PM.out.r5.cell 1
  have fk := PM.out.r5.frozen 1
  have P7 := Lib.hid (PM.out.set (y' := ⟨0, numS (resS zs 4) (shS zs false 4) 8, 0, key0⟩) 1 (.int .u64 (numS (resS zs 4) (shS zs false 4) 8)) rfl)
  go_upto_region 7 with fail
  clear ck fk PM
  generalize w7.setCell ⟨g5, 1, none⟩ (.int .u64 (numS (resS zs 4) (shS zs false 4) 8)) = w8 at *
  have HN := Lib.hid (number14 g4 S 8 (shS (resS zs 4) (shS zs false 4) 8) (resS (resS zs 4) 8) w8 P7.out.f P7.out.sg (by omega) (by omega))
  go_wp2_with fail
  refine HN.out.mono ?_
  rintro e w9 ⟨rfl, hf, hb⟩
  have PM := Lib.hid (P7.out.but hf hb)
  clear hf hb HN P7
  have ck : w9.cell? ⟨g5, 2, none⟩ = some (.int .u64 0) := PM.out.r5.cell 2
  have fk := PM.out.r5.frozen 2
  have P8 := Lib.hid (PM.out.set (y' := ⟨0, numS (resS zs 4) (shS zs false 4) 8, numS (resS (resS zs 4) 8) (shS (resS zs 4) (shS zs false 4) 8) 8, key0⟩) 2 (.int .u64 (numS (resS (resS zs 4) 8) (shS (resS zs 4) (shS zs false 4) 8) 8)) rfl)
  go_upto_region 8 with fail
  clear ck fk PM
  generalize w9.setCell ⟨g5, 2, none⟩ (.int .u64 (numS (resS (resS zs 4) 8) (shS (resS zs 4) (shS zs false 4) 8) 8)) = w10 at *
  have HN := Lib.hid (key14 g4 S (shS (resS (resS zs 4) 8) (shS (resS zs 4) (shS zs false 4) 8) 8) (resS (resS (resS zs 4) 8) 8) w10 P8.out.f P8.out.sg)
  go_wp2_with fail
  refine HN.out.mono ?_
  rintro e w11 ⟨rfl, hf, hb⟩
  have PM := Lib.hid (P8.out.but hf hb)
  clear hf hb HN P8
  go_upto_region 15 with ((with_reducible show wpList _ _ _ ({ dst := none, op := Op.store 57 _ _, type := _, pos := _, after := _, guard := _ } :: _) _ _); go_must (refine wpList_store_part rfl 57 (.tmp 20) (.tmp 19) rfl g5 174 3 (askC ⟨0, numS (resS zs 4) (shS zs false 4) 8, numS (resS (resS zs 4) 8) (shS (resS zs 4) (shS zs false 4) 8) 8, key0⟩) (bv (keyS (resS (resS (resS zs 4) 8) 8))) PM.out.r5 (key_size14 (keyS_len _)) (by rw [bv_length, keyS_len, ask_len key0_ok.1]; decide) (bv_one _) ?_ ?_ ?_; go_simp; go_simp; intro w12 hr9 ht9))
  rw [ask_owner (t := _) (c := _) (s := _) key0_ok.1 (keyS_len _)] at hr9
  have P9 := Lib.hid (PM.out.turn hr9 ht9)
  clear hr9 ht9 PM
  obtain ⟨A5, c5, hrf, _, _, _⟩ := P9.out.f.is
  have HRF := Lib.hid hrf
  clear hrf
  have HOL : Hid ((⟨0, numS (resS zs 4) (shS zs false 4) 8, numS (resS (resS zs 4) 8) (shS (resS zs 4) (shS zs false 4) 8) 8, keyS (resS (resS (resS zs 4) 8) 8)⟩ : LAsk).owner.length = 32) := Lib.hid (keyS_len _)
  have HE : Hid (rd14 zs = end14 ⟨0, numS (resS zs 4) (shS zs false 4) 8, numS (resS (resS zs 4) 8) (shS (resS zs 4) (shS zs false 4) 8) 8, keyS (resS (resS (resS zs 4) 8) 8)⟩ ((resS (resS (resS (resS zs 4) 8) 8) 32)) ((shS (resS (resS (resS zs 4) 8) 8) (shS (resS (resS zs 4) 8) (shS (resS zs 4) (shS zs false 4) 8) 8) 32))) := Lib.hid (by unfold rd14; dsimp only; rw [HT.out]; rfl)
  obtain ⟨n5, hn5⟩ : ∃ n, n = ((resS (resS (resS (resS zs 4) 8) 8) 32)).length := ⟨_, rfl⟩
  rw [← hn5] at HRF
  have HN5 := Lib.hid hn5
  clear hn5
  obtain ⟨y5, hy5⟩ : ∃ y, y = (⟨0, numS (resS zs 4) (shS zs false 4) 8, numS (resS (resS zs 4) 8) (shS (resS zs 4) (shS zs false 4) 8) 8, keyS (resS (resS (resS zs 4) 8) 8)⟩ : LAsk) := ⟨_, rfl⟩
  rw [← hy5] at P9 HOL HE
  clear hy5
  obtain ⟨b5, hb5⟩ : ∃ b, b = (shS (resS (resS (resS zs 4) 8) 8) (shS (resS (resS zs 4) 8) (shS (resS zs 4) (shS zs false 4) 8) 8) 32) := ⟨_, rfl⟩
  rw [← hb5] at HE HRF
  clear hb5
  cases b5 with
  | true =>
    have HE2 : Hid (rd14 zs = ⟨y5, false⟩) := Lib.hid (HE.out.trans (by unfold end14; rw [← HN5.out]; rfl))
    have HS : Hid (w12.drew.cell? ⟨g4, 1, none⟩ = some (.bool true) ∧ w12.drew.cell? ⟨g4, 0, none⟩ = some (.slice A5 n5 c5) ∧ Row w12.drew g5 174 (askC y5)) := Lib.hid ⟨HRF.out.drew.cell 1, HRF.out.drew.cell 0, P9.out.r5.drew⟩
    refine wp_region_held_drew (S := (fun V => V.cell? ⟨g4, 1, none⟩ = some (.bool true) ∧ V.cell? ⟨g4, 0, none⟩ = some (.slice A5 n5 c5) ∧ Row V g5 174 (askC y5))) (by kernel_rfl) HS.out (fun _ => ?_)
    refine takeL (i := 0) (v := .agg (askC y5).toArray) rfl (by kernel_rfl) (by kernel_rfl) (by kernel_rfl) (fun _ _ _ h => h) (Or.inl ⟨by rfl, fun wz hwz => exec_load_at wz 174 (.tmp 5) rfl ⟨g5, 0, none⟩ (askC y5) _ Tryd.underlying174 rfl (size_ord14 HOL.out) (fun j u hu => by rw [addr_row, Nat.zero_add]; exact (hwz.2.2.cell j).trans hu) (by go_simp)⟩) HS.out ?_
    try simp only [Act.put, List.setIfInBounds_toArray, List.set_cons_zero, List.set_cons_succ]
    refine takeL (i := 1) (v := ?_) rfl (by kernel_rfl) (by kernel_rfl) (by kernel_rfl) (fun _ _ _ h => h) (Or.inl ⟨by rfl, ?_⟩) HS.out ?_
    rotate_left
    · intro w hw
      try dsimp only at hw
      obtain ⟨hc1, hc0, hr5⟩ := hw
      go_simp
      try with_reducible rfl
    try simp only [Act.put, List.setIfInBounds_toArray, List.set_cons_zero, List.set_cons_succ]
    refine takeL (i := 2) (v := ?_) rfl (by kernel_rfl) (by kernel_rfl) (by kernel_rfl) (fun _ _ _ h => h) (Or.inl ⟨by rfl, ?_⟩) HS.out ?_
    rotate_left
    · intro w hw
      try dsimp only at hw
      obtain ⟨hc1, hc0, hr5⟩ := hw
      go_simp
      try with_reducible rfl
    try simp only [Act.put, List.setIfInBounds_toArray, List.set_cons_zero, List.set_cons_succ]
    refine takeL (i := 3) (v := ?_) rfl (by kernel_rfl) (by kernel_rfl) (by kernel_rfl) (fun _ _ _ h => h) (Or.inl ⟨by rfl, ?_⟩) HS.out ?_
    rotate_left
    · intro w hw
      try dsimp only at hw
      obtain ⟨hc1, hc0, hr5⟩ := hw
      go_simp
      try with_reducible rfl
    try simp only [Act.put, List.setIfInBounds_toArray, List.set_cons_zero, List.set_cons_succ]
    refine takeL (i := 4) (v := ?_) rfl (by kernel_rfl) (by kernel_rfl) (by kernel_rfl) (fun _ _ _ h => h) (Or.inl ⟨by rfl, ?_⟩) HS.out ?_
    rotate_left
    · intro w hw
      try dsimp only at hw
      obtain ⟨hc1, hc0, hr5⟩ := hw
      go_simp
      try with_reducible rfl
    try simp only [Act.put, List.setIfInBounds_toArray, List.set_cons_zero, List.set_cons_succ]
    refine takeL (i := 5) (v := undef) rfl (by kernel_rfl) (by kernel_rfl) (by kernel_rfl) (fun _ _ _ h => h) (Or.inr ⟨by rfl, rfl⟩) HS.out ?_
    try simp only [Act.put, List.setIfInBounds_toArray, List.set_cons_zero, List.set_cons_succ]
    refine takeL (i := 6) (v := undef) rfl (by kernel_rfl) (by kernel_rfl) (by kernel_rfl) (fun _ _ _ h => h) (Or.inr ⟨by rfl, rfl⟩) HS.out ?_
    try simp only [Act.put, List.setIfInBounds_toArray, List.set_cons_zero, List.set_cons_succ]
    refine takeL (i := 7) (v := undef) rfl (by kernel_rfl) (by kernel_rfl) (by kernel_rfl) (fun _ _ _ h => h) (Or.inr ⟨by rfl, rfl⟩) HS.out ?_
    try simp only [Act.put, List.setIfInBounds_toArray, List.set_cons_zero, List.set_cons_succ]
    refine takeL (i := 8) (v := undef) rfl (by kernel_rfl) (by kernel_rfl) (by kernel_rfl) (fun _ _ _ h => h) (Or.inr ⟨by rfl, rfl⟩) HS.out ?_
    try simp only [Act.put, List.setIfInBounds_toArray, List.set_cons_zero, List.set_cons_succ]
    refine takeL (i := 9) (v := ?_) rfl (by kernel_rfl) (by kernel_rfl) (by kernel_rfl) (fun _ _ _ h => h) (Or.inl ⟨by rfl, ?_⟩) HS.out ?_
    rotate_left
    · intro w hw
      try dsimp only at hw
      obtain ⟨hc1, hc0, hr5⟩ := hw
      go_simp
      try with_reducible rfl
    try simp only [Act.put, List.setIfInBounds_toArray, List.set_cons_zero, List.set_cons_succ]
    refine readyL (i := 10) rfl (by kernel_rfl) (by kernel_rfl) fun K hK => ?_
    refine wp_store_part 174 (.tmp 2) (.tmp 33) rfl g2 174 0 (askC ask0) (askC y5) P9.out.r2.drew (size_ord14 HOL.out) (by rw [ask_len HOL.out]; decide) (ask_one _) (by go_simp) (by go_simp) (fun w9 hr9 ht9 => ?_)
    rw [List.take_zero, List.nil_append, Nat.zero_add, List.drop_of_length_le (by rw [ask_len HOL.out]; decide), List.append_nil] at hr9
    have R9 := Lib.hid hr9
    have BF := Lib.hid ((show Below w.heap.size w w12.drew from P9.out.b.trans ⟨rfl, rfl, rfl, Nat.le_refl _, fun _ _ => rfl⟩).trans (ht9.below P9.out.lo.1))
    have HS9 : Hid (w9.cell? ⟨g4, 1, none⟩ = some (.bool true) ∧ w9.cell? ⟨g4, 0, none⟩ = some (.slice A5 n5 c5) ∧ Row w9 g5 174 (askC y5)) := Lib.hid ⟨(ht9.row HRF.out.drew (Ne.symm P9.out.ne.1)).cell 1, (ht9.row HRF.out.drew (Ne.symm P9.out.ne.1)).cell 0, ht9.row P9.out.r5.drew (Ne.symm P9.out.ne.2.2)⟩
    clear hr9 ht9
    refine hK.out _ _ HS9.out ?_
    clear hK K
    try simp only [Act.put]
    refine takeL (i := 11) (v := ?_) rfl (by kernel_rfl) (by kernel_rfl) (by kernel_rfl) (fun _ _ _ h => h) (Or.inl ⟨by rfl, ?_⟩) HS9.out ?_
    rotate_left
    · intro w hw
      try dsimp only at hw
      obtain ⟨hc1, hc0, hr5⟩ := hw
      go_simp
      try with_reducible rfl
    try simp only [Act.put, List.setIfInBounds_toArray, List.set_cons_zero, List.set_cons_succ]
    refine wpAnyH_done (by kernel_rfl) ?_ _
    go_wp2_with fail
    refine bodyPost_ret (results_cell1 (h := rfl) _ w9 ⟨g2, 0, none⟩ (.agg (askC y5).toArray) (.bool false) (by rfl) (by rfl) (run_load_ord14 R9.out (size_ord14 HOL.out))) rfl ?_
    exact rd_ends14 HE2.out HOL.out BF.out
  | false =>
    by_cases hz : n5 = 0
    · subst hz
      have HE2 : Hid (rd14 zs = ⟨y5, true⟩) := Lib.hid (HE.out.trans (by unfold end14; rw [← HN5.out]; simp))
      have HS : Hid (w12.drew.cell? ⟨g4, 1, none⟩ = some (.bool false) ∧ w12.drew.cell? ⟨g4, 0, none⟩ = some (.slice A5 0 c5) ∧ Row w12.drew g5 174 (askC y5)) := Lib.hid ⟨HRF.out.drew.cell 1, HRF.out.drew.cell 0, P9.out.r5.drew⟩
      refine wp_region_held_drew (S := (fun V => V.cell? ⟨g4, 1, none⟩ = some (.bool false) ∧ V.cell? ⟨g4, 0, none⟩ = some (.slice A5 0 c5) ∧ Row V g5 174 (askC y5))) (by kernel_rfl) HS.out (fun _ => ?_)
      refine takeL (i := 0) (v := .agg (askC y5).toArray) rfl (by kernel_rfl) (by kernel_rfl) (by kernel_rfl) (fun _ _ _ h => h) (Or.inl ⟨by rfl, fun wz hwz => exec_load_at wz 174 (.tmp 5) rfl ⟨g5, 0, none⟩ (askC y5) _ Tryd.underlying174 rfl (size_ord14 HOL.out) (fun j u hu => by rw [addr_row, Nat.zero_add]; exact (hwz.2.2.cell j).trans hu) (by go_simp)⟩) HS.out ?_
      try simp only [Act.put, List.setIfInBounds_toArray, List.set_cons_zero, List.set_cons_succ]
      refine takeL (i := 1) (v := ?_) rfl (by kernel_rfl) (by kernel_rfl) (by kernel_rfl) (fun _ _ _ h => h) (Or.inl ⟨by rfl, ?_⟩) HS.out ?_
      rotate_left
      · intro w hw
        try dsimp only at hw
        obtain ⟨hc1, hc0, hr5⟩ := hw
        go_simp
        try with_reducible rfl
      try simp only [Act.put, List.setIfInBounds_toArray, List.set_cons_zero, List.set_cons_succ]
      refine takeL (i := 2) (v := ?_) rfl (by kernel_rfl) (by kernel_rfl) (by kernel_rfl) (fun _ _ _ h => h) (Or.inl ⟨by rfl, ?_⟩) HS.out ?_
      rotate_left
      · intro w hw
        try dsimp only at hw
        obtain ⟨hc1, hc0, hr5⟩ := hw
        go_simp
        try with_reducible rfl
      try simp only [Act.put, List.setIfInBounds_toArray, List.set_cons_zero, List.set_cons_succ]
      refine takeL (i := 3) (v := ?_) rfl (by kernel_rfl) (by kernel_rfl) (by kernel_rfl) (fun _ _ _ h => h) (Or.inl ⟨by rfl, ?_⟩) HS.out ?_
      rotate_left
      · intro w hw
        try dsimp only at hw
        obtain ⟨hc1, hc0, hr5⟩ := hw
        go_simp
        try with_reducible rfl
      try simp only [Act.put, List.setIfInBounds_toArray, List.set_cons_zero, List.set_cons_succ]
      refine takeL (i := 4) (v := ?_) rfl (by kernel_rfl) (by kernel_rfl) (by kernel_rfl) (fun _ _ _ h => h) (Or.inl ⟨by rfl, ?_⟩) HS.out ?_
      rotate_left
      · intro w hw
        try dsimp only at hw
        obtain ⟨hc1, hc0, hr5⟩ := hw
        go_simp
        try with_reducible rfl
      try simp only [Act.put, List.setIfInBounds_toArray, List.set_cons_zero, List.set_cons_succ]
      refine takeL (i := 5) (v := ?_) rfl (by kernel_rfl) (by kernel_rfl) (by kernel_rfl) (fun _ _ _ h => h) (Or.inl ⟨by rfl, ?_⟩) HS.out ?_
      rotate_left
      · intro w hw
        try dsimp only at hw
        obtain ⟨hc1, hc0, hr5⟩ := hw
        go_simp
        try with_reducible rfl
      try simp only [Act.put, List.setIfInBounds_toArray, List.set_cons_zero, List.set_cons_succ]
      refine takeL (i := 6) (v := ?_) rfl (by kernel_rfl) (by kernel_rfl) (by kernel_rfl) (fun _ _ _ h => h) (Or.inl ⟨by rfl, ?_⟩) HS.out ?_
      rotate_left
      · intro w hw
        try dsimp only at hw
        obtain ⟨hc1, hc0, hr5⟩ := hw
        go_simp
        try with_reducible rfl
      try simp only [Act.put, List.setIfInBounds_toArray, List.set_cons_zero, List.set_cons_succ]
      refine takeL (i := 7) (v := ?_) rfl (by kernel_rfl) (by kernel_rfl) (by kernel_rfl) (fun _ _ _ h => h) (Or.inl ⟨by rfl, ?_⟩) HS.out ?_
      rotate_left
      · intro w hw
        try dsimp only at hw
        obtain ⟨hc1, hc0, hr5⟩ := hw
        go_simp
        try with_reducible rfl
      try simp only [Act.put, List.setIfInBounds_toArray, List.set_cons_zero, List.set_cons_succ]
      refine takeL (i := 8) (v := ?_) rfl (by kernel_rfl) (by kernel_rfl) (by kernel_rfl) (fun _ _ _ h => h) (Or.inl ⟨by rfl, ?_⟩) HS.out ?_
      rotate_left
      · intro w hw
        try dsimp only at hw
        obtain ⟨hc1, hc0, hr5⟩ := hw
        go_simp
        try with_reducible rfl
      try simp only [Act.put, List.setIfInBounds_toArray, List.set_cons_zero, List.set_cons_succ]
      refine takeL (i := 9) (v := ?_) rfl (by kernel_rfl) (by kernel_rfl) (by kernel_rfl) (fun _ _ _ h => h) (Or.inl ⟨by rfl, ?_⟩) HS.out ?_
      rotate_left
      · intro w hw
        try dsimp only at hw
        obtain ⟨hc1, hc0, hr5⟩ := hw
        go_simp
        try with_reducible rfl
      try simp only [Act.put, List.setIfInBounds_toArray, List.set_cons_zero, List.set_cons_succ]
      refine readyL (i := 10) rfl (by kernel_rfl) (by kernel_rfl) fun K hK => ?_
      refine wp_store_part 174 (.tmp 2) (.tmp 33) rfl g2 174 0 (askC ask0) (askC y5) P9.out.r2.drew (size_ord14 HOL.out) (by rw [ask_len HOL.out]; decide) (ask_one _) (by go_simp) (by go_simp) (fun w9 hr9 ht9 => ?_)
      rw [List.take_zero, List.nil_append, Nat.zero_add, List.drop_of_length_le (by rw [ask_len HOL.out]; decide), List.append_nil] at hr9
      have R9 := Lib.hid hr9
      have BF := Lib.hid ((show Below w.heap.size w w12.drew from P9.out.b.trans ⟨rfl, rfl, rfl, Nat.le_refl _, fun _ _ => rfl⟩).trans (ht9.below P9.out.lo.1))
      have HS9 : Hid (w9.cell? ⟨g4, 1, none⟩ = some (.bool false) ∧ w9.cell? ⟨g4, 0, none⟩ = some (.slice A5 0 c5) ∧ Row w9 g5 174 (askC y5)) := Lib.hid ⟨(ht9.row HRF.out.drew (Ne.symm P9.out.ne.1)).cell 1, (ht9.row HRF.out.drew (Ne.symm P9.out.ne.1)).cell 0, ht9.row P9.out.r5.drew (Ne.symm P9.out.ne.2.2)⟩
      clear hr9 ht9
      refine hK.out _ _ HS9.out ?_
      clear hK K
      try simp only [Act.put]
      refine takeL (i := 11) (v := ?_) rfl (by kernel_rfl) (by kernel_rfl) (by kernel_rfl) (fun _ _ _ h => h) (Or.inl ⟨by rfl, ?_⟩) HS9.out ?_
      rotate_left
      · intro w hw
        try dsimp only at hw
        obtain ⟨hc1, hc0, hr5⟩ := hw
        go_simp
        try with_reducible rfl
      try simp only [Act.put, List.setIfInBounds_toArray, List.set_cons_zero, List.set_cons_succ]
      refine wpAnyH_done (by kernel_rfl) ?_ _
      go_wp2_with fail
      refine bodyPost_ret (results_cell1 (h := rfl) _ w9 ⟨g2, 0, none⟩ (.agg (askC y5).toArray) (.bool true) (by rfl) (by rfl) (run_load_ord14 R9.out (size_ord14 HOL.out))) rfl ?_
      exact rd_ends14 HE2.out HOL.out BF.out
    · have hz2 : ((n5 : Int) == 0) = false := by simpa using hz
      have HE2 : Hid (rd14 zs = ⟨y5, false⟩) := Lib.hid (HE.out.trans (by unfold end14; rw [← HN5.out]; simp [hz]))
      have HS : Hid (w12.drew.cell? ⟨g4, 1, none⟩ = some (.bool false) ∧ w12.drew.cell? ⟨g4, 0, none⟩ = some (.slice A5 n5 c5) ∧ Row w12.drew g5 174 (askC y5)) := Lib.hid ⟨HRF.out.drew.cell 1, HRF.out.drew.cell 0, P9.out.r5.drew⟩
      refine wp_region_held_drew (S := (fun V => V.cell? ⟨g4, 1, none⟩ = some (.bool false) ∧ V.cell? ⟨g4, 0, none⟩ = some (.slice A5 n5 c5) ∧ Row V g5 174 (askC y5))) (by kernel_rfl) HS.out (fun _ => ?_)
      refine takeL (i := 0) (v := .agg (askC y5).toArray) rfl (by kernel_rfl) (by kernel_rfl) (by kernel_rfl) (fun _ _ _ h => h) (Or.inl ⟨by rfl, fun wz hwz => exec_load_at wz 174 (.tmp 5) rfl ⟨g5, 0, none⟩ (askC y5) _ Tryd.underlying174 rfl (size_ord14 HOL.out) (fun j u hu => by rw [addr_row, Nat.zero_add]; exact (hwz.2.2.cell j).trans hu) (by go_simp)⟩) HS.out ?_
      try simp only [Act.put, List.setIfInBounds_toArray, List.set_cons_zero, List.set_cons_succ]
      refine takeL (i := 1) (v := ?_) rfl (by kernel_rfl) (by kernel_rfl) (by kernel_rfl) (fun _ _ _ h => h) (Or.inl ⟨by rfl, ?_⟩) HS.out ?_
      rotate_left
      · intro w hw
        try dsimp only at hw
        obtain ⟨hc1, hc0, hr5⟩ := hw
        go_simp
        try with_reducible rfl
      try simp only [Act.put, List.setIfInBounds_toArray, List.set_cons_zero, List.set_cons_succ]
      refine takeL (i := 2) (v := ?_) rfl (by kernel_rfl) (by kernel_rfl) (by kernel_rfl) (fun _ _ _ h => h) (Or.inl ⟨by rfl, ?_⟩) HS.out ?_
      rotate_left
      · intro w hw
        try dsimp only at hw
        obtain ⟨hc1, hc0, hr5⟩ := hw
        go_simp
        try with_reducible rfl
      try simp only [Act.put, List.setIfInBounds_toArray, List.set_cons_zero, List.set_cons_succ]
      refine takeL (i := 3) (v := ?_) rfl (by kernel_rfl) (by kernel_rfl) (by kernel_rfl) (fun _ _ _ h => h) (Or.inl ⟨by rfl, ?_⟩) HS.out ?_
      rotate_left
      · intro w hw
        try dsimp only at hw
        obtain ⟨hc1, hc0, hr5⟩ := hw
        go_simp
        try with_reducible rfl
      try simp only [Act.put, List.setIfInBounds_toArray, List.set_cons_zero, List.set_cons_succ]
      refine takeL (i := 4) (v := ?_) rfl (by kernel_rfl) (by kernel_rfl) (by kernel_rfl) (fun _ _ _ h => h) (Or.inl ⟨by rfl, ?_⟩) HS.out ?_
      rotate_left
      · intro w hw
        try dsimp only at hw
        obtain ⟨hc1, hc0, hr5⟩ := hw
        go_simp
        try with_reducible rfl
      try simp only [Act.put, List.setIfInBounds_toArray, List.set_cons_zero, List.set_cons_succ]
      refine takeL (i := 5) (v := ?_) rfl (by kernel_rfl) (by kernel_rfl) (by kernel_rfl) (fun _ _ _ h => h) (Or.inl ⟨by rfl, ?_⟩) HS.out ?_
      rotate_left
      · intro w hw
        try dsimp only at hw
        obtain ⟨hc1, hc0, hr5⟩ := hw
        go_simp
        try with_reducible rfl
      try simp only [Act.put, List.setIfInBounds_toArray, List.set_cons_zero, List.set_cons_succ]
      refine takeL (i := 6) (v := ?_) rfl (by kernel_rfl) (by kernel_rfl) (by kernel_rfl) (fun _ _ _ h => h) (Or.inl ⟨by rfl, ?_⟩) HS.out ?_
      rotate_left
      · intro w hw
        try dsimp only at hw
        obtain ⟨hc1, hc0, hr5⟩ := hw
        go_simp
        try with_reducible rfl
      try simp only [Act.put, List.setIfInBounds_toArray, List.set_cons_zero, List.set_cons_succ]
      refine takeL (i := 7) (v := ?_) rfl (by kernel_rfl) (by kernel_rfl) (by kernel_rfl) (fun _ _ _ h => h) (Or.inl ⟨by rfl, ?_⟩) HS.out ?_
      rotate_left
      · intro w hw
        try dsimp only at hw
        obtain ⟨hc1, hc0, hr5⟩ := hw
        go_simp
        try with_reducible rfl
      try simp only [Act.put, List.setIfInBounds_toArray, List.set_cons_zero, List.set_cons_succ]
      refine takeL (i := 8) (v := ?_) rfl (by kernel_rfl) (by kernel_rfl) (by kernel_rfl) (fun _ _ _ h => h) (Or.inl ⟨by rfl, ?_⟩) HS.out ?_
      rotate_left
      · intro w hw
        try dsimp only at hw
        obtain ⟨hc1, hc0, hr5⟩ := hw
        go_simp
        try with_reducible rfl
      try simp only [Act.put, List.setIfInBounds_toArray, List.set_cons_zero, List.set_cons_succ]
      refine takeL (i := 9) (v := ?_) rfl (by kernel_rfl) (by kernel_rfl) (by kernel_rfl) (fun _ _ _ h => h) (Or.inl ⟨by rfl, ?_⟩) HS.out ?_
      rotate_left
      · intro w hw
        try dsimp only at hw
        obtain ⟨hc1, hc0, hr5⟩ := hw
        go_simp
        try with_reducible rfl
      try simp only [Act.put, List.setIfInBounds_toArray, List.set_cons_zero, List.set_cons_succ]
      refine readyL (i := 10) rfl (by kernel_rfl) (by kernel_rfl) fun K hK => ?_
      refine wp_store_part 174 (.tmp 2) (.tmp 33) rfl g2 174 0 (askC ask0) (askC y5) P9.out.r2.drew (size_ord14 HOL.out) (by rw [ask_len HOL.out]; decide) (ask_one _) (by go_simp) (by go_simp) (fun w9 hr9 ht9 => ?_)
      rw [List.take_zero, List.nil_append, Nat.zero_add, List.drop_of_length_le (by rw [ask_len HOL.out]; decide), List.append_nil] at hr9
      have R9 := Lib.hid hr9
      have BF := Lib.hid ((show Below w.heap.size w w12.drew from P9.out.b.trans ⟨rfl, rfl, rfl, Nat.le_refl _, fun _ _ => rfl⟩).trans (ht9.below P9.out.lo.1))
      have HS9 : Hid (w9.cell? ⟨g4, 1, none⟩ = some (.bool false) ∧ w9.cell? ⟨g4, 0, none⟩ = some (.slice A5 n5 c5) ∧ Row w9 g5 174 (askC y5)) := Lib.hid ⟨(ht9.row HRF.out.drew (Ne.symm P9.out.ne.1)).cell 1, (ht9.row HRF.out.drew (Ne.symm P9.out.ne.1)).cell 0, ht9.row P9.out.r5.drew (Ne.symm P9.out.ne.2.2)⟩
      clear hr9 ht9
      refine hK.out _ _ HS9.out ?_
      clear hK K
      try simp only [Act.put]
      refine takeL (i := 11) (v := ?_) rfl (by kernel_rfl) (by kernel_rfl) (by kernel_rfl) (fun _ _ _ h => h) (Or.inl ⟨by rfl, ?_⟩) HS9.out ?_
      rotate_left
      · intro w hw
        try dsimp only at hw
        obtain ⟨hc1, hc0, hr5⟩ := hw
        go_simp
        try with_reducible rfl
      try simp only [Act.put, List.setIfInBounds_toArray, List.set_cons_zero, List.set_cons_succ]
      refine wpAnyH_done (by kernel_rfl) ?_ _
      go_wp2_with fail
      refine bodyPost_ret (results_cell1 (h := rfl) _ w9 ⟨g2, 0, none⟩ (.agg (askC y5).toArray) (.bool false) (by rfl) (by rfl) (run_load_ord14 R9.out (size_ord14 HOL.out))) rfl ?_
      exact rd_ends14 HE2.out HOL.out BF.out
set_option maxHeartbeats 8000000 in
theorem read_114 (A : Option Addr) (n c S : Nat) (zs : List Int) (w : World) (hs : Sees w S A n (bv zs)) (hS : S ≤ w.heap.size) (hnc : n ≤ c) (hc : c ≤ maxLen) (hz : AllBytes zs) (ht : numS zs false 4 = 1) :
    Calls Tryd.prog 72 #[.slice A n c] w (ReadDone14 w (rd14 zs)) := by
  have HL := Lib.hid (show zs.length = n by have := hs.len; rwa [bv_length] at this)
  have HX := Lib.hid hs
  have HCC := Lib.hid (And.intro hnc hc)
  have HZ := Lib.hid hz
  have HS0 := Lib.hid hS
  have HT := Lib.hid ht
  clear hs hnc hc hz ht hS
  go_enter Tryd.func72, Tryd.ntmps72
  go_upto_region 2 with (first
    | ((with_reducible show wpList _ _ _ ({ dst := some 2, op := Op.alloc _, type := _, pos := _, after := _, guard := _ } :: _) _ _); go_must (refine wpList_alloc_zero rfl 174 rfl (askC ask0) zero_ord14 ?_))
    | ((with_reducible show wpList _ _ _ ({ dst := some 7, op := Op.build _ _, type := _, pos := _, after := _, guard := _ } :: _) _ _); go_must (refine wpList_plain rfl fun K hK => wp_built _ _ _ rfl (by simp only [List.map_toArray, List.map_cons, List.map_nil]; exact built_fld14 _ _ _) (hK _ _ ?_)))
    | ((with_reducible show wpList _ _ _ ({ dst := some 4, op := Op.alloc _, type := _, pos := _, after := _, guard := _ } :: _) _ _); go_must (refine wpList_alloc_zero rfl 189 rfl (fldC none 0 0 false) zero_fld14 ?_))
    | ((with_reducible show wpList _ _ _ ({ dst := none, op := Op.store 189 (.tmp 4) _, type := _, pos := _, after := _, guard := _ } :: _) _ _); go_must (refine wpList_store_new rfl 189 (.tmp 4) (.tmp 7) rfl (fldC A n c false) (size_fld14 _ _ _ _) (fld_one14 _ _ _ _) rfl ?_ ?_ ?_; go_simp; go_simp; intro w4 hr4 hb4 hz4)))
  obtain ⟨g2, hg2⟩ : ∃ g, g = w.heap.size := ⟨_, rfl⟩
  have BA := Lib.hid ((Below.refl w.heap.size w).alloc (Nat.le_refl _) (.cells (askC ask0).toArray 174))
  have R2 := Lib.hid ((Row.new w 174 (askC ask0)).below hb4 (by simp))
  obtain ⟨g4, hg4⟩ : ∃ g, g = (w.alloc (.cells (askC ask0).toArray 174)).heap.size := ⟨_, rfl⟩
  have H24 : Hid (g4 = w.heap.size + 1) := Lib.hid (by rw [hg4]; simp)
  have H42 := Lib.hid hg2
  have B4 := Lib.hid (BA.out.trans (hb4.mono BA.out.size))
  rw [← hg4] at hr4 ⊢
  rw [← hg2] at R2 ⊢
  have F4 : Hid (FIn w4 g4 S zs false) := Lib.hid ⟨⟨A, c, by rw [HL.out]; exact hr4, by rw [HL.out]; exact HX.out.below (B4.out.mono HS0.out), by rw [HL.out]; exact HCC.out.1, HCC.out.2⟩, HZ.out⟩
  have SG : Hid (S ≤ g4) := Lib.hid (by have := H24.out; have := HS0.out; omega)
  clear hr4 hb4 hz4 hg2 hg4 BA
  have HN := Lib.hid (number14 g4 S 4 false zs w4 F4.out SG.out (by omega) (by omega))
  go_wp2_with fail
  refine HN.out.mono ?_
  rintro e w5 ⟨rfl, hf, hb⟩
  have F5 := Lib.hid hf
  have HB5 := Lib.hid hb
  have R25 := Lib.hid (hb.row R2.out (by have := H24.out; have := H42.out; omega))
  have B5 := Lib.hid (B4.out.trans (hb.below (by have := H24.out; omega) B4.out.size))
  have L25 := Lib.hid R25.out.lt
  clear hf hb HN R2 F4
  go_upto_region 3 with (first
    | ((with_reducible show wpList _ _ _ ({ dst := some 9, op := Op.build _ _, type := _, pos := _, after := _, guard := _ } :: _) _ _); go_must (refine wpList_plain rfl fun K hK => wp_built _ _ _ rfl (by simp only [List.map_toArray, List.map_cons, List.map_nil]; exact built_ord1 _) (hK _ _ ?_)))
    | ((with_reducible show wpList _ _ _ ({ dst := some 5, op := Op.alloc _, type := _, pos := _, after := _, guard := _ } :: _) _ _); go_must (refine wpList_alloc_zero rfl 174 rfl (askC ask0) zero_ord14 ?_))
    | ((with_reducible show wpList _ _ _ ({ dst := none, op := Op.store 174 (.tmp 5) _, type := _, pos := _, after := _, guard := _ } :: _) _ _); go_must (refine wpList_store_new rfl 174 (.tmp 5) (.tmp 9) rfl (askC ⟨numS zs false 4, 0, 0, key0⟩) (size_ord14 key0_ok.1) (ask_one _) rfl ?_ ?_ ?_; go_simp; go_simp; intro w6 hr6 hb6 hz6)))
  obtain ⟨g5, hg5⟩ : ∃ g, g = w5.heap.size := ⟨_, rfl⟩
  have P6 : Hid (RS4 w w6 g2 g4 w5.heap.size S (resS zs 4) (shS zs false 4) ⟨numS zs false 4, 0, 0, key0⟩) := Lib.hid ⟨B5.out.trans (hb6.mono B5.out.size), R25.out.below hb6 R25.out.lt, F5.out.keep SG.out (But.of_below hb6 w5.heap.size) (Ne.symm (Nat.ne_of_lt F5.out.lt)) (Nat.le_trans HS0.out B5.out.size), hr6, ⟨by have := H24.out; have := H42.out; omega, Ne.symm (Nat.ne_of_lt F5.out.lt), Nat.ne_of_lt L25.out⟩, ⟨Nat.le_of_eq H42.out.symm, by have := H24.out; omega, B5.out.size, HS0.out⟩⟩
  rw [← hg5] at P6 ⊢
  clear hr6 hb6 hz6 hg5 F5 HB5 R25 B5 L25 B4 SG H24 H42 HX HCC HL
  rw [HT.out] at P6
  have c50 : w6.cell? ⟨g5, 0, none⟩ = some (.int .u64 1) := P6.out.r5.cell 0
  go_upto_region 10 with fail
  clear c50
  have HN := Lib.hid (key14 g4 S (shS zs false 4) (resS zs 4) w6 P6.out.f P6.out.sg)
  go_wp2_with fail
  refine HN.out.mono ?_
  rintro e w7 ⟨rfl, hf, hb⟩
  have PM := Lib.hid (P6.out.but hf hb)
  clear hf hb HN P6
  go_upto_region 15 with ((with_reducible show wpList _ _ _ ({ dst := none, op := Op.store 57 _ _, type := _, pos := _, after := _, guard := _ } :: _) _ _); go_must (refine wpList_store_part rfl 57 (.tmp 24) (.tmp 23) rfl g5 174 3 (askC ⟨1, 0, 0, key0⟩) (bv (keyS (resS zs 4))) PM.out.r5 (key_size14 (keyS_len _)) (by rw [bv_length, keyS_len, ask_len key0_ok.1]; decide) (bv_one _) ?_ ?_ ?_; go_simp; go_simp; intro w8 hr9 ht9))
  rw [ask_owner (t := _) (c := _) (s := _) key0_ok.1 (keyS_len _)] at hr9
  have P7 := Lib.hid (PM.out.turn hr9 ht9)
  clear hr9 ht9 PM
  obtain ⟨A5, c5, hrf, _, _, _⟩ := P7.out.f.is
  have HRF := Lib.hid hrf
  clear hrf
  have HOL : Hid ((⟨1, 0, 0, keyS (resS zs 4)⟩ : LAsk).owner.length = 32) := Lib.hid (keyS_len _)
  have HE : Hid (rd14 zs = end14 ⟨1, 0, 0, keyS (resS zs 4)⟩ ((resS (resS zs 4) 32)) ((shS (resS zs 4) (shS zs false 4) 32))) := Lib.hid (by unfold rd14; dsimp only; rw [HT.out]; rfl)
  obtain ⟨n5, hn5⟩ : ∃ n, n = ((resS (resS zs 4) 32)).length := ⟨_, rfl⟩
  rw [← hn5] at HRF
  have HN5 := Lib.hid hn5
  clear hn5
  obtain ⟨y5, hy5⟩ : ∃ y, y = (⟨1, 0, 0, keyS (resS zs 4)⟩ : LAsk) := ⟨_, rfl⟩
  rw [← hy5] at P7 HOL HE
  clear hy5
  obtain ⟨b5, hb5⟩ : ∃ b, b = (shS (resS zs 4) (shS zs false 4) 32) := ⟨_, rfl⟩
  rw [← hb5] at HE HRF
  clear hb5
  cases b5 with
  | true =>
    have HE2 : Hid (rd14 zs = ⟨y5, false⟩) := Lib.hid (HE.out.trans (by unfold end14; rw [← HN5.out]; rfl))
    have HS : Hid (w8.drew.cell? ⟨g4, 1, none⟩ = some (.bool true) ∧ w8.drew.cell? ⟨g4, 0, none⟩ = some (.slice A5 n5 c5) ∧ Row w8.drew g5 174 (askC y5)) := Lib.hid ⟨HRF.out.drew.cell 1, HRF.out.drew.cell 0, P7.out.r5.drew⟩
    refine wp_region_held_drew (S := (fun V => V.cell? ⟨g4, 1, none⟩ = some (.bool true) ∧ V.cell? ⟨g4, 0, none⟩ = some (.slice A5 n5 c5) ∧ Row V g5 174 (askC y5))) (by kernel_rfl) HS.out (fun _ => ?_)
    refine takeL (i := 0) (v := .agg (askC y5).toArray) rfl (by kernel_rfl) (by kernel_rfl) (by kernel_rfl) (fun _ _ _ h => h) (Or.inl ⟨by rfl, fun wz hwz => exec_load_at wz 174 (.tmp 5) rfl ⟨g5, 0, none⟩ (askC y5) _ Tryd.underlying174 rfl (size_ord14 HOL.out) (fun j u hu => by rw [addr_row, Nat.zero_add]; exact (hwz.2.2.cell j).trans hu) (by go_simp)⟩) HS.out ?_
    try simp only [Act.put, List.setIfInBounds_toArray, List.set_cons_zero, List.set_cons_succ]
    refine takeL (i := 1) (v := ?_) rfl (by kernel_rfl) (by kernel_rfl) (by kernel_rfl) (fun _ _ _ h => h) (Or.inl ⟨by rfl, ?_⟩) HS.out ?_
    rotate_left
    · intro w hw
      try dsimp only at hw
      obtain ⟨hc1, hc0, hr5⟩ := hw
      go_simp
      try with_reducible rfl
    try simp only [Act.put, List.setIfInBounds_toArray, List.set_cons_zero, List.set_cons_succ]
    refine takeL (i := 2) (v := ?_) rfl (by kernel_rfl) (by kernel_rfl) (by kernel_rfl) (fun _ _ _ h => h) (Or.inl ⟨by rfl, ?_⟩) HS.out ?_
    rotate_left
    · intro w hw
      try dsimp only at hw
      obtain ⟨hc1, hc0, hr5⟩ := hw
      go_simp
      try with_reducible rfl
    try simp only [Act.put, List.setIfInBounds_toArray, List.set_cons_zero, List.set_cons_succ]
    refine takeL (i := 3) (v := ?_) rfl (by kernel_rfl) (by kernel_rfl) (by kernel_rfl) (fun _ _ _ h => h) (Or.inl ⟨by rfl, ?_⟩) HS.out ?_
    rotate_left
    · intro w hw
      try dsimp only at hw
      obtain ⟨hc1, hc0, hr5⟩ := hw
      go_simp
      try with_reducible rfl
    try simp only [Act.put, List.setIfInBounds_toArray, List.set_cons_zero, List.set_cons_succ]
    refine takeL (i := 4) (v := ?_) rfl (by kernel_rfl) (by kernel_rfl) (by kernel_rfl) (fun _ _ _ h => h) (Or.inl ⟨by rfl, ?_⟩) HS.out ?_
    rotate_left
    · intro w hw
      try dsimp only at hw
      obtain ⟨hc1, hc0, hr5⟩ := hw
      go_simp
      try with_reducible rfl
    try simp only [Act.put, List.setIfInBounds_toArray, List.set_cons_zero, List.set_cons_succ]
    refine takeL (i := 5) (v := undef) rfl (by kernel_rfl) (by kernel_rfl) (by kernel_rfl) (fun _ _ _ h => h) (Or.inr ⟨by rfl, rfl⟩) HS.out ?_
    try simp only [Act.put, List.setIfInBounds_toArray, List.set_cons_zero, List.set_cons_succ]
    refine takeL (i := 6) (v := undef) rfl (by kernel_rfl) (by kernel_rfl) (by kernel_rfl) (fun _ _ _ h => h) (Or.inr ⟨by rfl, rfl⟩) HS.out ?_
    try simp only [Act.put, List.setIfInBounds_toArray, List.set_cons_zero, List.set_cons_succ]
    refine takeL (i := 7) (v := undef) rfl (by kernel_rfl) (by kernel_rfl) (by kernel_rfl) (fun _ _ _ h => h) (Or.inr ⟨by rfl, rfl⟩) HS.out ?_
    try simp only [Act.put, List.setIfInBounds_toArray, List.set_cons_zero, List.set_cons_succ]
    refine takeL (i := 8) (v := undef) rfl (by kernel_rfl) (by kernel_rfl) (by kernel_rfl) (fun _ _ _ h => h) (Or.inr ⟨by rfl, rfl⟩) HS.out ?_
    try simp only [Act.put, List.setIfInBounds_toArray, List.set_cons_zero, List.set_cons_succ]
    refine takeL (i := 9) (v := ?_) rfl (by kernel_rfl) (by kernel_rfl) (by kernel_rfl) (fun _ _ _ h => h) (Or.inl ⟨by rfl, ?_⟩) HS.out ?_
    rotate_left
    · intro w hw
      try dsimp only at hw
      obtain ⟨hc1, hc0, hr5⟩ := hw
      go_simp
      try with_reducible rfl
    try simp only [Act.put, List.setIfInBounds_toArray, List.set_cons_zero, List.set_cons_succ]
    refine readyL (i := 10) rfl (by kernel_rfl) (by kernel_rfl) fun K hK => ?_
    refine wp_store_part 174 (.tmp 2) (.tmp 33) rfl g2 174 0 (askC ask0) (askC y5) P7.out.r2.drew (size_ord14 HOL.out) (by rw [ask_len HOL.out]; decide) (ask_one _) (by go_simp) (by go_simp) (fun w9 hr9 ht9 => ?_)
    rw [List.take_zero, List.nil_append, Nat.zero_add, List.drop_of_length_le (by rw [ask_len HOL.out]; decide), List.append_nil] at hr9
    have R9 := Lib.hid hr9
    have BF := Lib.hid ((show Below w.heap.size w w8.drew from P7.out.b.trans ⟨rfl, rfl, rfl, Nat.le_refl _, fun _ _ => rfl⟩).trans (ht9.below P7.out.lo.1))
    have HS9 : Hid (w9.cell? ⟨g4, 1, none⟩ = some (.bool true) ∧ w9.cell? ⟨g4, 0, none⟩ = some (.slice A5 n5 c5) ∧ Row w9 g5 174 (askC y5)) := Lib.hid ⟨(ht9.row HRF.out.drew (Ne.symm P7.out.ne.1)).cell 1, (ht9.row HRF.out.drew (Ne.symm P7.out.ne.1)).cell 0, ht9.row P7.out.r5.drew (Ne.symm P7.out.ne.2.2)⟩
    clear hr9 ht9
    refine hK.out _ _ HS9.out ?_
    clear hK K
    try simp only [Act.put]
    refine takeL (i := 11) (v := ?_) rfl (by kernel_rfl) (by kernel_rfl) (by kernel_rfl) (fun _ _ _ h => h) (Or.inl ⟨by rfl, ?_⟩) HS9.out ?_
    rotate_left
    · intro w hw
      try dsimp only at hw
      obtain ⟨hc1, hc0, hr5⟩ := hw
      go_simp
      try with_reducible rfl
    try simp only [Act.put, List.setIfInBounds_toArray, List.set_cons_zero, List.set_cons_succ]
    refine wpAnyH_done (by kernel_rfl) ?_ _
    go_wp2_with fail
    refine bodyPost_ret (results_cell1 (h := rfl) _ w9 ⟨g2, 0, none⟩ (.agg (askC y5).toArray) (.bool false) (by rfl) (by rfl) (run_load_ord14 R9.out (size_ord14 HOL.out))) rfl ?_
    exact rd_ends14 HE2.out HOL.out BF.out
  | false =>
    by_cases hz : n5 = 0
    · subst hz
      have HE2 : Hid (rd14 zs = ⟨y5, true⟩) := Lib.hid (HE.out.trans (by unfold end14; rw [← HN5.out]; simp))
      have HS : Hid (w8.drew.cell? ⟨g4, 1, none⟩ = some (.bool false) ∧ w8.drew.cell? ⟨g4, 0, none⟩ = some (.slice A5 0 c5) ∧ Row w8.drew g5 174 (askC y5)) := Lib.hid ⟨HRF.out.drew.cell 1, HRF.out.drew.cell 0, P7.out.r5.drew⟩
      refine wp_region_held_drew (S := (fun V => V.cell? ⟨g4, 1, none⟩ = some (.bool false) ∧ V.cell? ⟨g4, 0, none⟩ = some (.slice A5 0 c5) ∧ Row V g5 174 (askC y5))) (by kernel_rfl) HS.out (fun _ => ?_)
      refine takeL (i := 0) (v := .agg (askC y5).toArray) rfl (by kernel_rfl) (by kernel_rfl) (by kernel_rfl) (fun _ _ _ h => h) (Or.inl ⟨by rfl, fun wz hwz => exec_load_at wz 174 (.tmp 5) rfl ⟨g5, 0, none⟩ (askC y5) _ Tryd.underlying174 rfl (size_ord14 HOL.out) (fun j u hu => by rw [addr_row, Nat.zero_add]; exact (hwz.2.2.cell j).trans hu) (by go_simp)⟩) HS.out ?_
      try simp only [Act.put, List.setIfInBounds_toArray, List.set_cons_zero, List.set_cons_succ]
      refine takeL (i := 1) (v := ?_) rfl (by kernel_rfl) (by kernel_rfl) (by kernel_rfl) (fun _ _ _ h => h) (Or.inl ⟨by rfl, ?_⟩) HS.out ?_
      rotate_left
      · intro w hw
        try dsimp only at hw
        obtain ⟨hc1, hc0, hr5⟩ := hw
        go_simp
        try with_reducible rfl
      try simp only [Act.put, List.setIfInBounds_toArray, List.set_cons_zero, List.set_cons_succ]
      refine takeL (i := 2) (v := ?_) rfl (by kernel_rfl) (by kernel_rfl) (by kernel_rfl) (fun _ _ _ h => h) (Or.inl ⟨by rfl, ?_⟩) HS.out ?_
      rotate_left
      · intro w hw
        try dsimp only at hw
        obtain ⟨hc1, hc0, hr5⟩ := hw
        go_simp
        try with_reducible rfl
      try simp only [Act.put, List.setIfInBounds_toArray, List.set_cons_zero, List.set_cons_succ]
      refine takeL (i := 3) (v := ?_) rfl (by kernel_rfl) (by kernel_rfl) (by kernel_rfl) (fun _ _ _ h => h) (Or.inl ⟨by rfl, ?_⟩) HS.out ?_
      rotate_left
      · intro w hw
        try dsimp only at hw
        obtain ⟨hc1, hc0, hr5⟩ := hw
        go_simp
        try with_reducible rfl
      try simp only [Act.put, List.setIfInBounds_toArray, List.set_cons_zero, List.set_cons_succ]
      refine takeL (i := 4) (v := ?_) rfl (by kernel_rfl) (by kernel_rfl) (by kernel_rfl) (fun _ _ _ h => h) (Or.inl ⟨by rfl, ?_⟩) HS.out ?_
      rotate_left
      · intro w hw
        try dsimp only at hw
        obtain ⟨hc1, hc0, hr5⟩ := hw
        go_simp
        try with_reducible rfl
      try simp only [Act.put, List.setIfInBounds_toArray, List.set_cons_zero, List.set_cons_succ]
      refine takeL (i := 5) (v := ?_) rfl (by kernel_rfl) (by kernel_rfl) (by kernel_rfl) (fun _ _ _ h => h) (Or.inl ⟨by rfl, ?_⟩) HS.out ?_
      rotate_left
      · intro w hw
        try dsimp only at hw
        obtain ⟨hc1, hc0, hr5⟩ := hw
        go_simp
        try with_reducible rfl
      try simp only [Act.put, List.setIfInBounds_toArray, List.set_cons_zero, List.set_cons_succ]
      refine takeL (i := 6) (v := ?_) rfl (by kernel_rfl) (by kernel_rfl) (by kernel_rfl) (fun _ _ _ h => h) (Or.inl ⟨by rfl, ?_⟩) HS.out ?_
      rotate_left
      · intro w hw
        try dsimp only at hw
        obtain ⟨hc1, hc0, hr5⟩ := hw
        go_simp
        try with_reducible rfl
      try simp only [Act.put, List.setIfInBounds_toArray, List.set_cons_zero, List.set_cons_succ]
      refine takeL (i := 7) (v := ?_) rfl (by kernel_rfl) (by kernel_rfl) (by kernel_rfl) (fun _ _ _ h => h) (Or.inl ⟨by rfl, ?_⟩) HS.out ?_
      rotate_left
      · intro w hw
        try dsimp only at hw
        obtain ⟨hc1, hc0, hr5⟩ := hw
        go_simp
        try with_reducible rfl
      try simp only [Act.put, List.setIfInBounds_toArray, List.set_cons_zero, List.set_cons_succ]
      refine takeL (i := 8) (v := ?_) rfl (by kernel_rfl) (by kernel_rfl) (by kernel_rfl) (fun _ _ _ h => h) (Or.inl ⟨by rfl, ?_⟩) HS.out ?_
      rotate_left
      · intro w hw
        try dsimp only at hw
        obtain ⟨hc1, hc0, hr5⟩ := hw
        go_simp
        try with_reducible rfl
      try simp only [Act.put, List.setIfInBounds_toArray, List.set_cons_zero, List.set_cons_succ]
      refine takeL (i := 9) (v := ?_) rfl (by kernel_rfl) (by kernel_rfl) (by kernel_rfl) (fun _ _ _ h => h) (Or.inl ⟨by rfl, ?_⟩) HS.out ?_
      rotate_left
      · intro w hw
        try dsimp only at hw
        obtain ⟨hc1, hc0, hr5⟩ := hw
        go_simp
        try with_reducible rfl
      try simp only [Act.put, List.setIfInBounds_toArray, List.set_cons_zero, List.set_cons_succ]
      refine readyL (i := 10) rfl (by kernel_rfl) (by kernel_rfl) fun K hK => ?_
      refine wp_store_part 174 (.tmp 2) (.tmp 33) rfl g2 174 0 (askC ask0) (askC y5) P7.out.r2.drew (size_ord14 HOL.out) (by rw [ask_len HOL.out]; decide) (ask_one _) (by go_simp) (by go_simp) (fun w9 hr9 ht9 => ?_)
      rw [List.take_zero, List.nil_append, Nat.zero_add, List.drop_of_length_le (by rw [ask_len HOL.out]; decide), List.append_nil] at hr9
      have R9 := Lib.hid hr9
      have BF := Lib.hid ((show Below w.heap.size w w8.drew from P7.out.b.trans ⟨rfl, rfl, rfl, Nat.le_refl _, fun _ _ => rfl⟩).trans (ht9.below P7.out.lo.1))
      have HS9 : Hid (w9.cell? ⟨g4, 1, none⟩ = some (.bool false) ∧ w9.cell? ⟨g4, 0, none⟩ = some (.slice A5 0 c5) ∧ Row w9 g5 174 (askC y5)) := Lib.hid ⟨(ht9.row HRF.out.drew (Ne.symm P7.out.ne.1)).cell 1, (ht9.row HRF.out.drew (Ne.symm P7.out.ne.1)).cell 0, ht9.row P7.out.r5.drew (Ne.symm P7.out.ne.2.2)⟩
      clear hr9 ht9
      refine hK.out _ _ HS9.out ?_
      clear hK K
      try simp only [Act.put]
      refine takeL (i := 11) (v := ?_) rfl (by kernel_rfl) (by kernel_rfl) (by kernel_rfl) (fun _ _ _ h => h) (Or.inl ⟨by rfl, ?_⟩) HS9.out ?_
      rotate_left
      · intro w hw
        try dsimp only at hw
        obtain ⟨hc1, hc0, hr5⟩ := hw
        go_simp
        try with_reducible rfl
      try simp only [Act.put, List.setIfInBounds_toArray, List.set_cons_zero, List.set_cons_succ]
      refine wpAnyH_done (by kernel_rfl) ?_ _
      go_wp2_with fail
      refine bodyPost_ret (results_cell1 (h := rfl) _ w9 ⟨g2, 0, none⟩ (.agg (askC y5).toArray) (.bool true) (by rfl) (by rfl) (run_load_ord14 R9.out (size_ord14 HOL.out))) rfl ?_
      exact rd_ends14 HE2.out HOL.out BF.out
    · have hz2 : ((n5 : Int) == 0) = false := by simpa using hz
      have HE2 : Hid (rd14 zs = ⟨y5, false⟩) := Lib.hid (HE.out.trans (by unfold end14; rw [← HN5.out]; simp [hz]))
      have HS : Hid (w8.drew.cell? ⟨g4, 1, none⟩ = some (.bool false) ∧ w8.drew.cell? ⟨g4, 0, none⟩ = some (.slice A5 n5 c5) ∧ Row w8.drew g5 174 (askC y5)) := Lib.hid ⟨HRF.out.drew.cell 1, HRF.out.drew.cell 0, P7.out.r5.drew⟩
      refine wp_region_held_drew (S := (fun V => V.cell? ⟨g4, 1, none⟩ = some (.bool false) ∧ V.cell? ⟨g4, 0, none⟩ = some (.slice A5 n5 c5) ∧ Row V g5 174 (askC y5))) (by kernel_rfl) HS.out (fun _ => ?_)
      refine takeL (i := 0) (v := .agg (askC y5).toArray) rfl (by kernel_rfl) (by kernel_rfl) (by kernel_rfl) (fun _ _ _ h => h) (Or.inl ⟨by rfl, fun wz hwz => exec_load_at wz 174 (.tmp 5) rfl ⟨g5, 0, none⟩ (askC y5) _ Tryd.underlying174 rfl (size_ord14 HOL.out) (fun j u hu => by rw [addr_row, Nat.zero_add]; exact (hwz.2.2.cell j).trans hu) (by go_simp)⟩) HS.out ?_
      try simp only [Act.put, List.setIfInBounds_toArray, List.set_cons_zero, List.set_cons_succ]
      refine takeL (i := 1) (v := ?_) rfl (by kernel_rfl) (by kernel_rfl) (by kernel_rfl) (fun _ _ _ h => h) (Or.inl ⟨by rfl, ?_⟩) HS.out ?_
      rotate_left
      · intro w hw
        try dsimp only at hw
        obtain ⟨hc1, hc0, hr5⟩ := hw
        go_simp
        try with_reducible rfl
      try simp only [Act.put, List.setIfInBounds_toArray, List.set_cons_zero, List.set_cons_succ]
      refine takeL (i := 2) (v := ?_) rfl (by kernel_rfl) (by kernel_rfl) (by kernel_rfl) (fun _ _ _ h => h) (Or.inl ⟨by rfl, ?_⟩) HS.out ?_
      rotate_left
      · intro w hw
        try dsimp only at hw
        obtain ⟨hc1, hc0, hr5⟩ := hw
        go_simp
        try with_reducible rfl
      try simp only [Act.put, List.setIfInBounds_toArray, List.set_cons_zero, List.set_cons_succ]
      refine takeL (i := 3) (v := ?_) rfl (by kernel_rfl) (by kernel_rfl) (by kernel_rfl) (fun _ _ _ h => h) (Or.inl ⟨by rfl, ?_⟩) HS.out ?_
      rotate_left
      · intro w hw
        try dsimp only at hw
        obtain ⟨hc1, hc0, hr5⟩ := hw
        go_simp
        try with_reducible rfl
      try simp only [Act.put, List.setIfInBounds_toArray, List.set_cons_zero, List.set_cons_succ]
      refine takeL (i := 4) (v := ?_) rfl (by kernel_rfl) (by kernel_rfl) (by kernel_rfl) (fun _ _ _ h => h) (Or.inl ⟨by rfl, ?_⟩) HS.out ?_
      rotate_left
      · intro w hw
        try dsimp only at hw
        obtain ⟨hc1, hc0, hr5⟩ := hw
        go_simp
        try with_reducible rfl
      try simp only [Act.put, List.setIfInBounds_toArray, List.set_cons_zero, List.set_cons_succ]
      refine takeL (i := 5) (v := ?_) rfl (by kernel_rfl) (by kernel_rfl) (by kernel_rfl) (fun _ _ _ h => h) (Or.inl ⟨by rfl, ?_⟩) HS.out ?_
      rotate_left
      · intro w hw
        try dsimp only at hw
        obtain ⟨hc1, hc0, hr5⟩ := hw
        go_simp
        try with_reducible rfl
      try simp only [Act.put, List.setIfInBounds_toArray, List.set_cons_zero, List.set_cons_succ]
      refine takeL (i := 6) (v := ?_) rfl (by kernel_rfl) (by kernel_rfl) (by kernel_rfl) (fun _ _ _ h => h) (Or.inl ⟨by rfl, ?_⟩) HS.out ?_
      rotate_left
      · intro w hw
        try dsimp only at hw
        obtain ⟨hc1, hc0, hr5⟩ := hw
        go_simp
        try with_reducible rfl
      try simp only [Act.put, List.setIfInBounds_toArray, List.set_cons_zero, List.set_cons_succ]
      refine takeL (i := 7) (v := ?_) rfl (by kernel_rfl) (by kernel_rfl) (by kernel_rfl) (fun _ _ _ h => h) (Or.inl ⟨by rfl, ?_⟩) HS.out ?_
      rotate_left
      · intro w hw
        try dsimp only at hw
        obtain ⟨hc1, hc0, hr5⟩ := hw
        go_simp
        try with_reducible rfl
      try simp only [Act.put, List.setIfInBounds_toArray, List.set_cons_zero, List.set_cons_succ]
      refine takeL (i := 8) (v := ?_) rfl (by kernel_rfl) (by kernel_rfl) (by kernel_rfl) (fun _ _ _ h => h) (Or.inl ⟨by rfl, ?_⟩) HS.out ?_
      rotate_left
      · intro w hw
        try dsimp only at hw
        obtain ⟨hc1, hc0, hr5⟩ := hw
        go_simp
        try with_reducible rfl
      try simp only [Act.put, List.setIfInBounds_toArray, List.set_cons_zero, List.set_cons_succ]
      refine takeL (i := 9) (v := ?_) rfl (by kernel_rfl) (by kernel_rfl) (by kernel_rfl) (fun _ _ _ h => h) (Or.inl ⟨by rfl, ?_⟩) HS.out ?_
      rotate_left
      · intro w hw
        try dsimp only at hw
        obtain ⟨hc1, hc0, hr5⟩ := hw
        go_simp
        try with_reducible rfl
      try simp only [Act.put, List.setIfInBounds_toArray, List.set_cons_zero, List.set_cons_succ]
      refine readyL (i := 10) rfl (by kernel_rfl) (by kernel_rfl) fun K hK => ?_
      refine wp_store_part 174 (.tmp 2) (.tmp 33) rfl g2 174 0 (askC ask0) (askC y5) P7.out.r2.drew (size_ord14 HOL.out) (by rw [ask_len HOL.out]; decide) (ask_one _) (by go_simp) (by go_simp) (fun w9 hr9 ht9 => ?_)
      rw [List.take_zero, List.nil_append, Nat.zero_add, List.drop_of_length_le (by rw [ask_len HOL.out]; decide), List.append_nil] at hr9
      have R9 := Lib.hid hr9
      have BF := Lib.hid ((show Below w.heap.size w w8.drew from P7.out.b.trans ⟨rfl, rfl, rfl, Nat.le_refl _, fun _ _ => rfl⟩).trans (ht9.below P7.out.lo.1))
      have HS9 : Hid (w9.cell? ⟨g4, 1, none⟩ = some (.bool false) ∧ w9.cell? ⟨g4, 0, none⟩ = some (.slice A5 n5 c5) ∧ Row w9 g5 174 (askC y5)) := Lib.hid ⟨(ht9.row HRF.out.drew (Ne.symm P7.out.ne.1)).cell 1, (ht9.row HRF.out.drew (Ne.symm P7.out.ne.1)).cell 0, ht9.row P7.out.r5.drew (Ne.symm P7.out.ne.2.2)⟩
      clear hr9 ht9
      refine hK.out _ _ HS9.out ?_
      clear hK K
      try simp only [Act.put]
      refine takeL (i := 11) (v := ?_) rfl (by kernel_rfl) (by kernel_rfl) (by kernel_rfl) (fun _ _ _ h => h) (Or.inl ⟨by rfl, ?_⟩) HS9.out ?_
      rotate_left
      · intro w hw
        try dsimp only at hw
        obtain ⟨hc1, hc0, hr5⟩ := hw
        go_simp
        try with_reducible rfl
      try simp only [Act.put, List.setIfInBounds_toArray, List.set_cons_zero, List.set_cons_succ]
      refine wpAnyH_done (by kernel_rfl) ?_ _
      go_wp2_with fail
      refine bodyPost_ret (results_cell1 (h := rfl) _ w9 ⟨g2, 0, none⟩ (.agg (askC y5).toArray) (.bool false) (by rfl) (by rfl) (run_load_ord14 R9.out (size_ord14 HOL.out))) rfl ?_
      exact rd_ends14 HE2.out HOL.out BF.out
set_option maxHeartbeats 8000000 in
theorem read_214 (A : Option Addr) (n c S : Nat) (zs : List Int) (w : World) (hs : Sees w S A n (bv zs)) (hS : S ≤ w.heap.size) (hnc : n ≤ c) (hc : c ≤ maxLen) (hz : AllBytes zs) (ht : numS zs false 4 = 2) :
    Calls Tryd.prog 72 #[.slice A n c] w (ReadDone14 w (rd14 zs)) := by
  have HL := Lib.hid (show zs.length = n by have := hs.len; rwa [bv_length] at this)
  have HX := Lib.hid hs
  have HCC := Lib.hid (And.intro hnc hc)
  have HZ := Lib.hid hz
  have HS0 := Lib.hid hS
  have HT := Lib.hid ht
  clear hs hnc hc hz ht hS
  go_enter Tryd.func72, Tryd.ntmps72
  go_upto_region 2 with (first
    | ((with_reducible show wpList _ _ _ ({ dst := some 2, op := Op.alloc _, type := _, pos := _, after := _, guard := _ } :: _) _ _); go_must (refine wpList_alloc_zero rfl 174 rfl (askC ask0) zero_ord14 ?_))
    | ((with_reducible show wpList _ _ _ ({ dst := some 7, op := Op.build _ _, type := _, pos := _, after := _, guard := _ } :: _) _ _); go_must (refine wpList_plain rfl fun K hK => wp_built _ _ _ rfl (by simp only [List.map_toArray, List.map_cons, List.map_nil]; exact built_fld14 _ _ _) (hK _ _ ?_)))
    | ((with_reducible show wpList _ _ _ ({ dst := some 4, op := Op.alloc _, type := _, pos := _, after := _, guard := _ } :: _) _ _); go_must (refine wpList_alloc_zero rfl 189 rfl (fldC none 0 0 false) zero_fld14 ?_))
    | ((with_reducible show wpList _ _ _ ({ dst := none, op := Op.store 189 (.tmp 4) _, type := _, pos := _, after := _, guard := _ } :: _) _ _); go_must (refine wpList_store_new rfl 189 (.tmp 4) (.tmp 7) rfl (fldC A n c false) (size_fld14 _ _ _ _) (fld_one14 _ _ _ _) rfl ?_ ?_ ?_; go_simp; go_simp; intro w4 hr4 hb4 hz4)))
  obtain ⟨g2, hg2⟩ : ∃ g, g = w.heap.size := ⟨_, rfl⟩
  have BA := Lib.hid ((Below.refl w.heap.size w).alloc (Nat.le_refl _) (.cells (askC ask0).toArray 174))
  have R2 := Lib.hid ((Row.new w 174 (askC ask0)).below hb4 (by simp))
  obtain ⟨g4, hg4⟩ : ∃ g, g = (w.alloc (.cells (askC ask0).toArray 174)).heap.size := ⟨_, rfl⟩
  have H24 : Hid (g4 = w.heap.size + 1) := Lib.hid (by rw [hg4]; simp)
  have H42 := Lib.hid hg2
  have B4 := Lib.hid (BA.out.trans (hb4.mono BA.out.size))
  rw [← hg4] at hr4 ⊢
  rw [← hg2] at R2 ⊢
  have F4 : Hid (FIn w4 g4 S zs false) := Lib.hid ⟨⟨A, c, by rw [HL.out]; exact hr4, by rw [HL.out]; exact HX.out.below (B4.out.mono HS0.out), by rw [HL.out]; exact HCC.out.1, HCC.out.2⟩, HZ.out⟩
  have SG : Hid (S ≤ g4) := Lib.hid (by have := H24.out; have := HS0.out; omega)
  clear hr4 hb4 hz4 hg2 hg4 BA
  have HN := Lib.hid (number14 g4 S 4 false zs w4 F4.out SG.out (by omega) (by omega))
  go_wp2_with fail
  refine HN.out.mono ?_
  rintro e w5 ⟨rfl, hf, hb⟩
  have F5 := Lib.hid hf
  have HB5 := Lib.hid hb
  have R25 := Lib.hid (hb.row R2.out (by have := H24.out; have := H42.out; omega))
  have B5 := Lib.hid (B4.out.trans (hb.below (by have := H24.out; omega) B4.out.size))
  have L25 := Lib.hid R25.out.lt
  clear hf hb HN R2 F4
  go_upto_region 3 with (first
    | ((with_reducible show wpList _ _ _ ({ dst := some 9, op := Op.build _ _, type := _, pos := _, after := _, guard := _ } :: _) _ _); go_must (refine wpList_plain rfl fun K hK => wp_built _ _ _ rfl (by simp only [List.map_toArray, List.map_cons, List.map_nil]; exact built_ord1 _) (hK _ _ ?_)))
    | ((with_reducible show wpList _ _ _ ({ dst := some 5, op := Op.alloc _, type := _, pos := _, after := _, guard := _ } :: _) _ _); go_must (refine wpList_alloc_zero rfl 174 rfl (askC ask0) zero_ord14 ?_))
    | ((with_reducible show wpList _ _ _ ({ dst := none, op := Op.store 174 (.tmp 5) _, type := _, pos := _, after := _, guard := _ } :: _) _ _); go_must (refine wpList_store_new rfl 174 (.tmp 5) (.tmp 9) rfl (askC ⟨numS zs false 4, 0, 0, key0⟩) (size_ord14 key0_ok.1) (ask_one _) rfl ?_ ?_ ?_; go_simp; go_simp; intro w6 hr6 hb6 hz6)))
  obtain ⟨g5, hg5⟩ : ∃ g, g = w5.heap.size := ⟨_, rfl⟩
  have P6 : Hid (RS4 w w6 g2 g4 w5.heap.size S (resS zs 4) (shS zs false 4) ⟨numS zs false 4, 0, 0, key0⟩) := Lib.hid ⟨B5.out.trans (hb6.mono B5.out.size), R25.out.below hb6 R25.out.lt, F5.out.keep SG.out (But.of_below hb6 w5.heap.size) (Ne.symm (Nat.ne_of_lt F5.out.lt)) (Nat.le_trans HS0.out B5.out.size), hr6, ⟨by have := H24.out; have := H42.out; omega, Ne.symm (Nat.ne_of_lt F5.out.lt), Nat.ne_of_lt L25.out⟩, ⟨Nat.le_of_eq H42.out.symm, by have := H24.out; omega, B5.out.size, HS0.out⟩⟩
  rw [← hg5] at P6 ⊢
  clear hr6 hb6 hz6 hg5 F5 HB5 R25 B5 L25 B4 SG H24 H42 HX HCC HL
  rw [HT.out] at P6
  have c50 : w6.cell? ⟨g5, 0, none⟩ = some (.int .u64 2) := P6.out.r5.cell 0
  go_upto_region 12 with fail
  clear c50
  have HN := Lib.hid (number14 g4 S 8 (shS zs false 4) (resS zs 4) w6 P6.out.f P6.out.sg (by omega) (by omega))
  go_wp2_with fail
  refine HN.out.mono ?_
  rintro e w7 ⟨rfl, hf, hb⟩
  have PM := Lib.hid (P6.out.but hf hb)
  clear hf hb HN P6
  have ck : w7.cell? ⟨g5, 1, none⟩ = some (.int .u64 0) := PM.out.r5.cell 1
  have fk := PM.out.r5.frozen 1
  have P7 := Lib.hid (PM.out.set (y' := ⟨2, numS (resS zs 4) (shS zs false 4) 8, 0, key0⟩) 1 (.int .u64 (numS (resS zs 4) (shS zs false 4) 8)) rfl)
  go_upto_region 15 with fail
  clear ck fk PM
  generalize w7.setCell ⟨g5, 1, none⟩ (.int .u64 (numS (resS zs 4) (shS zs false 4) 8)) = w8 at *
  obtain ⟨A5, c5, hrf, _, _, _⟩ := P7.out.f.is
  have HRF := Lib.hid hrf
  clear hrf
  have HOL : Hid ((⟨2, numS (resS zs 4) (shS zs false 4) 8, 0, key0⟩ : LAsk).owner.length = 32) := Lib.hid (key0_ok.1)
  have HE : Hid (rd14 zs = end14 ⟨2, numS (resS zs 4) (shS zs false 4) 8, 0, key0⟩ ((resS (resS zs 4) 8)) ((shS (resS zs 4) (shS zs false 4) 8))) := Lib.hid (by unfold rd14; dsimp only; rw [HT.out]; rfl)
  obtain ⟨n5, hn5⟩ : ∃ n, n = ((resS (resS zs 4) 8)).length := ⟨_, rfl⟩
  rw [← hn5] at HRF
  have HN5 := Lib.hid hn5
  clear hn5
  obtain ⟨y5, hy5⟩ : ∃ y, y = (⟨2, numS (resS zs 4) (shS zs false 4) 8, 0, key0⟩ : LAsk) := ⟨_, rfl⟩
  rw [← hy5] at P7 HOL HE
  clear hy5
  obtain ⟨b5, hb5⟩ : ∃ b, b = (shS (resS zs 4) (shS zs false 4) 8) := ⟨_, rfl⟩
  rw [← hb5] at HE HRF
  clear hb5
  cases b5 with
  | true =>
    have HE2 : Hid (rd14 zs = ⟨y5, false⟩) := Lib.hid (HE.out.trans (by unfold end14; rw [← HN5.out]; rfl))
    have HS : Hid (w8.drew.cell? ⟨g4, 1, none⟩ = some (.bool true) ∧ w8.drew.cell? ⟨g4, 0, none⟩ = some (.slice A5 n5 c5) ∧ Row w8.drew g5 174 (askC y5)) := Lib.hid ⟨HRF.out.drew.cell 1, HRF.out.drew.cell 0, P7.out.r5.drew⟩
    refine wp_region_held_drew (S := (fun V => V.cell? ⟨g4, 1, none⟩ = some (.bool true) ∧ V.cell? ⟨g4, 0, none⟩ = some (.slice A5 n5 c5) ∧ Row V g5 174 (askC y5))) (by kernel_rfl) HS.out (fun _ => ?_)
    refine takeL (i := 0) (v := .agg (askC y5).toArray) rfl (by kernel_rfl) (by kernel_rfl) (by kernel_rfl) (fun _ _ _ h => h) (Or.inl ⟨by rfl, fun wz hwz => exec_load_at wz 174 (.tmp 5) rfl ⟨g5, 0, none⟩ (askC y5) _ Tryd.underlying174 rfl (size_ord14 HOL.out) (fun j u hu => by rw [addr_row, Nat.zero_add]; exact (hwz.2.2.cell j).trans hu) (by go_simp)⟩) HS.out ?_
    try simp only [Act.put, List.setIfInBounds_toArray, List.set_cons_zero, List.set_cons_succ]
    refine takeL (i := 1) (v := ?_) rfl (by kernel_rfl) (by kernel_rfl) (by kernel_rfl) (fun _ _ _ h => h) (Or.inl ⟨by rfl, ?_⟩) HS.out ?_
    rotate_left
    · intro w hw
      try dsimp only at hw
      obtain ⟨hc1, hc0, hr5⟩ := hw
      go_simp
      try with_reducible rfl
    try simp only [Act.put, List.setIfInBounds_toArray, List.set_cons_zero, List.set_cons_succ]
    refine takeL (i := 2) (v := ?_) rfl (by kernel_rfl) (by kernel_rfl) (by kernel_rfl) (fun _ _ _ h => h) (Or.inl ⟨by rfl, ?_⟩) HS.out ?_
    rotate_left
    · intro w hw
      try dsimp only at hw
      obtain ⟨hc1, hc0, hr5⟩ := hw
      go_simp
      try with_reducible rfl
    try simp only [Act.put, List.setIfInBounds_toArray, List.set_cons_zero, List.set_cons_succ]
    refine takeL (i := 3) (v := ?_) rfl (by kernel_rfl) (by kernel_rfl) (by kernel_rfl) (fun _ _ _ h => h) (Or.inl ⟨by rfl, ?_⟩) HS.out ?_
    rotate_left
    · intro w hw
      try dsimp only at hw
      obtain ⟨hc1, hc0, hr5⟩ := hw
      go_simp
      try with_reducible rfl
    try simp only [Act.put, List.setIfInBounds_toArray, List.set_cons_zero, List.set_cons_succ]
    refine takeL (i := 4) (v := ?_) rfl (by kernel_rfl) (by kernel_rfl) (by kernel_rfl) (fun _ _ _ h => h) (Or.inl ⟨by rfl, ?_⟩) HS.out ?_
    rotate_left
    · intro w hw
      try dsimp only at hw
      obtain ⟨hc1, hc0, hr5⟩ := hw
      go_simp
      try with_reducible rfl
    try simp only [Act.put, List.setIfInBounds_toArray, List.set_cons_zero, List.set_cons_succ]
    refine takeL (i := 5) (v := undef) rfl (by kernel_rfl) (by kernel_rfl) (by kernel_rfl) (fun _ _ _ h => h) (Or.inr ⟨by rfl, rfl⟩) HS.out ?_
    try simp only [Act.put, List.setIfInBounds_toArray, List.set_cons_zero, List.set_cons_succ]
    refine takeL (i := 6) (v := undef) rfl (by kernel_rfl) (by kernel_rfl) (by kernel_rfl) (fun _ _ _ h => h) (Or.inr ⟨by rfl, rfl⟩) HS.out ?_
    try simp only [Act.put, List.setIfInBounds_toArray, List.set_cons_zero, List.set_cons_succ]
    refine takeL (i := 7) (v := undef) rfl (by kernel_rfl) (by kernel_rfl) (by kernel_rfl) (fun _ _ _ h => h) (Or.inr ⟨by rfl, rfl⟩) HS.out ?_
    try simp only [Act.put, List.setIfInBounds_toArray, List.set_cons_zero, List.set_cons_succ]
    refine takeL (i := 8) (v := undef) rfl (by kernel_rfl) (by kernel_rfl) (by kernel_rfl) (fun _ _ _ h => h) (Or.inr ⟨by rfl, rfl⟩) HS.out ?_
    try simp only [Act.put, List.setIfInBounds_toArray, List.set_cons_zero, List.set_cons_succ]
    refine takeL (i := 9) (v := ?_) rfl (by kernel_rfl) (by kernel_rfl) (by kernel_rfl) (fun _ _ _ h => h) (Or.inl ⟨by rfl, ?_⟩) HS.out ?_
    rotate_left
    · intro w hw
      try dsimp only at hw
      obtain ⟨hc1, hc0, hr5⟩ := hw
      go_simp
      try with_reducible rfl
    try simp only [Act.put, List.setIfInBounds_toArray, List.set_cons_zero, List.set_cons_succ]
    refine readyL (i := 10) rfl (by kernel_rfl) (by kernel_rfl) fun K hK => ?_
    refine wp_store_part 174 (.tmp 2) (.tmp 33) rfl g2 174 0 (askC ask0) (askC y5) P7.out.r2.drew (size_ord14 HOL.out) (by rw [ask_len HOL.out]; decide) (ask_one _) (by go_simp) (by go_simp) (fun w9 hr9 ht9 => ?_)
    rw [List.take_zero, List.nil_append, Nat.zero_add, List.drop_of_length_le (by rw [ask_len HOL.out]; decide), List.append_nil] at hr9
    have R9 := Lib.hid hr9
    have BF := Lib.hid ((show Below w.heap.size w w8.drew from P7.out.b.trans ⟨rfl, rfl, rfl, Nat.le_refl _, fun _ _ => rfl⟩).trans (ht9.below P7.out.lo.1))
    have HS9 : Hid (w9.cell? ⟨g4, 1, none⟩ = some (.bool true) ∧ w9.cell? ⟨g4, 0, none⟩ = some (.slice A5 n5 c5) ∧ Row w9 g5 174 (askC y5)) := Lib.hid ⟨(ht9.row HRF.out.drew (Ne.symm P7.out.ne.1)).cell 1, (ht9.row HRF.out.drew (Ne.symm P7.out.ne.1)).cell 0, ht9.row P7.out.r5.drew (Ne.symm P7.out.ne.2.2)⟩
    clear hr9 ht9
    refine hK.out _ _ HS9.out ?_
    clear hK K
    try simp only [Act.put]
    refine takeL (i := 11) (v := ?_) rfl (by kernel_rfl) (by kernel_rfl) (by kernel_rfl) (fun _ _ _ h => h) (Or.inl ⟨by rfl, ?_⟩) HS9.out ?_
    rotate_left
    · intro w hw
      try dsimp only at hw
      obtain ⟨hc1, hc0, hr5⟩ := hw
      go_simp
      try with_reducible rfl
    try simp only [Act.put, List.setIfInBounds_toArray, List.set_cons_zero, List.set_cons_succ]
    refine wpAnyH_done (by kernel_rfl) ?_ _
    go_wp2_with fail
    refine bodyPost_ret (results_cell1 (h := rfl) _ w9 ⟨g2, 0, none⟩ (.agg (askC y5).toArray) (.bool false) (by rfl) (by rfl) (run_load_ord14 R9.out (size_ord14 HOL.out))) rfl ?_
    exact rd_ends14 HE2.out HOL.out BF.out
  | false =>
    by_cases hz : n5 = 0
    · subst hz
      have HE2 : Hid (rd14 zs = ⟨y5, true⟩) := Lib.hid (HE.out.trans (by unfold end14; rw [← HN5.out]; simp))
      have HS : Hid (w8.drew.cell? ⟨g4, 1, none⟩ = some (.bool false) ∧ w8.drew.cell? ⟨g4, 0, none⟩ = some (.slice A5 0 c5) ∧ Row w8.drew g5 174 (askC y5)) := Lib.hid ⟨HRF.out.drew.cell 1, HRF.out.drew.cell 0, P7.out.r5.drew⟩
      refine wp_region_held_drew (S := (fun V => V.cell? ⟨g4, 1, none⟩ = some (.bool false) ∧ V.cell? ⟨g4, 0, none⟩ = some (.slice A5 0 c5) ∧ Row V g5 174 (askC y5))) (by kernel_rfl) HS.out (fun _ => ?_)
      refine takeL (i := 0) (v := .agg (askC y5).toArray) rfl (by kernel_rfl) (by kernel_rfl) (by kernel_rfl) (fun _ _ _ h => h) (Or.inl ⟨by rfl, fun wz hwz => exec_load_at wz 174 (.tmp 5) rfl ⟨g5, 0, none⟩ (askC y5) _ Tryd.underlying174 rfl (size_ord14 HOL.out) (fun j u hu => by rw [addr_row, Nat.zero_add]; exact (hwz.2.2.cell j).trans hu) (by go_simp)⟩) HS.out ?_
      try simp only [Act.put, List.setIfInBounds_toArray, List.set_cons_zero, List.set_cons_succ]
      refine takeL (i := 1) (v := ?_) rfl (by kernel_rfl) (by kernel_rfl) (by kernel_rfl) (fun _ _ _ h => h) (Or.inl ⟨by rfl, ?_⟩) HS.out ?_
      rotate_left
      · intro w hw
        try dsimp only at hw
        obtain ⟨hc1, hc0, hr5⟩ := hw
        go_simp
        try with_reducible rfl
      try simp only [Act.put, List.setIfInBounds_toArray, List.set_cons_zero, List.set_cons_succ]
      refine takeL (i := 2) (v := ?_) rfl (by kernel_rfl) (by kernel_rfl) (by kernel_rfl) (fun _ _ _ h => h) (Or.inl ⟨by rfl, ?_⟩) HS.out ?_
      rotate_left
      · intro w hw
        try dsimp only at hw
        obtain ⟨hc1, hc0, hr5⟩ := hw
        go_simp
        try with_reducible rfl
      try simp only [Act.put, List.setIfInBounds_toArray, List.set_cons_zero, List.set_cons_succ]
      refine takeL (i := 3) (v := ?_) rfl (by kernel_rfl) (by kernel_rfl) (by kernel_rfl) (fun _ _ _ h => h) (Or.inl ⟨by rfl, ?_⟩) HS.out ?_
      rotate_left
      · intro w hw
        try dsimp only at hw
        obtain ⟨hc1, hc0, hr5⟩ := hw
        go_simp
        try with_reducible rfl
      try simp only [Act.put, List.setIfInBounds_toArray, List.set_cons_zero, List.set_cons_succ]
      refine takeL (i := 4) (v := ?_) rfl (by kernel_rfl) (by kernel_rfl) (by kernel_rfl) (fun _ _ _ h => h) (Or.inl ⟨by rfl, ?_⟩) HS.out ?_
      rotate_left
      · intro w hw
        try dsimp only at hw
        obtain ⟨hc1, hc0, hr5⟩ := hw
        go_simp
        try with_reducible rfl
      try simp only [Act.put, List.setIfInBounds_toArray, List.set_cons_zero, List.set_cons_succ]
      refine takeL (i := 5) (v := ?_) rfl (by kernel_rfl) (by kernel_rfl) (by kernel_rfl) (fun _ _ _ h => h) (Or.inl ⟨by rfl, ?_⟩) HS.out ?_
      rotate_left
      · intro w hw
        try dsimp only at hw
        obtain ⟨hc1, hc0, hr5⟩ := hw
        go_simp
        try with_reducible rfl
      try simp only [Act.put, List.setIfInBounds_toArray, List.set_cons_zero, List.set_cons_succ]
      refine takeL (i := 6) (v := ?_) rfl (by kernel_rfl) (by kernel_rfl) (by kernel_rfl) (fun _ _ _ h => h) (Or.inl ⟨by rfl, ?_⟩) HS.out ?_
      rotate_left
      · intro w hw
        try dsimp only at hw
        obtain ⟨hc1, hc0, hr5⟩ := hw
        go_simp
        try with_reducible rfl
      try simp only [Act.put, List.setIfInBounds_toArray, List.set_cons_zero, List.set_cons_succ]
      refine takeL (i := 7) (v := ?_) rfl (by kernel_rfl) (by kernel_rfl) (by kernel_rfl) (fun _ _ _ h => h) (Or.inl ⟨by rfl, ?_⟩) HS.out ?_
      rotate_left
      · intro w hw
        try dsimp only at hw
        obtain ⟨hc1, hc0, hr5⟩ := hw
        go_simp
        try with_reducible rfl
      try simp only [Act.put, List.setIfInBounds_toArray, List.set_cons_zero, List.set_cons_succ]
      refine takeL (i := 8) (v := ?_) rfl (by kernel_rfl) (by kernel_rfl) (by kernel_rfl) (fun _ _ _ h => h) (Or.inl ⟨by rfl, ?_⟩) HS.out ?_
      rotate_left
      · intro w hw
        try dsimp only at hw
        obtain ⟨hc1, hc0, hr5⟩ := hw
        go_simp
        try with_reducible rfl
      try simp only [Act.put, List.setIfInBounds_toArray, List.set_cons_zero, List.set_cons_succ]
      refine takeL (i := 9) (v := ?_) rfl (by kernel_rfl) (by kernel_rfl) (by kernel_rfl) (fun _ _ _ h => h) (Or.inl ⟨by rfl, ?_⟩) HS.out ?_
      rotate_left
      · intro w hw
        try dsimp only at hw
        obtain ⟨hc1, hc0, hr5⟩ := hw
        go_simp
        try with_reducible rfl
      try simp only [Act.put, List.setIfInBounds_toArray, List.set_cons_zero, List.set_cons_succ]
      refine readyL (i := 10) rfl (by kernel_rfl) (by kernel_rfl) fun K hK => ?_
      refine wp_store_part 174 (.tmp 2) (.tmp 33) rfl g2 174 0 (askC ask0) (askC y5) P7.out.r2.drew (size_ord14 HOL.out) (by rw [ask_len HOL.out]; decide) (ask_one _) (by go_simp) (by go_simp) (fun w9 hr9 ht9 => ?_)
      rw [List.take_zero, List.nil_append, Nat.zero_add, List.drop_of_length_le (by rw [ask_len HOL.out]; decide), List.append_nil] at hr9
      have R9 := Lib.hid hr9
      have BF := Lib.hid ((show Below w.heap.size w w8.drew from P7.out.b.trans ⟨rfl, rfl, rfl, Nat.le_refl _, fun _ _ => rfl⟩).trans (ht9.below P7.out.lo.1))
      have HS9 : Hid (w9.cell? ⟨g4, 1, none⟩ = some (.bool false) ∧ w9.cell? ⟨g4, 0, none⟩ = some (.slice A5 0 c5) ∧ Row w9 g5 174 (askC y5)) := Lib.hid ⟨(ht9.row HRF.out.drew (Ne.symm P7.out.ne.1)).cell 1, (ht9.row HRF.out.drew (Ne.symm P7.out.ne.1)).cell 0, ht9.row P7.out.r5.drew (Ne.symm P7.out.ne.2.2)⟩
      clear hr9 ht9
      refine hK.out _ _ HS9.out ?_
      clear hK K
      try simp only [Act.put]
      refine takeL (i := 11) (v := ?_) rfl (by kernel_rfl) (by kernel_rfl) (by kernel_rfl) (fun _ _ _ h => h) (Or.inl ⟨by rfl, ?_⟩) HS9.out ?_
      rotate_left
      · intro w hw
        try dsimp only at hw
        obtain ⟨hc1, hc0, hr5⟩ := hw
        go_simp
        try with_reducible rfl
      try simp only [Act.put, List.setIfInBounds_toArray, List.set_cons_zero, List.set_cons_succ]
      refine wpAnyH_done (by kernel_rfl) ?_ _
      go_wp2_with fail
      refine bodyPost_ret (results_cell1 (h := rfl) _ w9 ⟨g2, 0, none⟩ (.agg (askC y5).toArray) (.bool true) (by rfl) (by rfl) (run_load_ord14 R9.out (size_ord14 HOL.out))) rfl ?_
      exact rd_ends14 HE2.out HOL.out BF.out
    · have hz2 : ((n5 : Int) == 0) = false := by simpa using hz
      have HE2 : Hid (rd14 zs = ⟨y5, false⟩) := Lib.hid (HE.out.trans (by unfold end14; rw [← HN5.out]; simp [hz]))
      have HS : Hid (w8.drew.cell? ⟨g4, 1, none⟩ = some (.bool false) ∧ w8.drew.cell? ⟨g4, 0, none⟩ = some (.slice A5 n5 c5) ∧ Row w8.drew g5 174 (askC y5)) := Lib.hid ⟨HRF.out.drew.cell 1, HRF.out.drew.cell 0, P7.out.r5.drew⟩
      refine wp_region_held_drew (S := (fun V => V.cell? ⟨g4, 1, none⟩ = some (.bool false) ∧ V.cell? ⟨g4, 0, none⟩ = some (.slice A5 n5 c5) ∧ Row V g5 174 (askC y5))) (by kernel_rfl) HS.out (fun _ => ?_)
      refine takeL (i := 0) (v := .agg (askC y5).toArray) rfl (by kernel_rfl) (by kernel_rfl) (by kernel_rfl) (fun _ _ _ h => h) (Or.inl ⟨by rfl, fun wz hwz => exec_load_at wz 174 (.tmp 5) rfl ⟨g5, 0, none⟩ (askC y5) _ Tryd.underlying174 rfl (size_ord14 HOL.out) (fun j u hu => by rw [addr_row, Nat.zero_add]; exact (hwz.2.2.cell j).trans hu) (by go_simp)⟩) HS.out ?_
      try simp only [Act.put, List.setIfInBounds_toArray, List.set_cons_zero, List.set_cons_succ]
      refine takeL (i := 1) (v := ?_) rfl (by kernel_rfl) (by kernel_rfl) (by kernel_rfl) (fun _ _ _ h => h) (Or.inl ⟨by rfl, ?_⟩) HS.out ?_
      rotate_left
      · intro w hw
        try dsimp only at hw
        obtain ⟨hc1, hc0, hr5⟩ := hw
        go_simp
        try with_reducible rfl
      try simp only [Act.put, List.setIfInBounds_toArray, List.set_cons_zero, List.set_cons_succ]
      refine takeL (i := 2) (v := ?_) rfl (by kernel_rfl) (by kernel_rfl) (by kernel_rfl) (fun _ _ _ h => h) (Or.inl ⟨by rfl, ?_⟩) HS.out ?_
      rotate_left
      · intro w hw
        try dsimp only at hw
        obtain ⟨hc1, hc0, hr5⟩ := hw
        go_simp
        try with_reducible rfl
      try simp only [Act.put, List.setIfInBounds_toArray, List.set_cons_zero, List.set_cons_succ]
      refine takeL (i := 3) (v := ?_) rfl (by kernel_rfl) (by kernel_rfl) (by kernel_rfl) (fun _ _ _ h => h) (Or.inl ⟨by rfl, ?_⟩) HS.out ?_
      rotate_left
      · intro w hw
        try dsimp only at hw
        obtain ⟨hc1, hc0, hr5⟩ := hw
        go_simp
        try with_reducible rfl
      try simp only [Act.put, List.setIfInBounds_toArray, List.set_cons_zero, List.set_cons_succ]
      refine takeL (i := 4) (v := ?_) rfl (by kernel_rfl) (by kernel_rfl) (by kernel_rfl) (fun _ _ _ h => h) (Or.inl ⟨by rfl, ?_⟩) HS.out ?_
      rotate_left
      · intro w hw
        try dsimp only at hw
        obtain ⟨hc1, hc0, hr5⟩ := hw
        go_simp
        try with_reducible rfl
      try simp only [Act.put, List.setIfInBounds_toArray, List.set_cons_zero, List.set_cons_succ]
      refine takeL (i := 5) (v := ?_) rfl (by kernel_rfl) (by kernel_rfl) (by kernel_rfl) (fun _ _ _ h => h) (Or.inl ⟨by rfl, ?_⟩) HS.out ?_
      rotate_left
      · intro w hw
        try dsimp only at hw
        obtain ⟨hc1, hc0, hr5⟩ := hw
        go_simp
        try with_reducible rfl
      try simp only [Act.put, List.setIfInBounds_toArray, List.set_cons_zero, List.set_cons_succ]
      refine takeL (i := 6) (v := ?_) rfl (by kernel_rfl) (by kernel_rfl) (by kernel_rfl) (fun _ _ _ h => h) (Or.inl ⟨by rfl, ?_⟩) HS.out ?_
      rotate_left
      · intro w hw
        try dsimp only at hw
        obtain ⟨hc1, hc0, hr5⟩ := hw
        go_simp
        try with_reducible rfl
      try simp only [Act.put, List.setIfInBounds_toArray, List.set_cons_zero, List.set_cons_succ]
      refine takeL (i := 7) (v := ?_) rfl (by kernel_rfl) (by kernel_rfl) (by kernel_rfl) (fun _ _ _ h => h) (Or.inl ⟨by rfl, ?_⟩) HS.out ?_
      rotate_left
      · intro w hw
        try dsimp only at hw
        obtain ⟨hc1, hc0, hr5⟩ := hw
        go_simp
        try with_reducible rfl
      try simp only [Act.put, List.setIfInBounds_toArray, List.set_cons_zero, List.set_cons_succ]
      refine takeL (i := 8) (v := ?_) rfl (by kernel_rfl) (by kernel_rfl) (by kernel_rfl) (fun _ _ _ h => h) (Or.inl ⟨by rfl, ?_⟩) HS.out ?_
      rotate_left
      · intro w hw
        try dsimp only at hw
        obtain ⟨hc1, hc0, hr5⟩ := hw
        go_simp
        try with_reducible rfl
      try simp only [Act.put, List.setIfInBounds_toArray, List.set_cons_zero, List.set_cons_succ]
      refine takeL (i := 9) (v := ?_) rfl (by kernel_rfl) (by kernel_rfl) (by kernel_rfl) (fun _ _ _ h => h) (Or.inl ⟨by rfl, ?_⟩) HS.out ?_
      rotate_left
      · intro w hw
        try dsimp only at hw
        obtain ⟨hc1, hc0, hr5⟩ := hw
        go_simp
        try with_reducible rfl
      try simp only [Act.put, List.setIfInBounds_toArray, List.set_cons_zero, List.set_cons_succ]
      refine readyL (i := 10) rfl (by kernel_rfl) (by kernel_rfl) fun K hK => ?_
      refine wp_store_part 174 (.tmp 2) (.tmp 33) rfl g2 174 0 (askC ask0) (askC y5) P7.out.r2.drew (size_ord14 HOL.out) (by rw [ask_len HOL.out]; decide) (ask_one _) (by go_simp) (by go_simp) (fun w9 hr9 ht9 => ?_)
      rw [List.take_zero, List.nil_append, Nat.zero_add, List.drop_of_length_le (by rw [ask_len HOL.out]; decide), List.append_nil] at hr9
      have R9 := Lib.hid hr9
      have BF := Lib.hid ((show Below w.heap.size w w8.drew from P7.out.b.trans ⟨rfl, rfl, rfl, Nat.le_refl _, fun _ _ => rfl⟩).trans (ht9.below P7.out.lo.1))
      have HS9 : Hid (w9.cell? ⟨g4, 1, none⟩ = some (.bool false) ∧ w9.cell? ⟨g4, 0, none⟩ = some (.slice A5 n5 c5) ∧ Row w9 g5 174 (askC y5)) := Lib.hid ⟨(ht9.row HRF.out.drew (Ne.symm P7.out.ne.1)).cell 1, (ht9.row HRF.out.drew (Ne.symm P7.out.ne.1)).cell 0, ht9.row P7.out.r5.drew (Ne.symm P7.out.ne.2.2)⟩
      clear hr9 ht9
      refine hK.out _ _ HS9.out ?_
      clear hK K
      try simp only [Act.put]
      refine takeL (i := 11) (v := ?_) rfl (by kernel_rfl) (by kernel_rfl) (by kernel_rfl) (fun _ _ _ h => h) (Or.inl ⟨by rfl, ?_⟩) HS9.out ?_
      rotate_left
      · intro w hw
        try dsimp only at hw
        obtain ⟨hc1, hc0, hr5⟩ := hw
        go_simp
        try with_reducible rfl
      try simp only [Act.put, List.setIfInBounds_toArray, List.set_cons_zero, List.set_cons_succ]
      refine wpAnyH_done (by kernel_rfl) ?_ _
      go_wp2_with fail
      refine bodyPost_ret (results_cell1 (h := rfl) _ w9 ⟨g2, 0, none⟩ (.agg (askC y5).toArray) (.bool false) (by rfl) (by rfl) (run_load_ord14 R9.out (size_ord14 HOL.out))) rfl ?_
      exact rd_ends14 HE2.out HOL.out BF.out
set_option maxHeartbeats 8000000 in
theorem read_814 (A : Option Addr) (n c S : Nat) (zs : List Int) (w : World) (hs : Sees w S A n (bv zs)) (hS : S ≤ w.heap.size) (hnc : n ≤ c) (hc : c ≤ maxLen) (hz : AllBytes zs) (ht : numS zs false 4 = 8) :
    Calls Tryd.prog 72 #[.slice A n c] w (ReadDone14 w (rd14 zs)) := by
  have HL := Lib.hid (show zs.length = n by have := hs.len; rwa [bv_length] at this)
  have HX := Lib.hid hs
  have HCC := Lib.hid (And.intro hnc hc)
  have HZ := Lib.hid hz
  have HS0 := Lib.hid hS
  have HT := Lib.hid ht
  clear hs hnc hc hz ht hS
  go_enter Tryd.func72, Tryd.ntmps72
  go_upto_region 2 with (first
    | ((with_reducible show wpList _ _ _ ({ dst := some 2, op := Op.alloc _, type := _, pos := _, after := _, guard := _ } :: _) _ _); go_must (refine wpList_alloc_zero rfl 174 rfl (askC ask0) zero_ord14 ?_))
    | ((with_reducible show wpList _ _ _ ({ dst := some 7, op := Op.build _ _, type := _, pos := _, after := _, guard := _ } :: _) _ _); go_must (refine wpList_plain rfl fun K hK => wp_built _ _ _ rfl (by simp only [List.map_toArray, List.map_cons, List.map_nil]; exact built_fld14 _ _ _) (hK _ _ ?_)))
    | ((with_reducible show wpList _ _ _ ({ dst := some 4, op := Op.alloc _, type := _, pos := _, after := _, guard := _ } :: _) _ _); go_must (refine wpList_alloc_zero rfl 189 rfl (fldC none 0 0 false) zero_fld14 ?_))
    | ((with_reducible show wpList _ _ _ ({ dst := none, op := Op.store 189 (.tmp 4) _, type := _, pos := _, after := _, guard := _ } :: _) _ _); go_must (refine wpList_store_new rfl 189 (.tmp 4) (.tmp 7) rfl (fldC A n c false) (size_fld14 _ _ _ _) (fld_one14 _ _ _ _) rfl ?_ ?_ ?_; go_simp; go_simp; intro w4 hr4 hb4 hz4)))
  obtain ⟨g2, hg2⟩ : ∃ g, g = w.heap.size := ⟨_, rfl⟩
  have BA := Lib.hid ((Below.refl w.heap.size w).alloc (Nat.le_refl _) (.cells (askC ask0).toArray 174))
  have R2 := Lib.hid ((Row.new w 174 (askC ask0)).below hb4 (by simp))
  obtain ⟨g4, hg4⟩ : ∃ g, g = (w.alloc (.cells (askC ask0).toArray 174)).heap.size := ⟨_, rfl⟩
  have H24 : Hid (g4 = w.heap.size + 1) := Lib.hid (by rw [hg4]; simp)
  have H42 := Lib.hid hg2
  have B4 := Lib.hid (BA.out.trans (hb4.mono BA.out.size))
  rw [← hg4] at hr4 ⊢
  rw [← hg2] at R2 ⊢
  have F4 : Hid (FIn w4 g4 S zs false) := Lib.hid ⟨⟨A, c, by rw [HL.out]; exact hr4, by rw [HL.out]; exact HX.out.below (B4.out.mono HS0.out), by rw [HL.out]; exact HCC.out.1, HCC.out.2⟩, HZ.out⟩
  have SG : Hid (S ≤ g4) := Lib.hid (by have := H24.out; have := HS0.out; omega)
  clear hr4 hb4 hz4 hg2 hg4 BA
  have HN := Lib.hid (number14 g4 S 4 false zs w4 F4.out SG.out (by omega) (by omega))
  go_wp2_with fail
  refine HN.out.mono ?_
  rintro e w5 ⟨rfl, hf, hb⟩
  have F5 := Lib.hid hf
  have HB5 := Lib.hid hb
  have R25 := Lib.hid (hb.row R2.out (by have := H24.out; have := H42.out; omega))
  have B5 := Lib.hid (B4.out.trans (hb.below (by have := H24.out; omega) B4.out.size))
  have L25 := Lib.hid R25.out.lt
  clear hf hb HN R2 F4
  go_upto_region 3 with (first
    | ((with_reducible show wpList _ _ _ ({ dst := some 9, op := Op.build _ _, type := _, pos := _, after := _, guard := _ } :: _) _ _); go_must (refine wpList_plain rfl fun K hK => wp_built _ _ _ rfl (by simp only [List.map_toArray, List.map_cons, List.map_nil]; exact built_ord1 _) (hK _ _ ?_)))
    | ((with_reducible show wpList _ _ _ ({ dst := some 5, op := Op.alloc _, type := _, pos := _, after := _, guard := _ } :: _) _ _); go_must (refine wpList_alloc_zero rfl 174 rfl (askC ask0) zero_ord14 ?_))
    | ((with_reducible show wpList _ _ _ ({ dst := none, op := Op.store 174 (.tmp 5) _, type := _, pos := _, after := _, guard := _ } :: _) _ _); go_must (refine wpList_store_new rfl 174 (.tmp 5) (.tmp 9) rfl (askC ⟨numS zs false 4, 0, 0, key0⟩) (size_ord14 key0_ok.1) (ask_one _) rfl ?_ ?_ ?_; go_simp; go_simp; intro w6 hr6 hb6 hz6)))
  obtain ⟨g5, hg5⟩ : ∃ g, g = w5.heap.size := ⟨_, rfl⟩
  have P6 : Hid (RS4 w w6 g2 g4 w5.heap.size S (resS zs 4) (shS zs false 4) ⟨numS zs false 4, 0, 0, key0⟩) := Lib.hid ⟨B5.out.trans (hb6.mono B5.out.size), R25.out.below hb6 R25.out.lt, F5.out.keep SG.out (But.of_below hb6 w5.heap.size) (Ne.symm (Nat.ne_of_lt F5.out.lt)) (Nat.le_trans HS0.out B5.out.size), hr6, ⟨by have := H24.out; have := H42.out; omega, Ne.symm (Nat.ne_of_lt F5.out.lt), Nat.ne_of_lt L25.out⟩, ⟨Nat.le_of_eq H42.out.symm, by have := H24.out; omega, B5.out.size, HS0.out⟩⟩
  rw [← hg5] at P6 ⊢
  clear hr6 hb6 hz6 hg5 F5 HB5 R25 B5 L25 B4 SG H24 H42 HX HCC HL
  rw [HT.out] at P6
  have c50 : w6.cell? ⟨g5, 0, none⟩ = some (.int .u64 8) := P6.out.r5.cell 0
  go_upto_region 14 with fail
  clear c50
  have HN := Lib.hid (number14 g4 S 8 (shS zs false 4) (resS zs 4) w6 P6.out.f P6.out.sg (by omega) (by omega))
  go_wp2_with fail
  refine HN.out.mono ?_
  rintro e w7 ⟨rfl, hf, hb⟩
  have PM := Lib.hid (P6.out.but hf hb)
  clear hf hb HN P6
  have ck : w7.cell? ⟨g5, 2, none⟩ = some (.int .u64 0) := PM.out.r5.cell 2
  have fk := PM.out.r5.frozen 2
  have P7 := Lib.hid (PM.out.set (y' := ⟨8, 0, numS (resS zs 4) (shS zs false 4) 8, key0⟩) 2 (.int .u64 (numS (resS zs 4) (shS zs false 4) 8)) rfl)
  go_upto_region 15 with fail
  clear ck fk PM
  generalize w7.setCell ⟨g5, 2, none⟩ (.int .u64 (numS (resS zs 4) (shS zs false 4) 8)) = w8 at *
  obtain ⟨A5, c5, hrf, _, _, _⟩ := P7.out.f.is
  have HRF := Lib.hid hrf
  clear hrf
  have HOL : Hid ((⟨8, 0, numS (resS zs 4) (shS zs false 4) 8, key0⟩ : LAsk).owner.length = 32) := Lib.hid (key0_ok.1)
  have HE : Hid (rd14 zs = end14 ⟨8, 0, numS (resS zs 4) (shS zs false 4) 8, key0⟩ ((resS (resS zs 4) 8)) ((shS (resS zs 4) (shS zs false 4) 8))) := Lib.hid (by unfold rd14; dsimp only; rw [HT.out]; rfl)
  obtain ⟨n5, hn5⟩ : ∃ n, n = ((resS (resS zs 4) 8)).length := ⟨_, rfl⟩
  rw [← hn5] at HRF
  have HN5 := Lib.hid hn5
  clear hn5
  obtain ⟨y5, hy5⟩ : ∃ y, y = (⟨8, 0, numS (resS zs 4) (shS zs false 4) 8, key0⟩ : LAsk) := ⟨_, rfl⟩
  rw [← hy5] at P7 HOL HE
  clear hy5
  obtain ⟨b5, hb5⟩ : ∃ b, b = (shS (resS zs 4) (shS zs false 4) 8) := ⟨_, rfl⟩
  rw [← hb5] at HE HRF
  clear hb5
  cases b5 with
  | true =>
    have HE2 : Hid (rd14 zs = ⟨y5, false⟩) := Lib.hid (HE.out.trans (by unfold end14; rw [← HN5.out]; rfl))
    have HS : Hid (w8.drew.cell? ⟨g4, 1, none⟩ = some (.bool true) ∧ w8.drew.cell? ⟨g4, 0, none⟩ = some (.slice A5 n5 c5) ∧ Row w8.drew g5 174 (askC y5)) := Lib.hid ⟨HRF.out.drew.cell 1, HRF.out.drew.cell 0, P7.out.r5.drew⟩
    refine wp_region_held_drew (S := (fun V => V.cell? ⟨g4, 1, none⟩ = some (.bool true) ∧ V.cell? ⟨g4, 0, none⟩ = some (.slice A5 n5 c5) ∧ Row V g5 174 (askC y5))) (by kernel_rfl) HS.out (fun _ => ?_)
    refine takeL (i := 0) (v := .agg (askC y5).toArray) rfl (by kernel_rfl) (by kernel_rfl) (by kernel_rfl) (fun _ _ _ h => h) (Or.inl ⟨by rfl, fun wz hwz => exec_load_at wz 174 (.tmp 5) rfl ⟨g5, 0, none⟩ (askC y5) _ Tryd.underlying174 rfl (size_ord14 HOL.out) (fun j u hu => by rw [addr_row, Nat.zero_add]; exact (hwz.2.2.cell j).trans hu) (by go_simp)⟩) HS.out ?_
    try simp only [Act.put, List.setIfInBounds_toArray, List.set_cons_zero, List.set_cons_succ]
    refine takeL (i := 1) (v := ?_) rfl (by kernel_rfl) (by kernel_rfl) (by kernel_rfl) (fun _ _ _ h => h) (Or.inl ⟨by rfl, ?_⟩) HS.out ?_
    rotate_left
    · intro w hw
      try dsimp only at hw
      obtain ⟨hc1, hc0, hr5⟩ := hw
      go_simp
      try with_reducible rfl
    try simp only [Act.put, List.setIfInBounds_toArray, List.set_cons_zero, List.set_cons_succ]
    refine takeL (i := 2) (v := ?_) rfl (by kernel_rfl) (by kernel_rfl) (by kernel_rfl) (fun _ _ _ h => h) (Or.inl ⟨by rfl, ?_⟩) HS.out ?_
    rotate_left
    · intro w hw
      try dsimp only at hw
      obtain ⟨hc1, hc0, hr5⟩ := hw
      go_simp
      try with_reducible rfl
    try simp only [Act.put, List.setIfInBounds_toArray, List.set_cons_zero, List.set_cons_succ]
    refine takeL (i := 3) (v := ?_) rfl (by kernel_rfl) (by kernel_rfl) (by kernel_rfl) (fun _ _ _ h => h) (Or.inl ⟨by rfl, ?_⟩) HS.out ?_
    rotate_left
    · intro w hw
      try dsimp only at hw
      obtain ⟨hc1, hc0, hr5⟩ := hw
      go_simp
      try with_reducible rfl
    try simp only [Act.put, List.setIfInBounds_toArray, List.set_cons_zero, List.set_cons_succ]
    refine takeL (i := 4) (v := ?_) rfl (by kernel_rfl) (by kernel_rfl) (by kernel_rfl) (fun _ _ _ h => h) (Or.inl ⟨by rfl, ?_⟩) HS.out ?_
    rotate_left
    · intro w hw
      try dsimp only at hw
      obtain ⟨hc1, hc0, hr5⟩ := hw
      go_simp
      try with_reducible rfl
    try simp only [Act.put, List.setIfInBounds_toArray, List.set_cons_zero, List.set_cons_succ]
    refine takeL (i := 5) (v := undef) rfl (by kernel_rfl) (by kernel_rfl) (by kernel_rfl) (fun _ _ _ h => h) (Or.inr ⟨by rfl, rfl⟩) HS.out ?_
    try simp only [Act.put, List.setIfInBounds_toArray, List.set_cons_zero, List.set_cons_succ]
    refine takeL (i := 6) (v := undef) rfl (by kernel_rfl) (by kernel_rfl) (by kernel_rfl) (fun _ _ _ h => h) (Or.inr ⟨by rfl, rfl⟩) HS.out ?_
    try simp only [Act.put, List.setIfInBounds_toArray, List.set_cons_zero, List.set_cons_succ]
    refine takeL (i := 7) (v := undef) rfl (by kernel_rfl) (by kernel_rfl) (by kernel_rfl) (fun _ _ _ h => h) (Or.inr ⟨by rfl, rfl⟩) HS.out ?_
    try simp only [Act.put, List.setIfInBounds_toArray, List.set_cons_zero, List.set_cons_succ]
    refine takeL (i := 8) (v := undef) rfl (by kernel_rfl) (by kernel_rfl) (by kernel_rfl) (fun _ _ _ h => h) (Or.inr ⟨by rfl, rfl⟩) HS.out ?_
    try simp only [Act.put, List.setIfInBounds_toArray, List.set_cons_zero, List.set_cons_succ]
    refine takeL (i := 9) (v := ?_) rfl (by kernel_rfl) (by kernel_rfl) (by kernel_rfl) (fun _ _ _ h => h) (Or.inl ⟨by rfl, ?_⟩) HS.out ?_
    rotate_left
    · intro w hw
      try dsimp only at hw
      obtain ⟨hc1, hc0, hr5⟩ := hw
      go_simp
      try with_reducible rfl
    try simp only [Act.put, List.setIfInBounds_toArray, List.set_cons_zero, List.set_cons_succ]
    refine readyL (i := 10) rfl (by kernel_rfl) (by kernel_rfl) fun K hK => ?_
    refine wp_store_part 174 (.tmp 2) (.tmp 33) rfl g2 174 0 (askC ask0) (askC y5) P7.out.r2.drew (size_ord14 HOL.out) (by rw [ask_len HOL.out]; decide) (ask_one _) (by go_simp) (by go_simp) (fun w9 hr9 ht9 => ?_)
    rw [List.take_zero, List.nil_append, Nat.zero_add, List.drop_of_length_le (by rw [ask_len HOL.out]; decide), List.append_nil] at hr9
    have R9 := Lib.hid hr9
    have BF := Lib.hid ((show Below w.heap.size w w8.drew from P7.out.b.trans ⟨rfl, rfl, rfl, Nat.le_refl _, fun _ _ => rfl⟩).trans (ht9.below P7.out.lo.1))
    have HS9 : Hid (w9.cell? ⟨g4, 1, none⟩ = some (.bool true) ∧ w9.cell? ⟨g4, 0, none⟩ = some (.slice A5 n5 c5) ∧ Row w9 g5 174 (askC y5)) := Lib.hid ⟨(ht9.row HRF.out.drew (Ne.symm P7.out.ne.1)).cell 1, (ht9.row HRF.out.drew (Ne.symm P7.out.ne.1)).cell 0, ht9.row P7.out.r5.drew (Ne.symm P7.out.ne.2.2)⟩
    clear hr9 ht9
    refine hK.out _ _ HS9.out ?_
    clear hK K
    try simp only [Act.put]
    refine takeL (i := 11) (v := ?_) rfl (by kernel_rfl) (by kernel_rfl) (by kernel_rfl) (fun _ _ _ h => h) (Or.inl ⟨by rfl, ?_⟩) HS9.out ?_
    rotate_left
    · intro w hw
      try dsimp only at hw
      obtain ⟨hc1, hc0, hr5⟩ := hw
      go_simp
      try with_reducible rfl
    try simp only [Act.put, List.setIfInBounds_toArray, List.set_cons_zero, List.set_cons_succ]
    refine wpAnyH_done (by kernel_rfl) ?_ _
    go_wp2_with fail
    refine bodyPost_ret (results_cell1 (h := rfl) _ w9 ⟨g2, 0, none⟩ (.agg (askC y5).toArray) (.bool false) (by rfl) (by rfl) (run_load_ord14 R9.out (size_ord14 HOL.out))) rfl ?_
    exact rd_ends14 HE2.out HOL.out BF.out
  | false =>
    by_cases hz : n5 = 0
    · subst hz
      have HE2 : Hid (rd14 zs = ⟨y5, true⟩) := Lib.hid (HE.out.trans (by unfold end14; rw [← HN5.out]; simp))
      have HS : Hid (w8.drew.cell? ⟨g4, 1, none⟩ = some (.bool false) ∧ w8.drew.cell? ⟨g4, 0, none⟩ = some (.slice A5 0 c5) ∧ Row w8.drew g5 174 (askC y5)) := Lib.hid ⟨HRF.out.drew.cell 1, HRF.out.drew.cell 0, P7.out.r5.drew⟩
      refine wp_region_held_drew (S := (fun V => V.cell? ⟨g4, 1, none⟩ = some (.bool false) ∧ V.cell? ⟨g4, 0, none⟩ = some (.slice A5 0 c5) ∧ Row V g5 174 (askC y5))) (by kernel_rfl) HS.out (fun _ => ?_)
      refine takeL (i := 0) (v := .agg (askC y5).toArray) rfl (by kernel_rfl) (by kernel_rfl) (by kernel_rfl) (fun _ _ _ h => h) (Or.inl ⟨by rfl, fun wz hwz => exec_load_at wz 174 (.tmp 5) rfl ⟨g5, 0, none⟩ (askC y5) _ Tryd.underlying174 rfl (size_ord14 HOL.out) (fun j u hu => by rw [addr_row, Nat.zero_add]; exact (hwz.2.2.cell j).trans hu) (by go_simp)⟩) HS.out ?_
      try simp only [Act.put, List.setIfInBounds_toArray, List.set_cons_zero, List.set_cons_succ]
      refine takeL (i := 1) (v := ?_) rfl (by kernel_rfl) (by kernel_rfl) (by kernel_rfl) (fun _ _ _ h => h) (Or.inl ⟨by rfl, ?_⟩) HS.out ?_
      rotate_left
      · intro w hw
        try dsimp only at hw
        obtain ⟨hc1, hc0, hr5⟩ := hw
        go_simp
        try with_reducible rfl
      try simp only [Act.put, List.setIfInBounds_toArray, List.set_cons_zero, List.set_cons_succ]
      refine takeL (i := 2) (v := ?_) rfl (by kernel_rfl) (by kernel_rfl) (by kernel_rfl) (fun _ _ _ h => h) (Or.inl ⟨by rfl, ?_⟩) HS.out ?_
      rotate_left
      · intro w hw
        try dsimp only at hw
        obtain ⟨hc1, hc0, hr5⟩ := hw
        go_simp
        try with_reducible rfl
      try simp only [Act.put, List.setIfInBounds_toArray, List.set_cons_zero, List.set_cons_succ]
      refine takeL (i := 3) (v := ?_) rfl (by kernel_rfl) (by kernel_rfl) (by kernel_rfl) (fun _ _ _ h => h) (Or.inl ⟨by rfl, ?_⟩) HS.out ?_
      rotate_left
      · intro w hw
        try dsimp only at hw
        obtain ⟨hc1, hc0, hr5⟩ := hw
        go_simp
        try with_reducible rfl
      try simp only [Act.put, List.setIfInBounds_toArray, List.set_cons_zero, List.set_cons_succ]
      refine takeL (i := 4) (v := ?_) rfl (by kernel_rfl) (by kernel_rfl) (by kernel_rfl) (fun _ _ _ h => h) (Or.inl ⟨by rfl, ?_⟩) HS.out ?_
      rotate_left
      · intro w hw
        try dsimp only at hw
        obtain ⟨hc1, hc0, hr5⟩ := hw
        go_simp
        try with_reducible rfl
      try simp only [Act.put, List.setIfInBounds_toArray, List.set_cons_zero, List.set_cons_succ]
      refine takeL (i := 5) (v := ?_) rfl (by kernel_rfl) (by kernel_rfl) (by kernel_rfl) (fun _ _ _ h => h) (Or.inl ⟨by rfl, ?_⟩) HS.out ?_
      rotate_left
      · intro w hw
        try dsimp only at hw
        obtain ⟨hc1, hc0, hr5⟩ := hw
        go_simp
        try with_reducible rfl
      try simp only [Act.put, List.setIfInBounds_toArray, List.set_cons_zero, List.set_cons_succ]
      refine takeL (i := 6) (v := ?_) rfl (by kernel_rfl) (by kernel_rfl) (by kernel_rfl) (fun _ _ _ h => h) (Or.inl ⟨by rfl, ?_⟩) HS.out ?_
      rotate_left
      · intro w hw
        try dsimp only at hw
        obtain ⟨hc1, hc0, hr5⟩ := hw
        go_simp
        try with_reducible rfl
      try simp only [Act.put, List.setIfInBounds_toArray, List.set_cons_zero, List.set_cons_succ]
      refine takeL (i := 7) (v := ?_) rfl (by kernel_rfl) (by kernel_rfl) (by kernel_rfl) (fun _ _ _ h => h) (Or.inl ⟨by rfl, ?_⟩) HS.out ?_
      rotate_left
      · intro w hw
        try dsimp only at hw
        obtain ⟨hc1, hc0, hr5⟩ := hw
        go_simp
        try with_reducible rfl
      try simp only [Act.put, List.setIfInBounds_toArray, List.set_cons_zero, List.set_cons_succ]
      refine takeL (i := 8) (v := ?_) rfl (by kernel_rfl) (by kernel_rfl) (by kernel_rfl) (fun _ _ _ h => h) (Or.inl ⟨by rfl, ?_⟩) HS.out ?_
      rotate_left
      · intro w hw
        try dsimp only at hw
        obtain ⟨hc1, hc0, hr5⟩ := hw
        go_simp
        try with_reducible rfl
      try simp only [Act.put, List.setIfInBounds_toArray, List.set_cons_zero, List.set_cons_succ]
      refine takeL (i := 9) (v := ?_) rfl (by kernel_rfl) (by kernel_rfl) (by kernel_rfl) (fun _ _ _ h => h) (Or.inl ⟨by rfl, ?_⟩) HS.out ?_
      rotate_left
      · intro w hw
        try dsimp only at hw
        obtain ⟨hc1, hc0, hr5⟩ := hw
        go_simp
        try with_reducible rfl
      try simp only [Act.put, List.setIfInBounds_toArray, List.set_cons_zero, List.set_cons_succ]
      refine readyL (i := 10) rfl (by kernel_rfl) (by kernel_rfl) fun K hK => ?_
      refine wp_store_part 174 (.tmp 2) (.tmp 33) rfl g2 174 0 (askC ask0) (askC y5) P7.out.r2.drew (size_ord14 HOL.out) (by rw [ask_len HOL.out]; decide) (ask_one _) (by go_simp) (by go_simp) (fun w9 hr9 ht9 => ?_)
      rw [List.take_zero, List.nil_append, Nat.zero_add, List.drop_of_length_le (by rw [ask_len HOL.out]; decide), List.append_nil] at hr9
      have R9 := Lib.hid hr9
      have BF := Lib.hid ((show Below w.heap.size w w8.drew from P7.out.b.trans ⟨rfl, rfl, rfl, Nat.le_refl _, fun _ _ => rfl⟩).trans (ht9.below P7.out.lo.1))
      have HS9 : Hid (w9.cell? ⟨g4, 1, none⟩ = some (.bool false) ∧ w9.cell? ⟨g4, 0, none⟩ = some (.slice A5 0 c5) ∧ Row w9 g5 174 (askC y5)) := Lib.hid ⟨(ht9.row HRF.out.drew (Ne.symm P7.out.ne.1)).cell 1, (ht9.row HRF.out.drew (Ne.symm P7.out.ne.1)).cell 0, ht9.row P7.out.r5.drew (Ne.symm P7.out.ne.2.2)⟩
      clear hr9 ht9
      refine hK.out _ _ HS9.out ?_
      clear hK K
      try simp only [Act.put]
      refine takeL (i := 11) (v := ?_) rfl (by kernel_rfl) (by kernel_rfl) (by kernel_rfl) (fun _ _ _ h => h) (Or.inl ⟨by rfl, ?_⟩) HS9.out ?_
      rotate_left
      · intro w hw
        try dsimp only at hw
        obtain ⟨hc1, hc0, hr5⟩ := hw
        go_simp
        try with_reducible rfl
      try simp only [Act.put, List.setIfInBounds_toArray, List.set_cons_zero, List.set_cons_succ]
      refine wpAnyH_done (by kernel_rfl) ?_ _
      go_wp2_with fail
      refine bodyPost_ret (results_cell1 (h := rfl) _ w9 ⟨g2, 0, none⟩ (.agg (askC y5).toArray) (.bool true) (by rfl) (by rfl) (run_load_ord14 R9.out (size_ord14 HOL.out))) rfl ?_
      exact rd_ends14 HE2.out HOL.out BF.out
    · have hz2 : ((n5 : Int) == 0) = false := by simpa using hz
      have HE2 : Hid (rd14 zs = ⟨y5, false⟩) := Lib.hid (HE.out.trans (by unfold end14; rw [← HN5.out]; simp [hz]))
      have HS : Hid (w8.drew.cell? ⟨g4, 1, none⟩ = some (.bool false) ∧ w8.drew.cell? ⟨g4, 0, none⟩ = some (.slice A5 n5 c5) ∧ Row w8.drew g5 174 (askC y5)) := Lib.hid ⟨HRF.out.drew.cell 1, HRF.out.drew.cell 0, P7.out.r5.drew⟩
      refine wp_region_held_drew (S := (fun V => V.cell? ⟨g4, 1, none⟩ = some (.bool false) ∧ V.cell? ⟨g4, 0, none⟩ = some (.slice A5 n5 c5) ∧ Row V g5 174 (askC y5))) (by kernel_rfl) HS.out (fun _ => ?_)
      refine takeL (i := 0) (v := .agg (askC y5).toArray) rfl (by kernel_rfl) (by kernel_rfl) (by kernel_rfl) (fun _ _ _ h => h) (Or.inl ⟨by rfl, fun wz hwz => exec_load_at wz 174 (.tmp 5) rfl ⟨g5, 0, none⟩ (askC y5) _ Tryd.underlying174 rfl (size_ord14 HOL.out) (fun j u hu => by rw [addr_row, Nat.zero_add]; exact (hwz.2.2.cell j).trans hu) (by go_simp)⟩) HS.out ?_
      try simp only [Act.put, List.setIfInBounds_toArray, List.set_cons_zero, List.set_cons_succ]
      refine takeL (i := 1) (v := ?_) rfl (by kernel_rfl) (by kernel_rfl) (by kernel_rfl) (fun _ _ _ h => h) (Or.inl ⟨by rfl, ?_⟩) HS.out ?_
      rotate_left
      · intro w hw
        try dsimp only at hw
        obtain ⟨hc1, hc0, hr5⟩ := hw
        go_simp
        try with_reducible rfl
      try simp only [Act.put, List.setIfInBounds_toArray, List.set_cons_zero, List.set_cons_succ]
      refine takeL (i := 2) (v := ?_) rfl (by kernel_rfl) (by kernel_rfl) (by kernel_rfl) (fun _ _ _ h => h) (Or.inl ⟨by rfl, ?_⟩) HS.out ?_
      rotate_left
      · intro w hw
        try dsimp only at hw
        obtain ⟨hc1, hc0, hr5⟩ := hw
        go_simp
        try with_reducible rfl
      try simp only [Act.put, List.setIfInBounds_toArray, List.set_cons_zero, List.set_cons_succ]
      refine takeL (i := 3) (v := ?_) rfl (by kernel_rfl) (by kernel_rfl) (by kernel_rfl) (fun _ _ _ h => h) (Or.inl ⟨by rfl, ?_⟩) HS.out ?_
      rotate_left
      · intro w hw
        try dsimp only at hw
        obtain ⟨hc1, hc0, hr5⟩ := hw
        go_simp
        try with_reducible rfl
      try simp only [Act.put, List.setIfInBounds_toArray, List.set_cons_zero, List.set_cons_succ]
      refine takeL (i := 4) (v := ?_) rfl (by kernel_rfl) (by kernel_rfl) (by kernel_rfl) (fun _ _ _ h => h) (Or.inl ⟨by rfl, ?_⟩) HS.out ?_
      rotate_left
      · intro w hw
        try dsimp only at hw
        obtain ⟨hc1, hc0, hr5⟩ := hw
        go_simp
        try with_reducible rfl
      try simp only [Act.put, List.setIfInBounds_toArray, List.set_cons_zero, List.set_cons_succ]
      refine takeL (i := 5) (v := ?_) rfl (by kernel_rfl) (by kernel_rfl) (by kernel_rfl) (fun _ _ _ h => h) (Or.inl ⟨by rfl, ?_⟩) HS.out ?_
      rotate_left
      · intro w hw
        try dsimp only at hw
        obtain ⟨hc1, hc0, hr5⟩ := hw
        go_simp
        try with_reducible rfl
      try simp only [Act.put, List.setIfInBounds_toArray, List.set_cons_zero, List.set_cons_succ]
      refine takeL (i := 6) (v := ?_) rfl (by kernel_rfl) (by kernel_rfl) (by kernel_rfl) (fun _ _ _ h => h) (Or.inl ⟨by rfl, ?_⟩) HS.out ?_
      rotate_left
      · intro w hw
        try dsimp only at hw
        obtain ⟨hc1, hc0, hr5⟩ := hw
        go_simp
        try with_reducible rfl
      try simp only [Act.put, List.setIfInBounds_toArray, List.set_cons_zero, List.set_cons_succ]
      refine takeL (i := 7) (v := ?_) rfl (by kernel_rfl) (by kernel_rfl) (by kernel_rfl) (fun _ _ _ h => h) (Or.inl ⟨by rfl, ?_⟩) HS.out ?_
      rotate_left
      · intro w hw
        try dsimp only at hw
        obtain ⟨hc1, hc0, hr5⟩ := hw
        go_simp
        try with_reducible rfl
      try simp only [Act.put, List.setIfInBounds_toArray, List.set_cons_zero, List.set_cons_succ]
      refine takeL (i := 8) (v := ?_) rfl (by kernel_rfl) (by kernel_rfl) (by kernel_rfl) (fun _ _ _ h => h) (Or.inl ⟨by rfl, ?_⟩) HS.out ?_
      rotate_left
      · intro w hw
        try dsimp only at hw
        obtain ⟨hc1, hc0, hr5⟩ := hw
        go_simp
        try with_reducible rfl
      try simp only [Act.put, List.setIfInBounds_toArray, List.set_cons_zero, List.set_cons_succ]
      refine takeL (i := 9) (v := ?_) rfl (by kernel_rfl) (by kernel_rfl) (by kernel_rfl) (fun _ _ _ h => h) (Or.inl ⟨by rfl, ?_⟩) HS.out ?_
      rotate_left
      · intro w hw
        try dsimp only at hw
        obtain ⟨hc1, hc0, hr5⟩ := hw
        go_simp
        try with_reducible rfl
      try simp only [Act.put, List.setIfInBounds_toArray, List.set_cons_zero, List.set_cons_succ]
      refine readyL (i := 10) rfl (by kernel_rfl) (by kernel_rfl) fun K hK => ?_
      refine wp_store_part 174 (.tmp 2) (.tmp 33) rfl g2 174 0 (askC ask0) (askC y5) P7.out.r2.drew (size_ord14 HOL.out) (by rw [ask_len HOL.out]; decide) (ask_one _) (by go_simp) (by go_simp) (fun w9 hr9 ht9 => ?_)
      rw [List.take_zero, List.nil_append, Nat.zero_add, List.drop_of_length_le (by rw [ask_len HOL.out]; decide), List.append_nil] at hr9
      have R9 := Lib.hid hr9
      have BF := Lib.hid ((show Below w.heap.size w w8.drew from P7.out.b.trans ⟨rfl, rfl, rfl, Nat.le_refl _, fun _ _ => rfl⟩).trans (ht9.below P7.out.lo.1))
      have HS9 : Hid (w9.cell? ⟨g4, 1, none⟩ = some (.bool false) ∧ w9.cell? ⟨g4, 0, none⟩ = some (.slice A5 n5 c5) ∧ Row w9 g5 174 (askC y5)) := Lib.hid ⟨(ht9.row HRF.out.drew (Ne.symm P7.out.ne.1)).cell 1, (ht9.row HRF.out.drew (Ne.symm P7.out.ne.1)).cell 0, ht9.row P7.out.r5.drew (Ne.symm P7.out.ne.2.2)⟩
      clear hr9 ht9
      refine hK.out _ _ HS9.out ?_
      clear hK K
      try simp only [Act.put]
      refine takeL (i := 11) (v := ?_) rfl (by kernel_rfl) (by kernel_rfl) (by kernel_rfl) (fun _ _ _ h => h) (Or.inl ⟨by rfl, ?_⟩) HS9.out ?_
      rotate_left
      · intro w hw
        try dsimp only at hw
        obtain ⟨hc1, hc0, hr5⟩ := hw
        go_simp
        try with_reducible rfl
      try simp only [Act.put, List.setIfInBounds_toArray, List.set_cons_zero, List.set_cons_succ]
      refine wpAnyH_done (by kernel_rfl) ?_ _
      go_wp2_with fail
      refine bodyPost_ret (results_cell1 (h := rfl) _ w9 ⟨g2, 0, none⟩ (.agg (askC y5).toArray) (.bool false) (by rfl) (by rfl) (run_load_ord14 R9.out (size_ord14 HOL.out))) rfl ?_
      exact rd_ends14 HE2.out HOL.out BF.out
set_option maxHeartbeats 8000000 in
theorem read_x14 (A : Option Addr) (n c S : Nat) (zs : List Int) (w : World) (hs : Sees w S A n (bv zs)) (hS : S ≤ w.heap.size) (hnc : n ≤ c) (hc : c ≤ maxLen) (hz : AllBytes zs) (ht : numS zs false 4 ≠ 0 ∧ numS zs false 4 ≠ 1 ∧ numS zs false 4 ≠ 2 ∧ numS zs false 4 ≠ 8) :
    Calls Tryd.prog 72 #[.slice A n c] w (ReadDone14 w (rd14 zs)) := by
  have HL := Lib.hid (show zs.length = n by have := hs.len; rwa [bv_length] at this)
  have HX := Lib.hid hs
  have HCC := Lib.hid (And.intro hnc hc)
  have HZ := Lib.hid hz
  have HS0 := Lib.hid hS
  have HT := Lib.hid ht
  clear hs hnc hc hz ht hS
  go_enter Tryd.func72, Tryd.ntmps72
  go_upto_region 2 with (first
    | ((with_reducible show wpList _ _ _ ({ dst := some 2, op := Op.alloc _, type := _, pos := _, after := _, guard := _ } :: _) _ _); go_must (refine wpList_alloc_zero rfl 174 rfl (askC ask0) zero_ord14 ?_))
    | ((with_reducible show wpList _ _ _ ({ dst := some 7, op := Op.build _ _, type := _, pos := _, after := _, guard := _ } :: _) _ _); go_must (refine wpList_plain rfl fun K hK => wp_built _ _ _ rfl (by simp only [List.map_toArray, List.map_cons, List.map_nil]; exact built_fld14 _ _ _) (hK _ _ ?_)))
    | ((with_reducible show wpList _ _ _ ({ dst := some 4, op := Op.alloc _, type := _, pos := _, after := _, guard := _ } :: _) _ _); go_must (refine wpList_alloc_zero rfl 189 rfl (fldC none 0 0 false) zero_fld14 ?_))
    | ((with_reducible show wpList _ _ _ ({ dst := none, op := Op.store 189 (.tmp 4) _, type := _, pos := _, after := _, guard := _ } :: _) _ _); go_must (refine wpList_store_new rfl 189 (.tmp 4) (.tmp 7) rfl (fldC A n c false) (size_fld14 _ _ _ _) (fld_one14 _ _ _ _) rfl ?_ ?_ ?_; go_simp; go_simp; intro w4 hr4 hb4 hz4)))
  obtain ⟨g2, hg2⟩ : ∃ g, g = w.heap.size := ⟨_, rfl⟩
  have BA := Lib.hid ((Below.refl w.heap.size w).alloc (Nat.le_refl _) (.cells (askC ask0).toArray 174))
  have R2 := Lib.hid ((Row.new w 174 (askC ask0)).below hb4 (by simp))
  obtain ⟨g4, hg4⟩ : ∃ g, g = (w.alloc (.cells (askC ask0).toArray 174)).heap.size := ⟨_, rfl⟩
  have H24 : Hid (g4 = w.heap.size + 1) := Lib.hid (by rw [hg4]; simp)
  have H42 := Lib.hid hg2
  have B4 := Lib.hid (BA.out.trans (hb4.mono BA.out.size))
  rw [← hg4] at hr4 ⊢
  rw [← hg2] at R2 ⊢
  have F4 : Hid (FIn w4 g4 S zs false) := Lib.hid ⟨⟨A, c, by rw [HL.out]; exact hr4, by rw [HL.out]; exact HX.out.below (B4.out.mono HS0.out), by rw [HL.out]; exact HCC.out.1, HCC.out.2⟩, HZ.out⟩
  have SG : Hid (S ≤ g4) := Lib.hid (by have := H24.out; have := HS0.out; omega)
  clear hr4 hb4 hz4 hg2 hg4 BA
  have HN := Lib.hid (number14 g4 S 4 false zs w4 F4.out SG.out (by omega) (by omega))
  go_wp2_with fail
  refine HN.out.mono ?_
  rintro e w5 ⟨rfl, hf, hb⟩
  have F5 := Lib.hid hf
  have HB5 := Lib.hid hb
  have R25 := Lib.hid (hb.row R2.out (by have := H24.out; have := H42.out; omega))
  have B5 := Lib.hid (B4.out.trans (hb.below (by have := H24.out; omega) B4.out.size))
  have L25 := Lib.hid R25.out.lt
  clear hf hb HN R2 F4
  go_upto_region 3 with (first
    | ((with_reducible show wpList _ _ _ ({ dst := some 9, op := Op.build _ _, type := _, pos := _, after := _, guard := _ } :: _) _ _); go_must (refine wpList_plain rfl fun K hK => wp_built _ _ _ rfl (by simp only [List.map_toArray, List.map_cons, List.map_nil]; exact built_ord1 _) (hK _ _ ?_)))
    | ((with_reducible show wpList _ _ _ ({ dst := some 5, op := Op.alloc _, type := _, pos := _, after := _, guard := _ } :: _) _ _); go_must (refine wpList_alloc_zero rfl 174 rfl (askC ask0) zero_ord14 ?_))
    | ((with_reducible show wpList _ _ _ ({ dst := none, op := Op.store 174 (.tmp 5) _, type := _, pos := _, after := _, guard := _ } :: _) _ _); go_must (refine wpList_store_new rfl 174 (.tmp 5) (.tmp 9) rfl (askC ⟨numS zs false 4, 0, 0, key0⟩) (size_ord14 key0_ok.1) (ask_one _) rfl ?_ ?_ ?_; go_simp; go_simp; intro w6 hr6 hb6 hz6)))
  obtain ⟨g5, hg5⟩ : ∃ g, g = w5.heap.size := ⟨_, rfl⟩
  have P6 : Hid (RS4 w w6 g2 g4 w5.heap.size S (resS zs 4) (shS zs false 4) ⟨numS zs false 4, 0, 0, key0⟩) := Lib.hid ⟨B5.out.trans (hb6.mono B5.out.size), R25.out.below hb6 R25.out.lt, F5.out.keep SG.out (But.of_below hb6 w5.heap.size) (Ne.symm (Nat.ne_of_lt F5.out.lt)) (Nat.le_trans HS0.out B5.out.size), hr6, ⟨by have := H24.out; have := H42.out; omega, Ne.symm (Nat.ne_of_lt F5.out.lt), Nat.ne_of_lt L25.out⟩, ⟨Nat.le_of_eq H42.out.symm, by have := H24.out; omega, B5.out.size, HS0.out⟩⟩
  rw [← hg5] at P6 ⊢
  clear hr6 hb6 hz6 hg5 F5 HB5 R25 B5 L25 B4 SG H24 H42 HX HCC HL
  have c50 : w6.cell? ⟨g5, 0, none⟩ = some (.int .u64 (numS zs false 4)) := P6.out.r5.cell 0
  have HE : Hid (rd14 zs = ⟨ask0, false⟩) := Lib.hid (by unfold rd14; dsimp only; rw [if_neg HT.out.1, if_neg HT.out.2.1, if_neg HT.out.2.2.1, if_neg HT.out.2.2.2])
  have h0 := HT.out.1
  have h1 := HT.out.2.1
  have h2 := HT.out.2.2.1
  have h8 := HT.out.2.2.2
  have HR2 := Lib.hid P6.out.r2
  have HB6 := Lib.hid P6.out.b
  have HLO := Lib.hid P6.out.lo.1
  clear P6
  generalize numS zs false 4 = t at *
  go_wp2_with (first
    | ((with_reducible show wpList _ _ _ ({ dst := some 12, op := Op.build _ _, type := _, pos := _, after := _, guard := _ } :: _) _ _); go_must (refine wpList_plain rfl fun K hK => wp_built _ _ _ rfl (by simp only [List.map_toArray, List.map_nil]; exact built_ord0) (hK _ _ ?_)))
    | ((with_reducible show wpList _ _ _ ({ dst := none, op := Op.store 174 (.tmp 2) _, type := _, pos := _, after := _, guard := _ } :: _) _ _); go_must (refine wpList_store_whole rfl 174 (.tmp 2) (.tmp 12) rfl g2 (askC ask0) (askC ask0) HR2.out (size_ord14 key0_ok.1) rfl (ask_one _) ?_ ?_ ?_; go_simp; go_simp; intro w9 hr9 ht9; have R9 := Lib.hid hr9; have T9 := Lib.hid ht9; clear hr9 ht9)))
  refine bodyPost_ret (results_cell1 (h := rfl) _ w9 ⟨g2, 0, none⟩ (.agg (askC ask0).toArray) (.bool false) (by rfl) (by rfl) (run_load_ord14 R9.out (size_ord14 key0_ok.1))) rfl ?_
  exact rd_ends14 HE.out key0_ok.1 (HB6.out.trans (T9.out.below HLO.out))
theorem read14 (A : Option Addr) (n c S : Nat) (zs : List Int) (w : World) (hs : Sees w S A n (bv zs)) (hS : S ≤ w.heap.size) (hnc : n ≤ c) (hc : c ≤ maxLen) (hz : AllBytes zs) :
    Calls Tryd.prog 72 #[.slice A n c] w (ReadDone14 w (rd14 zs)) := by
  by_cases h0 : numS zs false 4 = 0
  · exact read_014 A n c S zs w hs hS hnc hc hz h0
  by_cases h1 : numS zs false 4 = 1
  · exact read_114 A n c S zs w hs hS hnc hc hz h1
  by_cases h2 : numS zs false 4 = 2
  · exact read_214 A n c S zs w hs hS hnc hc hz h2
  by_cases h8 : numS zs false 4 = 8
  · exact read_814 A n c S zs w hs hS hnc hc hz h8
  exact read_x14 A n c S zs w hs hS hnc hc hz ⟨h0, h1, h2, h8⟩
end Go.Proofs.YtfaefpniiiandaaDoor
