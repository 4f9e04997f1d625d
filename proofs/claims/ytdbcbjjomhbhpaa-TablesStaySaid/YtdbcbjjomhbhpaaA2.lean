/-
  Parts joined: PutFind Pick Resolve Acts Lives6.
-/
import Derived.Below
import Derived.Laws.OwnMore
import Derived.Deep.AppendLies
import Derived.Deep.Draws
import Derived.Lib.Hide
import Derived.Laws.MakeOwn
import Derived.Laws.CopyOwn
import Derived.Laws.Rows
import Derived.Laws.BitsAllLaws
import Derived.WalkKit
import Derived.Test.YtdbcbjjomhbhpaaRows
import Derived.WalkSpells
import Derived.WalkLawsBesides
import Derived.IntWalk
import Derived.Maps.AppendAt
import Derived.OwnWalk
import Derived.Deep.MidRow
import Derived.Deep.WholeRow
import Derived.Great.BuildSlice
import Derived.ProofKit
import Derived.OpenShut
import Derived.ShutString
import Derived.ChangeOld
import Derived.Lib.SmallJoins
import Derived.Recover
import Derived.Deep.RegionHeld
import Derived.Deep.QuietTactic
import Derived.BigQuiet
import Derived.Deep.Slices
import Derived.Deep.Strs
import Derived.SizedLaws
import Derived.Maps.OwnSet
import Derived.DeepKeys4
import Derived.WideKeyArr
import Derived.ChangeKeysEq
import Derived.Deep.RegionHeld2
import Derived.Deep.CutBlock
import Derived.Laws.Tables
import Derived.Deep.DeepCutAuto
import Derived.Laws.Slices
import Derived.Laws.EntriesVeiled
import Derived.Deep.RegionHeld3
import Derived.WideKeyEntry
import Derived.Shelf.SlMaps.Clone
import Derived.Test.YtdbcbjjomhbhpaaA1
/-
  Of part PutFind: what is needed here.
-/
namespace Go.Proofs.Ytdbcbjjomhbhpaa
open Go.RowKit Go.Maps
set_option linter.unusedVariables false
theorem NoReg.below {w w' : World} {v : Value} (h : NoReg w v) (hb : Below w.heap.size w w') : NoReg w' v := by
  rcases h with rfl | ⟨b, rfl, hr⟩
  · exact .inl rfl
  · exact .inr ⟨b, rfl, hr.below hb hr.lt⟩
set_option maxHeartbeats 400000 in
theorem putNo (v u : Value) (x : List Int) (w : World) (h : NoReg w v) :
    Calls Try.prog 13 #[v, .agg (bv x).toArray, u] w fun e w' => e = .returned (.int .i64 2) ∧ Below w.heap.size w w' := by
  have hb0 : Below w.heap.size w (w.alloc (.cells (bv x).toArray 32)) := (Below.refl _ _).alloc (Nat.le_refl _) _
  have HT := Lib.hid (there_no v _ (h.below hb0))
  have HB := Lib.hid hb0
  clear h hb0
  generalize (bv x).toArray = X at *
  go_enter Try.func13, Try.ntmps13
  go_wp2_with (go_at_call 25; refine HT.out.mono ?_; rintro e w' ⟨rfl, rfl⟩)
  go_ret
  exact ⟨rfl, HB.out⟩
set_option maxHeartbeats 400000 in
theorem findNo (v : Value) (x : List Int) (w : World) (h : NoReg w v) :
    Calls Try.prog 18 #[v, .agg (bv x).toArray] w fun e w' => e = .returned (.tuple #[nilK, .int .i64 2]) ∧ Below w.heap.size w w' := by
  have hb0 : Below w.heap.size w (w.alloc (.cells (bv x).toArray 32)) := (Below.refl _ _).alloc (Nat.le_refl _) _
  have HT := Lib.hid (there_no v _ (h.below hb0))
  have HB := Lib.hid hb0
  clear h hb0
  generalize (bv x).toArray = X at *
  go_enter Try.func18, Try.ntmps18
  go_wp2_with (go_at_call 25; refine HT.out.mono ?_; rintro e w' ⟨rfl, rfl⟩)
  go_ret2
  exact ⟨rfl, HB.out⟩
def PutTDone (w : World) (rb mb n : Nat) (ts : List LTab) (x : List Int) (l : List (List Int)) (e : Ending) (w' : World) : Prop :=
  e = .returned (.int .i64 (mayPut ts x l)) ∧ Reg w' rb mb w'.heap.size (n + 1) (putT ts x l) ∧ w.grownBy w' (some mb)
theorem grown_below {w w' : World} {r : Option Nat} (hb : Below w.heap.size w w') : w.grownBy w' r := ⟨hb.os, hb.tape, hb.output, hb.size, fun k hk _ => hb.block k hk⟩
/-- nothing is put -/
theorem PutTDone.not {w w' : World} {rb mb hi n : Nat} {ts : List LTab} {x : List Int} {l : List (List Int)} (h : Reg w rb mb hi n ts) (hb : Below w.heap.size w w') {c : Int} (hm : mayPut ts x l = c) (hc : c ≠ 0) : PutTDone w rb mb n ts x l (.returned (.int .i64 c)) w' := by
  have e : putT ts x l = ts := by unfold putT; rw [if_neg (by rw [hm]; exact hc)]
  refine ⟨by rw [hm], ?_, grown_below hb⟩
  rw [e]
  exact ((h.below (hb.mono h.lt.2.2)).more (Nat.le_trans h.lt.2.2 hb.size) (Nat.le_refl _)).grow (Nat.le_succ _)
set_option maxRecDepth 100000 in
set_option maxHeartbeats 2000000 in
theorem putReg (rb mb hi n : Nat) (ts : List LTab) (x : List Int) (A : Option Addr) (m c B : Nat) (l : List (List Int)) (w : World) (h : Reg w rb mb hi n ts) (hx : KeyOk x) (hl : KeysIn w B A m l) (hB : B ≤ w.heap.size) (hn : n ≤ 1000000) (hm : m ≤ maxLen) :
    Calls Try.prog 13 #[.pointer (some ⟨rb, 0, none⟩), .agg (bv x).toArray, .slice A m c] w (PutTDone w rb mb n ts x l) := by
  have hlen := hl.len
  have hb0 : Below w.heap.size w (w.alloc (.cells (bv x).toArray 32)) := (Below.refl _ _).alloc (Nat.le_refl _) _
  have RX := Lib.hid (Row.new w 32 (bv x))
  have HREG := Lib.hid h
  have hW := h.below (hb0.mono h.lt.2.2)
  have HW := Lib.hid hW
  have HT := Lib.hid (there_yes rb mb _ hW.row)
  have HKX := Lib.hid (hl.below (hb0.mono hB))
  have HB0 := Lib.hid hb0
  have HSZ := Lib.hid (show (Try.prog.info? 32).map (·.size) = some (bv x).length by rw [bv_length, hx.1]; exact size_key)
  have c0 : (w.alloc (.cells (bv x).toArray 32)).cell? ⟨rb, 0, none⟩ = some (.map (some mb)) := hW.row.cell 0
  have hz : (w.alloc (.cells (bv x).toArray 32)).heap.size = w.heap.size + 1 := by simp
  have HZ := Lib.hid hz
  have HL := Lib.hid hlen
  unfold maxLen at hm
  obtain ⟨g, hlk, hg⟩ := hW.look hx
  have HG := Lib.hid hg
  have HX := Lib.hid hx
  have HRL : Hid (rb < w.heap.size) := Lib.hid h.row.lt
  have HRM : Hid (rb ≠ mb) := Lib.hid (h.map_ne h.row)
  have HBM : Hid (w.heap.size ≠ mb) := Lib.hid (hW.map_ne RX.out)
  have HPUT : Hid (∀ (V : World) (g' : Nat), Reg V rb mb hi n ts → mayPut ts x l = 0 → Row V g' 32 (bv l.flatten) → ∃ V', (Instr.mapUpdate 49 (.map (some mb)) (.agg (bv x).toArray) (.slice (some ⟨g', 0, none⟩) l.length l.length)).run Try.prog V = .ok () V' ∧ Reg V' rb mb V.heap.size (n + 1) (putT ts x l) ∧ V.grownBy V' (some mb)) :=
    Lib.hid fun V g' h1 h2 h3 => h1.put hx hl.each (by unfold maxLen; omega) h2 h3
  have hlx : ∀ y ∈ l, y.length = 32 := hl.each
  clear hb0 hW hg h hx hl hz hlen
  generalize hX : bv x = X at *
  clear hX
  generalize hWW : w.alloc (.cells X.toArray 32) = W at *
  have HWW := Lib.hid hWW
  rcases mayPut_cases ts x l with ⟨hm1, hc1⟩ | ⟨hm1, hc1, hs1⟩ | ⟨hm1, hc1, hs1⟩
  · have hE : Hid (PutTDone w rb mb n ts x l (.returned (.int .i64 1)) W) := Lib.hid (PutTDone.not HREG.out HB0.out hm1 (by omega))
    rw [HL.out] at hc1
    clear hm1 hWW hlk hlx
    by_cases h0 : m = 0
    · subst h0
      go_enter Try.func13, Try.ntmps13
      go_upto_region 1 with fail
      rw [HWW.out]
      go_wp2_with (go_at_call 25; refine HT.out.mono ?_; rintro e w' ⟨rfl, rfl⟩)
      go_ret
      exact hE.out
    · have h2 : 256 < m := by omega
      clear hc1
      go_enter Try.func13, Try.ntmps13
      go_upto_region 1 with fail
      rw [HWW.out]
      go_wp2_with (go_at_call 25; refine HT.out.mono ?_; rintro e w' ⟨rfl, rfl⟩)
      go_ret
      exact hE.out
  · have hE : Hid (∀ k, PutTDone w rb mb n ts x l (.returned (.int .i64 12)) (W.drewN k)) := Lib.hid fun k => PutTDone.not (w' := W.drewN k) HREG.out ⟨HB0.out.os, HB0.out.tape, HB0.out.output, HB0.out.size, HB0.out.block⟩ hm1 (by omega)
    rw [HL.out] at hc1
    rw [hs1] at hlk
    generalize seen ts x g = V at *
    have h0 : ((m : Int) == 0) = false := by simp; omega
    have h2 : ¬ ((256 : Int) < (m : Int)) := by omega
    clear hm1 hWW hs1 hlx hc1
    go_enter Try.func13, Try.ntmps13
    go_upto_region 1 with fail
    rw [HWW.out]
    go_wp2_with (go_at_call 25; refine HT.out.mono ?_; rintro e w' ⟨rfl, rfl⟩)
    refine wp_region_quiet_lit (by kernel_rfl) (by kernel_rfl) ?_
    repeat (first
      | ((with_reducible show wpQuiet _ _ _ _ ({ dst := some 25, op := Op.load _ _, type := _, pos := _, after := _, guard := _ } :: _) _); go_must (refine quiet_load_at (by kernel_rfl) 32 (.tmp 4) rfl ⟨w.heap.size, 0, none⟩ X _ Try.underlying32 rfl HSZ.out (by rintro _ ⟨nq, rfl⟩ j v hv; exact (by rw [addr_row, Nat.zero_add]; exact (RX.out.cell j).trans hv)) ?_ ?_; go_simp; go_simp))
      | go_big_quiet_step (fail))
    refine wpQuiet_nil ?_
    intro nq
    go_wp2_with fail
    go_ret
    exact hE.out _
  · rw [HL.out] at hc1
    rw [hs1] at hlk
    generalize seen ts x g = V at *
    have h0 : ((m : Int) == 0) = false := by simp; omega
    have h1 : 1 ≤ m := by omega
    have h2 : ¬ ((256 : Int) < (m : Int)) := by omega
    have h3 : m ≤ 256 := by omega
    have HM := Lib.hid hm1
    clear hm1 hWW hs1 hlx hc1
    go_enter Try.func13, Try.ntmps13
    go_upto_region 1 with fail
    rw [HWW.out]
    go_wp2_with (go_at_call 25; refine HT.out.mono ?_; rintro e w' ⟨rfl, rfl⟩)
    refine wp_region_quiet_lit (by kernel_rfl) (by kernel_rfl) ?_
    repeat (first
      | ((with_reducible show wpQuiet _ _ _ _ ({ dst := some 25, op := Op.load _ _, type := _, pos := _, after := _, guard := _ } :: _) _); go_must (refine quiet_load_at (by kernel_rfl) 32 (.tmp 4) rfl ⟨w.heap.size, 0, none⟩ X _ Try.underlying32 rfl HSZ.out (by rintro _ ⟨nq, rfl⟩ j v hv; exact (by rw [addr_row, Nat.zero_add]; exact (RX.out.cell j).trans hv)) ?_ ?_; go_simp; go_simp))
      | go_big_quiet_step (fail))
    refine wpQuiet_nil ?_
    intro nq
    go_wp2_with fail
    have HS0 : Hid ((W.drewN nq).drew.cell? ⟨rb, 0, none⟩ = some (.map (some mb)) ∧ (∀ j u, X[j]? = some u → (W.drewN nq).drew.cell? ((⟨w.heap.size, 0, none⟩ : Addr).add j) = some u)) := Lib.hid ⟨c0, fun j u hu => by rw [addr_row, Nat.zero_add]; exact (RX.out.cell j).trans hu⟩
    have HB1 : Hid (Below w.heap.size w (W.drewN nq).drew) := Lib.hid ⟨HB0.out.os, HB0.out.tape, HB0.out.output, HB0.out.size, HB0.out.block⟩
    have HR1 : Hid (Reg (W.drewN nq).drew rb mb hi n ts) := Lib.hid (HREG.out.below (HB1.out.mono HREG.out.lt.2.2))
    have HX1 : Hid (Row (W.drewN nq).drew w.heap.size 32 X) := Lib.hid ⟨RX.out.is⟩
    have HC := Lib.hid (copied_ A m c B l (W.drewN nq).drew (HKX.out.below ⟨rfl, rfl, rfl, Nat.le_refl _, fun _ _ => rfl⟩) (Nat.le_trans hB HB1.out.size) h1 h3)
    refine wp_region_held_drew (S := (fun V => V.cell? ⟨rb, 0, none⟩ = some (.map (some mb)) ∧ (∀ j u, X[j]? = some u → V.cell? ((⟨w.heap.size, 0, none⟩ : Addr).add j) = some u))) (by kernel_rfl) HS0.out (fun _ => ?_)
    clear HW HKX HT HB0 RX HZ hlk
    generalize (W.drewN nq).drew = W1 at *
    refine takeL (i := 0) (v := ?_) rfl (by kernel_rfl) (by kernel_rfl) (by kernel_rfl) (fun _ _ _ h => h) (Or.inl ⟨by rfl, ?_⟩) HS0.out ?_
    rotate_left
    · intro w hw
      try dsimp only at hw
      go_simp
      try with_reducible rfl
    try simp only [Act.put, List.setIfInBounds_toArray, List.set_cons_zero, List.set_cons_succ]
    refine takeL (i := 1) (v := ?_) rfl (by kernel_rfl) (by kernel_rfl) (by kernel_rfl) (fun _ _ _ h => h) (Or.inl ⟨by rfl, ?_⟩) HS0.out ?_
    rotate_left
    · intro w hw
      try dsimp only at hw
      go_simp
      try with_reducible rfl
    try simp only [Act.put, List.setIfInBounds_toArray, List.set_cons_zero, List.set_cons_succ]
    refine takeL (i := 2) (v := ?_) rfl (by kernel_rfl) (by kernel_rfl) (by kernel_rfl) (fun _ _ _ h => h) (Or.inl ⟨by rfl, ?_⟩) HS0.out ?_
    rotate_left
    · intro w hw
      try dsimp only at hw
      go_simp
      try with_reducible rfl
    try simp only [Act.put, List.setIfInBounds_toArray, List.set_cons_zero, List.set_cons_succ]
    refine takeL (i := 3) (v := ?_) rfl (by kernel_rfl) (by kernel_rfl) (by kernel_rfl) (fun _ _ _ h => h) (Or.inl ⟨by rfl, ?_⟩) HS0.out ?_
    rotate_left
    · intro w hw
      try dsimp only at hw
      obtain ⟨q0, q1⟩ := hw
      go_simp
      try with_reducible rfl
    try simp only [Act.put, List.setIfInBounds_toArray, List.set_cons_zero, List.set_cons_succ]
    refine takeL (i := 4) (v := .agg X.toArray) rfl (by kernel_rfl) (by kernel_rfl) (by kernel_rfl) (fun _ _ _ h => h) (Or.inl ⟨by rfl, fun wz hwz => exec_load_at wz 32 (.tmp 4) rfl ⟨w.heap.size, 0, none⟩ X _ Try.underlying32 rfl HSZ.out hwz.2 (by go_simp)⟩) HS0.out ?_
    try simp only [Act.put, List.setIfInBounds_toArray, List.set_cons_zero, List.set_cons_succ]
    refine takeL (i := 5) (v := ?_) rfl (by kernel_rfl) (by kernel_rfl) (by kernel_rfl) (fun _ _ _ h => h) (Or.inl ⟨by rfl, ?_⟩) HS0.out ?_
    rotate_left
    · intro w hw
      try dsimp only at hw
      go_simp
      try with_reducible rfl
    try simp only [Act.put, List.setIfInBounds_toArray, List.set_cons_zero, List.set_cons_succ]
    refine readyL (i := 6) rfl (by kernel_rfl) (by kernel_rfl) fun K hK => ?_
    go_simp
    refine HC.out.mono ?_
    rintro e w2 ⟨g2, rfl, hg2, hr2, hb2⟩
    have HX2 : Hid (Row w2 w.heap.size 32 X) := Lib.hid (HX1.out.below hb2 HX1.out.lt)
    have HR2 : Hid (Reg w2 rb mb hi n ts) := Lib.hid (HR1.out.below (hb2.mono HR1.out.lt.2.2))
    have HS2 : Hid (w2.cell? ⟨rb, 0, none⟩ = some (.map (some mb)) ∧ (∀ j u, X[j]? = some u → w2.cell? ((⟨w.heap.size, 0, none⟩ : Addr).add j) = some u)) := Lib.hid ⟨HR2.out.row.cell 0, fun j u hu => by rw [addr_row, Nat.zero_add]; exact (HX2.out.cell j).trans hu⟩
    have HB2 : Hid (Below w.heap.size w w2) := Lib.hid (HB1.out.trans (hb2.mono HB1.out.size))
    obtain ⟨w3, hrun, hreg3, hgr3⟩ := HPUT.out w2 g2 HR2.out HM.out hr2
    rw [HL.out] at hrun
    have HREG3 := Lib.hid hreg3
    have HGR3 := Lib.hid hgr3
    have HS3 : Hid (w3.cell? ⟨rb, 0, none⟩ = some (.map (some mb)) ∧ (∀ j u, X[j]? = some u → w3.cell? ((⟨w.heap.size, 0, none⟩ : Addr).add j) = some u)) := Lib.hid ⟨hreg3.row.cell 0, fun j u hu => by rw [addr_row, Nat.zero_add]; exact ((HX2.out.grown hgr3 (fun e => HBM.out (Option.some.inj e))).cell j).trans hu⟩
    clear hreg3 hgr3 hb2 hr2
    refine hK.out _ _ HS2.out ?_
    clear hK K
    try simp only [Act.put, List.setIfInBounds_toArray, List.set_cons_zero, List.set_cons_succ]
    refine readyL (i := 7) rfl (by kernel_rfl) (by kernel_rfl) fun K hK => ?_
    go_simp
    refine hK.out _ _ HS3.out ?_
    clear hK K
    try simp only [Act.put, List.setIfInBounds_toArray, List.set_cons_zero, List.set_cons_succ]
    refine wpAnyH_done (by kernel_rfl) ?_ _
    go_wp2_with fail
    go_ret
    exact ⟨by rw [HM.out]; rfl, HREG3.out.more (HGR3.out.size) (Nat.le_refl _), grown_trans (grown_below HB2.out) HGR3.out⟩
/-- a list of keys that lies between two marks: its pages, what it shows -/
structure KOut (w : World) (lo hi : Nat) (S : Sl) (l : List (List Int)) : Prop where
  fit : SlFit w (S, Kd.k)
  keys : KeysIn w hi (S.A.map fun g => ⟨g, 0, none⟩) S.n l
  cap : S.n ≤ S.c ∧ S.c ≤ maxLen
  low : ∀ g, S.A = some g → lo ≤ g ∧ g < hi
theorem KOut.nil (w : World) (lo hi : Nat) : KOut w lo hi ⟨none, 0, 0⟩ [] := ⟨⟨rfl, rfl⟩, ⟨rfl, by simp, Sees.nil _ _ _⟩, ⟨Nat.le_refl _, Nat.zero_le _⟩, fun g e => by cases e⟩
theorem KOut.row {w : World} {g lo hi : Nat} {l : List (List Int)} (h : Row w g 32 (bv l.flatten)) (hl : ∀ y ∈ l, y.length = 32) (hn : l.length ≤ 256) (h1 : lo ≤ g) (h2 : g < hi) : KOut w lo hi ⟨some g, l.length, l.length⟩ l :=
  ⟨⟨Nat.le_refl _, by show l.length ≤ _; omega, bv l.flatten, h, by show l.length * 32 ≤ _; rw [bv_length, flatten_len l hl]; exact Nat.le_refl _, fun _ => by show _ = l.length * 32; rw [bv_length, flatten_len l hl]⟩,
    keys_row (ys := []) (by rwa [List.append_nil]) rfl hl h2, ⟨Nat.le_refl _, by show l.length ≤ _; unfold maxLen; omega⟩, fun g' e => by cases e; exact ⟨h1, h2⟩⟩
theorem KOut.below {w w' : World} {lo hi : Nat} {S : Sl} {l : List (List Int)} (h : KOut w lo hi S l) (hb : Below hi w w') : KOut w' lo hi S l :=
  ⟨h.fit.keep fun g hg => hb.block g (h.low g hg).2, h.keys.below hb, h.cap, h.low⟩
theorem KOut.more {w : World} {lo lo' hi hi' : Nat} {S : Sl} {l : List (List Int)} (h : KOut w lo hi S l) (h1 : lo' ≤ lo) (h2 : hi ≤ hi') : KOut w lo' hi' S l :=
  ⟨h.fit, h.keys.more h2, h.cap, fun g hg => ⟨Nat.le_trans h1 (h.low g hg).1, Nat.lt_of_lt_of_le (h.low g hg).2 h2⟩⟩
/-- what Find answers -/
def fErr (ts : List LTab) (x : List Int) : Int := if (findT ts x).isSome then 0 else 11
def fKeys (ts : List LTab) (x : List Int) : List (List Int) := (findT ts x).getD []
def FindDone (w : World) (ts : List LTab) (x : List Int) (e : Ending) (w' : World) : Prop :=
  ∃ S : Sl, e = .returned (.tuple #[S.val, .int .i64 (fErr ts x)]) ∧ KOut w' w.heap.size w'.heap.size S (fKeys ts x) ∧ Below w.heap.size w w'
set_option maxRecDepth 100000 in
set_option maxHeartbeats 2000000 in
theorem findReg (rb mb hi n : Nat) (ts : List LTab) (x : List Int) (w : World) (h : Reg w rb mb hi n ts) (hx : KeyOk x) :
    Calls Try.prog 18 #[.pointer (some ⟨rb, 0, none⟩), .agg (bv x).toArray] w (FindDone w ts x) := by
  have hb0 : Below w.heap.size w (w.alloc (.cells (bv x).toArray 32)) := (Below.refl _ _).alloc (Nat.le_refl _) _
  have RX := Lib.hid (Row.new w 32 (bv x))
  have hW := h.below (hb0.mono h.lt.2.2)
  have HT := Lib.hid (there_yes rb mb _ hW.row)
  have HB0 := Lib.hid hb0
  have HSZ := Lib.hid (show (Try.prog.info? 32).map (·.size) = some (bv x).length by rw [bv_length, hx.1]; exact size_key)
  have c0 : (w.alloc (.cells (bv x).toArray 32)).cell? ⟨rb, 0, none⟩ = some (.map (some mb)) := hW.row.cell 0
  obtain ⟨g, hlk, hg⟩ := hW.look hx
  have HG := Lib.hid hg
  have HGOOD := Lib.hid h.good
  have HHI := Lib.hid h.lt.2.2
  clear hb0 hW hg h hx
  generalize hX : bv x = X at *
  clear hX
  generalize hWW : w.alloc (.cells X.toArray 32) = W at *
  have HWW := Lib.hid hWW
  clear hWW
  have HE := Lib.hid (show fErr ts x = if (findT ts x).isSome then 0 else 11 from rfl)
  have HK := Lib.hid (show fKeys ts x = (findT ts x).getD [] from rfl)
  cases hf : findT ts x with
  | none =>
    have hs : seen ts x g = nilK := by unfold seen; rw [hf]
    rw [hs, hf] at hlk
    rw [hf] at HE HK
    have HF : Hid (∀ k, FindDone w ts x (.returned (.tuple #[nilK, .int .i64 11])) (W.drewN k)) := Lib.hid fun k => ⟨⟨none, 0, 0⟩, by rw [HE.out]; rfl, by rw [HK.out]; exact KOut.nil _ _ _, ⟨HB0.out.os, HB0.out.tape, HB0.out.output, HB0.out.size, HB0.out.block⟩⟩
    unfold nilK at hlk HF
    clear hs hf HG
    go_enter Try.func18, Try.ntmps18
    go_upto_region 1 with fail
    rw [HWW.out]
    go_wp2_with (go_at_call 25; refine HT.out.mono ?_; rintro e w' ⟨rfl, rfl⟩)
    refine wp_region_quiet_lit (by kernel_rfl) (by kernel_rfl) ?_
    repeat (first
      | ((with_reducible show wpQuiet _ _ _ _ ({ dst := some 16, op := Op.load _ _, type := _, pos := _, after := _, guard := _ } :: _) _); go_must (refine quiet_load_at (by kernel_rfl) 32 (.tmp 3) rfl ⟨w.heap.size, 0, none⟩ X _ Try.underlying32 rfl HSZ.out (by rintro _ ⟨nq, rfl⟩ j v hv; exact (by rw [addr_row, Nat.zero_add]; exact (RX.out.cell j).trans hv)) ?_ ?_; go_simp; go_simp))
      | go_big_quiet_step (fail))
    refine wpQuiet_nil ?_
    intro nq
    go_wp2_with fail
    go_ret2
    exact HF.out _
  | some l =>
    have hs : seen ts x g = .slice (some ⟨g, 0, none⟩) l.length l.length := by unfold seen; rw [hf]
    rw [hs, hf] at hlk
    rw [hf] at HE HK
    obtain ⟨hr, hgi⟩ := HG.out l hf
    obtain ⟨h32, h1, h256⟩ := HGOOD.out.find hf
    have HC := Lib.hid (fun k => copied_ (some ⟨g, 0, none⟩) l.length l.length W.heap.size l (W.drewN k) (keys_row (w := W.drewN k) (ys := []) (by rw [List.append_nil]; exact ⟨hr.is⟩) rfl h32 hr.lt) (Nat.le_refl _) h1 h256)
    have H3 := Lib.hid (And.intro h32 h256)
    clear hs hf HG hr hgi h32 h1 h256
    generalize hn : l.length = m at *
    go_enter Try.func18, Try.ntmps18
    go_upto_region 1 with fail
    rw [HWW.out]
    go_wp2_with (go_at_call 25; refine HT.out.mono ?_; rintro e w' ⟨rfl, rfl⟩)
    refine wp_region_quiet_lit (by kernel_rfl) (by kernel_rfl) ?_
    repeat (first
      | ((with_reducible show wpQuiet _ _ _ _ ({ dst := some 16, op := Op.load _ _, type := _, pos := _, after := _, guard := _ } :: _) _); go_must (refine quiet_load_at (by kernel_rfl) 32 (.tmp 3) rfl ⟨w.heap.size, 0, none⟩ X _ Try.underlying32 rfl HSZ.out (by rintro _ ⟨nq, rfl⟩ j v hv; exact (by rw [addr_row, Nat.zero_add]; exact (RX.out.cell j).trans hv)) ?_ ?_; go_simp; go_simp))
      | go_big_quiet_step (fail))
    refine wpQuiet_nil ?_
    intro nq
    go_wp2_with fail
    refine (HC.out nq).mono ?_
    rintro e w2 ⟨g2, rfl, hg2, hr2, hb2⟩
    have R2 := Lib.hid hr2
    have B2 := Lib.hid hb2
    clear hr2 hb2
    go_wp2_with fail
    go_ret2
    have hb3 : Below w.heap.size w w2 := (show Below w.heap.size w (W.drewN nq) from ⟨HB0.out.os, HB0.out.tape, HB0.out.output, HB0.out.size, HB0.out.block⟩).trans (B2.out.mono HB0.out.size)
    subst hn
    refine ⟨⟨some g2, l.length, l.length⟩, by rw [HE.out]; rfl, ?_, hb3⟩
    rw [HK.out]
    exact KOut.row R2.out H3.out.1 H3.out.2 (Nat.le_trans HB0.out.size hg2) R2.out.lt
end Go.Proofs.Ytdbcbjjomhbhpaa

/-
  Of part Pick: what is needed here.
-/
namespace Go.Proofs.Ytdbcbjjomhbhpaa
open Go.RowKit Go.Maps
set_option linter.unusedVariables false
theorem zsz6 : (Value.agg (zeros 32).toArray).cells.size = 32 := by kernel_rfl
/-- an index that is none of n keys -/
def out6 (n : Nat) (a : Int) : Bool := decide ((n : Int) ≤ a)
set_option maxHeartbeats 400000 in
theorem strays6a (z : Int) (tt tc g : Nat) (TA : Option Addr) (w : World) (h0 : 0 ≤ z) (h1 : z < 256) (ct : w.cell? ⟨g, 0, none⟩ = some (.slice TA tt tc)) :
    Calls Try.prog 39 #[.int .u8 z, .pointer (some ⟨g, 0, none⟩)] w fun e w' => e = .returned (.bool (out6 tt z)) ∧ w = w' := by
  by_cases h : (tt : Int) ≤ z
  · have hp : Hid (out6 tt z = true) := Lib.hid (by simp [out6, h])
    go_enter Try.func39, Try.ntmps39
    go_wp2
    go_ret
    exact ⟨told_bool hp.out.symm, rfl⟩
  · have hp : Hid (out6 tt z = false) := Lib.hid (by simp [out6]; omega)
    go_enter Try.func39, Try.ntmps39
    go_wp2
    go_ret
    exact ⟨told_bool hp.out.symm, rfl⟩
set_option maxHeartbeats 800000 in
theorem index_byte6 (A : Option Addr) (n c B g tt tc : Nat) (TA : Option Addr) (l : List Int) (w : World) (hs : Sees w B A n (bv l)) (hb : AllBytes l) (hn : n ≤ 4000) (ct : w.cell? ⟨g, 0, none⟩ = some (.slice TA tt tc)) :
    Calls Try.prog 40 #[.slice A n c, .func (.func 39) #[] #[.pointer (some ⟨g, 0, none⟩)]] w fun e w' => IdxDone (l.any (out6 tt)) e ∧ w = w' := by
  have hl : l.length = n := by have := hs.len; rwa [bv_length] at this
  have HL := Lib.hid hl
  have HB := Lib.hid hb
  clear hl hb
  go_enter Try.func40, Try.ntmps40
  go_wp2
  go_loop [8] (fun i => ∃ k : Nat, k ≤ n ∧ i = .int .i64 k ∧ (l.take k).any (out6 tt) = false) (fun i => n - (intOf i).toNat)
  case atStart => exact ⟨0, Nat.zero_le _, rfl, by simp⟩
  case round =>
    obtain ⟨k, hk, rfl, hany⟩ := hrel
    have HA := Lib.hid hany
    clear hany
    by_cases hlt : k < n
    · obtain ⟨a, rfl, hab, hc⟩ := hs.byte hlt
      have hx := getD_at (l := l) (k := k) (by have := HL.out; omega)
      have hz := HB.out _ (List.mem_of_getElem? hx)
      have h0 := hz.1
      have h1 := hz.2
      have HX := Lib.hid hx
      generalize l.getD k 0 = z at *
      have HC := Lib.hid (strays6a z tt tc g TA w h0 h1 ct)
      clear hx hz
      by_cases hp : out6 tt z = true
      · have HP := Lib.hid hp
        go_wp2_with (go_at_call 39; refine HC.out.mono ?_; rintro e w' ⟨rfl, rfl⟩)
        go_ret
        exact ⟨⟨_, rfl, by constructor; (intro _; exact any_hit HX.out HP.out); (intro _; omega)⟩, rfl⟩
      · have hp : out6 tt z = false := by simpa using hp
        have HP : Hid ((l.take (k + 1)).any (out6 tt) = false) := Lib.hid (by rw [any_take_succ HX.out, HA.out, hp]; rfl)
        go_wp2_with (go_at_call 39; refine HC.out.mono ?_; rintro e w' ⟨rfl, rfl⟩)
        go_round
        case rel => exact ⟨k + 1, by omega, by go_num, HP.out⟩
        case measure => simp [intOf]; omega
    · have hkn : k = n := by omega
      have HE : Hid (l.any (out6 tt) = false) := Lib.hid (by
        have h1 := HA.out
        rwa [hkn, List.take_of_length_le (by rw [HL.out]; exact Nat.le_refl _)] at h1)
      clear hkn
      go_wp2
      go_ret
      exact ⟨⟨_, rfl, by rw [HE.out]; simp⟩, rfl⟩
set_option maxHeartbeats 400000 in
theorem contains_byte6 (A : Option Addr) (n c B g tt tc : Nat) (TA : Option Addr) (l : List Int) (w : World) (hs : Sees w B A n (bv l)) (hb : AllBytes l) (hn : n ≤ 4000) (ct : w.cell? ⟨g, 0, none⟩ = some (.slice TA tt tc)) :
    Calls Try.prog 38 #[.slice A n c, .func (.func 39) #[] #[.pointer (some ⟨g, 0, none⟩)]] w fun e w' => e = .returned (.bool (l.any (out6 tt))) ∧ w = w' := by
  have HI := Lib.hid (index_byte6 A n c B g tt tc TA l w hs hb hn ct)
  clear hs hb
  go_enter Try.func38, Try.ntmps38
  go_wp2_with fail
  refine HI.out.mono ?_
  rintro e w' ⟨⟨r, rfl, hr⟩, rfl⟩
  have HR := Lib.hid hr
  clear hr
  go_wp2_with fail
  go_ret
  exact ⟨told_bool (idx_told HR.out), rfl⟩
set_option maxHeartbeats 800000 in
theorem strays6 (A T : Option Addr) (n c tt tc B : Nat) (l : List Int) (w : World) (hs : Sees w B A n (bv l)) (hB : B ≤ w.heap.size) (hb : AllBytes l) (hn : n ≤ 4000) (ht : tt ≤ 100000) :
    Calls Try.prog 34 #[.slice A n c, .slice T tt tc] w fun e w' => e = .returned (.bool (l.any (out6 tt))) ∧ Below w.heap.size w w' := by
  have hmf : ∀ (fn : Fn) (first cap : Array Value) (w : World), (Instr.makeFunc fn first cap).run Try.prog w = .ok (.func fn first cap) w := fun _ _ _ _ => rfl
  have hb0 : Below w.heap.size w (w.alloc (.cells #[.slice T tt tc] 33)) := (Below.refl w.heap.size w).alloc (Nat.le_refl _) _
  have HB0 := Lib.hid hb0
  have hct : (w.alloc (.cells #[.slice T tt tc] 33)).cell? ⟨w.heap.size, 0, none⟩ = some (.slice T tt tc) := (Row.new w 33 [.slice T tt tc]).cell 0
  have HC := Lib.hid (contains_byte6 A n c B w.heap.size tt tc T l _ (hs.below (hb0.mono hB)) hb hn hct)
  clear hb0 hct hs hb
  go_enter Try.func34, Try.ntmps34
  go_wp2_with (go_at_call 38; refine HC.out.mono ?_; rintro e w' ⟨rfl, rfl⟩)
  go_ret
  exact ⟨rfl, HB0.out⟩
/-- the keys at these places -/
def pickK (l : List (List Int)) (ix : List Int) : List (List Int) := ix.map fun i => l.getD i.toNat []
theorem pickK_take {l : List (List Int)} {ix : List Int} {k : Nat} {z : Int} (h : ix[k]? = some z) : pickK l (ix.take (k + 1)) = pickK l (ix.take k) ++ [l.getD z.toNat []] := by
  unfold pickK
  rw [List.take_add_one, h, List.map_append]
  rfl
theorem pickK_len {l : List (List Int)} {ix : List Int} (h : ∀ y ∈ l, y.length = 32) (hi : ix.any (out6 l.length) = false) (hb : AllBytes ix) : ∀ y ∈ pickK l ix, y.length = 32 := by
  intro y hy
  obtain ⟨i, hi', rfl⟩ := List.mem_map.1 hy
  have h1 : out6 l.length i = false := by
    cases e : out6 l.length i with
    | false => rfl
    | true => rw [List.any_eq_true.2 ⟨i, hi', e⟩] at hi; cases hi
  have h2 : ¬ ((l.length : Int) ≤ i) := by simpa [out6] using h1
  have h3 := (hb i hi').1
  have h4 : i.toNat < l.length := by omega
  rw [List.getD_eq_getElem?_getD, List.getElem?_eq_getElem h4]
  exact h _ (List.getElem_mem h4)
/-- keys are put behind a list of the call's own -/
def PickDone (w : World) (base : Nat) (v : Value) (n m : Nat) (xs : List Value) (ks : List (List Int)) (e : Ending) (w' : World) : Prop :=
  ∃ v', e = .returned v' ∧ w'.ownsRow base 32 32 v' (n + m) (xs ++ bv ks.flatten) ∧ Grew w w' v v'
set_option maxRecDepth 100000 in
set_option maxHeartbeats 2000000 in
theorem pick_ (base B : Nat) (v : Value) (n : Nat) (xs : List Value) (A C : Option Addr) (tt tc k c : Nat) (l : List (List Int)) (ix : List Int) (w : World)
    (hown : w.ownsRow base 32 32 v n xs) (hbase : base ≤ w.heap.size) (hl : KeysIn w B A tt l) (hx : Sees w B C k (bv ix)) (hB : B ≤ base) (hb : AllBytes ix) (hs : ix.any (out6 l.length) = false) (hn : n + k ≤ 1000000) (ht : tt ≤ 256) :
    Calls Try.prog 35 #[v, .slice A tt tc, .slice C k c] w (PickDone w base v n k xs (pickK l ix)) := by
  have hkl : ix.length = k := by have := hx.len; rwa [bv_length] at this
  have HKL := Lib.hid hkl
  have HL := Lib.hid hl
  have HLL := Lib.hid hl.len
  have HX := Lib.hid hx
  have HO := Lib.hid hown
  have HS := Lib.hid hs
  have HBY := Lib.hid hb
  clear hown hl hx hs hb hkl
  go_enter Try.func35, Try.ntmps35
  go_wp2_with fail
  go_loopw [0, 11] (fun u i wr => ∃ j : Nat, j ≤ k ∧ i = .int .i64 j ∧ wr.ownsRow base 32 32 u (n + j) (xs ++ bv (pickK l (ix.take j)).flatten) ∧ Grew w wr v u) (fun u i _ => k - (intOf i).toNat)
  case atStart => exact ⟨0, Nat.zero_le _, rfl, by simpa [pickK, bv, cv] using HO.out, Grew.refl _ _⟩
  case round =>
    obtain ⟨j, hj, rfl, hown, hgr⟩ := hrel
    have HOW := Lib.hid hown
    have HGR := Lib.hid hgr
    have HSZ := Lib.hid hgr.size
    by_cases hlt : j < k
    · have hbl := hgr.below HO.out hbase
      have hbB : Below B w wr := hbl.mono hB
      obtain ⟨a, rfl, hab, hca⟩ := (HX.out.below hbB).byte hlt
      have hxz := getD_at (l := ix) (k := j) (by rw [HKL.out]; exact hlt)
      have hz := HBY.out _ (List.mem_of_getElem? hxz)
      have HXZ := Lib.hid hxz
      generalize ix.getD j 0 = z at *
      obtain ⟨z0, z1⟩ := hz
      have hst : ¬ ((tt : Int) ≤ z) := by
        intro h
        have : ix.any (out6 l.length) = true := any_hit hxz (by rw [HLL.out]; simpa [out6] using h)
        rw [HS.out] at this
        cases this
      obtain ⟨q, rfl⟩ : ∃ q : Nat, z = q := ⟨z.toNat, by omega⟩
      obtain ⟨b, y, rfl, hbb, hy, hat⟩ := (HL.out.below hbB).get (k := q) (by omega)
      have HCS := Lib.hid (show (bv y).length = 32 by rw [bv_length, hat.len])
      have HSX := Lib.hid (show (Try.prog.info? 32).map (·.size) = some (bv y).length by rw [bv_length, hat.len]; exact size_key)
      have CA : Hid (∀ j u, (bv y)[j]? = some u → wr.cell? ((b.add (q * 32)).add j) = some u) := Lib.hid hat.cells
      have H1 := Lib.hid (bv_one y)
      have HNX : Hid (xs ++ bv (pickK l (ix.take (j + 1))).flatten = (xs ++ bv (pickK l (ix.take j)).flatten) ++ bv y) := Lib.hid (by
        rw [pickK_take HXZ.out, show l.getD ((q : Nat) : Int).toNat [] = y by rw [List.getD_eq_getElem?_getD, show ((q : Nat) : Int).toNat = q from rfl, hy]; rfl, List.flatten_append, bv_append]
        simp)
      clear hbl hbB hxz hy hat hown hgr
      generalize hY : bv y = Y at *
      generalize hZ : xs ++ bv (pickK l (ix.take j)).flatten = Z at *
      clear hY hZ
      go_wp2_with (first
        | ((with_reducible show wpList _ _ _ ({ dst := some 19, op := Op.load _ _, type := _, pos := _, after := _, guard := _ } :: _) _ _); go_must (refine wpList_load_at rfl 32 (.tmp 18) rfl (b.add (q * 32)) Y _ Try.underlying32 rfl HSX.out CA.out ?_ ?_; go_simp))
        | (with_reducible show wpList _ _ _ ({ dst := some 20, op := Op.buildSlice _ _ _, type := _, pos := _, after := _, guard := _ } :: _) _ _; go_must (refine wpList_buildOne rfl 33 32 (.tmp 19) rfl Y _ 32 32 Try.underlying33 info_key zsz6 (by omega) (by omega) HCS.out ?_ ?_; go_simp))
        | (at_builtin; go_must (refine wpList_addRow rfl (.tmp 15) (.tmp 20) 33 rfl base 32 _ 32 32 Try.underlying33 info_key zsz6 (by omega) _ (n + j) Z Y 1 HCS.out H1.out rfl ?_ HOW.out ?_ (by have := HSZ.out; omega) (by unfold maxLen; omega) (by omega) ?_; go_simp; go_simp; intro v4 w4 ho4 hg4; have HO4 := Lib.hid ho4; have HG4 := Lib.hid (HGR.out.trans hg4); clear ho4 hg4)))
      go_roundw
      case rel => exact ⟨j + 1, by omega, by go_num, by rw [HNX.out]; exact HO4.out, HG4.out⟩
      case measure => simp [intOf]; omega
    · have hjk : j = k := by omega
      have HD : Hid (PickDone w base v n k xs (pickK l ix) (.returned _) wr) := Lib.hid ⟨_, rfl, by
        have := HOW.out
        rw [hjk, List.take_of_length_le (by rw [HKL.out]; exact Nat.le_refl _)] at this
        exact this, HGR.out⟩
      clear hjk hown hgr
      go_wp2_with fail
      go_ret
      exact HD.out
end Go.Proofs.Ytdbcbjjomhbhpaa

/-
  Of part Resolve: what is needed here.
-/
namespace Go.Proofs.Ytdbcbjjomhbhpaa
open Go.RowKit Go.Maps
set_option linter.unusedVariables false
/-- lookups whose numbers are bytes -/
def LkOk (x : LLook) : Prop := KeyOk x.tab ∧ AllBytes x.wr ∧ AllBytes x.rd
/-- what is wrong with a lookup -/
def errL (ts : List LTab) (x : LLook) : Int := match findT ts x.tab with | none => 11 | some l => if x.wr.any (out6 l.length) || x.rd.any (out6 l.length) then 8 else 0
def wrL (ts : List LTab) (x : LLook) : List (List Int) := pickK (fKeys ts x.tab) x.wr
def rdL (ts : List LTab) (x : LLook) : List (List Int) := pickK (fKeys ts x.tab) x.rd
def resErr (ts : List LTab) : List LLook → Int
  | [] => 0
  | x :: r => if errL ts x = 0 then resErr ts r else errL ts x
def resW (ts : List LTab) (ls : List LLook) : List (List Int) := if resErr ts ls = 0 then ls.flatMap (wrL ts) else []
def resR (ts : List LTab) (ls : List LLook) : List (List Int) := if resErr ts ls = 0 then ls.flatMap (rdL ts) else []
theorem resErr_append (ts : List LTab) : ∀ (a b : List LLook), resErr ts (a ++ b) = if resErr ts a = 0 then resErr ts b else resErr ts a
  | [], b => by simp [resErr]
  | x :: r, b => by
    show (if errL ts x = 0 then resErr ts (r ++ b) else errL ts x) = if (if errL ts x = 0 then resErr ts r else errL ts x) = 0 then resErr ts b else if errL ts x = 0 then resErr ts r else errL ts x
    by_cases e : errL ts x = 0
    · simp only [if_pos e]; exact resErr_append ts r b
    · simp only [if_neg e]
theorem resErr_one (ts : List LTab) (x : LLook) : resErr ts [x] = errL ts x := by
  unfold resErr
  split
  · rename_i h; rw [h]; rfl
  · rfl
theorem resErr_succ {ts : List LTab} {ls : List LLook} {k : Nat} {x : LLook} (h : ls[k]? = some x) (h0 : resErr ts (ls.take k) = 0) : resErr ts (ls.take (k + 1)) = errL ts x := by
  rw [List.take_add_one, h, resErr_append, if_pos h0]
  exact resErr_one ts x
theorem resErr_hit {ts : List LTab} {ls : List LLook} {k : Nat} {x : LLook} (h : ls[k]? = some x) (h0 : resErr ts (ls.take k) = 0) {c : Int} (hc : errL ts x = c) (h1 : c ≠ 0) : resErr ts ls = c := by
  have := resErr_append ts (ls.take (k + 1)) (ls.drop (k + 1))
  rw [List.take_append_drop, resErr_succ h h0, hc, if_neg h1] at this
  exact this
theorem pickK_length (l : List (List Int)) (ix : List Int) : (pickK l ix).length = ix.length := by simp [pickK]
theorem wrs_le (ts : List LTab) : ∀ ls : List LLook, (ls.flatMap (wrL ts)).length ≤ lookSize ls ∧ (ls.flatMap (rdL ts)).length ≤ lookSize ls
  | [] => ⟨Nat.zero_le _, Nat.zero_le _⟩
  | x :: r => by
    obtain ⟨a, b⟩ := wrs_le ts r
    have e : lookSize (x :: r) = (x.wr.length + x.rd.length) + lookSize r := by simp [lookSize]
    rw [e, List.flatMap_cons, List.flatMap_cons, List.length_append, List.length_append, wrL, rdL, pickK_length, pickK_length]
    omega
theorem flatMap_succ {α : Type} (f : LLook → List α) {ls : List LLook} {k : Nat} {x : LLook} (h : ls[k]? = some x) : (ls.take (k + 1)).flatMap f = (ls.take k).flatMap f ++ f x := by
  rw [List.take_add_one, h, List.flatMap_append]
  simp
/-- two lists of keys of the call's own, apart -/
structure Two (w0 : World) (u v : Value) (a b : List (List Int)) (V : World) : Prop where
  ou : V.ownsRow w0.heap.size 32 32 u a.length (bv a.flatten)
  ov : V.ownsRow w0.heap.size 32 32 v b.length (bv b.flatten)
  d : ∀ g, u.ownBlock = some g → v.ownBlock ≠ some g
  b : Below w0.heap.size w0 V
section
variable {w0 V V' : World} {u v u' v' : Value} {a b a' : List (List Int)}
theorem own_row_neN {w : World} {base size n g t : Nat} {e : TypeId} {v : Value} {xs ys : List Value} (h : w.ownsRow base e size v n xs) (hr : Row w g t ys) (hne : e ≠ t) : some g ≠ v.ownBlock := by
  intro hg
  obtain ⟨cur, hc⟩ := own_is h hg.symm
  rw [hr.is] at hc
  injection hc with hc
  injection hc with _ hc
  exact hne hc.symm
theorem Two.below (h : Two w0 u v a b V) (hb : Below V.heap.size V V') : Two w0 u v a b V' := ⟨own_below h.ou hb, own_below h.ov hb, h.d, h.b.trans (hb.mono h.b.size)⟩
theorem Two.pickU (h : Two w0 u v a b V) (hg : Grew V V' u u') (ho : V'.ownsRow w0.heap.size 32 32 u' a'.length (bv a'.flatten)) : Two w0 u' v a' b V' := by
  have hlt := h.ov.lt
  refine ⟨ho, own_keep h.ov (fun g e => hg.grown.block g (hlt g e).2 (fun e' => h.d g e'.symm e)), fun g e e' => ?_, h.b.trans (hg.below h.ou h.b.size)⟩
  rcases hg.fresh g e with h1 | h1
  · exact h.d g h1 e'
  · have := (hlt g e').2
    omega
theorem Two.pickV (h : Two w0 u v a b V) (hg : Grew V V' v v') (ho : V'.ownsRow w0.heap.size 32 32 v' a'.length (bv a'.flatten)) : Two w0 u v' a a' V' := by
  have hlt := h.ou.lt
  refine ⟨own_keep h.ou (fun g e => hg.grown.block g (hlt g e).2 (fun e' => h.d g e e'.symm)), ho, fun g e e' => ?_, h.b.trans (hg.below h.ov h.b.size)⟩
  rcases hg.fresh g e' with h1 | h1
  · exact h.d g e h1
  · have := (hlt g e).2
    omega
end
/-- a list of the call's own, clipped -/
theorem clip_out {w w0 : World} {u : Value} {a : List (List Int)} (ho : w.ownsRow w0.heap.size 32 32 u a.length (bv a.flatten)) (h32 : ∀ y ∈ a, y.length = 32) :
    ∃ S : Sl, u = S.val ∧ S.n = a.length ∧ S.n ≤ S.c ∧ S.c ≤ maxLen ∧ KOut w w0.heap.size w.heap.size ⟨S.A, S.n, S.n⟩ a ∧ ∀ g, S.A = some g → u.ownBlock = some g := by
  obtain ⟨x, hv, hn, hx0, hx1⟩ := own_sl ho
  obtain ⟨A, c, hu, hs, hnc, hcm, _⟩ := own_form2 ho
  obtain ⟨A', n, c'⟩ := x
  have hvv : Value.slice (A'.map fun g => ⟨g, 0, none⟩) n c' = .slice A a.length c := hv.symm.trans hu
  injection hvv with e1 e2 e3
  subst e1 e2 e3
  refine ⟨⟨A', a.length, c'⟩, hv, rfl, hnc, hcm, ⟨?_, ⟨rfl, h32, hs⟩, ⟨Nat.le_refl _, Nat.le_trans hnc hcm⟩, ?_⟩, ?_⟩
  · cases A' with
    | none =>
      have := (hx0 rfl).1
      exact ⟨this, this⟩
    | some g =>
      obtain ⟨b1, b2, _, b4, b5, cur, b6, b7⟩ := hx1 g rfl
      refine ⟨Nat.le_refl _, Nat.le_trans b4 b5, cur, b6, ?_, fun h => absurd h (by show ¬ (32 : Nat) = 64; omega)⟩
      show a.length * 32 ≤ cur.length
      have b4' : a.length ≤ c' := b4
      have b7' : cur.length = c' * 32 := b7
      omega
  · intro g e
    have e' : A' = some g := e
    subst e'
    obtain ⟨b1, b2, _⟩ := hx1 g rfl
    exact ⟨b1, b2⟩
  · intro g e
    have e' : A' = some g := e
    subst e'
    exact (hx1 g rfl).2.2.1
theorem all32 {ts : List LTab} (hg : TsOk ts) : ∀ (ls : List LLook), (∀ x ∈ ls, LkOk x) → resErr ts ls = 0 → (∀ y ∈ ls.flatMap (wrL ts), y.length = 32) ∧ ∀ y ∈ ls.flatMap (rdL ts), y.length = 32
  | [], _, _ => ⟨fun y hy => (by cases hy), fun y hy => (by cases hy)⟩
  | x :: r, hok, h0 => by
    obtain ⟨h1, h2⟩ : errL ts x = 0 ∧ resErr ts r = 0 := by
      unfold resErr at h0
      split at h0
      · exact ⟨‹_›, h0⟩
      · exact absurd h0 ‹_›
    obtain ⟨a, b⟩ := all32 hg r (fun y hy => hok y (List.mem_cons_of_mem _ hy)) h2
    obtain ⟨k0, k1, k2⟩ := hok x (by simp)
    unfold errL at h1
    cases hf : findT ts x.tab with
    | none => rw [hf] at h1; simp at h1
    | some l =>
      rw [hf] at h1
      obtain ⟨h32, _, _⟩ := hg.find hf
      have hx : x.wr.any (out6 l.length) = false ∧ x.rd.any (out6 l.length) = false := by
        simp only [] at h1
        split at h1
        · cases h1
        · rename_i hn
          simpa using hn
      have e : fKeys ts x.tab = l := by unfold fKeys; rw [hf]; rfl
      rw [List.flatMap_cons, List.flatMap_cons]
      unfold wrL rdL
      rw [e]
      refine ⟨fun y hy => ?_, fun y hy => ?_⟩
      · rcases List.mem_append.1 hy with hy | hy
        · exact pickK_len h32 hx.1 k1 y hy
        · exact a y hy
      · rcases List.mem_append.1 hy with hy | hy
        · exact pickK_len h32 hx.2 k2 y hy
        · exact b y hy
/-- what Resolve answers -/
def ResDone (w : World) (ts : List LTab) (ls : List LLook) (e : Ending) (w' : World) : Prop :=
  ∃ S T : Sl, e = .returned (.tuple #[S.val, T.val, .int .i64 (resErr ts ls)]) ∧ KOut w' w.heap.size w'.heap.size S (resW ts ls) ∧ KOut w' w.heap.size w'.heap.size T (resR ts ls) ∧ ((∀ g, S.A = some g → T.A ≠ some g) ∧ S.c = S.n ∧ T.c = T.n) ∧ Below w.heap.size w w'
theorem ResDone.not {w w' : World} {ts : List LTab} {ls : List LLook} {c : Int} (hc : resErr ts ls = c) (h0 : c ≠ 0) (hb : Below w.heap.size w w') : ResDone w ts ls (.returned (.tuple #[nilK, nilK, .int .i64 c])) w' := by
  have h1 : resErr ts ls ≠ 0 := by rw [hc]; exact h0
  refine ⟨⟨none, 0, 0⟩, ⟨none, 0, 0⟩, by rw [hc]; rfl, ?_, ?_, ⟨fun g e => (by cases e), rfl, rfl⟩, hb⟩
  · rw [resW, if_neg h1]; exact KOut.nil _ _ _
  · rw [resR, if_neg h1]; exact KOut.nil _ _ _
set_option maxHeartbeats 400000 in
theorem resolveNo (v u : Value) (w : World) (h : NoReg w v) :
    Calls Try.prog 21 #[v, u] w fun e w' => e = .returned (.tuple #[nilK, nilK, .int .i64 2]) ∧ w = w' := by
  have HT := Lib.hid (there_no v _ h)
  clear h
  go_enter Try.func21, Try.ntmps21
  go_wp2_with (go_at_call 25; refine HT.out.mono ?_; rintro e w' ⟨rfl, rfl⟩)
  go_ret3
  exact ⟨rfl, rfl⟩
set_option maxRecDepth 100000 in
set_option maxHeartbeats 8000000 in
theorem resolveReg (rb mb hi n : Nat) (ts : List LTab) (A : Option Addr) (m c B : Nat) (ls : List LLook) (w : World) (h : Reg w rb mb hi n ts) (hl : LooksIn w B A m ls) (hB : B ≤ w.heap.size) (hok : ∀ x ∈ ls, LkOk x) (hm : m ≤ 4000) (hs : lookSize ls ≤ 4000) :
    Calls Try.prog 21 #[.pointer (some ⟨rb, 0, none⟩), .slice A m c] w (ResDone w ts ls) := by
  have HT := Lib.hid (there_yes rb mb _ h.row)
  have HREG := Lib.hid h
  have HHI := Lib.hid h.lt.2.2
  have HL := Lib.hid hl
  have HLN := Lib.hid hl.len
  have HOK := Lib.hid hok
  have HS := Lib.hid hs
  clear h hl hok hs
  go_enter Try.func21, Try.ntmps21
  go_wp2_with (go_at_call 25; refine HT.out.mono ?_; rintro e w' ⟨rfl, rfl⟩)
  go_loopw [4, 5, 16] (fun u v i wr => ∃ k : Nat, k ≤ m ∧ i = .int .i64 k ∧ resErr ts (ls.take k) = 0 ∧ Two w u v ((ls.take k).flatMap (wrL ts)) ((ls.take k).flatMap (rdL ts)) wr) (fun u v i _ => m - (intOf i).toNat)
  case atStart => exact ⟨0, Nat.zero_le _, rfl, rfl, ⟨World.ownsRow_nil _ _ _ _, World.ownsRow_nil _ _ _ _, fun g e => (by cases e), Below.refl _ _⟩⟩
  case round =>
    obtain ⟨k, hk, rfl, hr0, htwo⟩ := hrel
    have HR0 := Lib.hid hr0
    have H2 := Lib.hid htwo
    have HREGR := Lib.hid (HREG.out.below (htwo.b.mono HHI.out))
    have c0 : wr.cell? ⟨rb, 0, none⟩ = some (.map (some mb)) := HREGR.out.row.cell 0
    have HRB : Hid (rb < wr.heap.size) := Lib.hid HREGR.out.row.lt
    have HSZW : Hid (w.heap.size ≤ wr.heap.size) := Lib.hid htwo.b.size
    clear hr0 htwo
    by_cases hlt : k < m
    · obtain ⟨a, x, va, vd, rfl, hab, hx, hat⟩ := (HL.out.below (H2.out.b.mono hB)).get hlt
      obtain ⟨⟨hkey, hwb, hrb⟩, hmem⟩ := And.intro (HOK.out x (List.mem_of_getElem? hx)) (List.mem_of_getElem? hx)
      have hsz := lsize_mem hmem
      obtain ⟨A1, c1, rfl, hs1, hn1, hc1⟩ := hat.wr.is
      obtain ⟨A2, c2, rfl, hs2, hn2, hc2⟩ := hat.rd.is
      have HX := Lib.hid hx
      have HKEY := Lib.hid hkey
      have HWB := Lib.hid (And.intro hwb hrb)
      have HSN := Lib.hid (show x.wr.length ≤ 4000 ∧ x.rd.length ≤ 4000 by have := HS.out; omega)
      have HS1 := Lib.hid (And.intro hs1 hs2)
      have HON := Lib.hid (lookCells_one (tab := x.tab) hat.wr hat.rd)
      have HCE := Lib.hid hat.cells
      have HSZL := Lib.hid (size_lk hat.len (.slice A1 x.wr.length c1) (.slice A2 x.rd.length c2))
      have HLL : Hid (34 = (bv x.tab ++ [Value.slice A1 x.wr.length c1, .slice A2 x.rd.length c2]).length) := Lib.hid (by simp [bv_length, hat.len])
      have HXL : Hid ((bv x.tab).length = 32) := Lib.hid (by rw [bv_length, hat.len])
      have HSX := Lib.hid (show (Try.prog.info? 32).map (·.size) = some (bv x.tab).length by rw [bv_length, hat.len]; exact size_key)
      have HC32 : Hid (∀ V : World, Row V wr.heap.size 60 (bv x.tab ++ [Value.slice A1 x.wr.length c1, .slice A2 x.rd.length c2]) → V.cell? ⟨wr.heap.size, 32, none⟩ = some (.slice A1 x.wr.length c1) ∧ V.cell? ⟨wr.heap.size, 33, none⟩ = some (.slice A2 x.rd.length c2)) := Lib.hid fun V hr => look_cells hr hat.len
      obtain ⟨g, hlk, hg⟩ := HREGR.out.look_any hkey
      have hmb : mb < wr.heap.size := Nat.lt_of_lt_of_le HREGR.out.lt.2.1 HREGR.out.lt.2.2
      have HLK : Hid (∀ V : World, Below wr.heap.size wr V → ∀ q, (Instr.lookup 49 (.map (some mb)) (.agg (bv x.tab).toArray) true).run Try.prog (V.drewN q) = .ok (.tuple #[seen ts x.tab g, .bool (findT ts x.tab).isSome]) (V.drewN q)) := Lib.hid fun V hV q => hlk _ (hV.block mb hmb)
      clear hmb
      clear hkey hwb hrb hmem hsz hs1 hs2 hn1 hn2 hc1 hc2 hat hx hlk
      generalize hXX : bv x.tab = X at *
      generalize hLL : X ++ [Value.slice A1 x.wr.length c1, .slice A2 x.rd.length c2] = L at *
      have HXI : Hid (∀ j u, X[j]? = some u → L[j]? = some u) := Lib.hid fun j u hu => by
        rw [← hLL, List.getElem?_append_left (List.getElem?_eq_some_iff.1 hu).1]
        exact hu
      clear hXX hLL
      cases hf : findT ts x.tab with
      | none =>
        have hv : seen ts x.tab g = nilK := by unfold seen; rw [hf]
        rw [hv, hf] at HLK
        unfold nilK at HLK
        have HE : Hid (resErr ts ls = 11) := Lib.hid (resErr_hit HX.out HR0.out (by unfold errL; rw [hf]) (by omega))
        clear hv hf hg
        go_wp2_with (first
          | ((with_reducible show wpList _ _ _ ({ dst := some 19, op := Op.load _ _, type := _, pos := _, after := _, guard := _ } :: _) _ _); go_must (refine wpList_load_at rfl 60 (.tmp 18) rfl (a.add (k * 34)) L _ Try.underlying60 rfl HSZL.out HCE.out ?_ ?_; go_simp))
          | (with_reducible show wpList _ _ _ ({ dst := none, op := Op.store 60 _ _, type := _, pos := _, after := _, guard := _ } :: _) _ _; go_must (refine wpList_store_new rfl 60 (.tmp 8) (.tmp 19) rfl L HSZL.out HON.out (by rw [← HLL.out]; kernel_rfl) ?_ ?_ ?_; go_simp; go_simp; intro W hr2 hb2 hz2; have RL := Lib.hid hr2; have BW := Lib.hid hb2; have hlw := HLK.out W hb2; have cW : W.cell? ⟨rb, 0, none⟩ = some (.map (some mb)) := (hb2.cell HRB.out).trans c0; clear hr2 hb2 hz2)))
        try simp only [Act.put]
        refine wp_region_quiet_lit (by kernel_rfl) (by kernel_rfl) ?_
        repeat (first
          | ((with_reducible show wpQuiet _ _ _ _ ({ dst := some 26, op := Op.load _ _, type := _, pos := _, after := _, guard := _ } :: _) _); go_must (refine quiet_load_at (by kernel_rfl) 32 (.tmp 25) rfl ⟨wr.heap.size, 0, none⟩ X _ Try.underlying32 rfl HSX.out (by rintro _ ⟨nq, rfl⟩ j v hv; exact (by rw [addr_row, Nat.zero_add]; exact (RL.out.cell j).trans (HXI.out j v hv))) ?_ ?_; go_simp; go_simp))
          | go_big_quiet_step (fail))
        refine wpQuiet_nil ?_
        intro nq
        go_wp2_with fail
        go_ret3
        exact ResDone.not HE.out (by omega) (H2.out.b.trans ((show Below wr.heap.size wr (W.drewN nq) from ⟨BW.out.os, BW.out.tape, BW.out.output, BW.out.size, BW.out.block⟩).mono H2.out.b.size))
      | some l =>
        have hv : seen ts x.tab g = .slice (some ⟨g, 0, none⟩) l.length l.length := by unfold seen; rw [hf]
        rw [hv, hf] at HLK
        obtain ⟨hgr, hgi⟩ := hg l hf
        obtain ⟨h32, hl1, hl2⟩ := HREG.out.good.find hf
        have HF := Lib.hid hf
        have HG32 := Lib.hid h32
        have HGK : Hid (∀ V : World, Below wr.heap.size wr V → KeysIn V w.heap.size (some ⟨g, 0, none⟩) l.length l) := Lib.hid fun V hV => keys_row (ys := []) (by rw [List.append_nil]; exact hgr.below hV hgr.lt) rfl h32 (Nat.lt_of_lt_of_le hgi HHI.out)
        clear hv hf hg hgr h32
        have HLE := Lib.hid hl2
        obtain ⟨tt, htt⟩ : ∃ tt, tt = l.length := ⟨_, rfl⟩
        have HTT := Lib.hid htt
        rw [← htt] at HLK hl1 hl2
        obtain ⟨n1, hn1⟩ : ∃ n1, n1 = x.wr.length := ⟨_, rfl⟩
        obtain ⟨n2, hn2⟩ : ∃ n2, n2 = x.rd.length := ⟨_, rfl⟩
        have HN1 := Lib.hid hn1
        have HN2 := Lib.hid hn2
        rw [← hn1, ← hn2] at HC32 HS1
        rw [← hn1, ← hn2] at HSN
        clear hn1 hn2 htt
        go_wp2_with (first
          | ((with_reducible show wpList _ _ _ ({ dst := some 19, op := Op.load _ _, type := _, pos := _, after := _, guard := _ } :: _) _ _); go_must (refine wpList_load_at rfl 60 (.tmp 18) rfl (a.add (k * 34)) L _ Try.underlying60 rfl HSZL.out HCE.out ?_ ?_; go_simp))
          | (with_reducible show wpList _ _ _ ({ dst := none, op := Op.store 60 _ _, type := _, pos := _, after := _, guard := _ } :: _) _ _; go_must (refine wpList_store_new rfl 60 (.tmp 8) (.tmp 19) rfl L HSZL.out HON.out (by rw [← HLL.out]; kernel_rfl) ?_ ?_ ?_; go_simp; go_simp; intro W hr2 hb2 hz2; have RL := Lib.hid hr2; have BW := Lib.hid hb2; have hlw := HLK.out W hb2; have cW : W.cell? ⟨rb, 0, none⟩ = some (.map (some mb)) := (hb2.cell HRB.out).trans c0; clear hr2 hb2 hz2)))
        try simp only [Act.put]
        refine wp_region_quiet_lit (by kernel_rfl) (by kernel_rfl) ?_
        repeat (first
          | ((with_reducible show wpQuiet _ _ _ _ ({ dst := some 26, op := Op.load _ _, type := _, pos := _, after := _, guard := _ } :: _) _); go_must (refine quiet_load_at (by kernel_rfl) 32 (.tmp 25) rfl ⟨wr.heap.size, 0, none⟩ X _ Try.underlying32 rfl HSX.out (by rintro _ ⟨nq, rfl⟩ j v hv; exact (by rw [addr_row, Nat.zero_add]; exact (RL.out.cell j).trans (HXI.out j v hv))) ?_ ?_; go_simp; go_simp))
          | go_big_quiet_step (fail))
        refine wpQuiet_nil ?_
        intro nq
        have HBV : Hid (Below wr.heap.size wr (W.drewN nq)) := Lib.hid ⟨BW.out.os, BW.out.tape, BW.out.output, BW.out.size, BW.out.block⟩
        have RV : Hid (Row (W.drewN nq) wr.heap.size 60 L) := Lib.hid ⟨RL.out.is⟩
        have H2V := Lib.hid (H2.out.below HBV.out)
        have cV : (W.drewN nq).cell? ⟨rb, 0, none⟩ = some (.map (some mb)) := cW
        clear RL BW hlw cW
        generalize W.drewN nq = V at *
        obtain ⟨e1, e2⟩ := HC32.out V RV.out
        have C1 := Lib.hid (strays6 A1 (some ⟨g, 0, none⟩) n1 c1 tt tt B x.wr V (HS1.out.1.below (HBV.out.mono (Nat.le_trans hB HSZW.out))) (Nat.le_trans (Nat.le_trans hB HSZW.out) HBV.out.size) HWB.out.1 HSN.out.1 (by omega))
        by_cases hp1 : x.wr.any (out6 tt) = true
        · have HE : Hid (resErr ts ls = 8) := Lib.hid (resErr_hit HX.out HR0.out (by unfold errL; rw [HF.out]; dsimp only; rw [← HTT.out]; simp [hp1]) (by omega))
          rw [hp1] at C1
          clear hp1
          go_wp2_with fail
          refine C1.out.mono ?_
          rintro e w2 ⟨rfl, hb2⟩
          have B2 := Lib.hid hb2
          clear hb2
          go_wp2_with fail
          go_ret3
          exact ResDone.not HE.out (by omega) ((H2V.out.below B2.out).b)
        have hp1 : x.wr.any (out6 tt) = false := by simpa using hp1
        have HP1 := Lib.hid hp1
        rw [hp1] at C1
        clear hp1
        go_wp2_with fail
        refine C1.out.mono ?_
        rintro e w2 ⟨rfl, hb2⟩
        have hb2r : Below wr.heap.size wr w2 := HBV.out.trans (hb2.mono HBV.out.size)
        have HB2 := Lib.hid hb2r
        have H22 := Lib.hid (H2V.out.below hb2)
        have R2 := Lib.hid (RV.out.below hb2 RV.out.lt)
        have hz2 : w.heap.size ≤ w2.heap.size := Nat.le_trans HSZW.out hb2r.size
        have HZ2 := Lib.hid hz2
        obtain ⟨f1, f2⟩ := HC32.out w2 R2.out
        have C2 := Lib.hid (strays6 A2 (some ⟨g, 0, none⟩) n2 c2 tt tt B x.rd w2 (HS1.out.2.below (hb2r.mono (Nat.le_trans hB HSZW.out))) (Nat.le_trans hB hz2) HWB.out.2 HSN.out.2 (by omega))
        clear e1 e2 hb2 hb2r C1 cV H2V RV HBV hz2
        by_cases hp2 : x.rd.any (out6 tt) = true
        · have HE : Hid (resErr ts ls = 8) := Lib.hid (resErr_hit HX.out HR0.out (by unfold errL; rw [HF.out]; dsimp only; rw [← HTT.out]; simp [hp2]) (by omega))
          rw [hp2] at C2
          clear hp2
          go_wp2_with fail
          refine C2.out.mono ?_
          rintro e w3 ⟨rfl, hb3⟩
          have B3 := Lib.hid hb3
          clear hb3
          go_wp2_with fail
          go_ret3
          exact ResDone.not HE.out (by omega) ((H22.out.below B3.out).b)
        have hp2 : x.rd.any (out6 tt) = false := by simpa using hp2
        have HP2 := Lib.hid hp2
        rw [hp2] at C2
        clear hp2
        go_wp2_with fail
        refine C2.out.mono ?_
        rintro e w3 ⟨rfl, hb3⟩
        have hb3r : Below wr.heap.size wr w3 := HB2.out.trans (hb3.mono HB2.out.size)
        have HB3 := Lib.hid hb3r
        have H23 := Lib.hid (H22.out.below hb3)
        have R3 := Lib.hid (R2.out.below hb3 R2.out.lt)
        obtain ⟨g1, g2⟩ := HC32.out w3 R3.out
        have hlen := wrs_le ts (ls.take k)
        have hlk2 := lookSize_take (l := ls) k
        have HSUM : Hid (((ls.take k).flatMap (wrL ts)).length + n1 ≤ 1000000 ∧ ((ls.take k).flatMap (rdL ts)).length + n2 ≤ 1000000) := Lib.hid (by have := HS.out; have := HSN.out; omega)
        have C3 := Lib.hid (pick_ w.heap.size w.heap.size _ _ _ (some ⟨g, 0, none⟩) A1 tt tt n1 c1 l x.wr w3 H23.out.ou H23.out.b.size (by rw [HTT.out]; exact HGK.out w3 hb3r) (((HS1.out.1.below (hb3r.mono (Nat.le_trans hB HSZW.out)))).more hB) (Nat.le_refl _) HWB.out.1 (by rw [← HTT.out]; exact HP1.out) HSUM.out.1 hl2)
        clear f1 f2 hb3 hb3r C2 R2 H22 HB2 hlen hlk2
        go_wp2_with fail
        refine C3.out.mono ?_
        rintro e w4 ⟨u4, rfl, ho4, hg4⟩
        have ho4' : w4.ownsRow w.heap.size 32 32 u4 ((ls.take k).flatMap (wrL ts) ++ pickK l x.wr).length (bv ((ls.take k).flatMap (wrL ts) ++ pickK l x.wr).flatten) := by
          rw [List.length_append, pickK_length, List.flatten_append, bv_append, ← HN1.out]
          exact ho4
        have H24 := Lib.hid (H23.out.pickU hg4 ho4')
        have R4 := Lib.hid (hg4.row R3.out (own_row_neN H23.out.ou R3.out (by decide)))
        have hz4 : w.heap.size ≤ w4.heap.size := H24.out.b.size
        have hb4r : Below w.heap.size wr w4 := (HB3.out.mono HSZW.out).trans (hg4.below H23.out.ou H23.out.b.size)
        have hgk4 : KeysIn w4 w.heap.size (some ⟨g, 0, none⟩) l.length l := (HGK.out w3 HB3.out).below (hg4.below H23.out.ou H23.out.b.size)
        obtain ⟨i1, i2⟩ := HC32.out w4 R4.out
        have C4 := Lib.hid (pick_ w.heap.size w.heap.size _ _ _ (some ⟨g, 0, none⟩) A2 tt tt n2 c2 l x.rd w4 H24.out.ov H24.out.b.size (by rw [HTT.out]; exact hgk4) (((HS1.out.2.below (hb4r.mono hB))).more hB) (Nat.le_refl _) HWB.out.2 (by rw [← HTT.out]; exact HP2.out) HSUM.out.2 hl2)
        clear g1 g2 ho4 ho4' hg4 C3 R3 H23 hz4 hb4r hgk4 HB3
        go_wp2_with fail
        refine C4.out.mono ?_
        rintro e w5 ⟨v5, rfl, ho5, hg5⟩
        have ho5' : w5.ownsRow w.heap.size 32 32 v5 ((ls.take k).flatMap (rdL ts) ++ pickK l x.rd).length (bv ((ls.take k).flatMap (rdL ts) ++ pickK l x.rd).flatten) := by
          rw [List.length_append, pickK_length, List.flatten_append, bv_append, ← HN2.out]
          exact ho5
        have H25 := Lib.hid (H24.out.pickV hg5 ho5')
        clear i1 i2 ho5 ho5' hg5 C4 R4 H24
        have HNX : Hid (resErr ts (ls.take (k + 1)) = 0) := Lib.hid (by
          rw [resErr_succ HX.out HR0.out]
          unfold errL
          rw [HF.out]
          simp only []
          rw [← HTT.out, HP1.out, HP2.out]
          rfl)
        have HNW : Hid ((ls.take (k + 1)).flatMap (wrL ts) = (ls.take k).flatMap (wrL ts) ++ pickK l x.wr ∧ (ls.take (k + 1)).flatMap (rdL ts) = (ls.take k).flatMap (rdL ts) ++ pickK l x.rd) := Lib.hid (by
          rw [flatMap_succ _ HX.out, flatMap_succ _ HX.out]
          unfold wrL rdL fKeys
          rw [HF.out]
          exact ⟨rfl, rfl⟩)
        go_wp2_with fail
        go_roundw
        case rel =>
          refine ⟨k + 1, by omega, by go_num, HNX.out, ?_⟩
          rw [HNW.out.1, HNW.out.2]
          exact H25.out
        case measure => simp [intOf]; omega
    · have hkm : k = m := by omega
      have HTK : Hid (ls.take k = ls) := Lib.hid (List.take_of_length_le (by rw [HLN.out]; omega))
      have HE : Hid (resErr ts ls = 0) := Lib.hid (by have := HR0.out; rwa [HTK.out] at this)
      have HF : Hid (Two w _ _ (ls.flatMap (wrL ts)) (ls.flatMap (rdL ts)) wr) := Lib.hid (by have := H2.out; rw [HTK.out] at this; exact this)
      have h32 : (∀ y ∈ ls.flatMap (wrL ts), y.length = 32) ∧ ∀ y ∈ ls.flatMap (rdL ts), y.length = 32 := by
        have := all32 HREG.out.good ls HOK.out HE.out
        exact this
      obtain ⟨S, rfl, hS1, hS2, hS3, hS4, hS5⟩ := clip_out HF.out.ou h32.1
      obtain ⟨T, rfl, hT1, hT2, hT3, hT4, hT5⟩ := clip_out HF.out.ov h32.2
      have HDONE : Hid (ResDone w ts ls (.returned (.tuple #[.slice (S.A.map fun g => ⟨g, 0, none⟩) S.n S.n, .slice (T.A.map fun g => ⟨g, 0, none⟩) T.n T.n, .int .i64 0])) wr) := Lib.hid
        ⟨⟨S.A, S.n, S.n⟩, ⟨T.A, T.n, T.n⟩, by rw [HE.out]; rfl, by rw [resW, if_pos HE.out]; exact hS4, by rw [resR, if_pos HE.out]; exact hT4, ⟨fun g e e' => HF.out.d g (hS5 g e) (hT5 g e'), rfl, rfl⟩, HF.out.b⟩
      have CS := Lib.hid (clipK (S.A.map fun g => ⟨g, 0, none⟩) S.n S.c wr hS2 hS3)
      have CT := Lib.hid (clipK (T.A.map fun g => ⟨g, 0, none⟩) T.n T.c wr hT2 hT3)
      clear hS1 hS2 hS3 hS4 hS5 hT1 hT2 hT3 hT4 hT5 h32 hkm
      unfold Sl.val
      go_wp2_with fail
      refine CS.out.mono ?_
      rintro e w' ⟨rfl, rfl⟩
      go_wp2_with fail
      refine CT.out.mono ?_
      rintro e w' ⟨rfl, rfl⟩
      go_wp2_with fail
      go_ret3
      exact HDONE.out
end Go.Proofs.Ytdbcbjjomhbhpaa

/-
  Of part Acts: what is needed here.
-/
namespace Go.Proofs.Ytdbcbjjomhbhpaa
open Go.RowKit
set_option linter.unusedVariables false
/-- an act -/
structure LAct where
  kind : Int
  tab : List Int
  keys : List (List Int)
  looks : List LLook
structure ARaw where
  KA : Option Addr
  kn : Nat
  kc : Nat
  LA : Option Addr
  ln : Nat
  lc : Nat
def ARaw.cells (q : ARaw) (x : LAct) : List Value := .int .u8 x.kind :: (bv x.tab ++ [.slice q.KA q.kn q.kc, .slice q.LA q.ln q.lc])
structure ActIn (w : World) (B : Nat) (q : ARaw) (x : LAct) : Prop where
  tab : x.tab.length = 32
  keys : KeysIn w B q.KA q.kn x.keys
  looks : LooksIn w B q.LA q.ln x.looks
  kn : q.kn ≤ q.kc ∧ q.kc ≤ maxLen
  ln : q.ln ≤ q.lc ∧ q.lc ≤ maxLen
/-- its numbers are bytes; its lists are no longer than memory lets them be -/
structure ActOk (x : LAct) : Prop where
  kind : IsByte x.kind
  tab : KeyOk x.tab
  keys : ∀ k ∈ x.keys, k.length = 32
  looks : ∀ y ∈ x.looks, LkOk y
  kn : x.keys.length ≤ 140737488355328
  ln : x.looks.length ≤ 140737488355328
  sizes : ∀ y ∈ x.looks, y.wr.length ≤ 140737488355328 ∧ y.rd.length ≤ 140737488355328
structure ActsIn (w : World) (B : Nat) (A : Option Addr) (n : Nat) (l : List LAct) : Prop where
  len : l.length = n
  at_ : ∀ i x, l[i]? = some x → ∃ a q, A = some a ∧ a.block < B ∧ (∀ j u, (ARaw.cells q x)[j]? = some u → w.cell? (a.add (i * 35 + j)) = some u) ∧ ActIn w B q x
section
variable {w w' : World} {B : Nat} {q : ARaw} {x : LAct} {A : Option Addr} {n : Nat} {l : List LAct}
theorem ActIn.below (h : ActIn w B q x) (hb : Below B w w') : ActIn w' B q x := ⟨h.tab, h.keys.below hb, h.looks.below hb, h.kn, h.ln⟩
theorem ActsIn.below (h : ActsIn w B A n l) (hb : Below B w w') : ActsIn w' B A n l := ⟨h.len, fun i x hx => by
  obtain ⟨a, q, rfl, hab, hc, hi⟩ := h.at_ i x hx
  exact ⟨a, q, rfl, hab, fun j u hu => (hb.cell (by rw [addr_block]; exact hab)).trans (hc j u hu), hi.below hb⟩⟩
theorem ActsIn.get (h : ActsIn w B A n l) {k : Nat} (hk : k < n) : ∃ a q x, A = some a ∧ a.block < B ∧ l[k]? = some x ∧ (∀ j u, (ARaw.cells q x)[j]? = some u → w.cell? ((a.add (k * 35)).add j) = some u) ∧ ActIn w B q x := by
  obtain ⟨x, hx⟩ : ∃ x, l[k]? = some x := ⟨_, List.getElem?_eq_getElem (by rw [h.len]; exact hk)⟩
  obtain ⟨a, q, rfl, hab, hc, hi⟩ := h.at_ k x hx
  exact ⟨a, q, x, rfl, hab, hx, fun j u hu => by rw [addr_add]; exact hc j u hu, hi⟩
theorem acells_len (h : x.tab.length = 32) : (ARaw.cells q x).length = 35 := by simp [ARaw.cells, bv_length, h]
theorem acells_tab {j : Nat} {u : Value} (h : (bv x.tab)[j]? = some u) : (ARaw.cells q x)[1 + j]? = some u := by
  rw [Nat.add_comm]
  show (bv x.tab ++ _)[j]? = _
  rw [List.getElem?_append_left (List.getElem?_eq_some_iff.1 h).1]
  exact h
theorem acells_33 (h : x.tab.length = 32) : (ARaw.cells q x)[33]? = some (.slice q.KA q.kn q.kc) := by
  show (bv x.tab ++ _)[32]? = _
  rw [List.getElem?_append_right (by rw [bv_length, h]; exact Nat.le_refl _), bv_length, h]
  rfl
theorem acells_34 (h : x.tab.length = 32) : (ARaw.cells q x)[34]? = some (.slice q.LA q.ln q.lc) := by
  show (bv x.tab ++ _)[33]? = _
  rw [List.getElem?_append_right (by rw [bv_length, h]; omega), bv_length, h]
  rfl
end
theorem cellsAct : Try.prog.cellsOf 36 = 35 := by kernel_rfl
theorem bytesAct : Try.prog.bytesOf 36 = 88 := by kernel_rfl
theorem size_act : (Try.prog.info? 36).map (·.size) = some 35 := by kernel_rfl
theorem four_of {α : Type} {xs : List α} (h : xs.length = 4) : ∃ a b c d, xs = [a, b, c, d] := by
  match xs, h with
  | [a, b, c, d], _ => exact ⟨a, b, c, d, rfl⟩
section
variable {H : Type} {enc : TypeId × Value → H} {w : World} {base b0 : Nat} {held : Bool}
theorem wt_act {y0 y1 y2 y3 : DataW H} (h : Wt 36 (.agg [y0, y1, y2, y3])) : Wt 33 y2 ∧ Wt 34 y3 := by
  refine ⟨fun n hn => h n ?_, fun n hn => h n ?_⟩ <;> simp only [DataW.weights, Try.underlying36] <;> simp [DataW.weightsEach, hn]
theorem open_act_cells {fuel : Nat} {cs : List Value} {x : DataW H × List MemPlace} (hf : DataW.trod enc Try.prog w base (fun _ => true) held fuel 36 cs = some x) (hw : Wt 36 x.1) :
    ∃ q m, cs = ARaw.cells q m ∧ ActIn w w.heap.size q m ∧ ActOk m := by
  obtain ⟨xs, n, _, hx, hl, hlen, ht⟩ := DataW.trod_struct Try.underlying36 hf
  rw [cellsAct] at hl
  obtain ⟨y0, y1, y2, y3, rfl⟩ := four_of hlen
  have hx1 : x.1 = .agg [y0.1, y1.1, y2.1, y3.1] := by simpa using congrArg Prod.fst hx
  rw [hx1] at hw
  obtain ⟨w2, w3⟩ := wt_act hw
  have t0 : DataW.trod enc Try.prog w base (fun _ => true) held n 5 ((cs.drop 0).take 1) = some y0 := by rw [← cellsU8]; exact ht 0 _ rfl
  have t1 : DataW.trod enc Try.prog w base (fun _ => true) held n 32 ((cs.drop 1).take 32) = some y1 := by rw [← cellsKey]; exact ht 1 _ rfl
  have t2 : DataW.trod enc Try.prog w base (fun _ => true) held n 33 ((cs.drop 33).take 1) = some y2 := by rw [← cellsKeys]; exact ht 2 _ rfl
  have t3 : DataW.trod enc Try.prog w base (fun _ => true) held n 34 ((cs.drop 34).take 1) = some y3 := by rw [← cellsLooks]; exact ht 3 _ rfl
  have hsplit : cs = (cs.drop 0).take 1 ++ ((cs.drop 1).take 32 ++ ((cs.drop 33).take 1 ++ (cs.drop 34).take 1)) := by
    have e5 : cs.drop 34 = (cs.drop 34).take 1 := (List.take_of_length_le (by rw [List.length_drop]; omega)).symm
    rw [← e5, ← cut cs 33 1 34 rfl, ← cut cs 1 32 33 rfl, ← cut cs 0 1 1 rfl]
    rfl
  obtain ⟨c0, hc0⟩ := one_of (cs := (cs.drop 0).take 1) (by simp; omega)
  obtain ⟨v2, hv2⟩ := one_of (cs := (cs.drop 33).take 1) (by simp; omega)
  obtain ⟨v3, hv3⟩ := one_of (cs := (cs.drop 34).take 1) (by simp; omega)
  rw [hc0] at t0
  rw [hv2] at t2
  rw [hv3] at t3
  obtain ⟨i0, hi0, _, wi0⟩ := DataW.trod_int Try.underlying5 t0
  obtain rfl : c0 = .int .u8 i0 := by simpa using hi0
  obtain ⟨z, hz, hz1, hz2⟩ := open_32 Try.underlying32 cellsKey t1
  obtain ⟨KA, kn, kc, ks, rfl, k1, k2, k3, k4, k5⟩ := open_keys t2 w2
  obtain ⟨LA, ln, lc, ls, rfl, l1, l2, l3, l4, l5⟩ := open_looks t3 w3
  refine ⟨⟨KA, kn, kc, LA, ln, lc⟩, ⟨i0, z, ks, ls⟩, ?_, ⟨hz1, k3, l3, ⟨k1, k2⟩, ⟨l1, l2⟩⟩, ⟨byte_wf wi0, ⟨hz1, hz2⟩, fun k hk => (k4 k hk).1, fun y hy => (l4 y hy).1, k5, l5, fun y hy => (l4 y hy).2⟩⟩
  rw [hsplit, hc0, hz, hv2, hv3]
  rfl
theorem open_acts {fuel : Nat} {v : Value} {x : DataW H × List MemPlace} (h : DataW.trod enc Try.prog w base (fun _ => true) held fuel 22 [v] = some x) (hw : Wt 22 x.1) :
    ∃ A n c l, v = .slice A n c ∧ n ≤ c ∧ c ≤ maxLen ∧ ActsIn w w.heap.size A n l ∧ (∀ y ∈ l, ActOk y) ∧ l.length ≤ 140737488355328 := by
  obtain ⟨A, n, c, hcs, h1, h2, h3, h4⟩ := open_sl Try.underlying22 (by rw [cellsAct]; omega) h hw
  obtain rfl : v = .slice A n c := by simpa using hcs
  rw [bytesAct] at h3
  have := reach47
  obtain ⟨l, hl, hp⟩ := list_of (α := LAct) (p := fun i z => ActOk z ∧ ∃ a q, A = some a ∧ a.block < w.heap.size ∧ (∀ j u, (ARaw.cells q z)[j]? = some u → w.cell? (a.add (i * 35 + j)) = some u) ∧ ActIn w w.heap.size q z) n fun i hi => by
    obtain ⟨a, cs', y, m, e1, e2, e3, e4, e5, e6⟩ := h4 i hi
    obtain ⟨q, z, rfl, hz, hz'⟩ := open_act_cells e5 e6
    rw [cellsAct] at e4
    exact ⟨z, hz', a, q, e1, e2, e4, hz⟩
  subst hl
  refine ⟨A, l.length, c, l, rfl, h1, h2, ⟨rfl, fun i x hx => (hp i x hx).2⟩, fun k hk => ?_, by omega⟩
  obtain ⟨i, hi, rfl⟩ := List.getElem_of_mem hk
  exact (hp i _ (List.getElem?_eq_getElem hi)).1
/-- parameters -/
theorem open_act {r : Reach} {v : Value} {d : DataW H} {p : List MemPlace} (hv : Value.okWide Try.prog w r b0 36 v) (h : DataW.Trod enc Try.prog w base (fun _ => true) held 36 v d p) (hw : Wt 36 d) :
    ∃ q m, v = .agg (ARaw.cells q m).toArray ∧ ActIn w w.heap.size q m ∧ ActOk m := by
  simp only [Value.okWide, Try.underlying36] at hv
  obtain ⟨arr, rfl, h2, _⟩ := hv
  obtain ⟨fuel, hf⟩ := h
  obtain ⟨q, m, h3, h4⟩ := open_act_cells hf hw
  refine ⟨q, m, ?_, h4⟩
  have : arr.toList = ARaw.cells q m := h3
  rw [← this]
theorem open_acts_v {A : Option Addr} {n c : Nat} {d : DataW H} {p : List MemPlace} (h : DataW.Trod enc Try.prog w base (fun _ => true) held 22 (.slice A n c) d p) (hw : Wt 22 d) :
    ∃ l, n ≤ c ∧ c ≤ maxLen ∧ ActsIn w w.heap.size A n l ∧ (∀ y ∈ l, ActOk y) ∧ l.length ≤ 140737488355328 := by
  obtain ⟨fuel, hf⟩ := h
  obtain ⟨A', n', c', l, hv, h1⟩ := open_acts (v := .slice A n c) hf hw
  injection hv with e1 e2 e3
  subst e1 e2 e3
  exact ⟨l, h1⟩
theorem open_looks_v {A : Option Addr} {n c : Nat} {d : DataW H} {p : List MemPlace} (h : DataW.Trod enc Try.prog w base (fun _ => true) held 34 (.slice A n c) d p) (hw : Wt 34 d) :
    ∃ l, n ≤ c ∧ c ≤ maxLen ∧ LooksIn w w.heap.size A n l ∧ (∀ i ∈ l, LkOk i ∧ i.wr.length ≤ 140737488355328 ∧ i.rd.length ≤ 140737488355328) ∧ l.length ≤ 140737488355328 := by
  obtain ⟨fuel, hf⟩ := h
  obtain ⟨A', n', c', l, hv, h1, h2, h3, h4, h5⟩ := open_looks (v := .slice A n c) hf hw
  injection hv with e1 e2 e3
  subst e1 e2 e3
  exact ⟨l, h1, h2, h3, h4, h5⟩
end
end Go.Proofs.Ytdbcbjjomhbhpaa

/-
  Of part Lives6: what is needed here.
-/
namespace Go.Proofs.Ytdbcbjjomhbhpaa
open Go.RowKit
set_option linter.unusedVariables false
set_option maxHeartbeats 400000 in
theorem sameKeys (A B : Option Addr) (n c d : Nat) (l : List (List Int)) (w : World) (S T : Nat) (hx : KeysIn w S A n l) (hy : KeysIn w T B n l) (hn : n ≤ maxLen) :
    Calls Try.prog 20 #[.slice A n c, .slice B n d] w fun e w' => e = .returned (.bool true) ∧ ∃ k, w' = w.drewN k := by
  have HC := Lib.hid (same_keys A B n c d l w S T hx hy hn)
  clear hx hy
  go_enter Try.func20, Try.ntmps20
  go_wp2_with fail
  refine HC.out.mono ?_
  rintro e w' ⟨rfl, k, rfl⟩
  go_wp2_with fail
  go_ret
  exact ⟨rfl, k, rfl⟩
theorem info_look6 : (Try.prog.info? 60).map (fun i => (i.zero, i.size, i.bytes)) = some (some (.agg (zeros 32 ++ [Value.slice none 0 0, .slice none 0 0]).toArray), 34, 80) := by kernel_rfl
theorem zsz_look6 : (Value.agg (zeros 32 ++ [Value.slice none 0 0, .slice none 0 0]).toArray).cells.size = 34 := by kernel_rfl
section
variable {P : Program}
/-- a slice literal of three elements of many cells -/
theorem wpList_buildThree {ops : Array Oper} {rest : List Oper} {o : Oper} {a : Act} {w : World} {Q : Exit → Act → World → Prop} (hg : o.guard = none) (t e : TypeId) (y y' y2 : Operand) (ho : o.op = .buildSlice t 3 #[(0, y), (1, y'), (2, y2)])
    (cs cs' cs2 : List Value) (z : Value) (size bytes : Nat) (hu : P.underlying t = some (.slice e)) (hi : (P.info? e).map (fun i => (i.zero, i.size, i.bytes)) = some (some z, size, bytes)) (hzs : z.cells.size = size) (hs0 : 0 < size) (hs1 : size ≤ 1000)
    (hcs : cs.length = size) (hcs' : cs'.length = size) (hcs2 : cs2.length = size) (hy : a.eval y = .agg cs.toArray) (hy' : a.eval y' = .agg cs'.toArray) (hy2 : a.eval y2 = .agg cs2.toArray)
    (h : wpList P ops Q rest (a.put o.dst (.slice (some ⟨w.heap.size, 0, none⟩) 3 3)) (w.alloc (.cells (cs ++ (cs' ++ cs2)).toArray e))) : wpList P ops Q (o :: rest) a w := by
  obtain ⟨ie, hie, h1, h2, _⟩ := info_parts hi
  subst h2
  refine wpList_buildSlice hg t e 3 _ ho (cs ++ (cs' ++ cs2)).toArray ie z hu hie h1 (by omega) (by omega) ?_ h
  have := Go.Great.fill_whole (s := ie.size) hs0 [Value.agg cs.toArray, Value.agg cs'.toArray, Value.agg cs2.toArray] ((Array.range (3 * ie.size)).map (z.cells[· % z.cells.size]!)) (by simp [Value.cells, hcs, hcs', hcs2]) (by simp)
  simpa [hy, hy', hy2, Value.cells] using this
end
def yks : List (List Int) := [xk 1, xk 2, xk 3]
def yts : List LTab := [⟨xk 9, yks⟩]
def y1 : List LLook := [⟨xk 9, [2], [0, 1]⟩]
def y2 : List LLook := [⟨xk 9, [], [3]⟩]
theorem y_put : mayPut [] (xk 9) yks = 0 := by decide +kernel
theorem y_ts : putT [] (xk 9) yks = yts := by unfold putT; rw [if_pos y_put]; rfl
theorem y_e1 : resErr yts y1 = 0 := by decide +kernel
theorem y_w1 : resW yts y1 = [xk 3] := by decide +kernel
theorem y_r1 : resR yts y1 = [xk 1, xk 2] := by decide +kernel
theorem y_e2 : resErr yts y2 = 8 := by decide +kernel
/-- one lookup in memory -/
theorem look_lone {w : World} {gl : Nat} {tl : TypeId} {tab wr rd : List Int} {v1 v2 : Value} (hl : Row w gl tl (bv tab ++ [v1, v2])) (ht : tab.length = 32) (h1 : BytesIn w w.heap.size v1 wr) (h2 : BytesIn w w.heap.size v2 rd) : LooksIn w w.heap.size (some ⟨gl, 0, none⟩) 1 [⟨tab, wr, rd⟩] :=
  ⟨rfl, fun i x hx => by
    match i, hx with
    | 0, hx =>
      cases hx
      exact ⟨_, v1, v2, rfl, hl.lt, fun j u hu => by rw [addr_row]; simp only [Nat.zero_mul, Nat.zero_add]; exact (hl.cell j).trans hu, ht, h1, h2⟩⟩
theorem bytes_row {w : World} {g t : Nat} {l : List Int} (h : Row w g t (bv l)) (hn : l.length ≤ 100) : BytesIn w w.heap.size (.slice (some ⟨g, 0, none⟩) l.length l.length) l := by
  refine ⟨_, _, rfl, ?_, Nat.le_refl _, by unfold maxLen; omega⟩
  have := h.sees0
  rwa [bv_length] at this
theorem bytes_none (w : World) : BytesIn w w.heap.size (.slice none 0 0) [] := ⟨_, _, rfl, Sees.nil _ _ _, Nat.le_refl _, Nat.zero_le _⟩
theorem built_look6 (l : List Value) (hl : l.length = 32) (A2 : Option Addr) (n2 c2 : Nat) : Try.prog.built 60 [(0, .agg l.toArray), (2, .slice A2 n2 c2)] = some (l ++ [Value.slice none 0 0, .slice A2 n2 c2]).toArray := by
  obtain ⟨f, rfl⟩ : ∃ f : Fin 32 → Value, l = List.ofFn f := ⟨fun i => l.getD i undef, by
    refine List.ext_getElem (by simpa using hl) fun i h1 h2 => ?_
    rw [List.getElem_ofFn, List.getD_eq_getElem?_getD, List.getElem?_eq_getElem h1]
    rfl⟩
  kernel_rfl
set_option maxRecDepth 100000 in
set_option maxHeartbeats 8000000 in
theorem lives6 (w : World) : Calls Try.prog 9 #[] w fun e w' => e = .returned (.bool true) ∧ Below w.heap.size w w' := by
  have HSZ := Lib.hid (show (Try.prog.info? 32).map (·.size) = some (bv (xk 9)).length from size_key)
  go_enter Try.func9, Try.ntmps9
  go_wp2_with fail
  refine (newReg w).mono ?_
  rintro e w1 ⟨rfl, hreg1, hb1⟩
  have REG1 := Lib.hid hreg1
  have B1 := Lib.hid hb1
  have HMB := Lib.hid (Nat.le_refl w.heap.size)
  generalize hrb : w.heap.size + 1 = rb at *
  generalize hmb : w.heap.size = mb at REG1 hreg1 HMB
  have HMW : Hid (w.heap.size ≤ mb) := Lib.hid (Nat.le_of_eq hmb)
  clear hreg1 hb1 hrb hmb HMB
  go_wp2_with (first
    | ((with_reducible show wpList _ _ _ ({ dst := some 12, op := Op.build _ _, type := _, pos := _, after := _, guard := _ } :: _) _ _); go_must (refine wpList_plain rfl fun K hK => wp_built _ _ _ rfl (by simp only [List.map_toArray, List.map_cons, List.map_nil]; exact built_xk _) (hK _ _ ?_)))
    | ((with_reducible show wpList _ _ _ ({ dst := none, op := Op.store 32 _ _, type := _, pos := _, after := _, guard := _ } :: _) _ _); go_must (refine wpList_store_new rfl 32 (.tmp 2) (.tmp 12) rfl (bv (xk 9)) HSZ.out (bv_one _) (by kernel_rfl) ?_ ?_ ?_; go_simp; go_simp; intro w2 hr2 hb2 hz2; have R2 := Lib.hid hr2; have B2 := Lib.hid hb2; clear hr2 hb2 hz2))
    | ((with_reducible show wpList _ _ _ ({ dst := some 13, op := Op.build _ _, type := _, pos := _, after := _, guard := _ } :: _) _ _); go_must (refine wpList_plain rfl fun K hK => wp_built _ _ _ rfl (by simp only [List.map_toArray, List.map_cons, List.map_nil]; exact built_xk _) (hK _ _ ?_)))
    | ((with_reducible show wpList _ _ _ ({ dst := some 14, op := Op.build _ _, type := _, pos := _, after := _, guard := _ } :: _) _ _); go_must (refine wpList_plain rfl fun K hK => wp_built _ _ _ rfl (by simp only [List.map_toArray, List.map_cons, List.map_nil]; exact built_xk _) (hK _ _ ?_)))
    | ((with_reducible show wpList _ _ _ ({ dst := some 15, op := Op.build _ _, type := _, pos := _, after := _, guard := _ } :: _) _ _); go_must (refine wpList_plain rfl fun K hK => wp_built _ _ _ rfl (by simp only [List.map_toArray, List.map_cons, List.map_nil]; exact built_xk _) (hK _ _ ?_)))
    | ((with_reducible show wpList _ _ _ ({ dst := some 16, op := Op.buildSlice _ _ _, type := _, pos := _, after := _, guard := _ } :: _) _ _); go_must (refine wpList_buildThree rfl 33 32 (.tmp 13) (.tmp 14) (.tmp 15) rfl (bv (xk 1)) (bv (xk 2)) (bv (xk 3)) _ 32 32 Try.underlying33 info_key (by kernel_rfl) (by omega) (by omega) (by rfl) (by rfl) (by rfl) ?_ ?_ ?_ ?_; go_simp; go_simp; go_simp))
    | ((with_reducible show wpList _ _ _ ({ dst := some 18, op := Op.load _ _, type := _, pos := _, after := _, guard := _ } :: _) _ _); go_must (refine wpList_load_whole rfl 32 (.tmp 2) rfl _ 32 (bv (xk 9)) _ Try.underlying32 rfl HSZ.out (R2.out.alloc _) ?_ ?_; go_simp)))
  have RT := Lib.hid (R2.out.alloc (.cells (bv (xk 1) ++ (bv (xk 2) ++ bv (xk 3))).toArray 32))
  have RL := Lib.hid (show Row (w2.alloc (.cells (bv (xk 1) ++ (bv (xk 2) ++ bv (xk 3))).toArray 32)) w2.heap.size 32 (bv yks.flatten) from Row.new w2 32 (bv (xk 1) ++ (bv (xk 2) ++ bv (xk 3))))
  have hbW : Below w1.heap.size w1 (w2.alloc (.cells (bv (xk 1) ++ (bv (xk 2) ++ bv (xk 3))).toArray 32)) := B2.out.alloc B2.out.size _
  have HBW := Lib.hid (B1.out.trans (hbW.mono B1.out.size))
  have REGW := Lib.hid (REG1.out.below hbW)
  clear hbW REG1 B1 B2 R2
  generalize w2.heap.size = gl at *
  generalize w1.heap.size = bt at *
  generalize w2.alloc (.cells (bv (xk 1) ++ (bv (xk 2) ++ bv (xk 3))).toArray 32) = W at *
  refine (putReg rb mb _ 0 [] (xk 9) (some ⟨gl, 0, none⟩) 3 3 W.heap.size yks W REGW.out (xk_ok 9 (by unfold IsByte; omega)) (keys_row (ys := []) (by rw [List.append_nil]; exact RL.out) rfl (by decide) RL.out.lt) (Nat.le_refl _) (by omega) (by unfold maxLen; omega)).mono ?_
  rintro e w3 ⟨rfl, hreg3, hgr3⟩
  rw [y_put]
  rw [y_ts] at hreg3
  have hkp : ∀ {g t : Nat} {xs : List Value}, Row W g t xs → Row w3 g t xs := fun hr => hr.grown hgr3 (fun e => REGW.out.map_ne hr (Option.some.inj e))
  have RT3 := Lib.hid (hkp RT.out)
  have RL3 := Lib.hid (hkp RL.out)
  have HB3 : Hid (Below w.heap.size w w3) := Lib.hid (HBW.out.grown hgr3 HBW.out.size (fun k hk => by cases hk; exact HMW.out))
  have REG3 := Lib.hid hreg3
  clear hkp hreg3 hgr3 RT RL HBW REGW W
  go_wp2_with (first
    | ((with_reducible show wpList _ _ _ ({ dst := some 23, op := Op.load _ _, type := _, pos := _, after := _, guard := _ } :: _) _ _); go_must (refine wpList_load_whole rfl 32 (.tmp 2) rfl _ 32 (bv (xk 9)) _ Try.underlying32 rfl HSZ.out RT3.out ?_ ?_; go_simp))
    | ((with_reducible show wpList _ _ _ ({ dst := some 26, op := Op.build _ _, type := _, pos := _, after := _, guard := _ } :: _) _ _); go_must (refine wpList_plain rfl fun K hK => wp_built _ _ _ rfl (by simp only [List.map_toArray, List.map_cons, List.map_nil]; exact built_look3 (bv (xk 9)) rfl _ _ _ _ _ _) (hK _ _ ?_)))
    | ((with_reducible show wpList _ _ _ ({ dst := some 27, op := Op.buildSlice _ _ _, type := _, pos := _, after := _, guard := _ } :: _) _ _); go_must (refine wpList_buildOne rfl 34 60 (.tmp 26) rfl (bv (xk 9) ++ [Value.slice (some ⟨w3.heap.size, 0, none⟩) 1 1, .slice (some ⟨w3.heap.size + 1, 0, none⟩) 2 2]) _ 34 80 Try.underlying34 info_look6 zsz_look6 (by omega) (by omega) (by rfl) ?_ ?_; go_simp)))
  have r1 := (((Row.new w3 5 (bv [2])).alloc (.cells (bv [0, 1]).toArray 5)).alloc (.cells (bv (xk 9) ++ [Value.slice (some ⟨w3.heap.size, 0, none⟩) 1 1, .slice (some ⟨w3.heap.size + 1, 0, none⟩) 2 2]).toArray 60))
  have r2 := (Row.new' (w3.alloc (.cells (bv [2]).toArray 5)) 5 (bv [0, 1]) (g := w3.heap.size + 1) (by simp)).alloc (.cells (bv (xk 9) ++ [Value.slice (some ⟨w3.heap.size, 0, none⟩) 1 1, .slice (some ⟨w3.heap.size + 1, 0, none⟩) 2 2]).toArray 60)
  have r3 := Row.new' ((w3.alloc (.cells (bv [2]).toArray 5)).alloc (.cells (bv [0, 1]).toArray 5)) 60 (bv (xk 9) ++ [Value.slice (some ⟨w3.heap.size, 0, none⟩) 1 1, .slice (some ⟨w3.heap.size + 1, 0, none⟩) 2 2]) (g := w3.heap.size + 1 + 1) (by simp)
  have hb4 := (((Below.refl w3.heap.size w3).alloc (Nat.le_refl _) (.cells (bv [2]).toArray 5)).alloc (by simp) (.cells (bv [0, 1]).toArray 5)).alloc (by simp; omega) (.cells (bv (xk 9) ++ [Value.slice (some ⟨w3.heap.size, 0, none⟩) 1 1, .slice (some ⟨w3.heap.size + 1, 0, none⟩) 2 2]).toArray 60)
  obtain ⟨V, hV⟩ : ∃ V, V = (((w3.alloc (.cells (bv [2]).toArray 5)).alloc (.cells (bv [0, 1]).toArray 5)).alloc (.cells (bv (xk 9) ++ [Value.slice (some ⟨w3.heap.size, 0, none⟩) 1 1, .slice (some ⟨w3.heap.size + 1, 0, none⟩) 2 2]).toArray 60)) := ⟨_, rfl⟩
  rw [← hV] at r1 r2 r3 hb4
  have hgoal : ∀ v u Q, Calls Try.prog 21 #[v, u] V Q → Calls Try.prog 21 #[v, u] (((w3.alloc (.cells (bv [2]).toArray 5)).alloc (.cells (bv [0, 1]).toArray 5)).alloc (.cells (bv (xk 9) ++ [Value.slice (some ⟨w3.heap.size, 0, none⟩) 1 1, .slice (some ⟨w3.heap.size + 1, 0, none⟩) 2 2]).toArray 60)) Q := fun v u Q h => by rw [← hV]; exact h
  refine hgoal _ _ _ ?_
  clear hgoal hV
  have hl1 : LooksIn V V.heap.size (some ⟨w3.heap.size + 1 + 1, 0, none⟩) 1 y1 := look_lone r3 rfl (bytes_row r1 (by simp)) (bytes_row r2 (by simp))
  have HB4 := Lib.hid (HB3.out.trans (hb4.mono HB3.out.size))
  have RT4 := Lib.hid (RT3.out.below hb4 RT3.out.lt)
  have RL4 := Lib.hid (RL3.out.below hb4 RL3.out.lt)
  have REG4 := Lib.hid (REG3.out.below hb4)
  clear r1 r2 r3 hb4 HB3 RT3 RL3 REG3
  generalize w3.heap.size + 1 + 1 = gk at *
  generalize w3.heap.size + 1 = gj at *
  generalize w3.heap.size = gi at *
  refine (resolveReg rb mb _ 1 yts (some ⟨gk, 0, none⟩) 1 1 V.heap.size y1 V REG4.out hl1 (Nat.le_refl _) (fun x hx => by obtain rfl := List.mem_singleton.1 hx; exact ⟨xk_ok 9 (by unfold IsByte; omega), by unfold AllBytes IsByte; simp, by unfold AllBytes IsByte; simp⟩) (by omega) (by decide)).mono ?_
  rintro e w5 ⟨S, T, rfl, hS, hT, hd, hb5⟩
  rw [y_e1]
  rw [y_w1] at hS
  rw [y_r1] at hT
  have HS := Lib.hid hS
  have HT := Lib.hid hT
  have HB5 := Lib.hid (HB4.out.trans (hb5.mono HB4.out.size))
  have RT5 := Lib.hid (RT4.out.below hb5 RT4.out.lt)
  have RL5 := Lib.hid (RL4.out.below hb5 RL4.out.lt)
  have REG5 := Lib.hid (REG4.out.below (hb5.mono REG4.out.lt.2.2))
  clear hS hT hd hb5 hl1 HB4 RT4 RL4 REG4
  obtain ⟨SA, sn, sc⟩ := S
  obtain ⟨TA, tn, tc⟩ := T
  unfold Sl.val
  go_wp2_with (first
    | ((with_reducible show wpList _ _ _ ({ dst := some 34, op := Op.load _ _, type := _, pos := _, after := _, guard := _ } :: _) _ _); go_must (refine wpList_load_whole rfl 32 (.tmp 2) rfl _ 32 (bv (xk 9)) _ Try.underlying32 rfl HSZ.out RT5.out ?_ ?_; go_simp))
    | ((with_reducible show wpList _ _ _ ({ dst := some 36, op := Op.build _ _, type := _, pos := _, after := _, guard := _ } :: _) _ _); go_must (refine wpList_plain rfl fun K hK => wp_built _ _ _ rfl (by simp only [List.map_toArray, List.map_cons, List.map_nil]; exact built_look6 (bv (xk 9)) rfl _ _ _) (hK _ _ ?_)))
    | ((with_reducible show wpList _ _ _ ({ dst := some 37, op := Op.buildSlice _ _ _, type := _, pos := _, after := _, guard := _ } :: _) _ _); go_must (refine wpList_buildOne rfl 34 60 (.tmp 36) rfl (bv (xk 9) ++ [Value.slice none 0 0, .slice (some ⟨w5.heap.size, 0, none⟩) 1 1]) _ 34 80 Try.underlying34 info_look6 zsz_look6 (by omega) (by omega) (by rfl) ?_ ?_; go_simp)))
  have r1 := (Row.new w5 5 (bv [3])).alloc (.cells (bv (xk 9) ++ [Value.slice none 0 0, .slice (some ⟨w5.heap.size, 0, none⟩) 1 1]).toArray 60)
  have r3 := Row.new' (w5.alloc (.cells (bv [3]).toArray 5)) 60 (bv (xk 9) ++ [Value.slice none 0 0, .slice (some ⟨w5.heap.size, 0, none⟩) 1 1]) (g := w5.heap.size + 1) (by simp)
  have hb6 := ((Below.refl w5.heap.size w5).alloc (Nat.le_refl _) (.cells (bv [3]).toArray 5)).alloc (by simp) (.cells (bv (xk 9) ++ [Value.slice none 0 0, .slice (some ⟨w5.heap.size, 0, none⟩) 1 1]).toArray 60)
  obtain ⟨U, hU⟩ : ∃ U, U = (w5.alloc (.cells (bv [3]).toArray 5)).alloc (.cells (bv (xk 9) ++ [Value.slice none 0 0, .slice (some ⟨w5.heap.size, 0, none⟩) 1 1]).toArray 60) := ⟨_, rfl⟩
  rw [← hU] at r1 r3 hb6
  have hgoal : ∀ v u Q, Calls Try.prog 21 #[v, u] U Q → Calls Try.prog 21 #[v, u] ((w5.alloc (.cells (bv [3]).toArray 5)).alloc (.cells (bv (xk 9) ++ [Value.slice none 0 0, .slice (some ⟨w5.heap.size, 0, none⟩) 1 1]).toArray 60)) Q := fun v u Q h => by rw [← hU]; exact h
  refine hgoal _ _ _ ?_
  clear hgoal hU
  have hl2 : LooksIn U U.heap.size (some ⟨w5.heap.size + 1, 0, none⟩) 1 y2 := look_lone r3 rfl (bytes_none U) (bytes_row r1 (by simp))
  have HB6 := Lib.hid (HB5.out.trans (hb6.mono HB5.out.size))
  have RL6 := Lib.hid (RL5.out.below hb6 RL5.out.lt)
  have REG6 := Lib.hid (REG5.out.below (hb6.mono REG5.out.lt.2.2))
  have HZ6 := Lib.hid hb6.size
  have HS6 := Lib.hid (HS.out.below hb6)
  have HT6 := Lib.hid (HT.out.below hb6)
  clear r1 r3 hb6 HB5 RT5 RL5 REG5 HS HT
  generalize w5.heap.size + 1 = gn at *
  generalize hz5 : w5.heap.size = gm at *
  refine (resolveReg rb mb _ 1 yts (some ⟨gn, 0, none⟩) 1 1 U.heap.size y2 U REG6.out hl2 (Nat.le_refl _) (fun x hx => by obtain rfl := List.mem_singleton.1 hx; exact ⟨xk_ok 9 (by unfold IsByte; omega), by unfold AllBytes; simp, by unfold AllBytes IsByte; simp⟩) (by omega) (by decide)).mono ?_
  rintro e w7 ⟨S', T', rfl, hS', hT', hd, hb7⟩
  rw [y_e2]
  have hz6 : gm ≤ U.heap.size := HZ6.out
  have HS7 := Lib.hid (HS6.out.below (hb7.mono hz6))
  have HT7 := Lib.hid (HT6.out.below (hb7.mono hz6))
  have HB7 := Lib.hid (HB6.out.trans (hb7.mono HB6.out.size))
  have RL7 := Lib.hid (RL6.out.below hb7 RL6.out.lt)
  clear hS' hT' hd hb7 hl2 HB6 RL6 REG6 HS6 HT6 hz6 hz5
  obtain ⟨SA', sn', sc'⟩ := S'
  obtain ⟨TA', tn', tc'⟩ := T'
  obtain rfl : 1 = sn := HS7.out.keys.len
  obtain rfl : 2 = tn := HT7.out.keys.len
  unfold Sl.val
  have HK3 : Hid (KeysIn w7 w7.heap.size (some ⟨gl, 64, none⟩) 1 [xk 3]) := Lib.hid ⟨rfl, by decide, RL7.out.sees 64⟩
  have HK12 : Hid (∀ k, KeysIn (w7.drewN k) (w7.drewN k).heap.size (some ⟨gl, 0, none⟩) 2 [xk 1, xk 2]) := Lib.hid fun k => keys_row (l := [xk 1, xk 2]) (ys := bv (xk 3)) (⟨RL7.out.is⟩ : Row (w7.drewN k) gl 32 (bv [xk 1, xk 2].flatten ++ bv (xk 3))) rfl (by decide) RL7.out.lt
  have HT7K : Hid (∀ k, KeysIn (w7.drewN k) gm (TA.map fun g => ⟨g, 0, none⟩) 2 [xk 1, xk 2]) := Lib.hid fun k => HT7.out.keys.keep fun p hp => rfl
  go_wp2_with fail
  refine (sameKeys _ _ 1 _ _ [xk 3] w7 _ _ HS7.out.keys HK3.out (by unfold maxLen; omega)).mono ?_
  rintro e w8 ⟨rfl, k8, rfl⟩
  go_wp2_with fail
  refine (sameKeys _ _ 2 _ _ [xk 1, xk 2] (w7.drewN k8) _ _ (HT7K.out k8) (HK12.out k8) (by unfold maxLen; omega)).mono ?_
  rintro e w9 ⟨rfl, k9, rfl⟩
  go_wp2_with fail
  go_ret
  exact ⟨rfl, below_drewN HB7.out (k8 + k9)⟩
end Go.Proofs.Ytdbcbjjomhbhpaa
