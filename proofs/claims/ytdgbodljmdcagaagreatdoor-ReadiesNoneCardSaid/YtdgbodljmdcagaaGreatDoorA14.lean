/-
  Parts joined: RefPutT RefResT PlayMem TabsIn11 LaidSt11 Law11 Lives8 Lives11 Same11 NoneWalk11 KindsWalk11.
-/
import Derived.Test.YtdgbodljmdcagaaGreatDoorChecked
import Derived.WalkKit
import Derived.LaidEql
import Derived.Stop.Asserts
import Derived.RowKitTokens
import Derived.Lib.IfaceEq
import Derived.Lib.Hide
import Derived.Below
import Derived.Laws.OwnMore
import Derived.Deep.AppendLies
import Derived.Deep.Draws
import Derived.Laws.MakeOwn
import Derived.Laws.CopyOwn
import Derived.Laws.Rows
import Derived.Maps.AppendAt
import Derived.OwnWalk
import Derived.Laws.BitsAllLaws
import Derived.Test.YtdgbodljmdcagaaGreatDoorRows
import Derived.WalkSpells
import Derived.WalkLawsBesides
import Derived.IntWalk
import Derived.Deep.QuietTactic
import Derived.BigQuiet
import Derived.Deep.MidRow
import Derived.Deep.WholeRow
import Derived.Great.BuildSlice
import Derived.Recover
import Derived.Deep.RegionHeld
import Derived.ChangeKeysEq
import Derived.Deep.RegionHeld2
import Derived.Deep.CutBlock
import Derived.Laws.Tables
import Derived.ProofKit
import Derived.OpenShut
import Derived.ShutString
import Derived.ChangeOld
import Derived.Lib.SmallJoins
import Derived.Deep.Slices
import Derived.Deep.Strs
import Derived.SizedLaws
import Derived.Laws.StructEq
import Derived.Laws.Slices
import Derived.Defers
import Derived.Deep.DeepCutAuto
import Derived.Laws.EntriesVeiled
import Derived.Deep.RegionHeld3
import Derived.Maps.OwnSet
import Derived.DeepKeys4
import Derived.WideKeyArr
import Derived.WideKeyEntry
import Derived.Shelf.SlMaps.Clone
import Derived.Lib.Mul64
import Derived.Laws.Bits64b
import Derived.Laws.Externs
import Derived.Lib.BitFns
import Derived.Shelf.Small.Bits
import Derived.Laws.NewBlocks
import Derived.Laws.Append
import Derived.Laws.AppendOwn
import Derived.RangeFuncNested
import Derived.RangeFuncBound
import Derived.RangeFuncCalls
import Derived.RangeFuncLeaves
import Derived.Shelf.Abstract
import Derived.Shelf.RegionOpen
import Derived.OwnWalkIn
import Derived.TacticsInMore
import Derived.LoopNIn
import Derived.LoopIn
import Derived.LaidMore
import Derived.Deep.RegionWith
import Derived.Test.YtdgbodljmdcagaaGreatDoorA1
import Derived.Test.YtdgbodljmdcagaaGreatDoorA2
import Derived.Test.YtdgbodljmdcagaaGreatDoorA3
import Derived.Test.YtdgbodljmdcagaaGreatDoorA4
import Derived.Test.YtdgbodljmdcagaaGreatDoorA5
import Derived.Test.YtdgbodljmdcagaaGreatDoorA6
import Derived.Test.YtdgbodljmdcagaaGreatDoorA7
import Derived.Test.YtdgbodljmdcagaaGreatDoorA8
import Derived.Test.YtdgbodljmdcagaaGreatDoorA9
import Derived.Test.YtdgbodljmdcagaaGreatDoorA10
import Derived.Test.YtdgbodljmdcagaaGreatDoorA11
import Derived.Test.YtdgbodljmdcagaaGreatDoorA12
import Derived.Test.YtdgbodljmdcagaaGreatDoorA13
/-
  Of part RefPutT: what is needed here.
-/
set_option linter.unusedSimpArgs false
namespace Go.Proofs.YtdgbodljmdcagaaGreatDoor
open Go.RowKit
set_option linter.unusedVariables false
set_option maxRecDepth 100000
/-- what stays when the reference puts: all but its block and its list's -/
structure PutKeep (w w' : World) (pb : Nat) (v v' : Value) : Prop where
  os : w'.os = w.os
  tape : w'.tape = w.tape
  output : w'.output = w.output
  size : w.heap.size ≤ w'.heap.size
  block : ∀ g, g < w.heap.size → g ≠ pb → v.ownBlock ≠ some g → w'.heap[g]? = w.heap[g]?
  fresh : ∀ g, v'.ownBlock = some g → v.ownBlock = some g ∨ w.heap.size ≤ g
theorem PutKeep.below {w w' : World} {pb : Nat} {v : Value} (h : Below w.heap.size w w') : PutKeep w w' pb v v := ⟨h.os, h.tape, h.output, h.size, fun g hg _ _ => h.block g hg, fun g e => .inl e⟩
def RPutDone (w : World) (pb base : Nat) (v : Value) (ts : List LTab) (S : Nat → Prop) (x : List Int) (l : List (List Int)) (e : Ending) (w' : World) : Prop :=
  e = .returned (.int .i64 (mayPut ts x l)) ∧ ∃ v', RReg w' pb base v' (putT ts x l) (fun g => S g ∨ w.heap.size ≤ g) ∧ PutKeep w w' pb v v'
/-- nothing is put -/
theorem RPutDone.not {w w' : World} {pb base : Nat} {v : Value} {ts : List LTab} {S : Nat → Prop} {x : List Int} {l : List (List Int)} (h : RReg w pb base v ts S) (hb : Below w.heap.size w w') {c : Int} (hm : mayPut ts x l = c) (hc : c ≠ 0) : RPutDone w pb base v ts S x l (.returned (.int .i64 c)) w' := by
  have e : putT ts x l = ts := by unfold putT; rw [if_neg (by rw [hm]; exact hc)]
  refine ⟨by rw [hm], v, ?_, PutKeep.below hb⟩
  rw [e]
  exact (h.below hb).weak fun g _ hs => .inl hs
theorem info_tab : (Tryz.prog.info? 147).map (fun i => (i.zero, i.size, i.bytes)) = some (some (.agg (zeros 32 ++ [Value.slice none 0 0]).toArray), 33, 56) := by kernel_rfl
theorem zsz_tab : (Value.agg (zeros 32 ++ [Value.slice none 0 0]).toArray).cells.size = 33 := by kernel_rfl
theorem built_tab (l : List Value) (hl : l.length = 32) (A : Option Addr) (n c : Nat) : Tryz.prog.built 147 [(0, .agg l.toArray), (1, .slice A n c)] = some (l ++ [Value.slice A n c]).toArray := by
  obtain ⟨f, rfl⟩ : ∃ f : Fin 32 → Value, l = List.ofFn f := ⟨fun i => l.getD i undef, by
    refine List.ext_getElem (by simpa using hl) fun i h1 h2 => ?_
    rw [List.getElem_ofFn, List.getD_eq_getElem?_getD, List.getElem?_eq_getElem h1]
    rfl⟩
  kernel_rfl
/-- a list of the call's own lies in a block -/
theorem own_block {w : World} {base size n : Nat} {e : TypeId} {v : Value} {xs : List Value} (h : w.ownsRow base e size v n xs) (hn : 1 ≤ n) : ∃ g c rest, v = .slice (some ⟨g, 0, none⟩) n c ∧ base ≤ g ∧ Row w g e (xs ++ rest) ∧ n ≤ c ∧ c ≤ maxLen := by
  rcases h.2 with ⟨_, h0⟩ | ⟨g, cap, cur, h1, h2, h3, h4, h5, h6, h7⟩
  · omega
  · refine ⟨g, cap, cur.toList.drop (n * size), h1, h2, ⟨?_⟩, h4, h5⟩
    rw [h3, ← h7, List.take_append_drop]
/-- while the last statement is carried out -/
structure PC (w0 V : World) (pb base bx : Nat) (v : Value) (ts : List LTab) (S : Nat → Prop) (X : List Value) : Prop where
  reg : RReg V pb base v ts S
  key : Row V bx 78 X
  b : Below w0.heap.size w0 V
theorem PC.below {w0 V V' : World} {pb base bx : Nat} {v : Value} {ts : List LTab} {S : Nat → Prop} {X : List Value} (h : PC w0 V pb base bx v ts S X) (hb : Below V.heap.size V V') : PC w0 V' pb base bx v ts S X :=
  ⟨h.reg.below hb, h.key.below hb h.key.lt, h.b.trans (hb.mono h.b.size)⟩
theorem PC.done {w V3 V4 : World} {pb base bx g c : Nat} {v v4 : Value} {ts : List LTab} {S : Nat → Prop} {X rest : List Value} {x : List Int} {l : List (List Int)} {css : List (List Value)}
    (h : PC w V3 pb base bx v ts S X) (he : Elems 33 (ET S) V3 0 ts css) (hx : KeyOk x) (hl : ∀ y ∈ l, y.length = 32) (hm : mayPut ts x l = 0)
    (ho : V4.ownsRow base 147 33 v4 (ts.length + 1) (css.flatten ++ (bv x ++ [Value.slice (some ⟨g, 0, none⟩) l.length c]))) (hg : Grew V3 V4 v v4)
    (hown : V3.ownsRow base 147 33 v ts.length css.flatten)
    (hk : Row V3 g 78 (bv l.flatten ++ rest)) (hgw : w.heap.size ≤ g) (hc : l.length ≤ c ∧ c ≤ maxLen) :
    RPutDone w pb base v ts S x l (.returned (.int .i64 0)) (V4.setCell ⟨pb, 0, none⟩ v4) := by
  have hts : putT ts x l = ts ++ [⟨x, l⟩] := by unfold putT; rw [if_pos hm]
  have hT := turned_setCell V4 ⟨pb, 0, none⟩ v4
  have hrow4 : Row V4 pb 85 [v] := h.reg.row.grown hg.grown (own_row_neN hown h.reg.row (by decide))
  have hkk : KeepKeys V3 (V4.setCell ⟨pb, 0, none⟩ v4) := fun g' xs hr => by
    have h1 : Row V4 g' 78 xs := hr.grown hg.grown (own_row_neN hown hr (by decide))
    exact hT.row h1 (fun e => by
      have e' : g' = pb := e
      subst e'
      have := h1.is.symm.trans hrow4.is
      injection this with this
      injection this with _ this
      revert this
      decide)
  refine ⟨by rw [hm], v4, ⟨?_, ⟨css ++ [bv x ++ [Value.slice (some ⟨g, 0, none⟩) l.length c]], ?_, ?_⟩, ?_⟩, ⟨hg.grown.os.trans h.b.os, hg.grown.tape.trans h.b.tape, hg.grown.output.trans h.b.output, ?_, fun k hk1 hk2 hk3 => ?_, fun k e => ?_⟩⟩
  · exact hrow4.set_ 0 v4
  · rw [hts, List.flatten_append, List.length_append]
    have e : ([bv x ++ [Value.slice (some ⟨g, 0, none⟩) l.length c]] : List (List Value)).flatten = bv x ++ [Value.slice (some ⟨g, 0, none⟩) l.length c] := by simp
    rw [e]
    exact own_turned ho hrow4 (by decide) hT
  · rw [hts]
    have hone : Elems 33 (ET fun g => S g ∨ w.heap.size ≤ g) (V4.setCell ⟨pb, 0, none⟩ v4) 0 [(⟨x, l⟩ : LTab)] [bv x ++ [Value.slice (some ⟨g, 0, none⟩) l.length c]] := ⟨rfl, fun i y cs hy hcs => by
      match i, hy, hcs with
      | 0, hy, hcs =>
        cases hy
        cases hcs
        refine ⟨⟨hx.1, g, c, rest, rfl, hkk _ _ hk, hc, .inr hgw⟩, by simp [bv_length, hx.1], fun u hu => ?_⟩
        rcases List.mem_append.1 hu with hu | hu
        · exact bv_one _ _ hu
        · obtain rfl := List.mem_singleton.1 hu; rfl⟩
    exact (he.turn fun cs y hy => ET.keep (S' := fun g => S g ∨ w.heap.size ≤ g) hy hkk fun _ _ hs => Or.inl hs).app hone
  · exact h.reg.good.put hx hl
  · exact Nat.le_trans (Nat.le_trans h.b.size hg.size) (Nat.le_of_eq hT.size.symm)
  · rw [hT.block k hk2]
    exact (hg.grown.block k (Nat.lt_of_lt_of_le hk1 h.b.size) (fun e => hk3 e.symm)).trans (h.b.block k hk1)
  · rcases hg.fresh k e with h1 | h1
    · exact .inl h1
    · exact .inr (Nat.le_trans h.b.size h1)
set_option maxRecDepth 100000 in
set_option maxHeartbeats 8000000 in
theorem refPut (pb base : Nat) (v : Value) (ts : List LTab) (S : Nat → Prop) (x : List Int) (A : Option Addr) (m c B : Nat) (l : List (List Int)) (w : World) (h : RReg w pb base v ts S) (hx : KeyOk x) (hl : KeysIn w B A m l) (hB : B ≤ w.heap.size) (hn : ts.length ≤ 900) (hm : m ≤ maxLen) (hbase : base ≤ w.heap.size) :
    Calls Tryz.prog 35 #[.pointer (some ⟨pb, 0, none⟩), .agg (bv x).toArray, .slice A m c] w (RPutDone w pb base v ts S x l) := by
  have hlen := hl.len
  have hb0 : Below w.heap.size w (w.alloc (.cells (bv x).toArray 78)) := (Below.refl _ _).alloc (Nat.le_refl _) _
  have RX := Lib.hid (Row.new w 78 (bv x))
  have HREG := Lib.hid h
  have HSZ := Lib.hid (show (Tryz.prog.info? 78).map (·.size) = some (bv x).length by rw [bv_length, hx.1]; exact size_key)
  have HXL : Hid ((bv x).length = 32) := Lib.hid (by rw [bv_length, hx.1])
  have HF := Lib.hid (refFind pb base v ts S x _ (h.below hb0) hx (by omega))
  have HP := Lib.hid (show PC w (w.alloc (.cells (bv x).toArray 78)) pb base w.heap.size v ts S (bv x) from ⟨h.below hb0, RX.out, hb0⟩)
  have HKI : Hid (∀ V : World, Below w.heap.size w V → KeysIn V B A m l) := Lib.hid fun V hV => hl.below (hV.mono hB)
  have HX := Lib.hid hx
  have HONE0 : Hid (∀ (g : Nat) (m gc : Nat), ∀ u ∈ bv x ++ [Value.slice (some ⟨g, 0, none⟩) m gc], u.oneCell' = true) := Lib.hid fun g m gc u hu => by
    rcases List.mem_append.1 hu with hu | hu
    · exact bv_one _ _ hu
    · obtain rfl := List.mem_singleton.1 hu; rfl
  have HBASE := Lib.hid hbase
  have HL := Lib.hid hlen
  have HLX := Lib.hid hl.each
  have HDN : Hid (∀ (V3 V4 : World) v4 g c' rest css, PC w V3 pb base w.heap.size v ts S (bv x) → Elems 33 (ET S) V3 0 ts css → mayPut ts x l = 0 → V4.ownsRow base 147 33 v4 (ts.length + 1) (css.flatten ++ (bv x ++ [Value.slice (some ⟨g, 0, none⟩) l.length c'])) → Grew V3 V4 v v4 → V3.ownsRow base 147 33 v ts.length css.flatten → Row V3 g 78 (bv l.flatten ++ rest) → w.heap.size ≤ g → (l.length ≤ c' ∧ c' ≤ maxLen) → RPutDone w pb base v ts S x l (.returned (.int .i64 0)) (V4.setCell ⟨pb, 0, none⟩ v4)) :=
    Lib.hid fun V3 V4 v4 g c' rest css h1 h2 h3 h4 h5 h6 h7 h8 h9 => PC.done h1 h2 hx hl.each h3 h4 h5 h6 h7 h8 h9
  unfold maxLen at hm
  clear hb0 h hx hl hlen
  obtain ⟨X, hX⟩ : ∃ X, X = bv x := ⟨_, rfl⟩
  rw [← hX] at RX HSZ HXL HF HP HDN HONE0 ⊢
  clear hX
  generalize hWW : w.alloc (.cells X.toArray 78) = W at *
  have HWW := Lib.hid hWW
  clear hWW
  rcases mayPut_cases ts x l with ⟨hm1, hc1⟩ | ⟨hm1, hc1, hs1⟩ | ⟨hm1, hc1, hs1⟩
  · have hE : Hid (RPutDone w pb base v ts S x l (.returned (.int .i64 1)) W) := Lib.hid (RPutDone.not HREG.out HP.out.b hm1 (by omega))
    rw [HL.out] at hc1
    clear hm1
    by_cases h0 : m = 0
    · subst h0
      go_enter Tryz.func35, Tryz.ntmps35
      go_upto_region 1 with fail
      rw [HWW.out]
      go_wp2_with fail
      go_ret
      exact hE.out
    · have h2 : 256 < m := by omega
      clear hc1
      go_enter Tryz.func35, Tryz.ntmps35
      go_upto_region 1 with fail
      rw [HWW.out]
      go_wp2_with fail
      go_ret
      exact hE.out
  · have hE : Hid (∀ V, Below w.heap.size w V → RPutDone w pb base v ts S x l (.returned (.int .i64 12)) V) := Lib.hid fun V hV => RPutDone.not HREG.out hV hm1 (by omega)
    have HFE : Hid (fErr ts x = 0) := Lib.hid (by unfold fErr; rw [if_pos hs1])
    rw [HL.out] at hc1
    have h0 : 1 ≤ m := by omega
    have h2 : m ≤ 256 := by omega
    clear hm1 hc1 hs1
    go_enter Tryz.func35, Tryz.ntmps35
    go_upto_region 1 with fail
    rw [HWW.out]
    go_wp2_with ((with_reducible show wpList _ _ _ ({ dst := some 19, op := Op.load _ _, type := _, pos := _, after := _, guard := _ } :: _) _ _); go_must (refine wpList_load_at rfl 78 (.tmp 4) rfl ⟨w.heap.size, 0, none⟩ X _ Tryz.underlying78 rfl HSZ.out (fun j u hu => by rw [addr_row, Nat.zero_add]; exact (RX.out.cell j).trans hu) ?_ ?_; go_simp))
    refine HF.out.mono ?_
    rintro e w2 ⟨FA, fn, fc, rfl, hk, hn2, hb2, _⟩
    have HB2 := Lib.hid ((HP.out.below hb2).b)
    clear hk hb2
    rw [HFE.out]
    go_wp2_with fail
    go_ret
    exact hE.out _ HB2.out
  · have HM := Lib.hid hm1
    have HFE : Hid (fErr ts x = 11) := Lib.hid (by unfold fErr; rw [hs1]; rfl)
    rw [HL.out] at hc1
    have h0 : 1 ≤ m := by omega
    have h2 : m ≤ 256 := by omega
    clear hm1 hc1 hs1
    go_enter Tryz.func35, Tryz.ntmps35
    go_upto_region 1 with fail
    rw [HWW.out]
    go_wp2_with ((with_reducible show wpList _ _ _ ({ dst := some 19, op := Op.load _ _, type := _, pos := _, after := _, guard := _ } :: _) _ _); go_must (refine wpList_load_at rfl 78 (.tmp 4) rfl ⟨w.heap.size, 0, none⟩ X _ Tryz.underlying78 rfl HSZ.out (fun j u hu => by rw [addr_row, Nat.zero_add]; exact (RX.out.cell j).trans hu) ?_ ?_; go_simp))
    refine HF.out.mono ?_
    rintro e w2 ⟨FA, fn, fc, rfl, hk, hn2, hb2, _⟩
    have P0 := Lib.hid (HP.out.below (hb2.trans ((show Below W.heap.size w2 w2.drew from ⟨rfl, rfl, rfl, Nat.le_refl _, fun _ _ => rfl⟩))))
    clear hk hb2 RX HP HREG HF
    rw [HFE.out]
    go_wp2_with fail
    have HS4 : Hid (∀ (V V' : World) n xs v', PC w V pb base w.heap.size v ts S X → V.ownsRow base 147 33 v n xs → Grew V V' v v' → Row V' w.heap.size 78 X ∧ Row V' pb 85 [v]) := Lib.hid fun V V' n xs v' h1 h2 h3 => ⟨h1.key.grown h3.grown (own_row_neN h2 h1.key (by decide)), h1.reg.row.grown h3.grown (own_row_neN h2 h1.reg.row (by decide))⟩
    have HSS : Hid (∀ V : World, PC w V pb base w.heap.size v ts S X → ∀ j u, X[j]? = some u → V.cell? ((⟨w.heap.size, 0, none⟩ : Addr).add j) = some u) := Lib.hid fun V hV j u hu => by rw [addr_row, Nat.zero_add]; exact (hV.key.cell j).trans hu
    have HONE : Hid (∀ g m gc, ∀ u ∈ X ++ [Value.slice (some ⟨g, 0, none⟩) m gc], u.oneCell' = true) := HONE0
    have S0 := Lib.hid (HSS.out _ P0.out)
    refine wp_region_held_drew (S := fun V => ∀ j u, X[j]? = some u → V.cell? ((⟨w.heap.size, 0, none⟩ : Addr).add j) = some u) (by kernel_rfl) S0.out (fun _ => ?_)
    generalize w2.drew = V0 at *
    obtain ⟨nts, hnts⟩ : ∃ n, n = ts.length := ⟨_, rfl⟩
    have HNT := Lib.hid hnts
    rw [← hnts] at hn
    clear hnts
    refine takeL (i := 0) (v := ?_) rfl (by kernel_rfl) (by kernel_rfl) (by kernel_rfl) (fun _ _ _ h => h) (Or.inl ⟨by rfl, ?_⟩) S0.out ?_
    rotate_left
    · intro w hw
      try dsimp only at hw
      go_simp
      try with_reducible rfl
    try simp only [Act.put, List.setIfInBounds_toArray, List.set_cons_zero, List.set_cons_succ]
    refine takeL (i := 1) (v := ?_) rfl (by kernel_rfl) (by kernel_rfl) (by kernel_rfl) (fun _ _ _ h => h) (Or.inl ⟨by rfl, ?_⟩) S0.out ?_
    rotate_left
    · intro w hw
      try dsimp only at hw
      go_simp
      try with_reducible rfl
    try simp only [Act.put, List.setIfInBounds_toArray, List.set_cons_zero, List.set_cons_succ]
    refine takeL (i := 2) (v := ?_) rfl (by kernel_rfl) (by kernel_rfl) (by kernel_rfl) (fun _ _ _ h => h) (Or.inl ⟨by rfl, ?_⟩) S0.out ?_
    rotate_left
    · intro w hw
      try dsimp only at hw
      go_simp
      try with_reducible rfl
    try simp only [Act.put, List.setIfInBounds_toArray, List.set_cons_zero, List.set_cons_succ]
    refine takeL (i := 3) (v := ?_) rfl (by kernel_rfl) (by kernel_rfl) (by kernel_rfl) (fun _ _ _ h => h) (Or.inl ⟨by rfl, ?_⟩) S0.out ?_
    rotate_left
    · intro w hw
      try dsimp only at hw
      go_simp
      try with_reducible rfl
    try simp only [Act.put, List.setIfInBounds_toArray, List.set_cons_zero, List.set_cons_succ]
    refine takeL (i := 5) (v := .agg X.toArray) rfl (by kernel_rfl) (by kernel_rfl) (by kernel_rfl) (fun _ _ _ h => h) (Or.inl ⟨by rfl, fun wz hwz => exec_load_at wz 78 (.tmp 4) rfl ⟨w.heap.size, 0, none⟩ X _ Tryz.underlying78 rfl HSZ.out hwz (by go_simp)⟩) S0.out ?_
    try simp only [Act.put, List.setIfInBounds_toArray, List.set_cons_zero, List.set_cons_succ]
    refine takeL (i := 6) (v := ?_) rfl (by kernel_rfl) (by kernel_rfl) (by kernel_rfl) (fun _ _ _ h => h) (Or.inl ⟨by rfl, ?_⟩) S0.out ?_
    rotate_left
    · intro w hw
      try dsimp only at hw
      go_simp
      try with_reducible rfl
    try simp only [Act.put, List.setIfInBounds_toArray, List.set_cons_zero, List.set_cons_succ]
    refine readyL2 (i := 4) (j := 7) rfl rfl (by kernel_rfl) (by kernel_rfl) (by kernel_rfl) (fun K hK => ?_) (fun K hK => ?_)
    · have cl0 : V0.cell? ⟨pb, 0, none⟩ = some v := P0.out.reg.row.cell 0
      go_simp
      clear cl0
      refine hK.out _ _ S0.out ?_
      clear hK K
      try simp only [Act.put, List.setIfInBounds_toArray, List.set_cons_zero, List.set_cons_succ]
      refine readyL (i := 7) rfl (by kernel_rfl) (by kernel_rfl) fun K hK => ?_
      refine wp_appendN (.const (.slice none 0 0)) (.tmp 31) 34 78 _ 32 32 rfl Tryz.underlying34 info_key zsz6 (by omega) (.slice none 0 0) 0 [] V0.heap.size B A m c (bv l.flatten) rfl (own_nilN _ _ _ _) (by go_simp) (HKI.out V0 P0.out.b).sees (bv_one _) (by unfold maxLen; omega) (by omega) (Nat.le_refl _) ?_
      intro va V1 ho hg
      rw [Nat.zero_add, List.nil_append] at ho
      have hb : Below V0.heap.size V0 V1 := (Below.refl V0.heap.size V0).grown hg.grown (Nat.le_refl _) (fun k hk => by cases hk)
      obtain ⟨g, gc, rest, rfl, hgb, hrk, hgc⟩ := own_block ho h0
      have P1 := Lib.hid (P0.out.below hb)
      have RK1 := Lib.hid hrk
      have HGW := Lib.hid (Nat.le_trans P0.out.b.size hgb)
      have HGC := Lib.hid hgc
      have S1 := Lib.hid (HSS.out _ P1.out)
      clear ho hg hb hgb hrk hgc
      refine hK.out _ _ S1.out ?_
      clear hK K
      try simp only [Act.put, List.setIfInBounds_toArray, List.set_cons_zero, List.set_cons_succ]
      refine takeL (i := 8) (v := .agg (X ++ [Value.slice (some ⟨g, 0, none⟩) m gc]).toArray) rfl (by kernel_rfl) (by kernel_rfl) (by kernel_rfl) (fun _ _ _ h => h) (Or.inl ⟨by rfl, fun wz _ => exec_built wz 147 _ _ rfl (by simp only [List.map_toArray, List.map_cons, List.map_nil]; exact built_tab X HXL.out _ _ _)⟩) S1.out ?_
      try simp only [Act.put, List.setIfInBounds_toArray, List.set_cons_zero, List.set_cons_succ]
      refine readyL (i := 9) rfl (by kernel_rfl) (by kernel_rfl) fun K hK => ?_
      refine wp_buildOne 83 147 (.tmp 33) rfl (X ++ [Value.slice (some ⟨g, 0, none⟩) m gc]) _ 33 56 Tryz.underlying83 info_tab zsz_tab (by omega) (by omega) (by rw [List.length_append, HXL.out]; rfl) (by go_simp) ?_
      have hb : Below V1.heap.size V1 (V1.alloc (.cells (X ++ [Value.slice (some ⟨g, 0, none⟩) m gc]).toArray 147)) := (Below.refl _ _).alloc (Nat.le_refl _) _
      have P2 := Lib.hid (P1.out.below hb)
      have RK2 := Lib.hid (RK1.out.below hb RK1.out.lt)
      have RB := Lib.hid (Row.new V1 147 (X ++ [Value.slice (some ⟨g, 0, none⟩) m gc]))
      have S2 := Lib.hid (HSS.out _ P2.out)
      clear hb
      obtain ⟨gb, hgb⟩ : ∃ gb, gb = V1.heap.size := ⟨_, rfl⟩
      rw [← hgb] at RB ⊢
      clear hgb
      generalize V1.alloc (.cells (X ++ [Value.slice (some ⟨g, 0, none⟩) m gc]).toArray 147) = V2 at *
      refine hK.out _ _ S2.out ?_
      clear hK K
      try simp only [Act.put, List.setIfInBounds_toArray, List.set_cons_zero, List.set_cons_succ]
      obtain ⟨css, hown, hel⟩ := P2.out.reg.tabs
      have HO := Lib.hid hown
      have HE := Lib.hid hel
      clear hown hel
      refine readyL (i := 10) rfl (by kernel_rfl) (by kernel_rfl) fun K hK => ?_
      refine wp_appendN (.tmp 29) (.tmp 34) 83 147 _ 33 56 rfl Tryz.underlying83 info_tab zsz_tab (by omega) v ts.length css.flatten base V2.heap.size (some ⟨gb, 0, none⟩) 1 1 (X ++ [Value.slice (some ⟨g, 0, none⟩) m gc]) (by go_simp) HO.out (by go_simp) (by have := RB.out.sees0; rwa [List.length_append, HXL.out] at this) (HONE.out _ _ _) (by unfold maxLen; have := HNT.out; omega) (by have := HNT.out; omega) (Nat.le_trans HBASE.out P2.out.b.size) ?_
      intro v4 V4 ho4 hg4
      obtain ⟨A4, c4, hv4, _⟩ := own_form2 ho4
      subst hv4
      have HO4 := Lib.hid ho4
      have HG4 := Lib.hid hg4
      have S4 := Lib.hid (show ∀ j u, X[j]? = some u → V4.cell? ((⟨w.heap.size, 0, none⟩ : Addr).add j) = some u from fun j u hu => by rw [addr_row, Nat.zero_add]; exact ((HS4.out _ _ _ _ _ P2.out HO.out hg4).1.cell j).trans hu)
      have HR4 := Lib.hid (HS4.out _ _ _ _ _ P2.out HO.out hg4)
      clear ho4 hg4
      refine hK.out _ _ S4.out ?_
      clear hK K
      try simp only [Act.put, List.setIfInBounds_toArray, List.set_cons_zero, List.set_cons_succ]
      refine takeL (i := 11) (v := ?_) rfl (by kernel_rfl) (by kernel_rfl) (by kernel_rfl) (fun _ _ _ h => h) (Or.inl ⟨by rfl, ?_⟩) S4.out ?_
      rotate_left
      · intro w hw
        try dsimp only at hw
        go_simp
        try with_reducible rfl
      try simp only [Act.put, List.setIfInBounds_toArray, List.set_cons_zero, List.set_cons_succ]
      refine takeL (i := 12) (v := ?_) rfl (by kernel_rfl) (by kernel_rfl) (by kernel_rfl) (fun _ _ _ h => h) (Or.inl ⟨by rfl, ?_⟩) S4.out ?_
      rotate_left
      · intro w hw
        try dsimp only at hw
        go_simp
        try with_reducible rfl
      try simp only [Act.put, List.setIfInBounds_toArray, List.set_cons_zero, List.set_cons_succ]
      have ce : V4.cell? ⟨pb, 0, none⟩ = some v := HR4.out.2.cell 0
      have fe := HR4.out.2.frozen 0
      refine readyL (i := 13) rfl (by kernel_rfl) (by kernel_rfl) fun K hK => ?_
      go_simp
      have S5 : Hid (∀ j u, X[j]? = some u → (V4.setCell ⟨pb, 0, none⟩ (.slice A4 (ts.length + 1) c4)).cell? ((⟨w.heap.size, 0, none⟩ : Addr).add j) = some u) := Lib.hid fun j u hu => by
        rw [addr_row, Nat.zero_add]
        refine (((turned_setCell V4 ⟨pb, 0, none⟩ (.slice A4 (ts.length + 1) c4)).row HR4.out.1 (fun e => ?_)).cell j).trans hu
        have e' : w.heap.size = pb := e
        have h1 := HR4.out.1.is
        rw [e', HR4.out.2.is] at h1
        injection h1 with h1
        injection h1 with _ h1
        revert h1
        decide
      clear ce fe
      refine hK.out _ _ S5.out ?_
      clear hK K
      try simp only [Act.put, List.setIfInBounds_toArray, List.set_cons_zero, List.set_cons_succ]
      refine wpAnyH_done (by kernel_rfl) ?_ _
      go_wp2_with fail
      go_ret
      have hon := HO4.out
      have hlm := HL.out
      rw [← hlm] at hon
      exact HDN.out V2 V4 (.slice A4 (ts.length + 1) c4) g gc rest css P2.out HE.out HM.out hon HG4.out HO.out RK2.out HGW.out (by rw [hlm]; exact HGC.out)
    · refine wp_appendN (.const (.slice none 0 0)) (.tmp 31) 34 78 _ 32 32 rfl Tryz.underlying34 info_key zsz6 (by omega) (.slice none 0 0) 0 [] V0.heap.size B A m c (bv l.flatten) rfl (own_nilN _ _ _ _) (by go_simp) (HKI.out V0 P0.out.b).sees (bv_one _) (by unfold maxLen; omega) (by omega) (Nat.le_refl _) ?_
      intro va V1 ho hg
      rw [Nat.zero_add, List.nil_append] at ho
      have hb : Below V0.heap.size V0 V1 := (Below.refl V0.heap.size V0).grown hg.grown (Nat.le_refl _) (fun k hk => by cases hk)
      obtain ⟨g, gc, rest, rfl, hgb, hrk, hgc⟩ := own_block ho h0
      have P1 := Lib.hid (P0.out.below hb)
      have RK1 := Lib.hid hrk
      have HGW := Lib.hid (Nat.le_trans P0.out.b.size hgb)
      have HGC := Lib.hid hgc
      have S1 := Lib.hid (HSS.out _ P1.out)
      clear ho hg hb hgb hrk hgc
      refine hK.out _ _ S1.out ?_
      clear hK K
      try simp only [Act.put, List.setIfInBounds_toArray, List.set_cons_zero, List.set_cons_succ]
      refine takeL (i := 8) (v := .agg (X ++ [Value.slice (some ⟨g, 0, none⟩) m gc]).toArray) rfl (by kernel_rfl) (by kernel_rfl) (by kernel_rfl) (fun _ _ _ h => h) (Or.inl ⟨by rfl, fun wz _ => exec_built wz 147 _ _ rfl (by simp only [List.map_toArray, List.map_cons, List.map_nil]; exact built_tab X HXL.out _ _ _)⟩) S1.out ?_
      try simp only [Act.put, List.setIfInBounds_toArray, List.set_cons_zero, List.set_cons_succ]
      refine readyL2 (i := 4) (j := 9) rfl rfl (by kernel_rfl) (by kernel_rfl) (by kernel_rfl) (fun K hK => ?_) (fun K hK => ?_)
      · have cl1 : V1.cell? ⟨pb, 0, none⟩ = some v := P1.out.reg.row.cell 0
        go_simp
        clear cl1
        refine hK.out _ _ S1.out ?_
        clear hK K
        try simp only [Act.put, List.setIfInBounds_toArray, List.set_cons_zero, List.set_cons_succ]
        refine readyL (i := 9) rfl (by kernel_rfl) (by kernel_rfl) fun K hK => ?_
        refine wp_buildOne 83 147 (.tmp 33) rfl (X ++ [Value.slice (some ⟨g, 0, none⟩) m gc]) _ 33 56 Tryz.underlying83 info_tab zsz_tab (by omega) (by omega) (by rw [List.length_append, HXL.out]; rfl) (by go_simp) ?_
        have hb : Below V1.heap.size V1 (V1.alloc (.cells (X ++ [Value.slice (some ⟨g, 0, none⟩) m gc]).toArray 147)) := (Below.refl _ _).alloc (Nat.le_refl _) _
        have P2 := Lib.hid (P1.out.below hb)
        have RK2 := Lib.hid (RK1.out.below hb RK1.out.lt)
        have RB := Lib.hid (Row.new V1 147 (X ++ [Value.slice (some ⟨g, 0, none⟩) m gc]))
        have S2 := Lib.hid (HSS.out _ P2.out)
        clear hb
        obtain ⟨gb, hgb⟩ : ∃ gb, gb = V1.heap.size := ⟨_, rfl⟩
        rw [← hgb] at RB ⊢
        clear hgb
        generalize V1.alloc (.cells (X ++ [Value.slice (some ⟨g, 0, none⟩) m gc]).toArray 147) = V2 at *
        refine hK.out _ _ S2.out ?_
        clear hK K
        try simp only [Act.put, List.setIfInBounds_toArray, List.set_cons_zero, List.set_cons_succ]
        obtain ⟨css, hown, hel⟩ := P2.out.reg.tabs
        have HO := Lib.hid hown
        have HE := Lib.hid hel
        clear hown hel
        refine readyL (i := 10) rfl (by kernel_rfl) (by kernel_rfl) fun K hK => ?_
        refine wp_appendN (.tmp 29) (.tmp 34) 83 147 _ 33 56 rfl Tryz.underlying83 info_tab zsz_tab (by omega) v ts.length css.flatten base V2.heap.size (some ⟨gb, 0, none⟩) 1 1 (X ++ [Value.slice (some ⟨g, 0, none⟩) m gc]) (by go_simp) HO.out (by go_simp) (by have := RB.out.sees0; rwa [List.length_append, HXL.out] at this) (HONE.out _ _ _) (by unfold maxLen; have := HNT.out; omega) (by have := HNT.out; omega) (Nat.le_trans HBASE.out P2.out.b.size) ?_
        intro v4 V4 ho4 hg4
        obtain ⟨A4, c4, hv4, _⟩ := own_form2 ho4
        subst hv4
        have HO4 := Lib.hid ho4
        have HG4 := Lib.hid hg4
        have S4 := Lib.hid (show ∀ j u, X[j]? = some u → V4.cell? ((⟨w.heap.size, 0, none⟩ : Addr).add j) = some u from fun j u hu => by rw [addr_row, Nat.zero_add]; exact ((HS4.out _ _ _ _ _ P2.out HO.out hg4).1.cell j).trans hu)
        have HR4 := Lib.hid (HS4.out _ _ _ _ _ P2.out HO.out hg4)
        clear ho4 hg4
        refine hK.out _ _ S4.out ?_
        clear hK K
        try simp only [Act.put, List.setIfInBounds_toArray, List.set_cons_zero, List.set_cons_succ]
        refine takeL (i := 11) (v := ?_) rfl (by kernel_rfl) (by kernel_rfl) (by kernel_rfl) (fun _ _ _ h => h) (Or.inl ⟨by rfl, ?_⟩) S4.out ?_
        rotate_left
        · intro w hw
          try dsimp only at hw
          go_simp
          try with_reducible rfl
        try simp only [Act.put, List.setIfInBounds_toArray, List.set_cons_zero, List.set_cons_succ]
        refine takeL (i := 12) (v := ?_) rfl (by kernel_rfl) (by kernel_rfl) (by kernel_rfl) (fun _ _ _ h => h) (Or.inl ⟨by rfl, ?_⟩) S4.out ?_
        rotate_left
        · intro w hw
          try dsimp only at hw
          go_simp
          try with_reducible rfl
        try simp only [Act.put, List.setIfInBounds_toArray, List.set_cons_zero, List.set_cons_succ]
        have ce : V4.cell? ⟨pb, 0, none⟩ = some v := HR4.out.2.cell 0
        have fe := HR4.out.2.frozen 0
        refine readyL (i := 13) rfl (by kernel_rfl) (by kernel_rfl) fun K hK => ?_
        go_simp
        have S5 : Hid (∀ j u, X[j]? = some u → (V4.setCell ⟨pb, 0, none⟩ (.slice A4 (ts.length + 1) c4)).cell? ((⟨w.heap.size, 0, none⟩ : Addr).add j) = some u) := Lib.hid fun j u hu => by
          rw [addr_row, Nat.zero_add]
          refine (((turned_setCell V4 ⟨pb, 0, none⟩ (.slice A4 (ts.length + 1) c4)).row HR4.out.1 (fun e => ?_)).cell j).trans hu
          have e' : w.heap.size = pb := e
          have h1 := HR4.out.1.is
          rw [e', HR4.out.2.is] at h1
          injection h1 with h1
          injection h1 with _ h1
          revert h1
          decide
        clear ce fe
        refine hK.out _ _ S5.out ?_
        clear hK K
        try simp only [Act.put, List.setIfInBounds_toArray, List.set_cons_zero, List.set_cons_succ]
        refine wpAnyH_done (by kernel_rfl) ?_ _
        go_wp2_with fail
        go_ret
        have hon := HO4.out
        have hlm := HL.out
        rw [← hlm] at hon
        exact HDN.out V2 V4 (.slice A4 (ts.length + 1) c4) g gc rest css P2.out HE.out HM.out hon HG4.out HO.out RK2.out HGW.out (by rw [hlm]; exact HGC.out)
      · refine wp_buildOne 83 147 (.tmp 33) rfl (X ++ [Value.slice (some ⟨g, 0, none⟩) m gc]) _ 33 56 Tryz.underlying83 info_tab zsz_tab (by omega) (by omega) (by rw [List.length_append, HXL.out]; rfl) (by go_simp) ?_
        have hb : Below V1.heap.size V1 (V1.alloc (.cells (X ++ [Value.slice (some ⟨g, 0, none⟩) m gc]).toArray 147)) := (Below.refl _ _).alloc (Nat.le_refl _) _
        have P2 := Lib.hid (P1.out.below hb)
        have RK2 := Lib.hid (RK1.out.below hb RK1.out.lt)
        have RB := Lib.hid (Row.new V1 147 (X ++ [Value.slice (some ⟨g, 0, none⟩) m gc]))
        have S2 := Lib.hid (HSS.out _ P2.out)
        clear hb
        obtain ⟨gb, hgb⟩ : ∃ gb, gb = V1.heap.size := ⟨_, rfl⟩
        rw [← hgb] at RB ⊢
        clear hgb
        generalize V1.alloc (.cells (X ++ [Value.slice (some ⟨g, 0, none⟩) m gc]).toArray 147) = V2 at *
        refine hK.out _ _ S2.out ?_
        clear hK K
        try simp only [Act.put, List.setIfInBounds_toArray, List.set_cons_zero, List.set_cons_succ]
        refine readyL (i := 4) rfl (by kernel_rfl) (by kernel_rfl) fun K hK => ?_
        have cl2 : V2.cell? ⟨pb, 0, none⟩ = some v := P2.out.reg.row.cell 0
        go_simp
        clear cl2
        refine hK.out _ _ S2.out ?_
        clear hK K
        try simp only [Act.put, List.setIfInBounds_toArray, List.set_cons_zero, List.set_cons_succ]
        obtain ⟨css, hown, hel⟩ := P2.out.reg.tabs
        have HO := Lib.hid hown
        have HE := Lib.hid hel
        clear hown hel
        refine readyL (i := 10) rfl (by kernel_rfl) (by kernel_rfl) fun K hK => ?_
        refine wp_appendN (.tmp 29) (.tmp 34) 83 147 _ 33 56 rfl Tryz.underlying83 info_tab zsz_tab (by omega) v ts.length css.flatten base V2.heap.size (some ⟨gb, 0, none⟩) 1 1 (X ++ [Value.slice (some ⟨g, 0, none⟩) m gc]) (by go_simp) HO.out (by go_simp) (by have := RB.out.sees0; rwa [List.length_append, HXL.out] at this) (HONE.out _ _ _) (by unfold maxLen; have := HNT.out; omega) (by have := HNT.out; omega) (Nat.le_trans HBASE.out P2.out.b.size) ?_
        intro v4 V4 ho4 hg4
        obtain ⟨A4, c4, hv4, _⟩ := own_form2 ho4
        subst hv4
        have HO4 := Lib.hid ho4
        have HG4 := Lib.hid hg4
        have S4 := Lib.hid (show ∀ j u, X[j]? = some u → V4.cell? ((⟨w.heap.size, 0, none⟩ : Addr).add j) = some u from fun j u hu => by rw [addr_row, Nat.zero_add]; exact ((HS4.out _ _ _ _ _ P2.out HO.out hg4).1.cell j).trans hu)
        have HR4 := Lib.hid (HS4.out _ _ _ _ _ P2.out HO.out hg4)
        clear ho4 hg4
        refine hK.out _ _ S4.out ?_
        clear hK K
        try simp only [Act.put, List.setIfInBounds_toArray, List.set_cons_zero, List.set_cons_succ]
        refine takeL (i := 11) (v := ?_) rfl (by kernel_rfl) (by kernel_rfl) (by kernel_rfl) (fun _ _ _ h => h) (Or.inl ⟨by rfl, ?_⟩) S4.out ?_
        rotate_left
        · intro w hw
          try dsimp only at hw
          go_simp
          try with_reducible rfl
        try simp only [Act.put, List.setIfInBounds_toArray, List.set_cons_zero, List.set_cons_succ]
        refine takeL (i := 12) (v := ?_) rfl (by kernel_rfl) (by kernel_rfl) (by kernel_rfl) (fun _ _ _ h => h) (Or.inl ⟨by rfl, ?_⟩) S4.out ?_
        rotate_left
        · intro w hw
          try dsimp only at hw
          go_simp
          try with_reducible rfl
        try simp only [Act.put, List.setIfInBounds_toArray, List.set_cons_zero, List.set_cons_succ]
        have ce : V4.cell? ⟨pb, 0, none⟩ = some v := HR4.out.2.cell 0
        have fe := HR4.out.2.frozen 0
        refine readyL (i := 13) rfl (by kernel_rfl) (by kernel_rfl) fun K hK => ?_
        go_simp
        have S5 : Hid (∀ j u, X[j]? = some u → (V4.setCell ⟨pb, 0, none⟩ (.slice A4 (ts.length + 1) c4)).cell? ((⟨w.heap.size, 0, none⟩ : Addr).add j) = some u) := Lib.hid fun j u hu => by
          rw [addr_row, Nat.zero_add]
          refine (((turned_setCell V4 ⟨pb, 0, none⟩ (.slice A4 (ts.length + 1) c4)).row HR4.out.1 (fun e => ?_)).cell j).trans hu
          have e' : w.heap.size = pb := e
          have h1 := HR4.out.1.is
          rw [e', HR4.out.2.is] at h1
          injection h1 with h1
          injection h1 with _ h1
          revert h1
          decide
        clear ce fe
        refine hK.out _ _ S5.out ?_
        clear hK K
        try simp only [Act.put, List.setIfInBounds_toArray, List.set_cons_zero, List.set_cons_succ]
        refine wpAnyH_done (by kernel_rfl) ?_ _
        go_wp2_with fail
        go_ret
        have hon := HO4.out
        have hlm := HL.out
        rw [← hlm] at hon
        exact HDN.out V2 V4 (.slice A4 (ts.length + 1) c4) g gc rest css P2.out HE.out HM.out hon HG4.out HO.out RK2.out HGW.out (by rw [hlm]; exact HGC.out)
end Go.Proofs.YtdgbodljmdcagaaGreatDoor

/-
  Of part RefResT: what is needed here.
-/
namespace Go.Proofs.YtdgbodljmdcagaaGreatDoor
open Go.RowKit
set_option linter.unusedVariables false
set_option maxRecDepth 100000
/-- two lists of the call's own, and the keys that were found, apart from them -/
structure RL (w V : World) (u v : Value) (a b : List (List Int)) (FA : Option Addr) (fn : Nat) (l : List (List Int)) : Prop where
  two : Two w u v a b V
  keys : KeysIn V V.heap.size FA fn l
  nu : ∀ ad, FA = some ad → u.ownBlock ≠ some ad.block
  nv : ∀ ad, FA = some ad → v.ownBlock ≠ some ad.block
section
variable {w V V' : World} {u v u' v' : Value} {a b a' : List (List Int)} {FA : Option Addr} {fn : Nat} {l : List (List Int)}
theorem KeysIn.grew (h : KeysIn V V.heap.size FA fn l) (hg : Grew V V' u u') (hn : ∀ ad, FA = some ad → u.ownBlock ≠ some ad.block) : KeysIn V' V'.heap.size FA fn l :=
  ⟨h.len, h.each, ⟨h.sees.len, fun i x hx => by
    obtain ⟨ad, e, hab, hc⟩ := h.sees.cell i x hx
    refine ⟨ad, e, Nat.lt_of_lt_of_le hab hg.size, ?_⟩
    rw [← hc]
    exact World.cell?_of_block (w := V) (by rw [addr_block]; exact hg.grown.block _ hab fun e' => hn ad e e'.symm)⟩⟩
theorem KeysIn.old (h : KeysIn V V.heap.size FA fn l) (hl : 1 ≤ fn) {ad : Addr} (e : FA = some ad) : ad.block < V.heap.size := by
  obtain ⟨a', u, e', hab, _⟩ := h.sees.at_ (k := 0) (by omega)
  rw [e] at e'
  cases e'
  exact hab
theorem RL.pickU (h : RL w V u v a b FA fn l) (hl : 1 ≤ fn) (hg : Grew V V' u u') (ho : V'.ownsRow w.heap.size 78 32 u' a'.length (bv a'.flatten)) : RL w V' u' v a' b FA fn l :=
  ⟨h.two.pickU hg ho, h.keys.grew hg h.nu, fun ad e e' => by
    rcases hg.fresh _ e' with h1 | h1
    · exact h.nu ad e h1
    · have := h.keys.old hl e; omega, h.nv⟩
theorem RL.pickV (h : RL w V u v a b FA fn l) (hl : 1 ≤ fn) (hg : Grew V V' v v') (ho : V'.ownsRow w.heap.size 78 32 v' a'.length (bv a'.flatten)) : RL w V' u v' a a' FA fn l :=
  ⟨h.two.pickV hg ho, h.keys.grew hg h.nv, h.nu, fun ad e e' => by
    rcases hg.fresh _ e' with h1 | h1
    · exact h.nv ad e h1
    · have := h.keys.old hl e; omega⟩
theorem RL.start (h : Two w u v a b V) (hb : Below V.heap.size V V') (hk : KeysIn V' V'.heap.size FA fn l) (hf : ∀ ad, FA = some ad → V.heap.size ≤ ad.block) : RL w V' u v a b FA fn l :=
  ⟨h.below hb, hk, fun ad e e' => by have := (h.ou.lt _ e').2; have := hf ad e; omega, fun ad e e' => by have := (h.ov.lt _ e').2; have := hf ad e; omega⟩
end
end Go.Proofs.YtdgbodljmdcagaaGreatDoor

/-
  Of part PlayMem: what is needed here.
-/
namespace Go.Proofs.YtdgbodljmdcagaaGreatDoor
open Go.RowKit
set_option linter.unusedVariables false
set_option maxRecDepth 100000
theorem row_ne_map {w : World} {g t mb cl : Nat} {es : Array MapEntry} {xs : List Value} (hr : Row w g t xs) (hm : w.heap[mb]? = some (.map es cl)) : g ≠ mb := by
  rintro rfl
  rw [hr.is] at hm
  cases hm
theorem own_ne_map {w : World} {base size n mb cl : Nat} {e : TypeId} {es : Array MapEntry} {v : Value} {xs : List Value} (h : w.ownsRow base e size v n xs) (hm : w.heap[mb]? = some (.map es cl)) : v.ownBlock ≠ some mb := fun e => by
  obtain ⟨cur, hc⟩ := own_is h e
  rw [hc] at hm
  cases hm
section
variable {w w' : World} {pb qb base base' rb mb hi n tb : Nat} {v v' u : Value} {ts us : List LTab} {S S' : Nat → Prop}
/-- a map is written -/
theorem RReg.map (h : RReg w pb base v ts S) {es : Array MapEntry} {cl : Nat} (hg : w.grownBy w' (some mb)) (hm : w.heap[mb]? = some (.map es cl)) : RReg w' pb base v ts S := by
  obtain ⟨css, h1, h2⟩ := h.tabs
  exact h.keep (fun g xs hr => hr.grown hg (fun e => row_ne_map hr hm (Option.some.inj e))) (hg.block pb h.row.lt (fun e => row_ne_map h.row hm (Option.some.inj e))) fun g e => hg.block g (h1.lt g e).2 fun e' => own_ne_map h1 hm (e.trans e')
theorem PutKeep.row {g t : Nat} {xs : List Value} (hk : PutKeep w w' pb v v') (h' : RReg w pb base v ts S) (hr : Row w g t xs) (h1 : t ≠ 85) (h2 : 147 ≠ t) : Row w' g t xs := by
  obtain ⟨css', h1', h2'⟩ := h'.tabs
  exact ⟨(hk.block g hr.lt (row_ne hr h'.row h1) (fun e => own_row_neN h1' hr h2 e.symm)).trans hr.is⟩
theorem PutKeep.keepReg (hk : PutKeep w w' pb v v') (h' : RReg w pb base v ts S) : KeepReg w w' tb := by
  refine ⟨hk.size, fun k es cl _ hm => ?_, fun k t xs _ ht hr => hk.row h' hr ?_ ?_⟩
  · obtain ⟨css', h1', h2'⟩ := h'.tabs
    exact hk.block k (Array.getElem?_eq_some_iff.1 hm).1 (fun e => row_ne_map h'.row hm e.symm) (own_ne_map h1' hm)
  · rcases ht with rfl | rfl <;> decide
  · rcases ht with rfl | rfl <;> decide
/-- a registry while the reference puts -/
theorem Reg.rput (h : Reg w rb mb hi n us) (h' : RReg w pb base v ts S) (hk : PutKeep w w' pb v v') : Reg w' rb mb w'.heap.size n us :=
  h.keepReg (tb := hi) (hk.keepReg h') (Nat.le_refl _)
theorem RReg.bnd (h : RReg w pb base v ts S) : RReg w pb base v ts (fun g => g < w.heap.size) := h.weak fun g hg _ => hg
end
end Go.Proofs.YtdgbodljmdcagaaGreatDoor

/-
  Of part TabsIn11: what is needed here.
-/
namespace Go.Proofs.YtdgbodljmdcagaaGreatDoor
open Go.RowKit
set_option linter.unusedVariables false
set_option maxRecDepth 100000
structure TRaw11 where
  KA : Option Addr
  kn : Nat
  kc : Nat
def TRaw11.cells (q : TRaw11) (x : LTab) : List Value := bv x.key ++ [.slice q.KA q.kn q.kc]
structure TabIn (w : World) (B : Nat) (q : TRaw11) (x : LTab) : Prop where
  tab : x.key.length = 32
  keys : KeysIn w B q.KA q.kn x.keys
  kn : q.kn ≤ q.kc ∧ q.kc ≤ maxLen
/-- its numbers are bytes; its list is no longer than memory lets it be -/
structure TabOk11 (x : LTab) : Prop where
  tab : KeyOk x.key
  keys : ∀ k ∈ x.keys, KeyOk k
  kn : x.keys.length ≤ 140737488355328
structure TabsIn (w : World) (B : Nat) (A : Option Addr) (n : Nat) (l : List LTab) : Prop where
  len : l.length = n
  at_ : ∀ i x, l[i]? = some x → ∃ a q, A = some a ∧ a.block < B ∧ (∀ j u, (TRaw11.cells q x)[j]? = some u → w.cell? (a.add (i * 33 + j)) = some u) ∧ TabIn w B q x
section
variable {w w' : World} {B B' : Nat} {q : TRaw11} {x : LTab} {A : Option Addr} {n : Nat} {l : List LTab}
theorem TabIn.below (h : TabIn w B q x) (hb : Below B w w') : TabIn w' B q x := ⟨h.tab, h.keys.below hb, h.kn⟩
theorem TabIn.more (h : TabIn w B q x) (hB : B ≤ B') : TabIn w B' q x := ⟨h.tab, h.keys.more hB, h.kn⟩
theorem TabsIn.below (h : TabsIn w B A n l) (hb : Below B w w') : TabsIn w' B A n l := ⟨h.len, fun i x hx => by
  obtain ⟨a, q, rfl, hab, hc, hi⟩ := h.at_ i x hx
  exact ⟨a, q, rfl, hab, fun j u hu => (hb.cell (by rw [addr_block]; exact hab)).trans (hc j u hu), hi.below hb⟩⟩
theorem TabsIn.more (h : TabsIn w B A n l) (hB : B ≤ B') : TabsIn w B' A n l := ⟨h.len, fun i x hx => by
  obtain ⟨a, q, rfl, hab, hc, hi⟩ := h.at_ i x hx
  exact ⟨a, q, rfl, Nat.lt_of_lt_of_le hab hB, hc, hi.more hB⟩⟩
theorem TabsIn.get (h : TabsIn w B A n l) {k : Nat} (hk : k < n) : ∃ a q x, A = some a ∧ a.block < B ∧ l[k]? = some x ∧ (∀ j u, (TRaw11.cells q x)[j]? = some u → w.cell? ((a.add (k * 33)).add j) = some u) ∧ TabIn w B q x := by
  obtain ⟨x, hx⟩ : ∃ x, l[k]? = some x := ⟨_, List.getElem?_eq_getElem (by rw [h.len]; exact hk)⟩
  obtain ⟨a, q, rfl, hab, hc, hi⟩ := h.at_ k x hx
  exact ⟨a, q, x, rfl, hab, hx, fun j u hu => by rw [addr_add]; exact hc j u hu, hi⟩
theorem tcells11_len (h : x.key.length = 32) : (TRaw11.cells q x).length = 33 := by simp [TRaw11.cells, bv_length, h]
theorem tcells11_key {j : Nat} {u : Value} (h : (bv x.key)[j]? = some u) : (TRaw11.cells q x)[j]? = some u := by
  unfold TRaw11.cells
  rw [List.getElem?_append_left (List.getElem?_eq_some_iff.1 h).1]
  exact h
theorem tcells11_32 (h : x.key.length = 32) : (TRaw11.cells q x)[32]? = some (.slice q.KA q.kn q.kc) := by
  unfold TRaw11.cells
  rw [List.getElem?_append_right (by rw [bv_length, h]; exact Nat.le_refl _), bv_length, h]
  rfl
theorem tcells11_one : ∀ u ∈ TRaw11.cells q x, u.oneCell' = true := by
  intro u hu
  simp only [TRaw11.cells, List.mem_append, List.mem_cons, List.not_mem_nil, or_false] at hu
  rcases hu with hu | rfl
  · exact bv_one _ _ hu
  · rfl
end
theorem cellsTab11 : Tryz.prog.cellsOf 80 = 33 := by kernel_rfl
theorem bytesTab11 : Tryz.prog.bytesOf 80 = 56 := by kernel_rfl
theorem two_of11 {α : Type} {xs : List α} (h : xs.length = 2) : ∃ a b, xs = [a, b] := by
  match xs, h with
  | [a, b], _ => exact ⟨a, b, rfl⟩
section
variable {H : Type} {enc : TypeId × Value → H} {w : World} {base b0 : Nat} {held : Bool}
theorem wt_tab11 {y0 y1 : DataW H} (h : Wt 80 (.agg [y0, y1])) : Wt 34 y1 := by
  refine fun n hn => h n ?_
  simp only [DataW.weights, Tryz.underlying80]
  simp [DataW.weightsEach, hn]
theorem open_tab_cells {fuel : Nat} {cs : List Value} {x : DataW H × List MemPlace} (hf : DataW.trod enc Tryz.prog w base (fun _ => true) held fuel 80 cs = some x) (hw : Wt 80 x.1) :
    ∃ q m, cs = TRaw11.cells q m ∧ TabIn w w.heap.size q m ∧ TabOk11 m := by
  obtain ⟨xs, n, _, hx, hl, hlen, ht⟩ := DataW.trod_struct Tryz.underlying80 hf
  rw [cellsTab11] at hl
  obtain ⟨y1, y2, rfl⟩ := two_of11 hlen
  have hx1 : x.1 = .agg [y1.1, y2.1] := by simpa using congrArg Prod.fst hx
  rw [hx1] at hw
  have w2 := wt_tab11 hw
  have t1 : DataW.trod enc Tryz.prog w base (fun _ => true) held n 78 ((cs.drop 0).take 32) = some y1 := by rw [← cellsKey]; exact ht 0 _ rfl
  have t2 : DataW.trod enc Tryz.prog w base (fun _ => true) held n 34 ((cs.drop 32).take 1) = some y2 := by rw [← cellsKeys]; exact ht 1 _ rfl
  have hsplit : cs = (cs.drop 0).take 32 ++ (cs.drop 32).take 1 := by
    have e5 : cs.drop 32 = (cs.drop 32).take 1 := (List.take_of_length_le (by rw [List.length_drop]; omega)).symm
    rw [← e5, ← cut cs 0 32 32 rfl]
    rfl
  obtain ⟨v2, hv2⟩ := one_of (cs := (cs.drop 32).take 1) (by simp; omega)
  rw [hv2] at t2
  obtain ⟨z, hz, hz1, hz2⟩ := open_32 Tryz.underlying78 cellsKey t1
  obtain ⟨KA, kn, kc, ks, rfl, k1, k2, k3, k4, k5⟩ := open_keys t2 w2
  refine ⟨⟨KA, kn, kc⟩, ⟨z, ks⟩, ?_, ⟨hz1, k3, ⟨k1, k2⟩⟩, ⟨⟨hz1, hz2⟩, k4, k5⟩⟩
  rw [hsplit, hz, hv2]
  rfl
theorem open_tabs {fuel : Nat} {v : Value} {x : DataW H × List MemPlace} (h : DataW.trod enc Tryz.prog w base (fun _ => true) held fuel 23 [v] = some x) (hw : Wt 23 x.1) :
    ∃ A n c l, v = .slice A n c ∧ n ≤ c ∧ c ≤ maxLen ∧ TabsIn w w.heap.size A n l ∧ (∀ y ∈ l, TabOk11 y) ∧ l.length ≤ 140737488355328 := by
  obtain ⟨A, n, c, hcs, h1, h2, h3, h4⟩ := open_sl Tryz.underlying23 (by rw [cellsTab11]; omega) h hw
  obtain rfl : v = .slice A n c := by simpa using hcs
  rw [bytesTab11] at h3
  have := reach47
  obtain ⟨l, hl, hp⟩ := list_of (α := LTab) (p := fun i z => TabOk11 z ∧ ∃ a q, A = some a ∧ a.block < w.heap.size ∧ (∀ j u, (TRaw11.cells q z)[j]? = some u → w.cell? (a.add (i * 33 + j)) = some u) ∧ TabIn w w.heap.size q z) n fun i hi => by
    obtain ⟨a, cs', y, m, e1, e2, e3, e4, e5, e6⟩ := h4 i hi
    obtain ⟨q, z, rfl, hz, hz'⟩ := open_tab_cells e5 e6
    rw [cellsTab11] at e4
    exact ⟨z, hz', a, q, e1, e2, e4, hz⟩
  subst hl
  refine ⟨A, l.length, c, l, rfl, h1, h2, ⟨rfl, fun i x hx => (hp i x hx).2⟩, fun k hk => ?_, by omega⟩
  obtain ⟨i, hi, rfl⟩ := List.getElem_of_mem hk
  exact (hp i _ (List.getElem?_eq_getElem hi)).1
/-- a parameter -/
theorem open_tabs_v {A : Option Addr} {n c : Nat} {d : DataW H} {p : List MemPlace} (h : DataW.Trod enc Tryz.prog w base (fun _ => true) held 23 (.slice A n c) d p) (hw : Wt 23 d) :
    ∃ l, n ≤ c ∧ c ≤ maxLen ∧ TabsIn w w.heap.size A n l ∧ (∀ y ∈ l, TabOk11 y) ∧ l.length ≤ 140737488355328 := by
  obtain ⟨fuel, hf⟩ := h
  obtain ⟨A', n', c', l, hv, h1⟩ := open_tabs (v := .slice A n c) hf hw
  injection hv with e1 e2 e3
  subst e1 e2 e3
  exact ⟨l, h1⟩
end
end Go.Proofs.YtdgbodljmdcagaaGreatDoor

/-
  Of part LaidSt11: what is needed here.
-/
namespace Go.Proofs.YtdgbodljmdcagaaGreatDoor
open Go.RowKit
set_option linter.unusedVariables false
set_option maxRecDepth 100000
/-- both registries, behind k calls of Put -/
structure LSt (w V : World) (rb mb pb : Nat) (v : Value) (ts : List LTab) (k : Nat) : Prop where
  b : Below w.heap.size w V
  r : ∃ n, n ≤ k ∧ Reg V rb mb V.heap.size n ts
  m : RReg V pb w.heap.size v ts (fun g => g < V.heap.size)
  len : ts.length ≤ k
  low : w.heap.size ≤ mb ∧ w.heap.size ≤ pb
section
variable {w V V' : World} {rb mb pb k : Nat} {v : Value} {ts : List LTab}
theorem LSt.below (h : LSt w V rb mb pb v ts k) (hb : Below V.heap.size V V') : LSt w V' rb mb pb v ts k := by
  obtain ⟨n, h1, h2⟩ := h.r
  exact ⟨h.b.trans (hb.mono h.b.size), ⟨n, h1, (h2.below hb).more hb.size (Nat.le_refl _)⟩, (h.m.below hb).bnd, h.len, h.low⟩
/-- both made -/
theorem LSt.made {w1 : World} (hr : Reg w1 (w.heap.size + 1) w.heap.size w1.heap.size 0 []) (hb : Below w.heap.size w w1) :
    LSt w (w1.alloc (.cells #[.slice none 0 0] 85)) (w.heap.size + 1) w.heap.size w1.heap.size (.slice none 0 0) [] 0 := by
  have ba : Below w1.heap.size w1 (w1.alloc (.cells #[.slice none 0 0] 85)) := (Below.refl _ _).alloc (Nat.le_refl _) _
  refine ⟨hb.trans (ba.mono hb.size), ⟨0, Nat.le_refl _, (hr.below ba).more ba.size (Nat.le_refl _)⟩, ⟨Row.new w1 _ [.slice none 0 0], ⟨[], World.ownsRow_nil _ _ _ _, ⟨rfl, fun i x cs hx => by simp at hx⟩⟩, fun t ht => by cases ht⟩, Nat.zero_le _, Nat.le_refl _, hb.size⟩
/-- behind the first Put: the registry has the table, the document's not yet -/
structure LMid (w w1 : World) (rb mb pb : Nat) (v : Value) (ts ts' : List LTab) (k : Nat) : Prop where
  b : Below w.heap.size w w1
  r : ∃ n, n ≤ k + 1 ∧ Reg w1 rb mb w1.heap.size n ts'
  m : RReg w1 pb w.heap.size v ts (fun g => g < w1.heap.size)
  len : ts.length ≤ k
  low : w.heap.size ≤ mb ∧ w.heap.size ≤ pb
theorem LSt.mid {w1 : World} {x : List Int} {l : List (List Int)} {e : Ending} (h : LSt w V rb mb pb v ts k) {n : Nat} (hn : n ≤ k) (hr : Reg V rb mb V.heap.size n ts) (hd : PutTDone V rb mb n ts x l e w1) : LMid w w1 rb mb pb v ts (putT ts x l) k := by
  obtain ⟨_, hreg, hgr⟩ := hd
  obtain ⟨es, cl, hm⟩ := hr.is_map
  exact ⟨h.b.grown hgr h.b.size (fun j hj => by cases hj; exact h.low.1), ⟨n + 1, by omega, hreg⟩, (h.m.map hgr hm).weak fun g hg _ => hg, h.len, h.low⟩
theorem LMid.below {w1 w2 : World} {ts' : List LTab} (h : LMid w w1 rb mb pb v ts ts' k) (hb : Below w1.heap.size w1 w2) : LMid w w2 rb mb pb v ts ts' k := by
  obtain ⟨n, h1, h2⟩ := h.r
  exact ⟨h.b.trans (hb.mono h.b.size), ⟨n, h1, (h2.below hb).more hb.size (Nat.le_refl _)⟩, (h.m.below hb).bnd, h.len, h.low⟩
/-- behind both -/
theorem LMid.end_ {w1 w2 : World} {x : List Int} {l : List (List Int)} {e : Ending} (h : LMid w w1 rb mb pb v ts (putT ts x l) k) (hd : RPutDone w1 pb w.heap.size v ts (fun g => g < w1.heap.size) x l e w2) : ∃ v', LSt w w2 rb mb pb v' (putT ts x l) (k + 1) := by
  obtain ⟨_, v', hrr, hpk⟩ := hd
  obtain ⟨css, h1, h2⟩ := h.m.tabs
  obtain ⟨n, hn, hreg⟩ := h.r
  refine ⟨v', ⟨⟨hpk.os.trans h.b.os, hpk.tape.trans h.b.tape, hpk.output.trans h.b.output, Nat.le_trans h.b.size hpk.size, fun j hj => ?_⟩, ⟨n, hn, hreg.rput h.m hpk⟩, hrr.weak fun g hg _ => hg, ?_, h.low⟩⟩
  · refine (hpk.block j (Nat.lt_of_lt_of_le hj h.b.size) (fun e => ?_) fun e => ?_).trans (h.b.block j hj)
    · have := h.low.2; omega
    · have := (h1.lt j e).1; omega
  · have := putT_len ts x l
    have := h.len
    omega
end
theorem laidT_take {l : List LTab} {j : Nat} {t : LTab} (h : l[j]? = some t) : laidT [] (l.take (j + 1)) = putT (laidT [] (l.take j)) t.key t.keys := by
  rw [List.take_add_one, h, laidT_append]
  rfl
end Go.Proofs.YtdgbodljmdcagaaGreatDoor

/-
  Of part Law11: what is needed here.
-/
namespace Go.Proofs.YtdgbodljmdcagaaGreatDoor
open Go.RowKit
set_option linter.unusedVariables false
set_option maxRecDepth 100000
def isGreat11 (l : List LTab) : Bool := l.any fun t => decide (400 < t.keys.length)
theorem great_take {l : List LTab} {k : Nat} {t : LTab} (h : l[k]? = some t) : isGreat11 (l.take (k + 1)) = (isGreat11 (l.take k) || decide (400 < t.keys.length)) := by
  unfold isGreat11
  rw [List.take_add_one, h, List.any_append]
  simp
theorem great_hit {l : List LTab} {k : Nat} {t : LTab} (h : l[k]? = some t) (h4 : 400 < t.keys.length) : isGreat11 l = true := List.any_eq_true.2 ⟨t, List.mem_of_getElem? h, decide_eq_true h4⟩
set_option maxHeartbeats 2000000 in
theorem great11 (BA A : Option Addr) (bn bc n c B : Nat) (l : List LTab) (w : World) (hl : TabsIn w B A n l) (hn : n ≤ maxLen) :
    Calls Tryz.prog 8 #[.slice BA bn bc, .slice A n c] w fun e w' => e = .returned (.bool (decide (5000 < bn) || decide (20 < n) || isGreat11 l)) ∧ w' = w := by
  unfold maxLen at hn
  have HL := Lib.hid hl
  have HN := Lib.hid hl.len
  clear hl
  by_cases h5 : 5000 < bn
  · have h5' : (5000 : Int) < bn := by omega
    rw [decide_eq_true h5, Bool.true_or, Bool.true_or]
    go_enter Tryz.func8, Tryz.ntmps8
    go_wp2
    go_ret
    exact ⟨rfl, rfl⟩
  have h5' : ¬ (5000 : Int) < bn := by omega
  by_cases h2 : 20 < n
  · have h2' : (20 : Int) < n := by omega
    rw [decide_eq_false h5, decide_eq_true h2, Bool.false_or, Bool.true_or]
    clear h5 h2
    go_enter Tryz.func8, Tryz.ntmps8
    go_wp2
    go_ret
    exact ⟨rfl, rfl⟩
  have h2' : ¬ (20 : Int) < n := by omega
  rw [decide_eq_false h5, decide_eq_false h2, Bool.false_or, Bool.false_or]
  clear h5
  obtain ⟨gr, hgr⟩ : ∃ gr, gr = isGreat11 l := ⟨_, rfl⟩
  rw [← hgr]
  have HGR := Lib.hid hgr
  clear hgr
  go_enter Tryz.func8, Tryz.ntmps8
  go_wp2
  go_loop [5] (fun i => ∃ k : Nat, k ≤ n ∧ i = .int .i64 k ∧ isGreat11 (l.take k) = false) (fun i => n - (intOf i).toNat)
  case atStart => exact ⟨0, Nat.zero_le _, rfl, rfl⟩
  case round =>
    obtain ⟨k, hk, rfl, hg⟩ := hrel
    have HG := Lib.hid hg
    clear hg
    by_cases hlt : k < n
    · obtain ⟨a, q, t, rfl, hab, ht, hcs, hin⟩ := HL.out.get hlt
      obtain ⟨KA, kn, kc⟩ := q
      have c32 : w.cell? ⟨(a.add (k * 33)).block, (a.add (k * 33)).off + 32, none⟩ = some (.slice KA kn kc) := hcs 32 _ (tcells11_32 hin.tab)
      have hkl := hin.keys.len
      have hkc := hin.kn
      unfold maxLen at hkc
      dsimp only at hkl hkc
      have HT := Lib.hid ht
      clear hcs hin ht
      by_cases h4 : 400 < kn
      · have h4' : (400 : Int) < kn := by omega
        have HE : Hid (gr = true) := Lib.hid (by rw [HGR.out]; exact great_hit HT.out (by omega))
        clear h4
        go_wp2
        go_ret
        exact ⟨by rw [HE.out]; rfl, rfl⟩
      · have h4' : ¬ (400 : Int) < kn := by omega
        have HE : Hid (isGreat11 (l.take (k + 1)) = false) := Lib.hid (by rw [great_take HT.out, HG.out, decide_eq_false (by omega)]; rfl)
        clear h4
        go_wp2
        go_round
        case rel => exact ⟨k + 1, by omega, by go_num, HE.out⟩
        case measure => simp [intOf]; omega
    · have hkn : k = n := by omega
      have HE : Hid (gr = false) := Lib.hid (by
        have h1 := HG.out
        rwa [hkn, List.take_of_length_le (by rw [HN.out]; exact Nat.le_refl _), ← HGR.out] at h1)
      clear hkn
      go_wp2
      go_ret
      exact ⟨by rw [HE.out]; rfl, rfl⟩
def LaidDone (w : World) (l : List LTab) (e : Ending) (w' : World) : Prop :=
  ∃ rb mb pb v, e = .returned (.tuple #[.pointer (some ⟨rb, 0, none⟩), .pointer (some ⟨pb, 0, none⟩)]) ∧ LSt w w' rb mb pb v (laidT [] l) l.length
set_option maxRecDepth 100000 in
set_option maxHeartbeats 8000000 in
theorem laid11 (A : Option Addr) (n c B : Nat) (l : List LTab) (w : World) (hl : TabsIn w B A n l) (hB : B ≤ w.heap.size) (hok : ∀ t ∈ l, TabOk11 t) (hn : n ≤ 40) :
    Calls Tryz.prog 10 #[.slice A n c] w (LaidDone w l) := by
  have HL := Lib.hid hl
  have HN := Lib.hid hl.len
  have HOK := Lib.hid hok
  have HBW := Lib.hid hB
  clear hl hok hB
  go_enter Tryz.func10, Tryz.ntmps10
  go_wp2_with fail
  refine (newReg w).mono ?_
  rintro e w1 ⟨rfl, hreg, hb⟩
  have L0 := Lib.hid (LSt.made hreg hb)
  have HZ1 := Lib.hid hb.size
  clear hreg hb
  obtain ⟨rb, hrb⟩ : ∃ rb, rb = w.heap.size + 1 := ⟨_, rfl⟩
  rw [← hrb] at L0 ⊢
  clear hrb
  obtain ⟨mb, hmb⟩ : ∃ mb, mb = w.heap.size := ⟨_, rfl⟩
  have L0' : LSt w (w1.alloc (.cells #[.slice none 0 0] 85)) rb mb w1.heap.size (.slice none 0 0) [] 0 := by rw [hmb]; exact L0.out
  have L0 := Lib.hid L0'
  clear L0' hmb
  go_wp2_with fail
  go_loopw [6] (fun i wr => ∃ (k : Nat) (v : Value), k ≤ n ∧ i = .int .i64 k ∧ LSt w wr rb mb w1.heap.size v (laidT [] (l.take k)) k) (fun i _ => n - (intOf i).toNat)
  case atStart => exact ⟨0, _, Nat.zero_le _, rfl, L0.out⟩
  case round =>
    clear L0
    obtain ⟨k, v, hk, rfl, hst⟩ := hrel
    have LK := Lib.hid hst
    clear hst
    by_cases hlt : k < n
    · obtain ⟨a, q, t, rfl, hab, ht, hcs, hin⟩ := HL.out.get hlt
      obtain ⟨KA, kn, kc⟩ := q
      have hto := HOK.out t (List.mem_of_getElem? ht)
      have HCK : Hid (∀ V, Below w.heap.size w V → (∀ j u, (bv t.key)[j]? = some u → V.cell? ((a.add (k * 33)).add j) = some u) ∧ V.cell? ⟨(a.add (k * 33)).block, (a.add (k * 33)).off + 32, none⟩ = some (.slice KA kn kc)) := Lib.hid fun V hb => by
        have h1 : (a.add (k * 33)).block < w.heap.size := by rw [addr_block]; exact Nat.lt_of_lt_of_le hab HBW.out
        exact ⟨fun j u hu => (hb.cell (by rw [addr_block]; exact h1)).trans (hcs j u (tcells11_key hu)), (hb.cell (p := ⟨(a.add (k * 33)).block, (a.add (k * 33)).off + 32, none⟩) h1).trans (hcs 32 _ (tcells11_32 hin.tab))⟩
      have HKI : Hid (∀ V, Below w.heap.size w V → KeysIn V B KA kn t.keys) := Lib.hid fun V hb => (hin.below (hb.mono HBW.out)).keys
      have HKN := Lib.hid hin.kn
      have HKO := Lib.hid hto.tab
      have HTK := Lib.hid (laidT_take ht)
      have HSX := Lib.hid (show (Tryz.prog.info? 78).map (·.size) = some (bv t.key).length by rw [bv_length, hin.tab]; exact size_key)
      clear hcs hin hto ht
      obtain ⟨X, hX⟩ : ∃ X, X = bv t.key := ⟨_, rfl⟩
      have HXE := Lib.hid hX
      rw [← hX] at HCK HSX
      clear hX
      go_wp2_with fail
      have HS1 := Lib.hid LK.out.b.drew
      refine wp_region_held_drew (S := (fun V => Below w.heap.size w V)) (by kernel_rfl) HS1.out (fun _ => ?_)
      have LD := Lib.hid (LK.out.below (Below.refl _ _).drew)
      obtain ⟨V0, hV0⟩ : ∃ V, V = wr.drew := ⟨_, rfl⟩
      rw [← hV0] at HS1 LD ⊢
      clear hV0
      refine takeL (i := 0) (v := ?_) rfl (by kernel_rfl) (by kernel_rfl) (by kernel_rfl) (fun _ _ _ h => h) (Or.inl ⟨by rfl, ?_⟩) HS1.out ?_
      rotate_left
      · intro wz hwz
        go_simp
        try with_reducible rfl
      try simp only [Act.put, List.setIfInBounds_toArray, List.set_cons_zero, List.set_cons_succ]
      refine takeL (i := 1) (v := ?_) rfl (by kernel_rfl) (by kernel_rfl) (by kernel_rfl) (fun _ _ _ h => h) (Or.inl ⟨by rfl, ?_⟩) HS1.out ?_
      rotate_left
      · intro wz hwz
        go_simp
        try with_reducible rfl
      try simp only [Act.put, List.setIfInBounds_toArray, List.set_cons_zero, List.set_cons_succ]
      refine takeL (i := 2) (v := ?_) rfl (by kernel_rfl) (by kernel_rfl) (by kernel_rfl) (fun _ _ _ h => h) (Or.inl ⟨by rfl, ?_⟩) HS1.out ?_
      rotate_left
      · intro wz hwz
        go_simp
        try with_reducible rfl
      try simp only [Act.put, List.setIfInBounds_toArray, List.set_cons_zero, List.set_cons_succ]
      refine takeL (i := 3) (v := ?_) rfl (by kernel_rfl) (by kernel_rfl) (by kernel_rfl) (fun _ _ _ h => h) (Or.inl ⟨by rfl, ?_⟩) HS1.out ?_
      rotate_left
      · intro wz hwz
        go_simp
        try with_reducible rfl
      try simp only [Act.put, List.setIfInBounds_toArray, List.set_cons_zero, List.set_cons_succ]
      refine takeL (i := 4) (v := ?_) rfl (by kernel_rfl) (by kernel_rfl) (by kernel_rfl) (fun _ _ _ h => h) (Or.inl ⟨by rfl, ?_⟩) HS1.out ?_
      rotate_left
      · intro wz hwz
        go_simp
        try with_reducible rfl
      try simp only [Act.put, List.setIfInBounds_toArray, List.set_cons_zero, List.set_cons_succ]
      refine takeL (i := 5) (v := .agg X.toArray) rfl (by kernel_rfl) (by kernel_rfl) (by kernel_rfl) (fun _ _ _ h => h) (Or.inl ⟨by rfl, fun wz hwz => exec_load_at wz 78 (.tmp 20) rfl (a.add (k * 33)) X _ Tryz.underlying78 rfl HSX.out (HCK.out wz hwz).1 (by go_simp)⟩) HS1.out ?_
      try simp only [Act.put, List.setIfInBounds_toArray, List.set_cons_zero, List.set_cons_succ]
      refine takeL (i := 6) (v := ?_) rfl (by kernel_rfl) (by kernel_rfl) (by kernel_rfl) (fun _ _ _ h => h) (Or.inl ⟨by rfl, ?_⟩) HS1.out ?_
      rotate_left
      · intro wz hwz
        go_simp
        try with_reducible rfl
      try simp only [Act.put, List.setIfInBounds_toArray, List.set_cons_zero, List.set_cons_succ]
      refine takeL (i := 7) (v := ?_) rfl (by kernel_rfl) (by kernel_rfl) (by kernel_rfl) (fun _ _ _ h => h) (Or.inl ⟨by rfl, ?_⟩) HS1.out ?_
      rotate_left
      · intro wz hwz
        go_simp
        try with_reducible rfl
      try simp only [Act.put, List.setIfInBounds_toArray, List.set_cons_zero, List.set_cons_succ]
      refine takeL (i := 8) (v := ?_) rfl (by kernel_rfl) (by kernel_rfl) (by kernel_rfl) (fun _ _ _ h => h) (Or.inl ⟨by rfl, ?_⟩) HS1.out ?_
      rotate_left
      · intro wz hwz
        go_simp
        try with_reducible rfl
      try simp only [Act.put, List.setIfInBounds_toArray, List.set_cons_zero, List.set_cons_succ]
      refine takeL (i := 9) (v := ?_) rfl (by kernel_rfl) (by kernel_rfl) (by kernel_rfl) (fun _ _ _ h => h) (Or.inl ⟨by rfl, ?_⟩) HS1.out ?_
      rotate_left
      · intro wz hwz
        go_simp
        try with_reducible rfl
      try simp only [Act.put, List.setIfInBounds_toArray, List.set_cons_zero, List.set_cons_succ]
      refine takeL (i := 10) (v := ?_) rfl (by kernel_rfl) (by kernel_rfl) (by kernel_rfl) (fun _ _ _ h => h) (Or.inl ⟨by rfl, ?_⟩) HS1.out ?_
      rotate_left
      · intro wz hwz
        have q32 := (HCK.out wz hwz).2
        go_simp
        try with_reducible rfl
      try simp only [Act.put, List.setIfInBounds_toArray, List.set_cons_zero, List.set_cons_succ]
      refine readyL (i := 11) rfl (by kernel_rfl) (by kernel_rfl) fun K hK => ?_
      go_simp
      obtain ⟨nn, hnn, hrg⟩ := LD.out.r
      rw [HXE.out]
      refine (putReg rb mb V0.heap.size nn _ t.key KA kn kc B t.keys V0 hrg HKO.out (HKI.out V0 HS1.out) (Nat.le_trans HBW.out HS1.out.size) (by omega) (Nat.le_trans HKN.out.1 HKN.out.2)).mono ?_
      rintro e w2 hd
      have hmid := LD.out.mid hnn hrg hd
      obtain ⟨rfl, _⟩ := hd
      have MM := Lib.hid hmid
      rw [← HXE.out]
      clear hmid hrg hnn
      refine hK.out _ _ MM.out.b ?_
      clear hK K
      try simp only [Act.put, List.setIfInBounds_toArray, List.set_cons_zero, List.set_cons_succ]
      refine wpAnyH_done (by kernel_rfl) ?_ _
      clear HS1 LD LK
      go_wp2_with fail
      have HS2 := Lib.hid MM.out.b.drew
      refine wp_region_held_drew (S := (fun V => Below w.heap.size w V)) (by kernel_rfl) HS2.out (fun _ => ?_)
      have MD := Lib.hid (MM.out.below (Below.refl _ _).drew)
      obtain ⟨V2, hV2⟩ : ∃ V, V = w2.drew := ⟨_, rfl⟩
      rw [← hV2] at HS2 MD ⊢
      clear hV2 MM
      refine takeL (i := 0) (v := ?_) rfl (by kernel_rfl) (by kernel_rfl) (by kernel_rfl) (fun _ _ _ h => h) (Or.inl ⟨by rfl, ?_⟩) HS2.out ?_
      rotate_left
      · intro wz hwz
        go_simp
        try with_reducible rfl
      try simp only [Act.put, List.setIfInBounds_toArray, List.set_cons_zero, List.set_cons_succ]
      refine takeL (i := 1) (v := ?_) rfl (by kernel_rfl) (by kernel_rfl) (by kernel_rfl) (fun _ _ _ h => h) (Or.inl ⟨by rfl, ?_⟩) HS2.out ?_
      rotate_left
      · intro wz hwz
        go_simp
        try with_reducible rfl
      try simp only [Act.put, List.setIfInBounds_toArray, List.set_cons_zero, List.set_cons_succ]
      refine takeL (i := 2) (v := ?_) rfl (by kernel_rfl) (by kernel_rfl) (by kernel_rfl) (fun _ _ _ h => h) (Or.inl ⟨by rfl, ?_⟩) HS2.out ?_
      rotate_left
      · intro wz hwz
        go_simp
        try with_reducible rfl
      try simp only [Act.put, List.setIfInBounds_toArray, List.set_cons_zero, List.set_cons_succ]
      refine takeL (i := 3) (v := ?_) rfl (by kernel_rfl) (by kernel_rfl) (by kernel_rfl) (fun _ _ _ h => h) (Or.inl ⟨by rfl, ?_⟩) HS2.out ?_
      rotate_left
      · intro wz hwz
        go_simp
        try with_reducible rfl
      try simp only [Act.put, List.setIfInBounds_toArray, List.set_cons_zero, List.set_cons_succ]
      refine takeL (i := 4) (v := ?_) rfl (by kernel_rfl) (by kernel_rfl) (by kernel_rfl) (fun _ _ _ h => h) (Or.inl ⟨by rfl, ?_⟩) HS2.out ?_
      rotate_left
      · intro wz hwz
        go_simp
        try with_reducible rfl
      try simp only [Act.put, List.setIfInBounds_toArray, List.set_cons_zero, List.set_cons_succ]
      refine takeL (i := 5) (v := .agg X.toArray) rfl (by kernel_rfl) (by kernel_rfl) (by kernel_rfl) (fun _ _ _ h => h) (Or.inl ⟨by rfl, fun wz hwz => exec_load_at wz 78 (.tmp 32) rfl (a.add (k * 33)) X _ Tryz.underlying78 rfl HSX.out (HCK.out wz hwz).1 (by go_simp)⟩) HS2.out ?_
      try simp only [Act.put, List.setIfInBounds_toArray, List.set_cons_zero, List.set_cons_succ]
      refine takeL (i := 6) (v := ?_) rfl (by kernel_rfl) (by kernel_rfl) (by kernel_rfl) (fun _ _ _ h => h) (Or.inl ⟨by rfl, ?_⟩) HS2.out ?_
      rotate_left
      · intro wz hwz
        go_simp
        try with_reducible rfl
      try simp only [Act.put, List.setIfInBounds_toArray, List.set_cons_zero, List.set_cons_succ]
      refine takeL (i := 7) (v := ?_) rfl (by kernel_rfl) (by kernel_rfl) (by kernel_rfl) (fun _ _ _ h => h) (Or.inl ⟨by rfl, ?_⟩) HS2.out ?_
      rotate_left
      · intro wz hwz
        go_simp
        try with_reducible rfl
      try simp only [Act.put, List.setIfInBounds_toArray, List.set_cons_zero, List.set_cons_succ]
      refine takeL (i := 8) (v := ?_) rfl (by kernel_rfl) (by kernel_rfl) (by kernel_rfl) (fun _ _ _ h => h) (Or.inl ⟨by rfl, ?_⟩) HS2.out ?_
      rotate_left
      · intro wz hwz
        go_simp
        try with_reducible rfl
      try simp only [Act.put, List.setIfInBounds_toArray, List.set_cons_zero, List.set_cons_succ]
      refine takeL (i := 9) (v := ?_) rfl (by kernel_rfl) (by kernel_rfl) (by kernel_rfl) (fun _ _ _ h => h) (Or.inl ⟨by rfl, ?_⟩) HS2.out ?_
      rotate_left
      · intro wz hwz
        go_simp
        try with_reducible rfl
      try simp only [Act.put, List.setIfInBounds_toArray, List.set_cons_zero, List.set_cons_succ]
      refine takeL (i := 10) (v := ?_) rfl (by kernel_rfl) (by kernel_rfl) (by kernel_rfl) (fun _ _ _ h => h) (Or.inl ⟨by rfl, ?_⟩) HS2.out ?_
      rotate_left
      · intro wz hwz
        have q32 := (HCK.out wz hwz).2
        go_simp
        try with_reducible rfl
      try simp only [Act.put, List.setIfInBounds_toArray, List.set_cons_zero, List.set_cons_succ]
      refine readyL (i := 11) rfl (by kernel_rfl) (by kernel_rfl) fun K hK => ?_
      go_simp
      rw [HXE.out]
      refine (refPut w1.heap.size w.heap.size v _ _ t.key KA kn kc B t.keys V2 MD.out.m HKO.out (HKI.out V2 HS2.out) (Nat.le_trans HBW.out HS2.out.size) (by have := MD.out.len; omega) (Nat.le_trans HKN.out.1 HKN.out.2) HS2.out.size).mono ?_
      rintro e w3 hd
      have hend := MD.out.end_ hd
      obtain ⟨rfl, _⟩ := hd
      obtain ⟨v', hst⟩ := hend
      have LE := Lib.hid hst
      clear hst
      refine hK.out _ _ LE.out.b ?_
      clear hK K
      try simp only [Act.put, List.setIfInBounds_toArray, List.set_cons_zero, List.set_cons_succ]
      refine wpAnyH_done (by kernel_rfl) ?_ _
      go_wp2_with fail
      go_roundw
      case rel => exact ⟨k + 1, v', by omega, by go_num, by rw [HTK.out]; exact LE.out⟩
      case measure => simp [intOf]; omega
    · obtain rfl : k = n := by omega
      go_wp2_with fail
      go_ret2
      refine ⟨rb, mb, w1.heap.size, v, rfl, ?_⟩
      have := LK.out
      rw [List.take_of_length_le (by rw [HN.out]; exact Nat.le_refl _)] at this
      rw [HN.out]
      exact this
theorem of_fn39 {l : List Value} (hl : l.length = 39) : ∃ f : Fin 39 → Value, l = List.ofFn f := ⟨fun i => l.getD i undef, by
    refine List.ext_getElem (by simpa using hl) fun i h1 h2 => ?_
    rw [List.getElem_ofFn, List.getD_eq_getElem?_getD, List.getElem?_eq_getElem h1]
    rfl⟩
theorem built_tx11 (m : List Value) (h : m.length = 39) (A : Option Addr) (n c : Nat) : Tryz.prog.built 42 [(0, .slice A n c), (1, .agg m.toArray)] = some (.slice A n c :: m).toArray := by
  obtain ⟨f, rfl⟩ := of_fn39 h
  kernel_rfl
set_option maxRecDepth 100000 in
set_option maxHeartbeats 4000000 in
/-- the chapter's example, as bytes -/
theorem example11 (w : World) : Calls Tryz.prog 32 #[] w fun e w' =>
    ∃ A c, e = .returned (.slice A (encTx xEx).length c) ∧ Sees w' w'.heap.size A (encTx xEx).length (bv (encTx xEx)) ∧ (encTx xEx).length ≤ c ∧ c ≤ maxLen ∧ Below w.heap.size w w' := by
  have HLE := Lib.hid xEx_len
  have HFT := Lib.hid xEx_fits
  go_enter Tryz.func32, Tryz.ntmps32
  obtain ⟨i0, hi, hz0, hz1, hz2⟩ := info_parts info_sig
  go_wp2_with (first
    | (at_make; go_must (refine wpList_make_full _ rfl (.const (.int .i64 1)) (.const (.int .i64 1)) 31 rfl w.heap.size 104 i0 _ 64 Tryz.underlying31 hi hz0 hz1 .i64 .i64 1 1 1 rfl rfl rfl rfl (by rw [hz2]; omega) (by unfold maxLen; omega) (Nat.le_refl _) ?_; intro w1 hown hgrow; have hrow := Row.of_ownN hown; have hb1 := (Below.refl w.heap.size w).grown hgrow (Nat.le_refl _) (fun k hk => by cases hk)))
    | ((with_reducible show wpList _ _ _ ({ dst := some 6, op := Op.build _ _, type := _, pos := _, after := _, guard := _ } :: _) _ _); go_must (refine wpList_plain rfl fun K hK => wp_built _ _ _ rfl (by simp only [List.map_toArray, List.map_cons, List.map_nil]; exact built_xk _) (hK _ _ ?_)))
    | ((with_reducible show wpList _ _ _ ({ dst := some 7, op := Op.build _ _, type := _, pos := _, after := _, guard := _ } :: _) _ _); go_must (refine wpList_plain rfl fun K hK => wp_built _ _ _ rfl (by simp only [List.map_toArray, List.map_cons, List.map_nil]; exact built_xk _) (hK _ _ ?_)))
    | ((with_reducible show wpList _ _ _ ({ dst := some 8, op := Op.buildSlice _ _ _, type := _, pos := _, after := _, guard := _ } :: _) _ _); go_must (refine wpList_buildTwo rfl 34 78 (.tmp 6) (.tmp 7) rfl (bv (xk 1)) (bv (xk 2)) _ 32 32 Tryz.underlying34 info_key (by kernel_rfl) (by omega) (by omega) (by rfl) (by rfl) ?_ ?_ ?_; go_simp; go_simp))
    | ((with_reducible show wpList _ _ _ ({ dst := some 12, op := Op.build _ _, type := _, pos := _, after := _, guard := _ } :: _) _ _); go_must (refine wpList_plain rfl fun K hK => wp_built _ _ _ rfl (by simp only [List.map_toArray, List.map_cons, List.map_nil]; exact built_xm _ _) (hK _ _ ?_)))
    | ((with_reducible show wpList _ _ _ ({ dst := some 13, op := Op.build _ _, type := _, pos := _, after := _, guard := _ } :: _) _ _); go_must (refine wpList_plain rfl fun K hK => wp_built _ _ _ rfl (by simp only [List.map_toArray, List.map_cons, List.map_nil]; exact built_tx11 (Raw.cells (xRaw 0 w1.heap.size (w1.heap.size + 1 + 1) 2 2).q (xTx xks 1 0).m) (cells_len rfl) _ _ _) (hK _ _ ?_))))
  have hs1 : Row w1 w.heap.size 104 (bv xSig) := by rw [made64x 1] at hrow; exact hrow
  have hz := hrow.lt
  have hk2 := Row.new w1 78 (bv (xk 1) ++ bv (xk 2))
  have ha2 := Row.new' (w1.alloc (.cells (bv (xk 1) ++ bv (xk 2)).toArray 78)) 5 (bv [0]) (g := w1.heap.size + 1) (by simp)
  have hi2 := Row.new' ((w1.alloc (.cells (bv (xk 1) ++ bv (xk 2)).toArray 78)).alloc (.cells (bv [0]).toArray 5)) 131 (xIn (w1.heap.size + 1) 1) (g := w1.heap.size + 1 + 1) (by simp)
  have hbb := (((hb1.alloc (by omega) (.cells (bv (xk 1) ++ bv (xk 2)).toArray 78)).alloc (by simp; omega) (.cells (bv [0]).toArray 5)).alloc (by simp; omega) (.cells (xIn (w1.heap.size + 1) 1).toArray 131))
  have hin := x_in (ks := xks) (p := 1) (a := 0) (rest := []) (kn := 2) (kc := 2) (((hs1.alloc _).alloc _).alloc _) (by rw [List.append_nil]; exact (hk2.alloc _).alloc _) (ha2.alloc _) hi2 (fun k hk => (xks_ok k hk).1) rfl (by unfold maxLen; omega)
  refine (putTx (xRaw w.heap.size w1.heap.size (w1.heap.size + 1 + 1) 2 2) (xTx xks 1 0) _ _ hin (Nat.le_refl _) (by decide) (by decide +kernel)).mono ?_
  rintro e w2 (⟨hnf, _⟩ | ⟨_, hgt, _⟩ | ⟨_, _, ⟨v, rfl, hv⟩, hb2⟩)
  · exact absurd HFT.out.2 hnf
  · have := HLE.out
    exact absurd hgt (by show ¬ 1232 < (encTx xEx).length; omega)
  · have hv' : w2.ownsRow _ 5 1 v (encTx xEx).length (bv (encTx xEx)) := hv
    have HB := Lib.hid (hbb.trans (hb2.mono hbb.size))
    clear hv hb2 hbb hin hi2 ha2 hk2 hs1 hz hrow hb1 hown hgrow
    obtain ⟨A, c, rfl, h1, h2, h3, _⟩ := own_form2 hv'
    rw [Nat.mul_one] at h1
    have H1 := Lib.hid (And.intro h1 (And.intro h2 h3))
    clear hv' h1 h2 h3
    go_wp2_with fail
    go_ret
    exact ⟨A, c, rfl, H1.out.1, H1.out.2.1, H1.out.2.2, HB.out⟩
end Go.Proofs.YtdgbodljmdcagaaGreatDoor

/-
  Of part Lives8: what is needed here.
-/
namespace Go.Proofs.YtdgbodljmdcagaaGreatDoor
open Go.RowKit
set_option linter.unusedVariables false
set_option maxRecDepth 100000
theorem bud_held : Tryz.prog.stoodInHeld 46 = false := by kernel_rfl
theorem bud_under : Tryz.prog.underlying 46 = some (.struct (Tryz.prog.fieldsOf 46)) := by kernel_rfl
theorem u64_eq9 (a b : Int) (w : World) : (Op.equalIn 9999 44 (.int .u64 a) (.int .u64 b)).run Tryz.prog w = .ok (a == b) w := by
  have := run_equalIn_int (P := Tryz.prog) w 9998 44 .u64 .u64 a b Tryz.underlying44
  rwa [show (9998 + 1 : Nat) = 9999 from rfl] at this
theorem int_eq9 (a b : Int) (w : World) : (Op.equalIn 9999 3 (.int .i64 a) (.int .i64 b)).run Tryz.prog w = .ok (a == b) w := by
  have := run_equalIn_int (P := Tryz.prog) w 9998 3 .i64 .i64 a b Tryz.underlying3
  rwa [show (9998 + 1 : Nat) = 9999 from rfl] at this
theorem bud_fields (X Y : Array Value) (w : World) {a b c a' b' c' : Int} (pa : (part 44 X 0).run Tryz.prog w = .ok (.int .u64 a) w) (pa' : (part 44 Y 0).run Tryz.prog w = .ok (.int .u64 a') w)
    (pb : (part 44 X 1).run Tryz.prog w = .ok (.int .u64 b) w) (pb' : (part 44 Y 1).run Tryz.prog w = .ok (.int .u64 b') w) (pc : (part 3 X 2).run Tryz.prog w = .ok (.int .i64 c) w) (pc' : (part 3 Y 2).run Tryz.prog w = .ok (.int .i64 c') w) :
    (Op.eqFields 9999 X Y (Tryz.prog.fieldsOf 46).toList).run Tryz.prog w = .ok ((a == a') && (b == b') && (c == c')) w := by
  simp only [Program.fieldsOf, Tryz.underlying46]
  have h1 := u64_eq9
  have h2 := int_eq9
  simp only [Op.eqFields, ne_eq, String.reduceEq, not_false_eq_true, if_true, Sem.run_bind, pa, pa', Result.andThen_ok, h1]
  cases (a == a')
  · simp
  · simp only [Bool.not_true, Bool.false_eq_true, if_false, pb, pb', Sem.run_bind, Result.andThen_ok, h1]
    cases (b == b')
    · simp
    · simp only [Bool.not_true, Bool.false_eq_true, if_false, pc, pc', Sem.run_bind, Result.andThen_ok, h2]
      cases (c == c') <;> simp
theorem bud_eqIn (x y z x' y' z' : Int) (w : World) : (Op.equalIn 10000 46 (.agg ([.int .u64 x, .int .u64 y, .int .i64 z] : List Value).toArray) (.agg ([.int .u64 x', .int .u64 y', .int .i64 z'] : List Value).toArray)).run Tryz.prog w = .ok ((x == x') && (y == y') && (z == z')) w := by
  rw [show (10000 : Nat) = 9999 + 1 from rfl, run_equalIn_struct w 9999 46 _ _ bud_under bud_held]
  exact bud_fields _ _ w (run_part_plain (P := Tryz.prog) w (by kernel_rfl) rfl) (run_part_plain (P := Tryz.prog) w (by kernel_rfl) rfl) (run_part_plain (P := Tryz.prog) w (by kernel_rfl) rfl) (run_part_plain (P := Tryz.prog) w (by kernel_rfl) rfl) (run_part_plain (P := Tryz.prog) w (by kernel_rfl) rfl) (run_part_plain (P := Tryz.prog) w (by kernel_rfl) rfl)
/-- budgets that are the same -/
theorem bud_eql (x y z : Int) (w : World) : (binOp .eql 46 (.agg ([.int .u64 x, .int .u64 y, .int .i64 z] : List Value).toArray) (.agg ([.int .u64 x, .int .u64 y, .int .i64 z] : List Value).toArray)).run Tryz.prog w = .ok (.bool true) w := by
  rw [run_eql_struct, bud_eqIn]
  simp
end Go.Proofs.YtdgbodljmdcagaaGreatDoor

/-
  Of part Lives11: what is needed here.
-/
namespace Go.Proofs.YtdgbodljmdcagaaGreatDoor
open Go.RowKit
set_option linter.unusedVariables false
set_option maxRecDepth 100000
theorem xEx_bytes : AllBytes (encTx xEx) := by
  have h : ∀ z ∈ encTx xEx, 0 ≤ z ∧ z < 256 := by decide +kernel
  exact h
theorem tsB_nil : TsB11 [] := fun t ht => by cases ht
theorem xNo_rd : rdErr [] [0] = 5 := by rw [rdErr_wire (by rw [xNo_err]; decide), xNo_err]
theorem xNo_told : rdX [] [0] = zReady := rdX_no (by rw [xNo_rd]; decide)
set_option maxRecDepth 100000 in
set_option maxHeartbeats 8000000 in
theorem lives11 (w : World) (hl : LenAt w) : Calls Tryz.prog 9 #[] w fun e w' => e = .returned (.bool true) ∧ Below w.heap.size w w' := by
  have HLE := Lib.hid (fun (V : World) (hb : Below w.heap.size w V) => hl.below hb hl.pos)
  clear hl
  have HT := Lib.hid xEx_told
  have HR2 := Lib.hid xEx_roles
  have HBY := Lib.hid xEx_bytes
  have HRD := Lib.hid xEx_rd
  have HN1 := Lib.hid xNo_rd
  have HN2 := Lib.hid xNo_told
  go_enter Tryz.func9, Tryz.ntmps9
  go_wp2_with fail
  refine (example11 w).mono ?_
  rintro e w1 ⟨A, c, rfl, hs, hnc, hc, hb1⟩
  have HS := Lib.hid hs
  have HC := Lib.hid (And.intro hnc hc)
  have B1 := Lib.hid hb1
  clear hs hnc hc hb1
  obtain ⟨zs, hzs⟩ : ∃ zs, zs = encTx xEx := ⟨_, rfl⟩
  rw [← hzs] at HS HC HT HR2 HBY HRD ⊢
  clear hzs
  go_wp2_with fail
  refine (newReg w1).mono ?_
  rintro e w2 ⟨rfl, hreg, hb2⟩
  have B2 := Lib.hid (B1.out.trans (hb2.mono B1.out.size))
  have HRG := Lib.hid hreg
  have HS2 := Lib.hid (HS.out.below hb2)
  have HZ2 := Lib.hid hb2.size
  clear hreg hb2 HS B1
  go_wp2_with fail
  refine (of11 (w1.heap.size + 1) w1.heap.size w2.heap.size 0 [] A zs.length c w1.heap.size zs w2 HRG.out tsB_nil HS2.out HZ2.out HC.out.1 HC.out.2 HBY.out (HLE.out w2 B2.out)).mono ?_
  rintro e w3 ⟨q, rfl, hv, hb3⟩
  rw [HRD.out]
  have hrn := hv.is.rs.len
  have hre := hv.is.tx.m.recent
  have HXL := Lib.hid (ycells_len (q := q) hre)
  have HX1 := Lib.hid (ycells_one (q := q) (x := rdX [] zs))
  have HXS := Lib.hid (show (Tryz.prog.info? 48).map (·.size) = some (q.cells (rdX [] zs)).length by rw [HXL.out]; exact size_ready)
  have HTL : Hid (∀ j, (q.cells (rdX [] zs))[41 + j]? = (.slice q.RA q.rn q.rc :: (rdX [] zs).last)[j]?) := Lib.hid (ycells_41 hre)
  have B3 := Lib.hid (B2.out.trans (hb3.mono B2.out.size))
  have C41 : Hid ((q.cells (rdX [] zs))[41]? = some (.slice q.RA 2 q.rc)) := Lib.hid (by
    rw [show 41 = 41 + 0 from rfl, HTL.out]
    have : q.rn = 2 := by rw [← hrn, HT.out]; exact HR2.out
    rw [this]; rfl)
  have C42 : Hid (∀ j v, ([.int .u64 200000, .int .u64 0, .int .i64 (-1)] : List Value)[j]? = some v → (q.cells (rdX [] zs))[42 + j]? = some v) := Lib.hid fun j v hv => by
    rw [show 42 + j = 41 + (j + 1) by omega, HTL.out, HT.out]
    have hj := (List.getElem?_eq_some_iff.1 hv).1
    rcases (show j = 0 ∨ j = 1 ∨ j = 2 by simp at hj; omega) with rfl | rfl | rfl <;> exact hv
  have C45 : Hid ((q.cells (rdX [] zs))[45]? = some (.int .u64 5000)) := Lib.hid (by rw [show 45 = 41 + 4 from rfl, HTL.out, HT.out]; rfl)
  have C46 : Hid ((q.cells (rdX [] zs))[46]? = some (.int .u64 201320)) := Lib.hid (by rw [show 46 = 41 + 5 from rfl, HTL.out, HT.out]; rfl)
  have C47 : Hid ((q.cells (rdX [] zs))[47]? = some (.int .u64 12417)) := Lib.hid (by rw [show 47 = 41 + 6 from rfl, HTL.out, HT.out]; rfl)
  clear hv hrn hre hb3 HRG HS2 HTL HT
  generalize q.cells (rdX [] zs) = cs at *
  go_upto_region 2 with ((with_reducible show wpList _ _ _ ({ dst := none, op := Op.store 48 _ _, type := _, pos := _, after := _, guard := _ } :: _) _ _); go_must (refine wpList_store_new rfl 48 (.tmp 1) (.tmp 9) rfl cs HXS.out HX1.out (by rw [HXL.out]; rfl) ?_ ?_ ?_; go_simp; go_simp; intro w4 hr4 hb4 hz4))
  have R4 := Lib.hid hr4
  have B4 := Lib.hid (B3.out.trans (hb4.mono B3.out.size))
  clear hr4 hb4 hz4 B3
  go_wp2_with fail
  have RB := Lib.hid (Row.new w4 5 (bv [0]))
  have hba := (Below.refl w4.heap.size w4).alloc (Nat.le_refl _) (.cells (bv [0]).toArray 5)
  have R5 := Lib.hid (R4.out.below hba R4.out.lt)
  have B5 := Lib.hid (B4.out.trans (hba.mono B4.out.size))
  clear hba R4 B4
  have hX : ∀ z, z = (bv [0]).toArray → w4.alloc (.cells z 5) = w4.alloc (.cells (bv [0]).toArray 5) := fun z h => by rw [h]
  rw [hX]
  rotate_left
  · kernel_rfl
  clear hX
  generalize w4.alloc (.cells (bv [0]).toArray 5) = w5 at *
  refine (newReg w5).mono ?_
  rintro e w6 ⟨rfl, hreg, hb6⟩
  have R6 := Lib.hid (R5.out.below hb6 R5.out.lt)
  have RB6 := Lib.hid (RB.out.below hb6 RB.out.lt)
  have B6 := Lib.hid (B5.out.trans (hb6.mono B5.out.size))
  have HRG := Lib.hid hreg
  clear hreg hb6 R5 RB B5
  go_wp2_with fail
  refine (of11 (w5.heap.size + 1) w5.heap.size w6.heap.size 0 [] (some ⟨w4.heap.size, 0, none⟩) 1 1 w6.heap.size [0] w6 HRG.out tsB_nil (RB6.out.sees0) (Nat.le_refl _) (Nat.le_refl _) (by unfold maxLen; omega) (fun z hz => by obtain rfl := List.mem_singleton.1 hz; exact ⟨by decide, by decide⟩) (HLE.out w6 B6.out)).mono ?_
  rintro e w7 ⟨q2, rfl, hv, hb7⟩
  rw [HN1.out]
  have HXL2 := Lib.hid (ycells_len (q := q2) hv.is.tx.m.recent)
  have HX12 := Lib.hid (ycells_one (q := q2) (x := rdX [] [0]))
  have HXS2 := Lib.hid (show (Tryz.prog.info? 48).map (·.size) = some (q2.cells (rdX [] [0])).length by rw [HXL2.out]; exact size_ready)
  have R7 := Lib.hid (R6.out.below hb7 R6.out.lt)
  have B7 := Lib.hid (B6.out.trans (hb7.mono B6.out.size))
  clear hv hb7 R6 B6 RB6 HRG
  generalize q2.cells (rdX [] [0]) = cs2 at *
  have hbe := bud_eql 200000 0 (-1)
  have HBS := Lib.hid (size_bud 200000 0 (-1))
  go_upto_region 3 with ((with_reducible show wpList _ _ _ ({ dst := none, op := Op.store 48 _ _, type := _, pos := _, after := _, guard := _ } :: _) _ _); go_must (refine wpList_store_new rfl 48 (.tmp 3) (.tmp 15) rfl cs2 HXS2.out HX12.out (by rw [HXL2.out]; rfl) ?_ ?_ ?_; go_simp; go_simp; intro w8 hr8 hb8 hz8))
  have R8 := Lib.hid (R7.out.below hb8 R7.out.lt)
  have B8 := Lib.hid (B7.out.trans (hb8.mono B7.out.size))
  clear hr8 hb8 hz8 R7 B7
  have a41 : w8.cell? ⟨w3.heap.size, 41, none⟩ = some (.slice q.RA 2 q.rc) := (R8.out.cell 41).trans C41.out
  have a45 : w8.cell? ⟨w3.heap.size, 45, none⟩ = some (.int .u64 5000) := (R8.out.cell 45).trans C45.out
  have a46 : w8.cell? ⟨w3.heap.size, 46, none⟩ = some (.int .u64 201320) := (R8.out.cell 46).trans C46.out
  have a47 : w8.cell? ⟨w3.heap.size, 47, none⟩ = some (.int .u64 12417) := (R8.out.cell 47).trans C47.out
  go_wp2_with ((with_reducible show wpList _ _ _ ({ dst := some 31, op := Op.load _ _, type := _, pos := _, after := _, guard := _ } :: _) _ _); go_must (refine wpList_load_atg (by kernel_rfl) 46 (.tmp 30) rfl ⟨w3.heap.size, 42, none⟩ [.int .u64 200000, .int .u64 0, .int .i64 (-1)] _ Tryz.underlying46 rfl HBS.out (fun j v hv => by rw [addr_row]; exact (R8.out.cell (42 + j)).trans (C42.out j v hv)) ?_ ?_; go_simp))
  go_ret
  exact ⟨rfl, B8.out⟩
end Go.Proofs.YtdgbodljmdcagaaGreatDoor

/-
  Of part Same11: what is needed here.
-/
namespace Go.Proofs.YtdgbodljmdcagaaGreatDoor
open Go.RowKit
set_option linter.unusedVariables false
set_option maxRecDepth 100000
set_option maxRecDepth 100000 in
set_option maxHeartbeats 4000000 in
theorem same_ready (q q' : YRaw) (x : LReady) (B B' : Nat) (w : World) (h : ReadyIn w B q x) (hB : B ≤ w.heap.size) (h' : ReadyIn w B' q' x) (hB' : B' ≤ w.heap.size) :
    Calls Tryz.prog 16 #[.agg (q.cells x).toArray, .agg (q'.cells x).toArray] w fun e w' => e = .returned (.bool true) ∧ Below w.heap.size w w' := by
  have hre := h.tx.m.recent
  obtain ⟨BA, bn, bc, t, RA, rn, rc⟩ := q
  obtain ⟨BB, bn', bd, t', RB, rn', rd⟩ := q'
  obtain rfl : bn' = bn := by have h1 := h.bs.len; have h2 := h'.bs.len; dsimp only at h1 h2; omega
  obtain rfl : rn' = rn := h'.rs.len.symm.trans h.rs.len
  have hr0 := (Row.new w 48 (YRaw.cells ⟨BA, bn', bc, t, RA, rn', rc⟩ x)).alloc (.cells (YRaw.cells ⟨BB, bn', bd, t', RB, rn', rd⟩ x).toArray 48)
  have hr1 : Row ((w.alloc (.cells (YRaw.cells ⟨BA, bn', bc, t, RA, rn', rc⟩ x).toArray 48)).alloc (.cells (YRaw.cells ⟨BB, bn', bd, t', RB, rn', rd⟩ x).toArray 48)) (w.heap.size + 1) 48 (YRaw.cells ⟨BB, bn', bd, t', RB, rn', rd⟩ x) := Row.new' _ _ _ (by simp)
  have hbw := (((Below.refl w.heap.size w).alloc (Nat.le_refl _) (.cells (YRaw.cells ⟨BA, bn', bc, t, RA, rn', rc⟩ x).toArray 48)).alloc (by simp) (.cells (YRaw.cells ⟨BB, bn', bd, t', RB, rn', rd⟩ x).toArray 48))
  have HIN := Lib.hid (fun (V : World) (hb : Below w.heap.size w V) => h.below (hb.mono hB))
  have HIN' := Lib.hid (fun (V : World) (hb : Below w.heap.size w V) => h'.below (hb.mono hB'))
  have HST := Lib.hid (show (Tryz.prog.info? 42).map (·.size) = some (t.cells x.tx).length by rw [size_tx, tcells_len hre])
  have HST' := Lib.hid (show (Tryz.prog.info? 42).map (·.size) = some (t'.cells x.tx).length by rw [size_tx, tcells_len hre])
  have HCT : Hid (∀ j u, (t.cells x.tx)[j]? = some u → (YRaw.cells ⟨BA, bn', bc, t, RA, rn', rc⟩ x)[1 + j]? = some u) := Lib.hid fun j u hu => ycells_t hu
  have HCT' : Hid (∀ j u, (t'.cells x.tx)[j]? = some u → (YRaw.cells ⟨BB, bn', bd, t', RB, rn', rd⟩ x)[1 + j]? = some u) := Lib.hid fun j u hu => ycells_t hu
  have HL : Hid (∀ i, (YRaw.cells ⟨BA, bn', bc, t, RA, rn', rc⟩ x)[41 + i]? = (.slice RA rn' rc :: x.last)[i]?) := Lib.hid (ycells_41 hre)
  have HL' : Hid (∀ i, (YRaw.cells ⟨BB, bn', bd, t', RB, rn', rd⟩ x)[41 + i]? = (.slice RB rn' rd :: x.last)[i]?) := Lib.hid (ycells_41 hre)
  have HC0 : Hid ((YRaw.cells ⟨BA, bn', bc, t, RA, rn', rc⟩ x)[0]? = some (.slice BA bn' bc)) := Lib.hid rfl
  have HC0' : Hid ((YRaw.cells ⟨BB, bn', bd, t', RB, rn', rd⟩ x)[0]? = some (.slice BB bn' bd)) := Lib.hid rfl
  have HBN := Lib.hid (And.intro h.bn h.rn)
  have HRO := Lib.hid h.rs.ok
  have HBE := Lib.hid (fun w => bud_eql x.u x.p x.bad w)
  generalize YRaw.cells ⟨BA, bn', bc, t, RA, rn', rc⟩ x = ca at *
  generalize YRaw.cells ⟨BB, bn', bd, t', RB, rn', rd⟩ x = cb at *
  have HR0 := Lib.hid hr0
  have HR1 := Lib.hid hr1
  have HB0 := Lib.hid hbw
  have a0 := (hr0.cell 0).trans HC0.out
  have b0 := (hr1.cell 0).trans HC0'.out
  clear hr0 hr1 hbw h h' hre
  go_enter Tryz.func16, Tryz.ntmps16
  go_wp2_with fail
  refine (same_byte BA BB bn' bn' bc bd x.bytes x.bytes _ B B' (HIN.out _ HB0.out).bs (HIN'.out _ HB0.out).bs (by have := HBN.out.1; omega) (by have := HBN.out.1; omega)).mono ?_
  rintro e w1 ⟨rfl, k, hw1⟩
  simp only [decide_true]
  have B1 : Hid (Below w.heap.size w w1) := Lib.hid (by rw [hw1]; exact below_drewN HB0.out k)
  have R0 : Hid (Row w1 w.heap.size 48 ca) := Lib.hid (by rw [hw1]; exact HR0.out.drewN k)
  have R1 : Hid (Row w1 (w.heap.size + 1) 48 cb) := Lib.hid (by rw [hw1]; exact HR1.out.drewN k)
  clear hw1 a0 b0 HR0 HR1 HB0
  go_wp2_with (first
    | ((with_reducible show wpList _ _ _ ({ dst := some 12, op := Op.load _ _, type := _, pos := _, after := _, guard := _ } :: _) _ _); go_must (refine wpList_load_atg (by kernel_rfl) 42 (.tmp 11) rfl ⟨w.heap.size, 1, none⟩ (t.cells x.tx) _ Tryz.underlying42 rfl HST.out (fun j u hu => by rw [addr_row, R0.out.cell]; exact HCT.out j u hu) ?_ ?_; go_simp))
    | ((with_reducible show wpList _ _ _ ({ dst := some 14, op := Op.load _ _, type := _, pos := _, after := _, guard := _ } :: _) _ _); go_must (refine wpList_load_atg (by kernel_rfl) 42 (.tmp 13) rfl ⟨w.heap.size + 1, 1, none⟩ (t'.cells x.tx) _ Tryz.underlying42 rfl HST'.out (fun j u hu => by rw [addr_row, R1.out.cell]; exact HCT'.out j u hu) ?_ ?_; go_simp)))
  refine (same_tx t t' x.tx B B' w1 (HIN.out _ B1.out).tx (Nat.le_trans hB B1.out.size) (HIN'.out _ B1.out).tx (Nat.le_trans hB' B1.out.size)).mono ?_
  rintro e w2 ⟨rfl, hb⟩
  have R02 := Lib.hid (R0.out.below hb R0.out.lt)
  have R12 := Lib.hid (R1.out.below hb R1.out.lt)
  have B2 := Lib.hid (B1.out.trans (hb.mono B1.out.size))
  clear hb R0 R1 B1
  have a41 : w2.cell? ⟨w.heap.size, 41, none⟩ = some (.slice RA rn' rc) := (R02.out.cell 41).trans (HL.out 0)
  have b41 : w2.cell? ⟨w.heap.size + 1, 41, none⟩ = some (.slice RB rn' rd) := (R12.out.cell 41).trans (HL'.out 0)
  go_wp2_with fail
  refine (sameR RA RB rn' rc rd _ w2 B B' (HIN.out _ B2.out).rs.cs (HIN'.out _ B2.out).rs.cs (roles_is HRO.out) (by have := HBN.out.2; omega)).mono ?_
  rintro e w3 ⟨rfl, k3, hw3⟩
  have B3 : Hid (Below w.heap.size w w3) := Lib.hid (by rw [hw3]; exact below_drewN B2.out k3)
  have R03 : Hid (Row w3 w.heap.size 48 ca) := Lib.hid (by rw [hw3]; exact R02.out.drewN k3)
  have R13 : Hid (Row w3 (w.heap.size + 1) 48 cb) := Lib.hid (by rw [hw3]; exact R12.out.drewN k3)
  clear hw3 a41 b41 R02 R12 B2
  have a45 : w3.cell? ⟨w.heap.size, 45, none⟩ = some (.int .u64 x.fee) := (R03.out.cell 45).trans (HL.out 4)
  have b45 : w3.cell? ⟨w.heap.size + 1, 45, none⟩ = some (.int .u64 x.fee) := (R13.out.cell 45).trans (HL'.out 4)
  have a46 : w3.cell? ⟨w.heap.size, 46, none⟩ = some (.int .u64 x.cost) := (R03.out.cell 46).trans (HL.out 5)
  have b46 : w3.cell? ⟨w.heap.size + 1, 46, none⟩ = some (.int .u64 x.cost) := (R13.out.cell 46).trans (HL'.out 5)
  have a47 : w3.cell? ⟨w.heap.size, 47, none⟩ = some (.int .u64 x.pri) := (R03.out.cell 47).trans (HL.out 6)
  have b47 : w3.cell? ⟨w.heap.size + 1, 47, none⟩ = some (.int .u64 x.pri) := (R13.out.cell 47).trans (HL'.out 6)
  have HBS := Lib.hid (size_bud x.u x.p x.bad)
  have A42 : Hid (∀ j v, ([.int .u64 x.u, .int .u64 x.p, .int .i64 x.bad] : List Value)[j]? = some v → w3.cell? ((⟨w.heap.size, 42, none⟩ : Addr).add j) = some v) := Lib.hid fun j v hv => by
    rw [addr_row, R03.out.cell, show 42 + j = 41 + (j + 1) by omega, HL.out]
    have hj := (List.getElem?_eq_some_iff.1 hv).1
    rcases (show j = 0 ∨ j = 1 ∨ j = 2 by simp at hj; omega) with rfl | rfl | rfl <;> exact hv
  have B42 : Hid (∀ j v, ([.int .u64 x.u, .int .u64 x.p, .int .i64 x.bad] : List Value)[j]? = some v → w3.cell? ((⟨w.heap.size + 1, 42, none⟩ : Addr).add j) = some v) := Lib.hid fun j v hv => by
    rw [addr_row, R13.out.cell, show 42 + j = 41 + (j + 1) by omega, HL'.out]
    have hj := (List.getElem?_eq_some_iff.1 hv).1
    rcases (show j = 0 ∨ j = 1 ∨ j = 2 by simp at hj; omega) with rfl | rfl | rfl <;> exact hv
  have hbe := HBE.out
  go_wp2_with (first
    | ((with_reducible show wpList _ _ _ ({ dst := some 26, op := Op.load _ _, type := _, pos := _, after := _, guard := _ } :: _) _ _); go_must (refine wpList_load_atg (by kernel_rfl) 46 (.tmp 25) rfl ⟨w.heap.size, 42, none⟩ [.int .u64 x.u, .int .u64 x.p, .int .i64 x.bad] _ Tryz.underlying46 rfl HBS.out A42.out ?_ ?_; go_simp))
    | ((with_reducible show wpList _ _ _ ({ dst := some 28, op := Op.load _ _, type := _, pos := _, after := _, guard := _ } :: _) _ _); go_must (refine wpList_load_atg (by kernel_rfl) 46 (.tmp 27) rfl ⟨w.heap.size + 1, 42, none⟩ [.int .u64 x.u, .int .u64 x.p, .int .i64 x.bad] _ Tryz.underlying46 rfl HBS.out B42.out ?_ ?_; go_simp)))
  go_ret
  exact ⟨rfl, B3.out⟩
end Go.Proofs.YtdgbodljmdcagaaGreatDoor

/-
  Of part NoneWalk11: what is needed here.
-/
namespace Go.Proofs.YtdgbodljmdcagaaGreatDoor
open Go.RowKit
set_option linter.unusedVariables false
set_option maxRecDepth 100000
set_option maxRecDepth 100000 in
set_option maxHeartbeats 8000000 in
theorem none_walk11 (A : Option Addr) (n c : Nat) (w : World) (hn : n ≤ maxLen) (hl : LenAt w) :
    Calls Tryz.prog 4 #[.slice A n c] w fun e w' => e = .returned (.bool true) ∧ Below w.heap.size w w' := by
  unfold maxLen at hn
  have HLE := Lib.hid (fun (V : World) (hb : Below w.heap.size w V) => hl.below hb hl.pos)
  clear hl
  by_cases h5 : 5000 < n
  · have h5' : (5000 : Int) < n := by omega
    go_enter Tryz.func4, Tryz.ntmps4
    go_wp2_with fail
    refine (lives11 _ (HLE.out _ (Below.refl _ _))).mono ?_
    rintro e w2 ⟨rfl, hb⟩
    have HB := Lib.hid hb
    clear hb
    go_wp2_with fail
    go_ret
    exact ⟨rfl, HB.out⟩
  have h5' : ¬ (5000 : Int) < n := by omega
  have HSY := Lib.hid (show (Tryz.prog.info? 48).map (·.size) = some yzero.length by rw [yzero_len]; exact size_ready)
  have HYL := Lib.hid yzero_len
  have HY1 := Lib.hid yzero_one
  go_enter Tryz.func4, Tryz.ntmps4
  go_wp2_with fail
  refine (ofNo11 (.pointer none) A n c w (fun V _ => .inl rfl)).mono ?_
  rintro e w1 ⟨rfl, hb1⟩
  have B1 := Lib.hid hb1
  clear hb1
  go_upto_region 4 with ((with_reducible show wpList _ _ _ ({ dst := none, op := Op.store 48 _ _, type := _, pos := _, after := _, guard := _ } :: _) _ _); go_must (refine wpList_store_new rfl 48 (.tmp 3) (.tmp 14) rfl yzero HSY.out HY1.out (by rw [HYL.out]; rfl) ?_ ?_ ?_; go_simp; go_simp; intro w2 hr2 hb2 hz2))
  have R2 := Lib.hid hr2
  have B2 := Lib.hid (B1.out.trans (hb2.mono B1.out.size))
  clear hr2 hb2 hz2 B1
  have RG := Lib.hid (Row.new w2 66 [.map none])
  have hba := (Below.refl w2.heap.size w2).alloc (Nat.le_refl _) (.cells ([.map none] : List Value).toArray 66)
  have R3 := Lib.hid (R2.out.below hba R2.out.lt)
  have B3 := Lib.hid (B2.out.trans (hba.mono B2.out.size))
  clear hba R2 B2
  go_wp2_with fail
  generalize w2.alloc (.cells ([.map none] : List Value).toArray 66) = w3 at *
  refine (ofNo11 (.pointer (some ⟨w2.heap.size, 0, none⟩)) A n c w3 (fun V hV => .inr ⟨_, rfl, RG.out.below hV RG.out.lt⟩)).mono ?_
  rintro e w4 ⟨rfl, hb4⟩
  have R4 := Lib.hid (R3.out.below hb4 R3.out.lt)
  have B4 := Lib.hid (B3.out.trans (hb4.mono B3.out.size))
  clear hb4 R3 B3 RG
  go_upto_region 5 with ((with_reducible show wpList _ _ _ ({ dst := none, op := Op.store 48 _ _, type := _, pos := _, after := _, guard := _ } :: _) _ _); go_must (refine wpList_store_new rfl 48 (.tmp 5) (.tmp 21) rfl yzero HSY.out HY1.out (by rw [HYL.out]; rfl) ?_ ?_ ?_; go_simp; go_simp; intro w5 hr5 hb5 hz5))
  have R5 := Lib.hid hr5
  have RX := Lib.hid (R4.out.below hb5 R4.out.lt)
  have B5 := Lib.hid (B4.out.trans (hb5.mono B4.out.size))
  have HG := Lib.hid (And.intro RX.out.lt hr5.lt)
  clear hr5 hb5 hz5 R4 B4
  go_wp2_with ((with_reducible show wpList _ _ _ ({ dst := some 30, op := Op.load _ _, type := _, pos := _, after := _, guard := _ } :: _) _ _); go_must (refine wpList_load_atg (by kernel_rfl) 48 (.tmp 3) rfl ⟨w1.heap.size, 0, none⟩ yzero _ Tryz.underlying48 rfl HSY.out (fun j v hv => by rw [addr_row, Nat.zero_add]; exact (RX.out.cell j).trans hv) ?_ ?_; go_simp))
  have HS := Lib.hid (fun (V : World) => same_ready zYRaw zYRaw zReady 0 0 V (zReady_in V 0) (Nat.zero_le _) (zReady_in V 0) (Nat.zero_le _))
  refine (HS.out w5).mono ?_
  rintro e w6 ⟨rfl, hb6⟩
  have R6 := Lib.hid (R5.out.below hb6 R5.out.lt)
  have B6 := Lib.hid (B5.out.trans (hb6.mono B5.out.size))
  clear hb6 R5 B5 RX
  go_wp2_with ((with_reducible show wpList _ _ _ ({ dst := some 35, op := Op.load _ _, type := _, pos := _, after := _, guard := _ } :: _) _ _); go_must (refine wpList_load_atg (by kernel_rfl) 48 (.tmp 5) rfl ⟨w4.heap.size, 0, none⟩ yzero _ Tryz.underlying48 rfl HSY.out (fun j v hv => by rw [addr_row, Nat.zero_add]; exact (R6.out.cell j).trans hv) ?_ ?_; go_simp))
  refine (HS.out w6).mono ?_
  rintro e w7 ⟨rfl, hb7⟩
  have B7 := Lib.hid (B6.out.trans (hb7.mono B6.out.size))
  clear hb7 R6 B6 HS
  go_wp2_with fail
  refine (lives11 _ (HLE.out _ B7.out)).mono ?_
  rintro e w8 ⟨rfl, hb8⟩
  have B8 := Lib.hid (B7.out.trans (hb8.mono B7.out.size))
  clear hb8
  go_wp2_with fail
  go_ret
  exact ⟨rfl, B8.out⟩
end Go.Proofs.YtdgbodljmdcagaaGreatDoor

/-
  Of part KindsWalk11: what is needed here.
-/
namespace Go.Proofs.YtdgbodljmdcagaaGreatDoor
open Go.RowKit
set_option linter.unusedVariables false
set_option maxRecDepth 100000
set_option maxRecDepth 100000 in
set_option maxHeartbeats 8000000 in
theorem kinds_walk11 (A TA : Option Addr) (n c tn tc : Nat) (zs : List Int) (l : List LTab) (w : World) (hs : Sees w w.heap.size A n (bv zs)) (hnc : n ≤ c) (hc : c ≤ maxLen) (hz : AllBytes zs) (ht : TabsIn w w.heap.size TA tn l) (htm : tn ≤ maxLen) (hok : ∀ t ∈ l, TabOk11 t) (hl : LenAt w) :
    Calls Tryz.prog 7 #[.slice A n c, .slice TA tn tc] w fun e w' => e = .returned (.bool true) ∧ Below w.heap.size w w' := by
  have HLE := Lib.hid (fun (V : World) (hb : Below w.heap.size w V) => hl.below hb hl.pos)
  have HS := Lib.hid (fun (V : World) (hb : Below w.heap.size w V) => hs.below hb)
  have HNC := Lib.hid (And.intro hnc hc)
  have HZ := Lib.hid hz
  have HT := Lib.hid ht
  have HOK := Lib.hid hok
  have HTS : Hid (TsB11 (laidT [] l)) := Lib.hid (tsB_laid l tsB_nil fun t h => (hok t h).keys)
  have HGR := Lib.hid (great11 A TA n c tn tc w.heap.size l w ht htm)
  clear hs hnc hc hz ht hok hl
  by_cases hg : (decide (5000 < n) || decide (20 < tn) || isGreat11 l) = true
  · rw [hg] at HGR
    clear hg
    go_enter Tryz.func7, Tryz.ntmps7
    go_wp2_with (go_at_call 8; refine HGR.out.mono ?_; rintro e w' ⟨rfl, hw⟩; obtain rfl := hw.symm)
    refine (lives11 _ (HLE.out _ (Below.refl _ _))).mono ?_
    rintro e w2 ⟨rfl, hb⟩
    have HB := Lib.hid hb
    clear hb
    go_wp2_with fail
    go_ret
    exact ⟨rfl, HB.out⟩
  have hg : (decide (5000 < n) || decide (20 < tn) || isGreat11 l) = false := by simpa using hg
  rw [hg] at HGR
  have hn5 : n ≤ 5000 ∧ tn ≤ 20 := by
    simp only [Bool.or_eq_false_iff, decide_eq_false_iff_not] at hg
    omega
  obtain ⟨hn5, ht20⟩ := hn5
  clear hg
  go_enter Tryz.func7, Tryz.ntmps7
  go_wp2_with (go_at_call 8; refine HGR.out.mono ?_; rintro e w' ⟨rfl, hw⟩; obtain rfl := hw.symm)
  refine (laid11 TA tn tc w.heap.size l w HT.out (Nat.le_refl _) HOK.out (by omega)).mono ?_
  rintro e w1 ⟨rb, mb, pb, v, rfl, hst⟩
  have L1 := Lib.hid hst
  clear hst HGR
  go_wp2_with fail
  refine (wire_ A n c w.heap.size zs w1 (HS.out _ L1.out.b) L1.out.b.size HNC.out.1 HNC.out.2 HZ.out).mono ?_
  rintro e w2 hd
  obtain ⟨cs, lo, rfl, hlo, hgot, hb2⟩ := hd.one
  have HL := Lib.hid hgot.len
  have HO := Lib.hid hgot.one
  have HI := Lib.hid hgot.size
  have L2 := Lib.hid (L1.out.below hb2)
  clear hd hgot hlo hb2 L1
  have HKD := Lib.hid (fun h => rdErr_kinds (ts := laidT [] l) (zs := zs) h)
  have HRW := Lib.hid (fun h => rdErr_wire (ts := laidT [] l) (zs := zs) h)
  go_upto_region 5 with ((with_reducible show wpList _ _ _ ({ dst := none, op := Op.store 42 (.tmp 7) _, type := _, pos := _, after := _, guard := _ } :: _) _ _); go_must (refine wpList_store_new rfl 42 (.tmp 7) (.tmp 23) rfl cs HI.out HO.out (by rw [HL.out]; rfl) ?_ ?_ ?_; go_simp; go_simp; intro w3 hr hb hz0))
  have L3 := Lib.hid (L2.out.below hb)
  clear hr hb hz0 L2
  go_wp2_with fail
  obtain ⟨nr, _, hrg⟩ := L3.out.r
  refine (of11 rb mb _ nr _ A n c w.heap.size zs w3 hrg HTS.out (HS.out _ L3.out.b) L3.out.b.size HNC.out.1 HNC.out.2 HZ.out (HLE.out _ L3.out.b)).mono ?_
  rintro e w4 ⟨q, rfl, hv, hb4⟩
  have HXL := Lib.hid (ycells_len (q := q) hv.is.tx.m.recent)
  have HX1 := Lib.hid (ycells_one (q := q) (x := rdX (laidT [] l) zs))
  have HXS := Lib.hid (show (Tryz.prog.info? 48).map (·.size) = some (q.cells (rdX (laidT [] l) zs)).length by rw [HXL.out]; exact size_ready)
  have L4 := Lib.hid (L3.out.below hb4)
  clear hv hb4 hrg L3
  generalize q.cells (rdX (laidT [] l) zs) = ys at *
  by_cases hwe : wErr zs = 0
  · rcases HKD.out hwe with e0 | e0 | e0 | e0
    all_goals
      rw [e0, hwe]
      clear e0 hwe HKD HRW
      go_upto_region 6 with ((with_reducible show wpList _ _ _ ({ dst := none, op := Op.store 48 (.tmp 9) _, type := _, pos := _, after := _, guard := _ } :: _) _ _); go_must (refine wpList_store_new rfl 48 (.tmp 9) (.tmp 29) rfl ys HXS.out HX1.out (by rw [HXL.out]; rfl) ?_ ?_ ?_; go_simp; go_simp; intro w5 hr hb hz0))
      have L5 := Lib.hid (L4.out.below hb)
      clear hr hb hz0 L4
      go_wp2_with fail
      refine (lives11 _ (HLE.out _ L5.out.b)).mono ?_
      rintro e w6 ⟨rfl, hb6⟩
      have B6 := Lib.hid (L5.out.b.trans (hb6.mono L5.out.b.size))
      clear hb6 L5
      go_wp2_with fail
      go_ret
      exact ⟨rfl, B6.out⟩
  · rw [HRW.out hwe]
    clear HKD HRW
    generalize wErr zs = we at *
    go_upto_region 6 with ((with_reducible show wpList _ _ _ ({ dst := none, op := Op.store 48 (.tmp 9) _, type := _, pos := _, after := _, guard := _ } :: _) _ _); go_must (refine wpList_store_new rfl 48 (.tmp 9) (.tmp 29) rfl ys HXS.out HX1.out (by rw [HXL.out]; rfl) ?_ ?_ ?_; go_simp; go_simp; intro w5 hr hb hz0))
    have L5 := Lib.hid (L4.out.below hb)
    clear hr hb hz0 L4
    go_wp2_with fail
    refine (lives11 _ (HLE.out _ L5.out.b)).mono ?_
    rintro e w6 ⟨rfl, hb6⟩
    have B6 := Lib.hid (L5.out.b.trans (hb6.mono L5.out.b.size))
    clear hb6 L5
    go_wp2_with fail
    go_ret
    exact ⟨rfl, B6.out⟩
end Go.Proofs.YtdgbodljmdcagaaGreatDoor
