/-
  Parts joined: Tabs Copied PutFind Pick Resolve Lives6 Elems.
-/
import Derived.Below
import Derived.Laws.OwnMore
import Derived.Deep.AppendLies
import Derived.Deep.Draws
import Derived.Lib.Hide
import Derived.Laws.MakeOwn
import Derived.Laws.CopyOwn
import Derived.Laws.Rows
import Derived.Laws.BitsAllLaws
import Derived.WalkKit
import Derived.Test.YtdbcbjjomhbhpaaRows
import Derived.WalkSpells
import Derived.WalkLawsBesides
import Derived.IntWalk
import Derived.Maps.AppendAt
import Derived.OwnWalk
import Derived.Deep.MidRow
import Derived.Deep.WholeRow
import Derived.Great.BuildSlice
import Derived.ProofKit
import Derived.OpenShut
import Derived.ShutString
import Derived.ChangeOld
import Derived.Lib.SmallJoins
import Derived.Recover
import Derived.Deep.RegionHeld
import Derived.Deep.QuietTactic
import Derived.BigQuiet
import Derived.Deep.Slices
import Derived.Deep.Strs
import Derived.SizedLaws
import Derived.Maps.OwnSet
import Derived.DeepKeys4
import Derived.WideKeyArr
import Derived.ChangeKeysEq
import Derived.Deep.RegionHeld2
import Derived.Deep.CutBlock
import Derived.Laws.Tables
import Derived.Deep.DeepCutAuto
import Derived.Laws.Slices
import Derived.Laws.EntriesVeiled
import Derived.Deep.RegionHeld3
import Derived.WideKeyEntry
import Derived.Shelf.SlMaps.Clone
import Derived.Test.YtdbcbjjomhbhpaaB1
import Derived.Test.YtdbcbjjomhbhpaaB2
/-
  Of part Tabs: what is needed here.
-/
namespace Go.Proofs.Ytdbcbjjomhbhpaa
open Go.RowKit Go.Maps
set_option linter.unusedVariables false
/-- a table -/
structure LTab where
  key : List Int
  keys : List (List Int)
def findT (ts : List LTab) (k : List Int) : Option (List (List Int)) := (ts.find? fun t => decide (t.key = k)).map LTab.keys
/-- a key of 32 bytes -/
def KeyOk (k : List Int) : Prop := k.length = 32 ∧ AllBytes k
structure TabOk (t : LTab) : Prop where
  key : KeyOk t.key
  keys : ∀ k ∈ t.keys, k.length = 32
  one : 1 ≤ t.keys.length
  most : t.keys.length ≤ 256
def TsOk (ts : List LTab) : Prop := ∀ t ∈ ts, TabOk t
/-- what Put answers -/
def mayPut (ts : List LTab) (k : List Int) (l : List (List Int)) : Int := if l.length = 0 ∨ 256 < l.length then 1 else if (findT ts k).isSome then 12 else 0
def putT (ts : List LTab) (k : List Int) (l : List (List Int)) : List LTab := if mayPut ts k l = 0 then ts ++ [⟨k, l⟩] else ts
theorem findT_snoc (ts : List LTab) (t : LTab) (k : List Int) : findT (ts ++ [t]) k = match findT ts k with
    | some l => some l
    | none => if t.key = k then some t.keys else none := by
  unfold findT
  rw [List.find?_append]
  cases h : ts.find? fun t => decide (t.key = k) with
  | some x => rfl
  | none =>
    simp only [Option.none_or, Option.map_none]
    by_cases e : t.key = k
    · simp [e]
    · simp [e]
theorem findT_mem {ts : List LTab} {k : List Int} {l : List (List Int)} (h : findT ts k = some l) : ∃ t ∈ ts, t.key = k ∧ t.keys = l := by
  unfold findT at h
  obtain ⟨t, ht, rfl⟩ := Option.map_eq_some_iff.1 h
  exact ⟨t, List.mem_of_find?_eq_some ht, by simpa using List.find?_some ht, rfl⟩
theorem TsOk.find {ts : List LTab} (h : TsOk ts) {k : List Int} {l : List (List Int)} (hf : findT ts k = some l) : (∀ y ∈ l, y.length = 32) ∧ 1 ≤ l.length ∧ l.length ≤ 256 := by
  obtain ⟨t, ht, rfl, rfl⟩ := findT_mem hf
  exact ⟨(h t ht).keys, (h t ht).one, (h t ht).most⟩
theorem mayPut_cases (ts : List LTab) (k : List Int) (l : List (List Int)) : (mayPut ts k l = 1 ∧ (l.length = 0 ∨ 256 < l.length)) ∨ (mayPut ts k l = 12 ∧ ¬ (l.length = 0 ∨ 256 < l.length) ∧ (findT ts k).isSome = true) ∨ (mayPut ts k l = 0 ∧ ¬ (l.length = 0 ∨ 256 < l.length) ∧ findT ts k = none) := by
  unfold mayPut
  split
  · exact .inl ⟨rfl, ‹_›⟩
  · split
    · exact .inr (.inl ⟨rfl, ‹_›, ‹_›⟩)
    · exact .inr (.inr ⟨rfl, ‹_›, by cases h : findT ts k <;> simp_all⟩)
theorem TsOk.put {ts : List LTab} (h : TsOk ts) {k : List Int} {l : List (List Int)} (hk : KeyOk k) (hl : ∀ y ∈ l, y.length = 32) : TsOk (putT ts k l) := by
  unfold putT
  rcases mayPut_cases ts k l with ⟨e, _⟩ | ⟨e, _⟩ | ⟨e, h1, _⟩ <;> rw [e]
  · exact h
  · exact h
  · intro t ht
    rcases List.mem_append.1 ht with ht | ht
    · exact h t ht
    · obtain rfl := List.mem_singleton.1 ht
      exact ⟨hk, hl, by show 1 ≤ l.length; omega, by show l.length ≤ 256; omega⟩
theorem putT_len (ts : List LTab) (k : List Int) (l : List (List Int)) : (putT ts k l).length ≤ ts.length + 1 := by
  unfold putT
  split <;> simp
/-- how a slice reads in a map: as itself -/
def held1 (v : Value) : Option (DataW Value × List MemPlace) := some (.held v, [])
def nilK : Value := .slice none 0 0
/-- block mb is a map that holds f -/
def MapIs (w : World) (mb n : Nat) (f : List Int → Option Value) : Prop :=
  ∃ D, w.ownsMap Try.prog 32 held1 mb n D ∧ ∀ x, KeyOk x → Go.Maps.has D (KL x) = (f x).isSome ∧ D.atKey (KL x) (.held nilK) = .held ((f x).getD nilK)
section
variable {w w' : World} {mb n : Nat} {f : List Int → Option Value} {x : List Int}
theorem MapIs.made (w : World) : MapIs (w.alloc (.map #[] 0)) w.heap.size 0 (fun _ => none) :=
  ⟨.map [], World.ownsMap_made _ _ _ _, fun x _ => ⟨rfl, rfl⟩⟩
theorem MapIs.lt (h : MapIs w mb n f) : mb < w.heap.size := by
  obtain ⟨D, h1, _⟩ := h
  exact h1.lt
theorem MapIs.kept {row : Option Nat} (h : MapIs w mb n f) (hg : w.grownBy w' row) (hne : some mb ≠ row) : MapIs w' mb n f := by
  obtain ⟨D, h1, h2⟩ := h
  exact ⟨D, h1.kept hg hne, h2⟩
theorem MapIs.look (h : MapIs w mb n f) (hx : KeyOk x) : (Instr.lookup 49 (.map (some mb)) (.agg (bv x).toArray) true).run Try.prog w = .ok (.tuple #[(f x).getD nilK, .bool (f x).isSome]) w := by
  obtain ⟨D, h1, h2⟩ := h
  obtain ⟨e1, e2⟩ := h2 x hx
  have hz : (zeroValue 33).run Try.prog w = .ok nilK w := by kernel_rfl
  obtain ⟨v, ps, hrun, hv⟩ := h1.look_ok key_law Try.underlying49 hz (zd := .held nilK) (zp := []) rfl (KL_is hx.1 hx.2)
  rw [e2] at hv
  injection hv with hv
  injection hv with hv _
  injection hv with hv
  rw [hrun, e1, hv]
theorem MapIs.put (h : MapIs w mb n f) (hx : KeyOk x) (hn : n < maxLen) (v : Value) : ∃ w', (Instr.mapUpdate 49 (.map (some mb)) (.agg (bv x).toArray) v).run Try.prog w = .ok () w' ∧ MapIs w' mb (n + 1) (fun y => if y = x then some v else f y) ∧ w.grownBy w' (some mb) := by
  obtain ⟨D, h1, h2⟩ := h
  obtain ⟨w', hrun, h3, h4⟩ := h1.update key_law Try.underlying49 hn (val := v) (d := .held v) (ps := []) (KL_is hx.1 hx.2) rfl
  refine ⟨w', hrun, ⟨_, h3, fun y hy => ?_⟩, h4⟩
  dsimp only
  by_cases e : y = x
  · subst e
    rw [if_pos rfl]
    exact ⟨has_put_same h1.isMap (KL_key hx.1 hx.2) _, atKey_put_same h1.isMap (KL_key hx.1 hx.2) _ _⟩
  · rw [if_neg e]
    have hne : KL y ≠ KL x := fun e' => e (KL_inj hy.1 hy.2 hx.1 hx.2 e')
    rw [has_put_other hne, atKey_put_other hne]
    exact h2 y hy
end
/-- where a registry's lists lie -/
def FT (ts : List LTab) (blk : List Int → Nat) (x : List Int) : Option Value := (findT ts x).map fun l => .slice (some ⟨blk x, 0, none⟩) l.length l.length
/-- a registry in memory: its block, its map's, all its blocks below hi -/
structure Reg (w : World) (rb mb hi n : Nat) (ts : List LTab) : Prop where
  row : Row w rb 51 [.map (some mb)]
  map : ∃ blk, MapIs w mb n (FT ts blk) ∧ ∀ x l, findT ts x = some l → Row w (blk x) 32 (bv l.flatten) ∧ blk x < hi
  lt : rb < hi ∧ mb < hi ∧ hi ≤ w.heap.size
  good : TsOk ts
section
variable {w w' : World} {rb mb hi n : Nat} {ts : List LTab}
theorem Reg.map_ne (h : Reg w rb mb hi n ts) {g t : Nat} {xs : List Value} (hr : Row w g t xs) : g ≠ mb := by
  obtain ⟨blk, ⟨D, ⟨es, clock, hb, _⟩, _⟩, _⟩ := h.map
  rintro rfl
  rw [hr.is] at hb
  cases hb
/-- it stays, where another map (or nothing) is written -/
theorem Reg.kept {row : Option Nat} (h : Reg w rb mb hi n ts) (hg : w.grownBy w' row) (hne : ∀ k, row = some k → k ≠ mb ∧ ∃ es cl, w.heap[k]? = some (.map es cl)) : Reg w' rb mb hi n ts := by
  have hrow : ∀ {g t : Nat} {xs : List Value}, Row w g t xs → some g ≠ row := by
    intro g t xs hr e
    obtain ⟨_, es, cl, he⟩ := hne g e.symm
    rw [hr.is] at he
    cases he
  obtain ⟨blk, h1, h2⟩ := h.map
  refine ⟨h.row.grown hg (hrow h.row), ⟨blk, h1.kept hg (fun e => (hne mb e.symm).1 rfl), fun x l hx => ?_⟩, ⟨h.lt.1, h.lt.2.1, Nat.le_trans h.lt.2.2 hg.size⟩, h.good⟩
  obtain ⟨a, b⟩ := h2 x l hx
  exact ⟨a.grown hg (hrow a), b⟩
theorem Reg.is_map (h : Reg w rb mb hi n ts) : ∃ es cl, w.heap[mb]? = some (.map es cl) := by
  obtain ⟨blk, ⟨D, ⟨es, clock, hb, _⟩, _⟩, _⟩ := h.map
  exact ⟨es, clock, hb⟩
theorem Reg.below (h : Reg w rb mb hi n ts) (hb : Below hi w w') : Reg w' rb mb hi n ts := by
  obtain ⟨blk, ⟨D, ⟨es, clock, hm, hr⟩, hd⟩, h2⟩ := h.map
  refine ⟨h.row.below hb h.lt.1, ⟨blk, ⟨D, ⟨es, clock, (hb.block mb h.lt.2.1).trans hm, hr⟩, hd⟩, fun x l hx => ?_⟩, ⟨h.lt.1, h.lt.2.1, Nat.le_trans h.lt.2.2 hb.size⟩, h.good⟩
  obtain ⟨a, b⟩ := h2 x l hx
  exact ⟨a.below hb b, b⟩
theorem Reg.more {hi' : Nat} (h : Reg w rb mb hi n ts) (h1 : hi ≤ hi') (h2 : hi' ≤ w.heap.size) : Reg w rb mb hi' n ts := by
  obtain ⟨blk, h3, h4⟩ := h.map
  exact ⟨h.row, ⟨blk, h3, fun x l hx => ⟨(h4 x l hx).1, Nat.lt_of_lt_of_le (h4 x l hx).2 h1⟩⟩, ⟨Nat.lt_of_lt_of_le h.lt.1 h1, Nat.lt_of_lt_of_le h.lt.2.1 h1, h2⟩, h.good⟩
/-- what a look-up answers: the list's slice -/
def seen (ts : List LTab) (x : List Int) (g : Nat) : Value := match findT ts x with | none => nilK | some l => .slice (some ⟨g, 0, none⟩) l.length l.length
theorem Reg.look_any (h : Reg w rb mb hi n ts) {x : List Int} (hx : KeyOk x) : ∃ g, (∀ V : World, V.heap[mb]? = w.heap[mb]? → (Instr.lookup 49 (.map (some mb)) (.agg (bv x).toArray) true).run Try.prog V = .ok (.tuple #[seen ts x g, .bool (findT ts x).isSome]) V) ∧ ∀ l, findT ts x = some l → Row w g 32 (bv l.flatten) ∧ g < hi := by
  obtain ⟨blk, ⟨D, ⟨es, clock, hb, hf⟩, hD⟩, h2⟩ := h.map
  refine ⟨blk x, fun V hV => ?_, fun l hl => h2 x l hl⟩
  have h1 : MapIs V mb n (FT ts blk) := ⟨D, ⟨es, clock, hV.trans hb, hf⟩, hD⟩
  have := h1.look hx
  rw [this]
  unfold FT seen
  cases findT ts x <;> rfl
theorem Reg.look (h : Reg w rb mb hi n ts) {x : List Int} (hx : KeyOk x) : ∃ g, (∀ k, (Instr.lookup 49 (.map (some mb)) (.agg (bv x).toArray) true).run Try.prog (w.drewN k) = .ok (.tuple #[seen ts x g, .bool (findT ts x).isSome]) (w.drewN k)) ∧ ∀ l, findT ts x = some l → Row w g 32 (bv l.flatten) ∧ g < hi := by
  obtain ⟨g, h1, h2⟩ := h.look_any hx
  exact ⟨g, fun k => h1 _ rfl, h2⟩
theorem Reg.grow {n' : Nat} (h : Reg w rb mb hi n ts) (hn : n ≤ n') : Reg w rb mb hi n' ts := by
  obtain ⟨blk, ⟨D, h0, hD⟩, h2⟩ := h.map
  exact ⟨h.row, ⟨blk, ⟨D, h0.mono hn, hD⟩, h2⟩, h.lt, h.good⟩
/-- maps, lists of keys and registries stay, but what lies in block tb -/
structure KeepReg (w w' : World) (tb : Nat) : Prop where
  size : w.heap.size ≤ w'.heap.size
  map : ∀ k es cl, k ≠ tb → w.heap[k]? = some (.map es cl) → w'.heap[k]? = w.heap[k]?
  row : ∀ k t xs, k ≠ tb → (t = 32 ∨ t = 51) → Row w k t xs → Row w' k t xs
theorem KeepReg.trans {a b c : World} {tb : Nat} (h : KeepReg a b tb) (h' : KeepReg b c tb) : KeepReg a c tb :=
  ⟨Nat.le_trans h.size h'.size, fun k es cl hk hm => (h'.map k es cl hk ((h.map k es cl hk hm).trans hm)).trans (h.map k es cl hk hm), fun k t xs hk ht hr => h'.row k t xs hk ht (h.row k t xs hk ht hr)⟩
theorem KeepReg.grown {tb : Nat} (h : w.grownBy w' (some tb)) : KeepReg w w' tb :=
  ⟨h.size, fun k es cl hk hm => h.block k (Array.getElem?_eq_some_iff.1 hm).1 (fun e => hk (Option.some.inj e)), fun k t xs hk _ hr => hr.grown h (fun e => hk (Option.some.inj e))⟩
theorem KeepReg.below {tb : Nat} (h : Below w.heap.size w w') : KeepReg w w' tb :=
  ⟨h.size, fun k es cl _ hm => h.block k (Array.getElem?_eq_some_iff.1 hm).1, fun k t xs _ _ hr => hr.below h hr.lt⟩
theorem Reg.keepReg {tb : Nat} (h : Reg w rb mb hi n ts) (hk : KeepReg w w' tb) (ht : hi ≤ tb) : Reg w' rb mb w'.heap.size n ts := by
  obtain ⟨blk, ⟨D, ⟨es, clock, hm, hr⟩, hd⟩, h2⟩ := h.map
  have hl := h.lt
  refine ⟨hk.row _ _ _ (by omega) (.inr rfl) h.row, ⟨blk, ⟨D, ⟨es, clock, (hk.map mb es clock (by omega) hm).trans hm, hr⟩, hd⟩, fun x l hx => ?_⟩, ⟨Nat.lt_of_lt_of_le hl.1 (Nat.le_trans hl.2.2 hk.size), Nat.lt_of_lt_of_le hl.2.1 (Nat.le_trans hl.2.2 hk.size), Nat.le_refl _⟩, h.good⟩
  obtain ⟨a, b⟩ := h2 x l hx
  exact ⟨hk.row _ _ _ (by omega) (.inl rfl) a, Nat.lt_of_lt_of_le b (Nat.le_trans hl.2.2 hk.size)⟩
/-- a table more; nobody else's block is its list's -/
theorem Reg.put2 (h : Reg w rb mb hi n ts) {x : List Int} {l : List (List Int)} (hx : KeyOk x) (hl : ∀ y ∈ l, y.length = 32) (hn : n < maxLen) (hm : mayPut ts x l = 0) {g : Nat} (hr : Row w g 32 (bv l.flatten)) :
    ∃ w', (Instr.mapUpdate 49 (.map (some mb)) (.agg (bv x).toArray) (.slice (some ⟨g, 0, none⟩) l.length l.length)).run Try.prog w = .ok () w' ∧ Reg w' rb mb w.heap.size (n + 1) (putT ts x l) ∧ w.grownBy w' (some mb) ∧
      ∀ tb, hi ≤ tb → tb ≠ g → ∀ w'', KeepReg w' w'' tb → Reg w'' rb mb w''.heap.size (n + 1) (putT ts x l) := by
  obtain ⟨blk, h1, h2⟩ := h.map
  obtain ⟨w', hrun, h3, h4⟩ := h1.put hx hn (.slice (some ⟨g, 0, none⟩) l.length l.length)
  have hnone : findT ts x = none := by
    rcases mayPut_cases ts x l with ⟨e, _⟩ | ⟨e, _⟩ | ⟨_, _, e⟩
    · rw [hm] at e; cases e
    · rw [hm] at e; cases e
    · exact e
  have hts : putT ts x l = ts ++ [⟨x, l⟩] := by unfold putT; rw [if_pos hm]
  have hkeep : ∀ {g t : Nat} {xs : List Value}, Row w g t xs → Row w' g t xs := fun hr => hr.grown h4 (fun e => h.map_ne hr (Option.some.inj e))
  have hfind : ∀ y, findT (ts ++ [⟨x, l⟩]) y = if y = x then some l else findT ts y := by
    intro y
    rw [findT_snoc]
    by_cases e : y = x
    · subst e
      simp [hnone]
    · rw [if_neg e]
      cases findT ts y with
      | some z => rfl
      | none => simp [Ne.symm e]
  have hmap : MapIs w' mb (n + 1) (FT (putT ts x l) (fun y => if y = x then g else blk y)) := by
    obtain ⟨D, h5, h6⟩ := h3
    refine ⟨D, h5, fun y hy => ?_⟩
    obtain ⟨e1, e2⟩ := h6 y hy
    have e3 : FT (putT ts x l) (fun y => if y = x then g else blk y) y = if y = x then some (.slice (some ⟨g, 0, none⟩) l.length l.length) else FT ts blk y := by
      unfold FT
      rw [hts, hfind]
      by_cases e : y = x
      · simp [e]
      · simp [e]
    rw [e3]
    exact ⟨e1, e2⟩
  have hrows : ∀ y m, findT (putT ts x l) y = some m → Row w' (if y = x then g else blk y) 32 (bv m.flatten) ∧ (if y = x then g else blk y) < w.heap.size ∧ ((if y = x then g else blk y) = g ∨ (if y = x then g else blk y) < hi) := by
    intro y m hy
    rw [hts, hfind] at hy
    by_cases e : y = x
    · rw [if_pos e] at hy
      cases hy
      rw [if_pos e]
      exact ⟨hkeep hr, hr.lt, .inl rfl⟩
    · rw [if_neg e] at hy
      rw [if_neg e]
      obtain ⟨a, b⟩ := h2 y m hy
      exact ⟨hkeep a, Nat.lt_of_lt_of_le b h.lt.2.2, .inr b⟩
  refine ⟨w', hrun, ⟨hkeep h.row, ⟨fun y => if y = x then g else blk y, hmap, fun y m hy => ⟨(hrows y m hy).1, (hrows y m hy).2.1⟩⟩, ⟨Nat.lt_of_lt_of_le h.lt.1 h.lt.2.2, Nat.lt_of_lt_of_le h.lt.2.1 h.lt.2.2, h4.size⟩, h.good.put hx hl⟩, h4, fun tb ht hg w'' hw => ?_⟩
  have hlt := h.lt
  obtain ⟨D, ⟨es, clock, hm, hr'⟩, hd⟩ := hmap
  refine ⟨hw.row _ _ _ (by omega) (.inr rfl) (hkeep h.row), ⟨fun y => if y = x then g else blk y, ⟨D, ⟨es, clock, (hw.map mb es clock (by omega) hm).trans hm, hr'⟩, hd⟩, fun y m hy => ?_⟩, ⟨?_, ?_, Nat.le_refl _⟩, h.good.put hx hl⟩
  · obtain ⟨a, b, c⟩ := hrows y m hy
    exact ⟨hw.row _ _ _ (c.elim (fun c e => hg (e.symm.trans c)) (fun c => Nat.ne_of_lt (Nat.lt_of_lt_of_le c ht))) (.inl rfl) a, Nat.lt_of_lt_of_le b (Nat.le_trans h4.size hw.size)⟩
  · exact Nat.lt_of_lt_of_le hlt.1 (Nat.le_trans hlt.2.2 (Nat.le_trans h4.size hw.size))
  · exact Nat.lt_of_lt_of_le hlt.2.1 (Nat.le_trans hlt.2.2 (Nat.le_trans h4.size hw.size))
end
end Go.Proofs.Ytdbcbjjomhbhpaa

/-
  Of part Copied: what is needed here.
-/
namespace Go.Proofs.Ytdbcbjjomhbhpaa
open Go.RowKit Go.Maps
set_option linter.unusedVariables false
theorem run_copy_keys {P : Program} (w : World) (dT sT ty elem : TypeId) (g dLen dCap size : Nat) (a : Addr) (sLen sCap : Nat) (cur : List Value) (t : TypeId) (cs : List Value)
    (hu : P.underlying dT = some (.slice elem)) (hs : (P.info? elem).map (·.size) = some size) (hg : Row w g t cur) (hn : cs.length = Nat.min sLen dLen * size)
    (hsrc : ∀ j v, cs[j]? = some v → w.cell? (a.add j) = some v) (hfit : cs.length ≤ cur.length) (h1 : ∀ v ∈ cs, v.oneCell' = true) :
    (Builtin.copy_ #[dT, sT] ty #[.slice (some ⟨g, 0, none⟩) dLen dCap, .slice (some a) sLen sCap]).run P w = .ok (goInt (Nat.min sLen dLen)) (w.setRow g (cs ++ cur.drop cs.length).toArray) := by
  have hl := run_loadCells_list (P := P) w a cs hsrc
  have hst := run_storeCells_at P g 0 t cs 0 cur.toArray w hg.is (by simpa using hfit) h1
  cases hq : P.info? elem with
  | none => simp [hq] at hs
  | some i =>
    have hi : i.size = size := by simpa [hq] using hs
    simp [Builtin.copy_, run_underlying hu, Builtin.lenOf, Builtin.firstCells, sizeOf, typeInfo, hq, hi, ← hn, hl, hst]
theorem wpList_copy_keys {P : Program} {ops : Array Oper} {rest : List Oper} {o : Oper} {a : Act} {w : World} {Q : Exit → Act → World → Prop} (hgd : o.guard = none) (d s : Operand) (dT sT elem : TypeId)
    (ho : o.op = .call { callee := .builtin .copy, args := #[d, s], argTypes := #[dT, sT] }) (hu : P.underlying dT = some (.slice elem)) (size : Nat) (hsz : (P.info? elem).map (·.size) = some size)
    (g n c c' : Nat) (ad : Addr) (hd : a.eval d = .slice (some ⟨g, 0, none⟩) n c) (hs : a.eval s = .slice (some ad) n c')
    (cur : List Value) (t : TypeId) (hg : Row w g t cur) (cs : List Value) (hn : cs.length = n * size)
    (hsrc : ∀ j v, cs[j]? = some v → w.cell? (ad.add j) = some v) (hfit : cur.length = cs.length) (h1 : ∀ v ∈ cs, v.oneCell' = true)
    (h : ∀ w', Row w' g t cs → Turned w w' g → wpList P ops Q rest (a.put o.dst (goInt n)) w') : wpList P ops Q (o :: rest) a w := by
  have hm : Nat.min n n = n := Nat.min_self n
  have hrun := run_copy_keys (P := P) w dT sT o.type elem g n c size ad n c' cur t cs hu hsz hg (by rw [hm]; exact hn) hsrc (Nat.le_of_eq hfit.symm) h1
  rw [List.drop_of_length_le (by omega), List.append_nil, hm] at hrun
  refine wpList_plain hgd fun K hK => ?_
  unfold Oper.wp execOp
  simp only [ho, resolve, invoke, builtin, Sem.run_bind, Sem.run_pure, Result.andThen_ok, List.map_toArray, List.map_cons, List.map_nil, hd, hs, hrun]
  exact hK _ _ (h _ (row_setRow hg cs) (turned_setRow w g _))
/-- a list of one's own, of the same keys -/
def CopyDone (w : World) (n : Nat) (l : List (List Int)) (e : Ending) (w' : World) : Prop :=
  ∃ g, e = .returned (.slice (some ⟨g, 0, none⟩) n n) ∧ w.heap.size ≤ g ∧ Row w' g 32 (bv l.flatten) ∧ Below w.heap.size w w'
set_option maxHeartbeats 800000 in
theorem copied_ (A : Option Addr) (n c B : Nat) (l : List (List Int)) (w : World) (hx : KeysIn w B A n l) (hB : B ≤ w.heap.size) (h1 : 1 ≤ n) (hn : n ≤ 256) :
    Calls Try.prog 29 #[.slice A n c] w (CopyDone w n l) := by
  obtain ⟨a, u, rfl, hab, _, _⟩ := hx.sees.at_ (k := 0) (by omega)
  have hs := hx.sees
  have HL := Lib.hid (show (bv l.flatten).length = n * 32 by rw [bv_length, flatten_len l hx.each, hx.len])
  have H1 := Lib.hid (bv_one l.flatten)
  clear hx
  unfold CopyDone
  generalize bv l.flatten = cs at *
  have HS := Lib.hid hs
  clear hs
  have HC : Hid (∀ j v, cs[j]? = some v → w.cell? (a.add j) = some v) := Lib.hid fun j v hv => by
    obtain ⟨a', e, _, hc⟩ := HS.out.cell j v hv
    cases e
    exact hc
  go_enter Try.func29, Try.ntmps29
  go_wp2_with (first
    | (at_make; (obtain ⟨i0, hi, hz0, hz1, hz2⟩ := info_parts info_key); go_must (refine wpList_make_full _ rfl (.tmp 5) (.tmp 5) 33 rfl w.heap.size 32 i0 _ 32 Try.underlying33 hi hz0 hz1 .i64 .i64 _ _ n rfl rfl (by simp) (by simp) (by rw [hz2]; omega) (by unfold maxLen; omega) (Nat.le_refl _) ?_; intro w1 hown hgrow; have hrow := Row.of_ownN hown; have hlen := made_len (.agg (zeros 32).toArray) (n * 32); have hb1 := (Below.refl w.heap.size w).grown hgrow (Nat.le_refl _) (fun k hk => by cases hk); have R1 := Lib.hid hrow; have HL1 := Lib.hid hlen; have B1 := Lib.hid hb1; clear hrow hlen hb1 hown hgrow hi hz0 hz1 hz2))
    | ((with_reducible show wpList _ _ _ ({ dst := some 9, op := _, type := _, pos := _, after := _, guard := _ } :: _) _ _); go_must (refine wpList_copy_keys rfl (.tmp 7) (.tmp 8) 33 33 32 rfl Try.underlying33 32 size_key w.heap.size n n c a rfl rfl _ 32 R1.out cs HL.out (fun j v hv => (B1.out.cell (by rw [addr_block]; omega)).trans (HC.out j v hv)) (by rw [HL1.out, HL.out]) H1.out ?_; intro w2 hr2 ht2; have R2 := Lib.hid hr2; have T2 := Lib.hid ht2; clear hr2 ht2)))
  go_ret
  exact ⟨_, rfl, Nat.le_refl _, R2.out, B1.out.trans (T2.out.below (Nat.le_refl _))⟩
theorem neq_map (w : World) (r : Option Nat) : (binOp .neq 49 (.map r) (.map none)).run Try.prog w = .ok (.bool (!r.isNone)) w := run_neq_map_nil w _ _ _ r Try.underlying49
set_option maxHeartbeats 400000 in
theorem there_yes (rb mb : Nat) (w : World) (hr : Row w rb 51 [.map (some mb)]) :
    Calls Try.prog 25 #[.pointer (some ⟨rb, 0, none⟩)] w fun e w' => e = .returned (.bool true) ∧ w = w' := by
  have hm := neq_map
  have c0 : w.cell? ⟨rb, 0, none⟩ = some (.map (some mb)) := hr.cell 0
  clear hr
  go_enter Try.func25, Try.ntmps25
  go_wp2_with fail
  go_ret
  exact ⟨rfl, rfl⟩
set_option maxHeartbeats 400000 in
theorem clipK (A : Option Addr) (n c : Nat) (w : World) (hnc : n ≤ c) (hc : c ≤ maxLen) :
    Calls Try.prog 36 #[.slice A n c] w fun e w' => e = .returned (.slice A n n) ∧ w = w' := by
  unfold maxLen at hc
  go_enter Try.func36, Try.ntmps36
  go_wp2
  go_ret
  exact ⟨rfl, rfl⟩
set_option maxHeartbeats 400000 in
theorem newReg (w : World) : Calls Try.prog 10 #[] w fun e w' => e = .returned (.pointer (some ⟨w.heap.size + 1, 0, none⟩)) ∧ Reg w' (w.heap.size + 1) w.heap.size w'.heap.size 0 [] ∧ Below w.heap.size w w' := by
  have hmm := @run_makeMap Try.prog
  have HR : Hid (Reg ((w.alloc (.map #[] 0)).alloc (.cells #[.map (some w.heap.size)] 51)) (w.heap.size + 1) w.heap.size ((w.alloc (.map #[] 0)).alloc (.cells #[.map (some w.heap.size)] 51)).heap.size 0 []) := Lib.hid
    ⟨Row.new' _ 51 [.map (some w.heap.size)] (by simp), ⟨fun _ => 0, (MapIs.made w).kept (World.grownBy_alloc _ _ none) (by simp), fun x l hx => by cases hx⟩, ⟨by simp, by simp; omega, Nat.le_refl _⟩, fun t ht => by cases ht⟩
  have HB := Lib.hid (((Below.refl w.heap.size w).alloc (Nat.le_refl _) (.map #[] 0)).alloc (by simp) (.cells #[.map (some w.heap.size)] 51))
  go_enter Try.func10, Try.ntmps10
  go_wp2_with fail
  go_ret
  exact ⟨rfl, HR.out, HB.out⟩
set_option maxHeartbeats 400000 in
theorem cloneMap (b : Nat) (es : Array MapEntry) (clock : Nat) (w : World) (hb : w.heap[b]? = some (.map es clock)) :
    Calls Try.prog 26 #[.map (some b)] w fun e w' => e = .returned (.map (some w.heap.size)) ∧ w' = w.alloc (.map es clock) := by
  have hq := fun w => run_eql_map_nil_sl (P := Try.prog) w 49 _ _ (some b) Try.underlying49
  go_enter Try.func26, Try.ntmps26
  go_wp2
  rw [run_callFunc_extern Try.func37 (by kernel_rfl) (by kernel_rfl) (by kernel_rfl) (e := Extern.MapsClone.clone) (by kernel_rfl), run_maps_clone_sl w 49 hb]
  simp only [Result.andThen]
  rw [Oper.upon_value]
  go_wp2
  rw [run_typeAssert_map_sl _ 49 20 _ _ _ Try.underlying49]
  simp only [Result.andThen]
  rw [Oper.upon_value]
  go_wp2
  go_ret
  exact ⟨rfl, rfl⟩
set_option maxHeartbeats 800000 in
theorem copyReg (rb mb hi n : Nat) (ts : List LTab) (w : World) (h : Reg w rb mb hi n ts) :
    Calls Try.prog 11 #[.pointer (some ⟨rb, 0, none⟩)] w fun e w' => e = .returned (.pointer (some ⟨w.heap.size + 1, 0, none⟩)) ∧ Reg w' (w.heap.size + 1) w.heap.size w'.heap.size n ts ∧ Below w.heap.size w w' := by
  have HT := Lib.hid (there_yes rb mb w h.row)
  have c0 : w.cell? ⟨rb, 0, none⟩ = some (.map (some mb)) := h.row.cell 0
  obtain ⟨blk, ⟨D, ⟨es, clock, hb, hf⟩, hd⟩, h2⟩ := h.map
  have HC := Lib.hid (cloneMap mb es clock w hb)
  have b0 : Below w.heap.size w (w.alloc (.map es clock)) := (Below.refl w.heap.size w).alloc (Nat.le_refl _) _
  have b1 := b0.alloc (o := .cells #[.map (some w.heap.size)] 51) (by simp)
  have HB := Lib.hid b1
  have hlt := h.lt
  have HR : Hid (Reg ((w.alloc (.map es clock)).alloc (.cells #[.map (some w.heap.size)] 51)) (w.heap.size + 1) w.heap.size ((w.alloc (.map es clock)).alloc (.cells #[.map (some w.heap.size)] 51)).heap.size n ts) := Lib.hid (by
    refine ⟨Row.new' _ 51 [.map (some w.heap.size)] (by simp), ⟨blk, ?_, fun x l hx => ?_⟩, ⟨by simp, by simp; omega, Nat.le_refl _⟩, h.good⟩
    · have : MapIs (w.alloc (.map es clock)) w.heap.size n (FT ts blk) := ⟨D, ⟨es, clock, (MapKept.heap_alloc w _).1, hf⟩, hd⟩
      exact this.kept (World.grownBy_alloc _ _ none) (by simp)
    · obtain ⟨a, b⟩ := h2 x l hx
      exact ⟨a.below b1 a.lt, by simp; omega⟩)
  clear h hb hf hd h2 b0 b1
  go_enter Try.func11, Try.ntmps11
  go_wp2_with (first
    | (go_at_call 25; refine HT.out.mono ?_; rintro e w' ⟨rfl, rfl⟩)
    | (go_at_call 26; refine HC.out.mono ?_; rintro e w' ⟨rfl, rfl⟩))
  go_ret
  refine ⟨?_, HR.out, HB.out⟩
  simp
end Go.Proofs.Ytdbcbjjomhbhpaa

/-
  Of part PutFind: what is needed here.
-/
namespace Go.Proofs.Ytdbcbjjomhbhpaa
open Go.RowKit Go.Maps
set_option linter.unusedVariables false
def PutTDone (w : World) (rb mb n : Nat) (ts : List LTab) (x : List Int) (l : List (List Int)) (e : Ending) (w' : World) : Prop :=
  e = .returned (.int .i64 (mayPut ts x l)) ∧ Reg w' rb mb w'.heap.size (n + 1) (putT ts x l) ∧ w.grownBy w' (some mb)
theorem grown_below {w w' : World} {r : Option Nat} (hb : Below w.heap.size w w') : w.grownBy w' r := ⟨hb.os, hb.tape, hb.output, hb.size, fun k hk _ => hb.block k hk⟩
/-- nothing is put -/
theorem PutTDone.not {w w' : World} {rb mb hi n : Nat} {ts : List LTab} {x : List Int} {l : List (List Int)} (h : Reg w rb mb hi n ts) (hb : Below w.heap.size w w') {c : Int} (hm : mayPut ts x l = c) (hc : c ≠ 0) : PutTDone w rb mb n ts x l (.returned (.int .i64 c)) w' := by
  have e : putT ts x l = ts := by unfold putT; rw [if_neg (by rw [hm]; exact hc)]
  refine ⟨by rw [hm], ?_, grown_below hb⟩
  rw [e]
  exact ((h.below (hb.mono h.lt.2.2)).more (Nat.le_trans h.lt.2.2 hb.size) (Nat.le_refl _)).grow (Nat.le_succ _)
/-- likewise; and what lies in a block that none of its lists lies in may be written -/
def PutTDone2 (w : World) (rb mb hi n : Nat) (ts : List LTab) (x : List Int) (l : List (List Int)) (e : Ending) (w' : World) : Prop :=
  PutTDone w rb mb n ts x l e w' ∧ ∀ tb, hi ≤ tb → tb < w.heap.size → ∀ w'', KeepReg w' w'' tb → Reg w'' rb mb w''.heap.size (n + 1) (putT ts x l)
theorem PutTDone2.not {w w' : World} {rb mb hi n : Nat} {ts : List LTab} {x : List Int} {l : List (List Int)} (h : Reg w rb mb hi n ts) (hb : Below w.heap.size w w') {c : Int} (hm : mayPut ts x l = c) (hc : c ≠ 0) : PutTDone2 w rb mb hi n ts x l (.returned (.int .i64 c)) w' := by
  refine ⟨PutTDone.not h hb hm hc, fun tb h1 h2 w'' hg => ?_⟩
  have e : putT ts x l = ts := by unfold putT; rw [if_neg (by rw [hm]; exact hc)]
  rw [e]
  have h3 := h.below (hb.mono h.lt.2.2)
  exact (h3.keepReg hg h1).grow (Nat.le_succ _)
set_option maxRecDepth 100000 in
set_option maxHeartbeats 2000000 in
theorem putReg2 (rb mb hi n : Nat) (ts : List LTab) (x : List Int) (A : Option Addr) (m c B : Nat) (l : List (List Int)) (w : World) (h : Reg w rb mb hi n ts) (hx : KeyOk x) (hl : KeysIn w B A m l) (hB : B ≤ w.heap.size) (hn : n ≤ 1000000) (hm : m ≤ maxLen) :
    Calls Try.prog 13 #[.pointer (some ⟨rb, 0, none⟩), .agg (bv x).toArray, .slice A m c] w (PutTDone2 w rb mb hi n ts x l) := by
  have hlen := hl.len
  have hb0 : Below w.heap.size w (w.alloc (.cells (bv x).toArray 32)) := (Below.refl _ _).alloc (Nat.le_refl _) _
  have RX := Lib.hid (Row.new w 32 (bv x))
  have HREG := Lib.hid h
  have hW := h.below (hb0.mono h.lt.2.2)
  have HW := Lib.hid hW
  have HT := Lib.hid (there_yes rb mb _ hW.row)
  have HKX := Lib.hid (hl.below (hb0.mono hB))
  have HB0 := Lib.hid hb0
  have HSZ := Lib.hid (show (Try.prog.info? 32).map (·.size) = some (bv x).length by rw [bv_length, hx.1]; exact size_key)
  have c0 : (w.alloc (.cells (bv x).toArray 32)).cell? ⟨rb, 0, none⟩ = some (.map (some mb)) := hW.row.cell 0
  have hz : (w.alloc (.cells (bv x).toArray 32)).heap.size = w.heap.size + 1 := by simp
  have HZ := Lib.hid hz
  have HL := Lib.hid hlen
  unfold maxLen at hm
  obtain ⟨g, hlk, hg⟩ := hW.look hx
  have HG := Lib.hid hg
  have HX := Lib.hid hx
  have HRL : Hid (rb < w.heap.size) := Lib.hid h.row.lt
  have HRM : Hid (rb ≠ mb) := Lib.hid (h.map_ne h.row)
  have HBM : Hid (w.heap.size ≠ mb) := Lib.hid (hW.map_ne RX.out)
  have HPUT : Hid (∀ (V : World) (g' : Nat), Reg V rb mb hi n ts → mayPut ts x l = 0 → Row V g' 32 (bv l.flatten) → ∃ V', (Instr.mapUpdate 49 (.map (some mb)) (.agg (bv x).toArray) (.slice (some ⟨g', 0, none⟩) l.length l.length)).run Try.prog V = .ok () V' ∧ Reg V' rb mb V.heap.size (n + 1) (putT ts x l) ∧ V.grownBy V' (some mb) ∧ ∀ tb, hi ≤ tb → tb ≠ g' → ∀ V'', KeepReg V' V'' tb → Reg V'' rb mb V''.heap.size (n + 1) (putT ts x l)) :=
    Lib.hid fun V g' h1 h2 h3 => h1.put2 hx hl.each (by unfold maxLen; omega) h2 h3
  have hlx : ∀ y ∈ l, y.length = 32 := hl.each
  clear hb0 hW hg h hx hl hz hlen
  generalize hX : bv x = X at *
  clear hX
  generalize hWW : w.alloc (.cells X.toArray 32) = W at *
  have HWW := Lib.hid hWW
  rcases mayPut_cases ts x l with ⟨hm1, hc1⟩ | ⟨hm1, hc1, hs1⟩ | ⟨hm1, hc1, hs1⟩
  · have hE : Hid (PutTDone2 w rb mb hi n ts x l (.returned (.int .i64 1)) W) := Lib.hid (PutTDone2.not HREG.out HB0.out hm1 (by omega))
    rw [HL.out] at hc1
    clear hm1 hWW hlk hlx
    by_cases h0 : m = 0
    · subst h0
      go_enter Try.func13, Try.ntmps13
      go_upto_region 1 with fail
      rw [HWW.out]
      go_wp2_with (go_at_call 25; refine HT.out.mono ?_; rintro e w' ⟨rfl, rfl⟩)
      go_ret
      exact hE.out
    · have h2 : 256 < m := by omega
      clear hc1
      go_enter Try.func13, Try.ntmps13
      go_upto_region 1 with fail
      rw [HWW.out]
      go_wp2_with (go_at_call 25; refine HT.out.mono ?_; rintro e w' ⟨rfl, rfl⟩)
      go_ret
      exact hE.out
  · have hE : Hid (∀ k, PutTDone2 w rb mb hi n ts x l (.returned (.int .i64 12)) (W.drewN k)) := Lib.hid fun k => PutTDone2.not (w' := W.drewN k) HREG.out ⟨HB0.out.os, HB0.out.tape, HB0.out.output, HB0.out.size, HB0.out.block⟩ hm1 (by omega)
    rw [HL.out] at hc1
    rw [hs1] at hlk
    generalize seen ts x g = V at *
    have h0 : ((m : Int) == 0) = false := by simp; omega
    have h2 : ¬ ((256 : Int) < (m : Int)) := by omega
    clear hm1 hWW hs1 hlx hc1
    go_enter Try.func13, Try.ntmps13
    go_upto_region 1 with fail
    rw [HWW.out]
    go_wp2_with (go_at_call 25; refine HT.out.mono ?_; rintro e w' ⟨rfl, rfl⟩)
    refine wp_region_quiet_lit (by kernel_rfl) (by kernel_rfl) ?_
    repeat (first
      | ((with_reducible show wpQuiet _ _ _ _ ({ dst := some 25, op := Op.load _ _, type := _, pos := _, after := _, guard := _ } :: _) _); go_must (refine quiet_load_at (by kernel_rfl) 32 (.tmp 4) rfl ⟨w.heap.size, 0, none⟩ X _ Try.underlying32 rfl HSZ.out (by rintro _ ⟨nq, rfl⟩ j v hv; exact (by rw [addr_row, Nat.zero_add]; exact (RX.out.cell j).trans hv)) ?_ ?_; go_simp; go_simp))
      | go_big_quiet_step (fail))
    refine wpQuiet_nil ?_
    intro nq
    go_wp2_with fail
    go_ret
    exact hE.out _
  · rw [HL.out] at hc1
    rw [hs1] at hlk
    generalize seen ts x g = V at *
    have h0 : ((m : Int) == 0) = false := by simp; omega
    have h1 : 1 ≤ m := by omega
    have h2 : ¬ ((256 : Int) < (m : Int)) := by omega
    have h3 : m ≤ 256 := by omega
    have HM := Lib.hid hm1
    clear hm1 hWW hs1 hlx hc1
    go_enter Try.func13, Try.ntmps13
    go_upto_region 1 with fail
    rw [HWW.out]
    go_wp2_with (go_at_call 25; refine HT.out.mono ?_; rintro e w' ⟨rfl, rfl⟩)
    refine wp_region_quiet_lit (by kernel_rfl) (by kernel_rfl) ?_
    repeat (first
      | ((with_reducible show wpQuiet _ _ _ _ ({ dst := some 25, op := Op.load _ _, type := _, pos := _, after := _, guard := _ } :: _) _); go_must (refine quiet_load_at (by kernel_rfl) 32 (.tmp 4) rfl ⟨w.heap.size, 0, none⟩ X _ Try.underlying32 rfl HSZ.out (by rintro _ ⟨nq, rfl⟩ j v hv; exact (by rw [addr_row, Nat.zero_add]; exact (RX.out.cell j).trans hv)) ?_ ?_; go_simp; go_simp))
      | go_big_quiet_step (fail))
    refine wpQuiet_nil ?_
    intro nq
    go_wp2_with fail
    have HS0 : Hid ((W.drewN nq).drew.cell? ⟨rb, 0, none⟩ = some (.map (some mb)) ∧ (∀ j u, X[j]? = some u → (W.drewN nq).drew.cell? ((⟨w.heap.size, 0, none⟩ : Addr).add j) = some u)) := Lib.hid ⟨c0, fun j u hu => by rw [addr_row, Nat.zero_add]; exact (RX.out.cell j).trans hu⟩
    have HB1 : Hid (Below w.heap.size w (W.drewN nq).drew) := Lib.hid ⟨HB0.out.os, HB0.out.tape, HB0.out.output, HB0.out.size, HB0.out.block⟩
    have HR1 : Hid (Reg (W.drewN nq).drew rb mb hi n ts) := Lib.hid (HREG.out.below (HB1.out.mono HREG.out.lt.2.2))
    have HX1 : Hid (Row (W.drewN nq).drew w.heap.size 32 X) := Lib.hid ⟨RX.out.is⟩
    have HC := Lib.hid (copied_ A m c B l (W.drewN nq).drew (HKX.out.below ⟨rfl, rfl, rfl, Nat.le_refl _, fun _ _ => rfl⟩) (Nat.le_trans hB HB1.out.size) h1 h3)
    refine wp_region_held_drew (S := (fun V => V.cell? ⟨rb, 0, none⟩ = some (.map (some mb)) ∧ (∀ j u, X[j]? = some u → V.cell? ((⟨w.heap.size, 0, none⟩ : Addr).add j) = some u))) (by kernel_rfl) HS0.out (fun _ => ?_)
    clear HW HKX HT HB0 RX HZ hlk
    generalize (W.drewN nq).drew = W1 at *
    refine takeL (i := 0) (v := ?_) rfl (by kernel_rfl) (by kernel_rfl) (by kernel_rfl) (fun _ _ _ h => h) (Or.inl ⟨by rfl, ?_⟩) HS0.out ?_
    rotate_left
    · intro w hw
      try dsimp only at hw
      go_simp
      try with_reducible rfl
    try simp only [Act.put, List.setIfInBounds_toArray, List.set_cons_zero, List.set_cons_succ]
    refine takeL (i := 1) (v := ?_) rfl (by kernel_rfl) (by kernel_rfl) (by kernel_rfl) (fun _ _ _ h => h) (Or.inl ⟨by rfl, ?_⟩) HS0.out ?_
    rotate_left
    · intro w hw
      try dsimp only at hw
      go_simp
      try with_reducible rfl
    try simp only [Act.put, List.setIfInBounds_toArray, List.set_cons_zero, List.set_cons_succ]
    refine takeL (i := 2) (v := ?_) rfl (by kernel_rfl) (by kernel_rfl) (by kernel_rfl) (fun _ _ _ h => h) (Or.inl ⟨by rfl, ?_⟩) HS0.out ?_
    rotate_left
    · intro w hw
      try dsimp only at hw
      go_simp
      try with_reducible rfl
    try simp only [Act.put, List.setIfInBounds_toArray, List.set_cons_zero, List.set_cons_succ]
    refine takeL (i := 3) (v := ?_) rfl (by kernel_rfl) (by kernel_rfl) (by kernel_rfl) (fun _ _ _ h => h) (Or.inl ⟨by rfl, ?_⟩) HS0.out ?_
    rotate_left
    · intro w hw
      try dsimp only at hw
      obtain ⟨q0, q1⟩ := hw
      go_simp
      try with_reducible rfl
    try simp only [Act.put, List.setIfInBounds_toArray, List.set_cons_zero, List.set_cons_succ]
    refine takeL (i := 4) (v := .agg X.toArray) rfl (by kernel_rfl) (by kernel_rfl) (by kernel_rfl) (fun _ _ _ h => h) (Or.inl ⟨by rfl, fun wz hwz => exec_load_at wz 32 (.tmp 4) rfl ⟨w.heap.size, 0, none⟩ X _ Try.underlying32 rfl HSZ.out hwz.2 (by go_simp)⟩) HS0.out ?_
    try simp only [Act.put, List.setIfInBounds_toArray, List.set_cons_zero, List.set_cons_succ]
    refine takeL (i := 5) (v := ?_) rfl (by kernel_rfl) (by kernel_rfl) (by kernel_rfl) (fun _ _ _ h => h) (Or.inl ⟨by rfl, ?_⟩) HS0.out ?_
    rotate_left
    · intro w hw
      try dsimp only at hw
      go_simp
      try with_reducible rfl
    try simp only [Act.put, List.setIfInBounds_toArray, List.set_cons_zero, List.set_cons_succ]
    refine readyL (i := 6) rfl (by kernel_rfl) (by kernel_rfl) fun K hK => ?_
    go_simp
    refine HC.out.mono ?_
    rintro e w2 ⟨g2, rfl, hg2, hr2, hb2⟩
    have HX2 : Hid (Row w2 w.heap.size 32 X) := Lib.hid (HX1.out.below hb2 HX1.out.lt)
    have HR2 : Hid (Reg w2 rb mb hi n ts) := Lib.hid (HR1.out.below (hb2.mono HR1.out.lt.2.2))
    have HS2 : Hid (w2.cell? ⟨rb, 0, none⟩ = some (.map (some mb)) ∧ (∀ j u, X[j]? = some u → w2.cell? ((⟨w.heap.size, 0, none⟩ : Addr).add j) = some u)) := Lib.hid ⟨HR2.out.row.cell 0, fun j u hu => by rw [addr_row, Nat.zero_add]; exact (HX2.out.cell j).trans hu⟩
    have HB2 : Hid (Below w.heap.size w w2) := Lib.hid (HB1.out.trans (hb2.mono HB1.out.size))
    obtain ⟨w3, hrun, hreg3, hgr3, htb3⟩ := HPUT.out w2 g2 HR2.out HM.out hr2
    have HTB3 := Lib.hid htb3
    have HGG := Lib.hid (Nat.le_trans HB1.out.size hg2)
    rw [HL.out] at hrun
    have HREG3 := Lib.hid hreg3
    have HGR3 := Lib.hid hgr3
    have HS3 : Hid (w3.cell? ⟨rb, 0, none⟩ = some (.map (some mb)) ∧ (∀ j u, X[j]? = some u → w3.cell? ((⟨w.heap.size, 0, none⟩ : Addr).add j) = some u)) := Lib.hid ⟨hreg3.row.cell 0, fun j u hu => by rw [addr_row, Nat.zero_add]; exact ((HX2.out.grown hgr3 (fun e => HBM.out (Option.some.inj e))).cell j).trans hu⟩
    clear hreg3 hgr3 hb2 hr2 htb3
    refine hK.out _ _ HS2.out ?_
    clear hK K
    try simp only [Act.put, List.setIfInBounds_toArray, List.set_cons_zero, List.set_cons_succ]
    refine readyL (i := 7) rfl (by kernel_rfl) (by kernel_rfl) fun K hK => ?_
    go_simp
    refine hK.out _ _ HS3.out ?_
    clear hK K
    try simp only [Act.put, List.setIfInBounds_toArray, List.set_cons_zero, List.set_cons_succ]
    refine wpAnyH_done (by kernel_rfl) ?_ _
    go_wp2_with fail
    go_ret
    exact ⟨⟨by rw [HM.out]; rfl, HREG3.out.more (HGR3.out.size) (Nat.le_refl _), grown_trans (grown_below HB2.out) HGR3.out⟩, fun tb h1 h2 w'' hg => HTB3.out tb h1 (fun e => by have := HGG.out; omega) w'' hg⟩
theorem putReg (rb mb hi n : Nat) (ts : List LTab) (x : List Int) (A : Option Addr) (m c B : Nat) (l : List (List Int)) (w : World) (h : Reg w rb mb hi n ts) (hx : KeyOk x) (hl : KeysIn w B A m l) (hB : B ≤ w.heap.size) (hn : n ≤ 1000000) (hm : m ≤ maxLen) :
    Calls Try.prog 13 #[.pointer (some ⟨rb, 0, none⟩), .agg (bv x).toArray, .slice A m c] w (PutTDone w rb mb n ts x l) :=
  (putReg2 rb mb hi n ts x A m c B l w h hx hl hB hn hm).mono fun _ _ h => h.1
/-- a list of keys that lies between two marks: its pages, what it shows -/
structure KOut (w : World) (lo hi : Nat) (S : Sl) (l : List (List Int)) : Prop where
  fit : SlFit w (S, Kd.k)
  keys : KeysIn w hi (S.A.map fun g => ⟨g, 0, none⟩) S.n l
  cap : S.n ≤ S.c ∧ S.c ≤ maxLen
  low : ∀ g, S.A = some g → lo ≤ g ∧ g < hi
theorem KOut.nil (w : World) (lo hi : Nat) : KOut w lo hi ⟨none, 0, 0⟩ [] := ⟨⟨rfl, rfl⟩, ⟨rfl, by simp, Sees.nil _ _ _⟩, ⟨Nat.le_refl _, Nat.zero_le _⟩, fun g e => by cases e⟩
theorem KOut.row {w : World} {g lo hi : Nat} {l : List (List Int)} (h : Row w g 32 (bv l.flatten)) (hl : ∀ y ∈ l, y.length = 32) (hn : l.length ≤ 256) (h1 : lo ≤ g) (h2 : g < hi) : KOut w lo hi ⟨some g, l.length, l.length⟩ l :=
  ⟨⟨Nat.le_refl _, by show l.length ≤ _; omega, bv l.flatten, h, by show l.length * 32 ≤ _; rw [bv_length, flatten_len l hl]; exact Nat.le_refl _, fun _ => by show _ = l.length * 32; rw [bv_length, flatten_len l hl]⟩,
    keys_row (ys := []) (by rwa [List.append_nil]) rfl hl h2, ⟨Nat.le_refl _, by show l.length ≤ _; unfold maxLen; omega⟩, fun g' e => by cases e; exact ⟨h1, h2⟩⟩
theorem KOut.below {w w' : World} {lo hi : Nat} {S : Sl} {l : List (List Int)} (h : KOut w lo hi S l) (hb : Below hi w w') : KOut w' lo hi S l :=
  ⟨h.fit.keep fun g hg => hb.block g (h.low g hg).2, h.keys.below hb, h.cap, h.low⟩
theorem KOut.more {w : World} {lo lo' hi hi' : Nat} {S : Sl} {l : List (List Int)} (h : KOut w lo hi S l) (h1 : lo' ≤ lo) (h2 : hi ≤ hi') : KOut w lo' hi' S l :=
  ⟨h.fit, h.keys.more h2, h.cap, fun g hg => ⟨Nat.le_trans h1 (h.low g hg).1, Nat.lt_of_lt_of_le (h.low g hg).2 h2⟩⟩
/-- what Find answers -/
def fErr (ts : List LTab) (x : List Int) : Int := if (findT ts x).isSome then 0 else 11
def fKeys (ts : List LTab) (x : List Int) : List (List Int) := (findT ts x).getD []
def FindDone (w : World) (ts : List LTab) (x : List Int) (e : Ending) (w' : World) : Prop :=
  ∃ S : Sl, e = .returned (.tuple #[S.val, .int .i64 (fErr ts x)]) ∧ KOut w' w.heap.size w'.heap.size S (fKeys ts x) ∧ Below w.heap.size w w'
set_option maxRecDepth 100000 in
set_option maxHeartbeats 2000000 in
theorem findReg (rb mb hi n : Nat) (ts : List LTab) (x : List Int) (w : World) (h : Reg w rb mb hi n ts) (hx : KeyOk x) :
    Calls Try.prog 18 #[.pointer (some ⟨rb, 0, none⟩), .agg (bv x).toArray] w (FindDone w ts x) := by
  have hb0 : Below w.heap.size w (w.alloc (.cells (bv x).toArray 32)) := (Below.refl _ _).alloc (Nat.le_refl _) _
  have RX := Lib.hid (Row.new w 32 (bv x))
  have hW := h.below (hb0.mono h.lt.2.2)
  have HT := Lib.hid (there_yes rb mb _ hW.row)
  have HB0 := Lib.hid hb0
  have HSZ := Lib.hid (show (Try.prog.info? 32).map (·.size) = some (bv x).length by rw [bv_length, hx.1]; exact size_key)
  have c0 : (w.alloc (.cells (bv x).toArray 32)).cell? ⟨rb, 0, none⟩ = some (.map (some mb)) := hW.row.cell 0
  obtain ⟨g, hlk, hg⟩ := hW.look hx
  have HG := Lib.hid hg
  have HGOOD := Lib.hid h.good
  have HHI := Lib.hid h.lt.2.2
  clear hb0 hW hg h hx
  generalize hX : bv x = X at *
  clear hX
  generalize hWW : w.alloc (.cells X.toArray 32) = W at *
  have HWW := Lib.hid hWW
  clear hWW
  have HE := Lib.hid (show fErr ts x = if (findT ts x).isSome then 0 else 11 from rfl)
  have HK := Lib.hid (show fKeys ts x = (findT ts x).getD [] from rfl)
  cases hf : findT ts x with
  | none =>
    have hs : seen ts x g = nilK := by unfold seen; rw [hf]
    rw [hs, hf] at hlk
    rw [hf] at HE HK
    have HF : Hid (∀ k, FindDone w ts x (.returned (.tuple #[nilK, .int .i64 11])) (W.drewN k)) := Lib.hid fun k => ⟨⟨none, 0, 0⟩, by rw [HE.out]; rfl, by rw [HK.out]; exact KOut.nil _ _ _, ⟨HB0.out.os, HB0.out.tape, HB0.out.output, HB0.out.size, HB0.out.block⟩⟩
    unfold nilK at hlk HF
    clear hs hf HG
    go_enter Try.func18, Try.ntmps18
    go_upto_region 1 with fail
    rw [HWW.out]
    go_wp2_with (go_at_call 25; refine HT.out.mono ?_; rintro e w' ⟨rfl, rfl⟩)
    refine wp_region_quiet_lit (by kernel_rfl) (by kernel_rfl) ?_
    repeat (first
      | ((with_reducible show wpQuiet _ _ _ _ ({ dst := some 16, op := Op.load _ _, type := _, pos := _, after := _, guard := _ } :: _) _); go_must (refine quiet_load_at (by kernel_rfl) 32 (.tmp 3) rfl ⟨w.heap.size, 0, none⟩ X _ Try.underlying32 rfl HSZ.out (by rintro _ ⟨nq, rfl⟩ j v hv; exact (by rw [addr_row, Nat.zero_add]; exact (RX.out.cell j).trans hv)) ?_ ?_; go_simp; go_simp))
      | go_big_quiet_step (fail))
    refine wpQuiet_nil ?_
    intro nq
    go_wp2_with fail
    go_ret2
    exact HF.out _
  | some l =>
    have hs : seen ts x g = .slice (some ⟨g, 0, none⟩) l.length l.length := by unfold seen; rw [hf]
    rw [hs, hf] at hlk
    rw [hf] at HE HK
    obtain ⟨hr, hgi⟩ := HG.out l hf
    obtain ⟨h32, h1, h256⟩ := HGOOD.out.find hf
    have HC := Lib.hid (fun k => copied_ (some ⟨g, 0, none⟩) l.length l.length W.heap.size l (W.drewN k) (keys_row (w := W.drewN k) (ys := []) (by rw [List.append_nil]; exact ⟨hr.is⟩) rfl h32 hr.lt) (Nat.le_refl _) h1 h256)
    have H3 := Lib.hid (And.intro h32 h256)
    clear hs hf HG hr hgi h32 h1 h256
    generalize hn : l.length = m at *
    go_enter Try.func18, Try.ntmps18
    go_upto_region 1 with fail
    rw [HWW.out]
    go_wp2_with (go_at_call 25; refine HT.out.mono ?_; rintro e w' ⟨rfl, rfl⟩)
    refine wp_region_quiet_lit (by kernel_rfl) (by kernel_rfl) ?_
    repeat (first
      | ((with_reducible show wpQuiet _ _ _ _ ({ dst := some 16, op := Op.load _ _, type := _, pos := _, after := _, guard := _ } :: _) _); go_must (refine quiet_load_at (by kernel_rfl) 32 (.tmp 3) rfl ⟨w.heap.size, 0, none⟩ X _ Try.underlying32 rfl HSZ.out (by rintro _ ⟨nq, rfl⟩ j v hv; exact (by rw [addr_row, Nat.zero_add]; exact (RX.out.cell j).trans hv)) ?_ ?_; go_simp; go_simp))
      | go_big_quiet_step (fail))
    refine wpQuiet_nil ?_
    intro nq
    go_wp2_with fail
    refine (HC.out nq).mono ?_
    rintro e w2 ⟨g2, rfl, hg2, hr2, hb2⟩
    have R2 := Lib.hid hr2
    have B2 := Lib.hid hb2
    clear hr2 hb2
    go_wp2_with fail
    go_ret2
    have hb3 : Below w.heap.size w w2 := (show Below w.heap.size w (W.drewN nq) from ⟨HB0.out.os, HB0.out.tape, HB0.out.output, HB0.out.size, HB0.out.block⟩).trans (B2.out.mono HB0.out.size)
    subst hn
    refine ⟨⟨some g2, l.length, l.length⟩, by rw [HE.out]; rfl, ?_, hb3⟩
    rw [HK.out]
    exact KOut.row R2.out H3.out.1 H3.out.2 (Nat.le_trans HB0.out.size hg2) R2.out.lt
end Go.Proofs.Ytdbcbjjomhbhpaa

/-
  Of part Pick: what is needed here.
-/
namespace Go.Proofs.Ytdbcbjjomhbhpaa
open Go.RowKit Go.Maps
set_option linter.unusedVariables false
theorem zsz6 : (Value.agg (zeros 32).toArray).cells.size = 32 := by kernel_rfl
/-- an index that is none of n keys -/
def out6 (n : Nat) (a : Int) : Bool := decide ((n : Int) ≤ a)
set_option maxHeartbeats 400000 in
theorem strays6a (z : Int) (tt tc g : Nat) (TA : Option Addr) (w : World) (h0 : 0 ≤ z) (h1 : z < 256) (ct : w.cell? ⟨g, 0, none⟩ = some (.slice TA tt tc)) :
    Calls Try.prog 39 #[.int .u8 z, .pointer (some ⟨g, 0, none⟩)] w fun e w' => e = .returned (.bool (out6 tt z)) ∧ w = w' := by
  by_cases h : (tt : Int) ≤ z
  · have hp : Hid (out6 tt z = true) := Lib.hid (by simp [out6, h])
    go_enter Try.func39, Try.ntmps39
    go_wp2
    go_ret
    exact ⟨told_bool hp.out.symm, rfl⟩
  · have hp : Hid (out6 tt z = false) := Lib.hid (by simp [out6]; omega)
    go_enter Try.func39, Try.ntmps39
    go_wp2
    go_ret
    exact ⟨told_bool hp.out.symm, rfl⟩
set_option maxHeartbeats 800000 in
theorem index_byte6 (A : Option Addr) (n c B g tt tc : Nat) (TA : Option Addr) (l : List Int) (w : World) (hs : Sees w B A n (bv l)) (hb : AllBytes l) (hn : n ≤ 4000) (ct : w.cell? ⟨g, 0, none⟩ = some (.slice TA tt tc)) :
    Calls Try.prog 40 #[.slice A n c, .func (.func 39) #[] #[.pointer (some ⟨g, 0, none⟩)]] w fun e w' => IdxDone (l.any (out6 tt)) e ∧ w = w' := by
  have hl : l.length = n := by have := hs.len; rwa [bv_length] at this
  have HL := Lib.hid hl
  have HB := Lib.hid hb
  clear hl hb
  go_enter Try.func40, Try.ntmps40
  go_wp2
  go_loop [8] (fun i => ∃ k : Nat, k ≤ n ∧ i = .int .i64 k ∧ (l.take k).any (out6 tt) = false) (fun i => n - (intOf i).toNat)
  case atStart => exact ⟨0, Nat.zero_le _, rfl, by simp⟩
  case round =>
    obtain ⟨k, hk, rfl, hany⟩ := hrel
    have HA := Lib.hid hany
    clear hany
    by_cases hlt : k < n
    · obtain ⟨a, rfl, hab, hc⟩ := hs.byte hlt
      have hx := getD_at (l := l) (k := k) (by have := HL.out; omega)
      have hz := HB.out _ (List.mem_of_getElem? hx)
      have h0 := hz.1
      have h1 := hz.2
      have HX := Lib.hid hx
      generalize l.getD k 0 = z at *
      have HC := Lib.hid (strays6a z tt tc g TA w h0 h1 ct)
      clear hx hz
      by_cases hp : out6 tt z = true
      · have HP := Lib.hid hp
        go_wp2_with (go_at_call 39; refine HC.out.mono ?_; rintro e w' ⟨rfl, rfl⟩)
        go_ret
        exact ⟨⟨_, rfl, by constructor; (intro _; exact any_hit HX.out HP.out); (intro _; omega)⟩, rfl⟩
      · have hp : out6 tt z = false := by simpa using hp
        have HP : Hid ((l.take (k + 1)).any (out6 tt) = false) := Lib.hid (by rw [any_take_succ HX.out, HA.out, hp]; rfl)
        go_wp2_with (go_at_call 39; refine HC.out.mono ?_; rintro e w' ⟨rfl, rfl⟩)
        go_round
        case rel => exact ⟨k + 1, by omega, by go_num, HP.out⟩
        case measure => simp [intOf]; omega
    · have hkn : k = n := by omega
      have HE : Hid (l.any (out6 tt) = false) := Lib.hid (by
        have h1 := HA.out
        rwa [hkn, List.take_of_length_le (by rw [HL.out]; exact Nat.le_refl _)] at h1)
      clear hkn
      go_wp2
      go_ret
      exact ⟨⟨_, rfl, by rw [HE.out]; simp⟩, rfl⟩
set_option maxHeartbeats 400000 in
theorem contains_byte6 (A : Option Addr) (n c B g tt tc : Nat) (TA : Option Addr) (l : List Int) (w : World) (hs : Sees w B A n (bv l)) (hb : AllBytes l) (hn : n ≤ 4000) (ct : w.cell? ⟨g, 0, none⟩ = some (.slice TA tt tc)) :
    Calls Try.prog 38 #[.slice A n c, .func (.func 39) #[] #[.pointer (some ⟨g, 0, none⟩)]] w fun e w' => e = .returned (.bool (l.any (out6 tt))) ∧ w = w' := by
  have HI := Lib.hid (index_byte6 A n c B g tt tc TA l w hs hb hn ct)
  clear hs hb
  go_enter Try.func38, Try.ntmps38
  go_wp2_with fail
  refine HI.out.mono ?_
  rintro e w' ⟨⟨r, rfl, hr⟩, rfl⟩
  have HR := Lib.hid hr
  clear hr
  go_wp2_with fail
  go_ret
  exact ⟨told_bool (idx_told HR.out), rfl⟩
set_option maxHeartbeats 800000 in
theorem strays6 (A T : Option Addr) (n c tt tc B : Nat) (l : List Int) (w : World) (hs : Sees w B A n (bv l)) (hB : B ≤ w.heap.size) (hb : AllBytes l) (hn : n ≤ 4000) (ht : tt ≤ 100000) :
    Calls Try.prog 34 #[.slice A n c, .slice T tt tc] w fun e w' => e = .returned (.bool (l.any (out6 tt))) ∧ Below w.heap.size w w' := by
  have hmf : ∀ (fn : Fn) (first cap : Array Value) (w : World), (Instr.makeFunc fn first cap).run Try.prog w = .ok (.func fn first cap) w := fun _ _ _ _ => rfl
  have hb0 : Below w.heap.size w (w.alloc (.cells #[.slice T tt tc] 33)) := (Below.refl w.heap.size w).alloc (Nat.le_refl _) _
  have HB0 := Lib.hid hb0
  have hct : (w.alloc (.cells #[.slice T tt tc] 33)).cell? ⟨w.heap.size, 0, none⟩ = some (.slice T tt tc) := (Row.new w 33 [.slice T tt tc]).cell 0
  have HC := Lib.hid (contains_byte6 A n c B w.heap.size tt tc T l _ (hs.below (hb0.mono hB)) hb hn hct)
  clear hb0 hct hs hb
  go_enter Try.func34, Try.ntmps34
  go_wp2_with (go_at_call 38; refine HC.out.mono ?_; rintro e w' ⟨rfl, rfl⟩)
  go_ret
  exact ⟨rfl, HB0.out⟩
/-- the keys at these places -/
def pickK (l : List (List Int)) (ix : List Int) : List (List Int) := ix.map fun i => l.getD i.toNat []
theorem pickK_take {l : List (List Int)} {ix : List Int} {k : Nat} {z : Int} (h : ix[k]? = some z) : pickK l (ix.take (k + 1)) = pickK l (ix.take k) ++ [l.getD z.toNat []] := by
  unfold pickK
  rw [List.take_add_one, h, List.map_append]
  rfl
theorem pickK_len {l : List (List Int)} {ix : List Int} (h : ∀ y ∈ l, y.length = 32) (hi : ix.any (out6 l.length) = false) (hb : AllBytes ix) : ∀ y ∈ pickK l ix, y.length = 32 := by
  intro y hy
  obtain ⟨i, hi', rfl⟩ := List.mem_map.1 hy
  have h1 : out6 l.length i = false := by
    cases e : out6 l.length i with
    | false => rfl
    | true => rw [List.any_eq_true.2 ⟨i, hi', e⟩] at hi; cases hi
  have h2 : ¬ ((l.length : Int) ≤ i) := by simpa [out6] using h1
  have h3 := (hb i hi').1
  have h4 : i.toNat < l.length := by omega
  rw [List.getD_eq_getElem?_getD, List.getElem?_eq_getElem h4]
  exact h _ (List.getElem_mem h4)
/-- keys are put behind a list of the call's own -/
def PickDone (w : World) (base : Nat) (v : Value) (n m : Nat) (xs : List Value) (ks : List (List Int)) (e : Ending) (w' : World) : Prop :=
  ∃ v', e = .returned v' ∧ w'.ownsRow base 32 32 v' (n + m) (xs ++ bv ks.flatten) ∧ Grew w w' v v'
set_option maxRecDepth 100000 in
set_option maxHeartbeats 2000000 in
theorem pick_ (base B : Nat) (v : Value) (n : Nat) (xs : List Value) (A C : Option Addr) (tt tc k c : Nat) (l : List (List Int)) (ix : List Int) (w : World)
    (hown : w.ownsRow base 32 32 v n xs) (hbase : base ≤ w.heap.size) (hl : KeysIn w B A tt l) (hx : Sees w B C k (bv ix)) (hB : B ≤ base) (hb : AllBytes ix) (hs : ix.any (out6 l.length) = false) (hn : n + k ≤ 1000000) (ht : tt ≤ 256) :
    Calls Try.prog 35 #[v, .slice A tt tc, .slice C k c] w (PickDone w base v n k xs (pickK l ix)) := by
  have hkl : ix.length = k := by have := hx.len; rwa [bv_length] at this
  have HKL := Lib.hid hkl
  have HL := Lib.hid hl
  have HLL := Lib.hid hl.len
  have HX := Lib.hid hx
  have HO := Lib.hid hown
  have HS := Lib.hid hs
  have HBY := Lib.hid hb
  clear hown hl hx hs hb hkl
  go_enter Try.func35, Try.ntmps35
  go_wp2_with fail
  go_loopw [0, 11] (fun u i wr => ∃ j : Nat, j ≤ k ∧ i = .int .i64 j ∧ wr.ownsRow base 32 32 u (n + j) (xs ++ bv (pickK l (ix.take j)).flatten) ∧ Grew w wr v u) (fun u i _ => k - (intOf i).toNat)
  case atStart => exact ⟨0, Nat.zero_le _, rfl, by simpa [pickK, bv, cv] using HO.out, Grew.refl _ _⟩
  case round =>
    obtain ⟨j, hj, rfl, hown, hgr⟩ := hrel
    have HOW := Lib.hid hown
    have HGR := Lib.hid hgr
    have HSZ := Lib.hid hgr.size
    by_cases hlt : j < k
    · have hbl := hgr.below HO.out hbase
      have hbB : Below B w wr := hbl.mono hB
      obtain ⟨a, rfl, hab, hca⟩ := (HX.out.below hbB).byte hlt
      have hxz := getD_at (l := ix) (k := j) (by rw [HKL.out]; exact hlt)
      have hz := HBY.out _ (List.mem_of_getElem? hxz)
      have HXZ := Lib.hid hxz
      generalize ix.getD j 0 = z at *
      obtain ⟨z0, z1⟩ := hz
      have hst : ¬ ((tt : Int) ≤ z) := by
        intro h
        have : ix.any (out6 l.length) = true := any_hit hxz (by rw [HLL.out]; simpa [out6] using h)
        rw [HS.out] at this
        cases this
      obtain ⟨q, rfl⟩ : ∃ q : Nat, z = q := ⟨z.toNat, by omega⟩
      obtain ⟨b, y, rfl, hbb, hy, hat⟩ := (HL.out.below hbB).get (k := q) (by omega)
      have HCS := Lib.hid (show (bv y).length = 32 by rw [bv_length, hat.len])
      have HSX := Lib.hid (show (Try.prog.info? 32).map (·.size) = some (bv y).length by rw [bv_length, hat.len]; exact size_key)
      have CA : Hid (∀ j u, (bv y)[j]? = some u → wr.cell? ((b.add (q * 32)).add j) = some u) := Lib.hid hat.cells
      have H1 := Lib.hid (bv_one y)
      have HNX : Hid (xs ++ bv (pickK l (ix.take (j + 1))).flatten = (xs ++ bv (pickK l (ix.take j)).flatten) ++ bv y) := Lib.hid (by
        rw [pickK_take HXZ.out, show l.getD ((q : Nat) : Int).toNat [] = y by rw [List.getD_eq_getElem?_getD, show ((q : Nat) : Int).toNat = q from rfl, hy]; rfl, List.flatten_append, bv_append]
        simp)
      clear hbl hbB hxz hy hat hown hgr
      generalize hY : bv y = Y at *
      generalize hZ : xs ++ bv (pickK l (ix.take j)).flatten = Z at *
      clear hY hZ
      go_wp2_with (first
        | ((with_reducible show wpList _ _ _ ({ dst := some 19, op := Op.load _ _, type := _, pos := _, after := _, guard := _ } :: _) _ _); go_must (refine wpList_load_at rfl 32 (.tmp 18) rfl (b.add (q * 32)) Y _ Try.underlying32 rfl HSX.out CA.out ?_ ?_; go_simp))
        | (with_reducible show wpList _ _ _ ({ dst := some 20, op := Op.buildSlice _ _ _, type := _, pos := _, after := _, guard := _ } :: _) _ _; go_must (refine wpList_buildOne rfl 33 32 (.tmp 19) rfl Y _ 32 32 Try.underlying33 info_key zsz6 (by omega) (by omega) HCS.out ?_ ?_; go_simp))
        | (at_builtin; go_must (refine wpList_addRow rfl (.tmp 15) (.tmp 20) 33 rfl base 32 _ 32 32 Try.underlying33 info_key zsz6 (by omega) _ (n + j) Z Y 1 HCS.out H1.out rfl ?_ HOW.out ?_ (by have := HSZ.out; omega) (by unfold maxLen; omega) (by omega) ?_; go_simp; go_simp; intro v4 w4 ho4 hg4; have HO4 := Lib.hid ho4; have HG4 := Lib.hid (HGR.out.trans hg4); clear ho4 hg4)))
      go_roundw
      case rel => exact ⟨j + 1, by omega, by go_num, by rw [HNX.out]; exact HO4.out, HG4.out⟩
      case measure => simp [intOf]; omega
    · have hjk : j = k := by omega
      have HD : Hid (PickDone w base v n k xs (pickK l ix) (.returned _) wr) := Lib.hid ⟨_, rfl, by
        have := HOW.out
        rw [hjk, List.take_of_length_le (by rw [HKL.out]; exact Nat.le_refl _)] at this
        exact this, HGR.out⟩
      clear hjk hown hgr
      go_wp2_with fail
      go_ret
      exact HD.out
end Go.Proofs.Ytdbcbjjomhbhpaa

/-
  Of part Resolve: what is needed here.
-/
namespace Go.Proofs.Ytdbcbjjomhbhpaa
open Go.RowKit Go.Maps
set_option linter.unusedVariables false
/-- lookups whose numbers are bytes -/
def LkOk (x : LLook) : Prop := KeyOk x.tab ∧ AllBytes x.wr ∧ AllBytes x.rd
/-- what is wrong with a lookup -/
def errL (ts : List LTab) (x : LLook) : Int := match findT ts x.tab with | none => 11 | some l => if x.wr.any (out6 l.length) || x.rd.any (out6 l.length) then 8 else 0
def wrL (ts : List LTab) (x : LLook) : List (List Int) := pickK (fKeys ts x.tab) x.wr
def rdL (ts : List LTab) (x : LLook) : List (List Int) := pickK (fKeys ts x.tab) x.rd
def resErr (ts : List LTab) : List LLook → Int
  | [] => 0
  | x :: r => if errL ts x = 0 then resErr ts r else errL ts x
def resW (ts : List LTab) (ls : List LLook) : List (List Int) := if resErr ts ls = 0 then ls.flatMap (wrL ts) else []
def resR (ts : List LTab) (ls : List LLook) : List (List Int) := if resErr ts ls = 0 then ls.flatMap (rdL ts) else []
theorem resErr_append (ts : List LTab) : ∀ (a b : List LLook), resErr ts (a ++ b) = if resErr ts a = 0 then resErr ts b else resErr ts a
  | [], b => by simp [resErr]
  | x :: r, b => by
    show (if errL ts x = 0 then resErr ts (r ++ b) else errL ts x) = if (if errL ts x = 0 then resErr ts r else errL ts x) = 0 then resErr ts b else if errL ts x = 0 then resErr ts r else errL ts x
    by_cases e : errL ts x = 0
    · simp only [if_pos e]; exact resErr_append ts r b
    · simp only [if_neg e]
theorem resErr_one (ts : List LTab) (x : LLook) : resErr ts [x] = errL ts x := by
  unfold resErr
  split
  · rename_i h; rw [h]; rfl
  · rfl
theorem resErr_succ {ts : List LTab} {ls : List LLook} {k : Nat} {x : LLook} (h : ls[k]? = some x) (h0 : resErr ts (ls.take k) = 0) : resErr ts (ls.take (k + 1)) = errL ts x := by
  rw [List.take_add_one, h, resErr_append, if_pos h0]
  exact resErr_one ts x
theorem resErr_hit {ts : List LTab} {ls : List LLook} {k : Nat} {x : LLook} (h : ls[k]? = some x) (h0 : resErr ts (ls.take k) = 0) {c : Int} (hc : errL ts x = c) (h1 : c ≠ 0) : resErr ts ls = c := by
  have := resErr_append ts (ls.take (k + 1)) (ls.drop (k + 1))
  rw [List.take_append_drop, resErr_succ h h0, hc, if_neg h1] at this
  exact this
theorem pickK_length (l : List (List Int)) (ix : List Int) : (pickK l ix).length = ix.length := by simp [pickK]
theorem wrs_le (ts : List LTab) : ∀ ls : List LLook, (ls.flatMap (wrL ts)).length ≤ lookSize ls ∧ (ls.flatMap (rdL ts)).length ≤ lookSize ls
  | [] => ⟨Nat.zero_le _, Nat.zero_le _⟩
  | x :: r => by
    obtain ⟨a, b⟩ := wrs_le ts r
    have e : lookSize (x :: r) = (x.wr.length + x.rd.length) + lookSize r := by simp [lookSize]
    rw [e, List.flatMap_cons, List.flatMap_cons, List.length_append, List.length_append, wrL, rdL, pickK_length, pickK_length]
    omega
theorem flatMap_succ {α : Type} (f : LLook → List α) {ls : List LLook} {k : Nat} {x : LLook} (h : ls[k]? = some x) : (ls.take (k + 1)).flatMap f = (ls.take k).flatMap f ++ f x := by
  rw [List.take_add_one, h, List.flatMap_append]
  simp
/-- two lists of keys of the call's own, apart -/
structure Two (w0 : World) (u v : Value) (a b : List (List Int)) (V : World) : Prop where
  ou : V.ownsRow w0.heap.size 32 32 u a.length (bv a.flatten)
  ov : V.ownsRow w0.heap.size 32 32 v b.length (bv b.flatten)
  d : ∀ g, u.ownBlock = some g → v.ownBlock ≠ some g
  b : Below w0.heap.size w0 V
section
variable {w0 V V' : World} {u v u' v' : Value} {a b a' : List (List Int)}
theorem own_row_neN {w : World} {base size n g t : Nat} {e : TypeId} {v : Value} {xs ys : List Value} (h : w.ownsRow base e size v n xs) (hr : Row w g t ys) (hne : e ≠ t) : some g ≠ v.ownBlock := by
  intro hg
  obtain ⟨cur, hc⟩ := own_is h hg.symm
  rw [hr.is] at hc
  injection hc with hc
  injection hc with _ hc
  exact hne hc.symm
theorem Two.below (h : Two w0 u v a b V) (hb : Below V.heap.size V V') : Two w0 u v a b V' := ⟨own_below h.ou hb, own_below h.ov hb, h.d, h.b.trans (hb.mono h.b.size)⟩
theorem Two.pickU (h : Two w0 u v a b V) (hg : Grew V V' u u') (ho : V'.ownsRow w0.heap.size 32 32 u' a'.length (bv a'.flatten)) : Two w0 u' v a' b V' := by
  have hlt := h.ov.lt
  refine ⟨ho, own_keep h.ov (fun g e => hg.grown.block g (hlt g e).2 (fun e' => h.d g e'.symm e)), fun g e e' => ?_, h.b.trans (hg.below h.ou h.b.size)⟩
  rcases hg.fresh g e with h1 | h1
  · exact h.d g h1 e'
  · have := (hlt g e').2
    omega
theorem Two.pickV (h : Two w0 u v a b V) (hg : Grew V V' v v') (ho : V'.ownsRow w0.heap.size 32 32 v' a'.length (bv a'.flatten)) : Two w0 u v' a a' V' := by
  have hlt := h.ou.lt
  refine ⟨own_keep h.ou (fun g e => hg.grown.block g (hlt g e).2 (fun e' => h.d g e e'.symm)), ho, fun g e e' => ?_, h.b.trans (hg.below h.ov h.b.size)⟩
  rcases hg.fresh g e' with h1 | h1
  · exact h.d g e h1
  · have := (hlt g e).2
    omega
end
/-- a list of the call's own, clipped -/
theorem clip_out {w w0 : World} {u : Value} {a : List (List Int)} (ho : w.ownsRow w0.heap.size 32 32 u a.length (bv a.flatten)) (h32 : ∀ y ∈ a, y.length = 32) :
    ∃ S : Sl, u = S.val ∧ S.n = a.length ∧ S.n ≤ S.c ∧ S.c ≤ maxLen ∧ KOut w w0.heap.size w.heap.size ⟨S.A, S.n, S.n⟩ a ∧ ∀ g, S.A = some g → u.ownBlock = some g := by
  obtain ⟨x, hv, hn, hx0, hx1⟩ := own_sl ho
  obtain ⟨A, c, hu, hs, hnc, hcm, _⟩ := own_form2 ho
  obtain ⟨A', n, c'⟩ := x
  have hvv : Value.slice (A'.map fun g => ⟨g, 0, none⟩) n c' = .slice A a.length c := hv.symm.trans hu
  injection hvv with e1 e2 e3
  subst e1 e2 e3
  refine ⟨⟨A', a.length, c'⟩, hv, rfl, hnc, hcm, ⟨?_, ⟨rfl, h32, hs⟩, ⟨Nat.le_refl _, Nat.le_trans hnc hcm⟩, ?_⟩, ?_⟩
  · cases A' with
    | none =>
      have := (hx0 rfl).1
      exact ⟨this, this⟩
    | some g =>
      obtain ⟨b1, b2, _, b4, b5, cur, b6, b7⟩ := hx1 g rfl
      refine ⟨Nat.le_refl _, Nat.le_trans b4 b5, cur, b6, ?_, fun h => absurd h (by show ¬ (32 : Nat) = 64; omega)⟩
      show a.length * 32 ≤ cur.length
      have b4' : a.length ≤ c' := b4
      have b7' : cur.length = c' * 32 := b7
      omega
  · intro g e
    have e' : A' = some g := e
    subst e'
    obtain ⟨b1, b2, _⟩ := hx1 g rfl
    exact ⟨b1, b2⟩
  · intro g e
    have e' : A' = some g := e
    subst e'
    exact (hx1 g rfl).2.2.1
theorem all32 {ts : List LTab} (hg : TsOk ts) : ∀ (ls : List LLook), (∀ x ∈ ls, LkOk x) → resErr ts ls = 0 → (∀ y ∈ ls.flatMap (wrL ts), y.length = 32) ∧ ∀ y ∈ ls.flatMap (rdL ts), y.length = 32
  | [], _, _ => ⟨fun y hy => (by cases hy), fun y hy => (by cases hy)⟩
  | x :: r, hok, h0 => by
    obtain ⟨h1, h2⟩ : errL ts x = 0 ∧ resErr ts r = 0 := by
      unfold resErr at h0
      split at h0
      · exact ⟨‹_›, h0⟩
      · exact absurd h0 ‹_›
    obtain ⟨a, b⟩ := all32 hg r (fun y hy => hok y (List.mem_cons_of_mem _ hy)) h2
    obtain ⟨k0, k1, k2⟩ := hok x (by simp)
    unfold errL at h1
    cases hf : findT ts x.tab with
    | none => rw [hf] at h1; simp at h1
    | some l =>
      rw [hf] at h1
      obtain ⟨h32, _, _⟩ := hg.find hf
      have hx : x.wr.any (out6 l.length) = false ∧ x.rd.any (out6 l.length) = false := by
        simp only [] at h1
        split at h1
        · cases h1
        · rename_i hn
          simpa using hn
      have e : fKeys ts x.tab = l := by unfold fKeys; rw [hf]; rfl
      rw [List.flatMap_cons, List.flatMap_cons]
      unfold wrL rdL
      rw [e]
      refine ⟨fun y hy => ?_, fun y hy => ?_⟩
      · rcases List.mem_append.1 hy with hy | hy
        · exact pickK_len h32 hx.1 k1 y hy
        · exact a y hy
      · rcases List.mem_append.1 hy with hy | hy
        · exact pickK_len h32 hx.2 k2 y hy
        · exact b y hy
/-- what Resolve answers -/
def ResDone (w : World) (ts : List LTab) (ls : List LLook) (e : Ending) (w' : World) : Prop :=
  ∃ S T : Sl, e = .returned (.tuple #[S.val, T.val, .int .i64 (resErr ts ls)]) ∧ KOut w' w.heap.size w'.heap.size S (resW ts ls) ∧ KOut w' w.heap.size w'.heap.size T (resR ts ls) ∧ ((∀ g, S.A = some g → T.A ≠ some g) ∧ S.c = S.n ∧ T.c = T.n) ∧ Below w.heap.size w w'
theorem ResDone.not {w w' : World} {ts : List LTab} {ls : List LLook} {c : Int} (hc : resErr ts ls = c) (h0 : c ≠ 0) (hb : Below w.heap.size w w') : ResDone w ts ls (.returned (.tuple #[nilK, nilK, .int .i64 c])) w' := by
  have h1 : resErr ts ls ≠ 0 := by rw [hc]; exact h0
  refine ⟨⟨none, 0, 0⟩, ⟨none, 0, 0⟩, by rw [hc]; rfl, ?_, ?_, ⟨fun g e => (by cases e), rfl, rfl⟩, hb⟩
  · rw [resW, if_neg h1]; exact KOut.nil _ _ _
  · rw [resR, if_neg h1]; exact KOut.nil _ _ _
set_option maxRecDepth 100000 in
set_option maxHeartbeats 8000000 in
theorem resolveReg (rb mb hi n : Nat) (ts : List LTab) (A : Option Addr) (m c B : Nat) (ls : List LLook) (w : World) (h : Reg w rb mb hi n ts) (hl : LooksIn w B A m ls) (hB : B ≤ w.heap.size) (hok : ∀ x ∈ ls, LkOk x) (hm : m ≤ 4000) (hs : lookSize ls ≤ 4000) :
    Calls Try.prog 21 #[.pointer (some ⟨rb, 0, none⟩), .slice A m c] w (ResDone w ts ls) := by
  have HT := Lib.hid (there_yes rb mb _ h.row)
  have HREG := Lib.hid h
  have HHI := Lib.hid h.lt.2.2
  have HL := Lib.hid hl
  have HLN := Lib.hid hl.len
  have HOK := Lib.hid hok
  have HS := Lib.hid hs
  clear h hl hok hs
  go_enter Try.func21, Try.ntmps21
  go_wp2_with (go_at_call 25; refine HT.out.mono ?_; rintro e w' ⟨rfl, rfl⟩)
  go_loopw [4, 5, 16] (fun u v i wr => ∃ k : Nat, k ≤ m ∧ i = .int .i64 k ∧ resErr ts (ls.take k) = 0 ∧ Two w u v ((ls.take k).flatMap (wrL ts)) ((ls.take k).flatMap (rdL ts)) wr) (fun u v i _ => m - (intOf i).toNat)
  case atStart => exact ⟨0, Nat.zero_le _, rfl, rfl, ⟨World.ownsRow_nil _ _ _ _, World.ownsRow_nil _ _ _ _, fun g e => (by cases e), Below.refl _ _⟩⟩
  case round =>
    obtain ⟨k, hk, rfl, hr0, htwo⟩ := hrel
    have HR0 := Lib.hid hr0
    have H2 := Lib.hid htwo
    have HREGR := Lib.hid (HREG.out.below (htwo.b.mono HHI.out))
    have c0 : wr.cell? ⟨rb, 0, none⟩ = some (.map (some mb)) := HREGR.out.row.cell 0
    have HRB : Hid (rb < wr.heap.size) := Lib.hid HREGR.out.row.lt
    have HSZW : Hid (w.heap.size ≤ wr.heap.size) := Lib.hid htwo.b.size
    clear hr0 htwo
    by_cases hlt : k < m
    · obtain ⟨a, x, va, vd, rfl, hab, hx, hat⟩ := (HL.out.below (H2.out.b.mono hB)).get hlt
      obtain ⟨⟨hkey, hwb, hrb⟩, hmem⟩ := And.intro (HOK.out x (List.mem_of_getElem? hx)) (List.mem_of_getElem? hx)
      have hsz := lsize_mem hmem
      obtain ⟨A1, c1, rfl, hs1, hn1, hc1⟩ := hat.wr.is
      obtain ⟨A2, c2, rfl, hs2, hn2, hc2⟩ := hat.rd.is
      have HX := Lib.hid hx
      have HKEY := Lib.hid hkey
      have HWB := Lib.hid (And.intro hwb hrb)
      have HSN := Lib.hid (show x.wr.length ≤ 4000 ∧ x.rd.length ≤ 4000 by have := HS.out; omega)
      have HS1 := Lib.hid (And.intro hs1 hs2)
      have HON := Lib.hid (lookCells_one (tab := x.tab) hat.wr hat.rd)
      have HCE := Lib.hid hat.cells
      have HSZL := Lib.hid (size_lk hat.len (.slice A1 x.wr.length c1) (.slice A2 x.rd.length c2))
      have HLL : Hid (34 = (bv x.tab ++ [Value.slice A1 x.wr.length c1, .slice A2 x.rd.length c2]).length) := Lib.hid (by simp [bv_length, hat.len])
      have HXL : Hid ((bv x.tab).length = 32) := Lib.hid (by rw [bv_length, hat.len])
      have HSX := Lib.hid (show (Try.prog.info? 32).map (·.size) = some (bv x.tab).length by rw [bv_length, hat.len]; exact size_key)
      have HC32 : Hid (∀ V : World, Row V wr.heap.size 60 (bv x.tab ++ [Value.slice A1 x.wr.length c1, .slice A2 x.rd.length c2]) → V.cell? ⟨wr.heap.size, 32, none⟩ = some (.slice A1 x.wr.length c1) ∧ V.cell? ⟨wr.heap.size, 33, none⟩ = some (.slice A2 x.rd.length c2)) := Lib.hid fun V hr => look_cells hr hat.len
      obtain ⟨g, hlk, hg⟩ := HREGR.out.look_any hkey
      have hmb : mb < wr.heap.size := Nat.lt_of_lt_of_le HREGR.out.lt.2.1 HREGR.out.lt.2.2
      have HLK : Hid (∀ V : World, Below wr.heap.size wr V → ∀ q, (Instr.lookup 49 (.map (some mb)) (.agg (bv x.tab).toArray) true).run Try.prog (V.drewN q) = .ok (.tuple #[seen ts x.tab g, .bool (findT ts x.tab).isSome]) (V.drewN q)) := Lib.hid fun V hV q => hlk _ (hV.block mb hmb)
      clear hmb
      clear hkey hwb hrb hmem hsz hs1 hs2 hn1 hn2 hc1 hc2 hat hx hlk
      generalize hXX : bv x.tab = X at *
      generalize hLL : X ++ [Value.slice A1 x.wr.length c1, .slice A2 x.rd.length c2] = L at *
      have HXI : Hid (∀ j u, X[j]? = some u → L[j]? = some u) := Lib.hid fun j u hu => by
        rw [← hLL, List.getElem?_append_left (List.getElem?_eq_some_iff.1 hu).1]
        exact hu
      clear hXX hLL
      cases hf : findT ts x.tab with
      | none =>
        have hv : seen ts x.tab g = nilK := by unfold seen; rw [hf]
        rw [hv, hf] at HLK
        unfold nilK at HLK
        have HE : Hid (resErr ts ls = 11) := Lib.hid (resErr_hit HX.out HR0.out (by unfold errL; rw [hf]) (by omega))
        clear hv hf hg
        go_wp2_with (first
          | ((with_reducible show wpList _ _ _ ({ dst := some 19, op := Op.load _ _, type := _, pos := _, after := _, guard := _ } :: _) _ _); go_must (refine wpList_load_at rfl 60 (.tmp 18) rfl (a.add (k * 34)) L _ Try.underlying60 rfl HSZL.out HCE.out ?_ ?_; go_simp))
          | (with_reducible show wpList _ _ _ ({ dst := none, op := Op.store 60 _ _, type := _, pos := _, after := _, guard := _ } :: _) _ _; go_must (refine wpList_store_new rfl 60 (.tmp 8) (.tmp 19) rfl L HSZL.out HON.out (by rw [← HLL.out]; kernel_rfl) ?_ ?_ ?_; go_simp; go_simp; intro W hr2 hb2 hz2; have RL := Lib.hid hr2; have BW := Lib.hid hb2; have hlw := HLK.out W hb2; have cW : W.cell? ⟨rb, 0, none⟩ = some (.map (some mb)) := (hb2.cell HRB.out).trans c0; clear hr2 hb2 hz2)))
        try simp only [Act.put]
        refine wp_region_quiet_lit (by kernel_rfl) (by kernel_rfl) ?_
        repeat (first
          | ((with_reducible show wpQuiet _ _ _ _ ({ dst := some 26, op := Op.load _ _, type := _, pos := _, after := _, guard := _ } :: _) _); go_must (refine quiet_load_at (by kernel_rfl) 32 (.tmp 25) rfl ⟨wr.heap.size, 0, none⟩ X _ Try.underlying32 rfl HSX.out (by rintro _ ⟨nq, rfl⟩ j v hv; exact (by rw [addr_row, Nat.zero_add]; exact (RL.out.cell j).trans (HXI.out j v hv))) ?_ ?_; go_simp; go_simp))
          | go_big_quiet_step (fail))
        refine wpQuiet_nil ?_
        intro nq
        go_wp2_with fail
        go_ret3
        exact ResDone.not HE.out (by omega) (H2.out.b.trans ((show Below wr.heap.size wr (W.drewN nq) from ⟨BW.out.os, BW.out.tape, BW.out.output, BW.out.size, BW.out.block⟩).mono H2.out.b.size))
      | some l =>
        have hv : seen ts x.tab g = .slice (some ⟨g, 0, none⟩) l.length l.length := by unfold seen; rw [hf]
        rw [hv, hf] at HLK
        obtain ⟨hgr, hgi⟩ := hg l hf
        obtain ⟨h32, hl1, hl2⟩ := HREG.out.good.find hf
        have HF := Lib.hid hf
        have HG32 := Lib.hid h32
        have HGK : Hid (∀ V : World, Below wr.heap.size wr V → KeysIn V w.heap.size (some ⟨g, 0, none⟩) l.length l) := Lib.hid fun V hV => keys_row (ys := []) (by rw [List.append_nil]; exact hgr.below hV hgr.lt) rfl h32 (Nat.lt_of_lt_of_le hgi HHI.out)
        clear hv hf hg hgr h32
        have HLE := Lib.hid hl2
        obtain ⟨tt, htt⟩ : ∃ tt, tt = l.length := ⟨_, rfl⟩
        have HTT := Lib.hid htt
        rw [← htt] at HLK hl1 hl2
        obtain ⟨n1, hn1⟩ : ∃ n1, n1 = x.wr.length := ⟨_, rfl⟩
        obtain ⟨n2, hn2⟩ : ∃ n2, n2 = x.rd.length := ⟨_, rfl⟩
        have HN1 := Lib.hid hn1
        have HN2 := Lib.hid hn2
        rw [← hn1, ← hn2] at HC32 HS1
        rw [← hn1, ← hn2] at HSN
        clear hn1 hn2 htt
        go_wp2_with (first
          | ((with_reducible show wpList _ _ _ ({ dst := some 19, op := Op.load _ _, type := _, pos := _, after := _, guard := _ } :: _) _ _); go_must (refine wpList_load_at rfl 60 (.tmp 18) rfl (a.add (k * 34)) L _ Try.underlying60 rfl HSZL.out HCE.out ?_ ?_; go_simp))
          | (with_reducible show wpList _ _ _ ({ dst := none, op := Op.store 60 _ _, type := _, pos := _, after := _, guard := _ } :: _) _ _; go_must (refine wpList_store_new rfl 60 (.tmp 8) (.tmp 19) rfl L HSZL.out HON.out (by rw [← HLL.out]; kernel_rfl) ?_ ?_ ?_; go_simp; go_simp; intro W hr2 hb2 hz2; have RL := Lib.hid hr2; have BW := Lib.hid hb2; have hlw := HLK.out W hb2; have cW : W.cell? ⟨rb, 0, none⟩ = some (.map (some mb)) := (hb2.cell HRB.out).trans c0; clear hr2 hb2 hz2)))
        try simp only [Act.put]
        refine wp_region_quiet_lit (by kernel_rfl) (by kernel_rfl) ?_
        repeat (first
          | ((with_reducible show wpQuiet _ _ _ _ ({ dst := some 26, op := Op.load _ _, type := _, pos := _, after := _, guard := _ } :: _) _); go_must (refine quiet_load_at (by kernel_rfl) 32 (.tmp 25) rfl ⟨wr.heap.size, 0, none⟩ X _ Try.underlying32 rfl HSX.out (by rintro _ ⟨nq, rfl⟩ j v hv; exact (by rw [addr_row, Nat.zero_add]; exact (RL.out.cell j).trans (HXI.out j v hv))) ?_ ?_; go_simp; go_simp))
          | go_big_quiet_step (fail))
        refine wpQuiet_nil ?_
        intro nq
        have HBV : Hid (Below wr.heap.size wr (W.drewN nq)) := Lib.hid ⟨BW.out.os, BW.out.tape, BW.out.output, BW.out.size, BW.out.block⟩
        have RV : Hid (Row (W.drewN nq) wr.heap.size 60 L) := Lib.hid ⟨RL.out.is⟩
        have H2V := Lib.hid (H2.out.below HBV.out)
        have cV : (W.drewN nq).cell? ⟨rb, 0, none⟩ = some (.map (some mb)) := cW
        clear RL BW hlw cW
        generalize W.drewN nq = V at *
        obtain ⟨e1, e2⟩ := HC32.out V RV.out
        have C1 := Lib.hid (strays6 A1 (some ⟨g, 0, none⟩) n1 c1 tt tt B x.wr V (HS1.out.1.below (HBV.out.mono (Nat.le_trans hB HSZW.out))) (Nat.le_trans (Nat.le_trans hB HSZW.out) HBV.out.size) HWB.out.1 HSN.out.1 (by omega))
        by_cases hp1 : x.wr.any (out6 tt) = true
        · have HE : Hid (resErr ts ls = 8) := Lib.hid (resErr_hit HX.out HR0.out (by unfold errL; rw [HF.out]; dsimp only; rw [← HTT.out]; simp [hp1]) (by omega))
          rw [hp1] at C1
          clear hp1
          go_wp2_with fail
          refine C1.out.mono ?_
          rintro e w2 ⟨rfl, hb2⟩
          have B2 := Lib.hid hb2
          clear hb2
          go_wp2_with fail
          go_ret3
          exact ResDone.not HE.out (by omega) ((H2V.out.below B2.out).b)
        have hp1 : x.wr.any (out6 tt) = false := by simpa using hp1
        have HP1 := Lib.hid hp1
        rw [hp1] at C1
        clear hp1
        go_wp2_with fail
        refine C1.out.mono ?_
        rintro e w2 ⟨rfl, hb2⟩
        have hb2r : Below wr.heap.size wr w2 := HBV.out.trans (hb2.mono HBV.out.size)
        have HB2 := Lib.hid hb2r
        have H22 := Lib.hid (H2V.out.below hb2)
        have R2 := Lib.hid (RV.out.below hb2 RV.out.lt)
        have hz2 : w.heap.size ≤ w2.heap.size := Nat.le_trans HSZW.out hb2r.size
        have HZ2 := Lib.hid hz2
        obtain ⟨f1, f2⟩ := HC32.out w2 R2.out
        have C2 := Lib.hid (strays6 A2 (some ⟨g, 0, none⟩) n2 c2 tt tt B x.rd w2 (HS1.out.2.below (hb2r.mono (Nat.le_trans hB HSZW.out))) (Nat.le_trans hB hz2) HWB.out.2 HSN.out.2 (by omega))
        clear e1 e2 hb2 hb2r C1 cV H2V RV HBV hz2
        by_cases hp2 : x.rd.any (out6 tt) = true
        · have HE : Hid (resErr ts ls = 8) := Lib.hid (resErr_hit HX.out HR0.out (by unfold errL; rw [HF.out]; dsimp only; rw [← HTT.out]; simp [hp2]) (by omega))
          rw [hp2] at C2
          clear hp2
          go_wp2_with fail
          refine C2.out.mono ?_
          rintro e w3 ⟨rfl, hb3⟩
          have B3 := Lib.hid hb3
          clear hb3
          go_wp2_with fail
          go_ret3
          exact ResDone.not HE.out (by omega) ((H22.out.below B3.out).b)
        have hp2 : x.rd.any (out6 tt) = false := by simpa using hp2
        have HP2 := Lib.hid hp2
        rw [hp2] at C2
        clear hp2
        go_wp2_with fail
        refine C2.out.mono ?_
        rintro e w3 ⟨rfl, hb3⟩
        have hb3r : Below wr.heap.size wr w3 := HB2.out.trans (hb3.mono HB2.out.size)
        have HB3 := Lib.hid hb3r
        have H23 := Lib.hid (H22.out.below hb3)
        have R3 := Lib.hid (R2.out.below hb3 R2.out.lt)
        obtain ⟨g1, g2⟩ := HC32.out w3 R3.out
        have hlen := wrs_le ts (ls.take k)
        have hlk2 := lookSize_take (l := ls) k
        have HSUM : Hid (((ls.take k).flatMap (wrL ts)).length + n1 ≤ 1000000 ∧ ((ls.take k).flatMap (rdL ts)).length + n2 ≤ 1000000) := Lib.hid (by have := HS.out; have := HSN.out; omega)
        have C3 := Lib.hid (pick_ w.heap.size w.heap.size _ _ _ (some ⟨g, 0, none⟩) A1 tt tt n1 c1 l x.wr w3 H23.out.ou H23.out.b.size (by rw [HTT.out]; exact HGK.out w3 hb3r) (((HS1.out.1.below (hb3r.mono (Nat.le_trans hB HSZW.out)))).more hB) (Nat.le_refl _) HWB.out.1 (by rw [← HTT.out]; exact HP1.out) HSUM.out.1 hl2)
        clear f1 f2 hb3 hb3r C2 R2 H22 HB2 hlen hlk2
        go_wp2_with fail
        refine C3.out.mono ?_
        rintro e w4 ⟨u4, rfl, ho4, hg4⟩
        have ho4' : w4.ownsRow w.heap.size 32 32 u4 ((ls.take k).flatMap (wrL ts) ++ pickK l x.wr).length (bv ((ls.take k).flatMap (wrL ts) ++ pickK l x.wr).flatten) := by
          rw [List.length_append, pickK_length, List.flatten_append, bv_append, ← HN1.out]
          exact ho4
        have H24 := Lib.hid (H23.out.pickU hg4 ho4')
        have R4 := Lib.hid (hg4.row R3.out (own_row_neN H23.out.ou R3.out (by decide)))
        have hz4 : w.heap.size ≤ w4.heap.size := H24.out.b.size
        have hb4r : Below w.heap.size wr w4 := (HB3.out.mono HSZW.out).trans (hg4.below H23.out.ou H23.out.b.size)
        have hgk4 : KeysIn w4 w.heap.size (some ⟨g, 0, none⟩) l.length l := (HGK.out w3 HB3.out).below (hg4.below H23.out.ou H23.out.b.size)
        obtain ⟨i1, i2⟩ := HC32.out w4 R4.out
        have C4 := Lib.hid (pick_ w.heap.size w.heap.size _ _ _ (some ⟨g, 0, none⟩) A2 tt tt n2 c2 l x.rd w4 H24.out.ov H24.out.b.size (by rw [HTT.out]; exact hgk4) (((HS1.out.2.below (hb4r.mono hB))).more hB) (Nat.le_refl _) HWB.out.2 (by rw [← HTT.out]; exact HP2.out) HSUM.out.2 hl2)
        clear g1 g2 ho4 ho4' hg4 C3 R3 H23 hz4 hb4r hgk4 HB3
        go_wp2_with fail
        refine C4.out.mono ?_
        rintro e w5 ⟨v5, rfl, ho5, hg5⟩
        have ho5' : w5.ownsRow w.heap.size 32 32 v5 ((ls.take k).flatMap (rdL ts) ++ pickK l x.rd).length (bv ((ls.take k).flatMap (rdL ts) ++ pickK l x.rd).flatten) := by
          rw [List.length_append, pickK_length, List.flatten_append, bv_append, ← HN2.out]
          exact ho5
        have H25 := Lib.hid (H24.out.pickV hg5 ho5')
        clear i1 i2 ho5 ho5' hg5 C4 R4 H24
        have HNX : Hid (resErr ts (ls.take (k + 1)) = 0) := Lib.hid (by
          rw [resErr_succ HX.out HR0.out]
          unfold errL
          rw [HF.out]
          simp only []
          rw [← HTT.out, HP1.out, HP2.out]
          rfl)
        have HNW : Hid ((ls.take (k + 1)).flatMap (wrL ts) = (ls.take k).flatMap (wrL ts) ++ pickK l x.wr ∧ (ls.take (k + 1)).flatMap (rdL ts) = (ls.take k).flatMap (rdL ts) ++ pickK l x.rd) := Lib.hid (by
          rw [flatMap_succ _ HX.out, flatMap_succ _ HX.out]
          unfold wrL rdL fKeys
          rw [HF.out]
          exact ⟨rfl, rfl⟩)
        go_wp2_with fail
        go_roundw
        case rel =>
          refine ⟨k + 1, by omega, by go_num, HNX.out, ?_⟩
          rw [HNW.out.1, HNW.out.2]
          exact H25.out
        case measure => simp [intOf]; omega
    · have hkm : k = m := by omega
      have HTK : Hid (ls.take k = ls) := Lib.hid (List.take_of_length_le (by rw [HLN.out]; omega))
      have HE : Hid (resErr ts ls = 0) := Lib.hid (by have := HR0.out; rwa [HTK.out] at this)
      have HF : Hid (Two w _ _ (ls.flatMap (wrL ts)) (ls.flatMap (rdL ts)) wr) := Lib.hid (by have := H2.out; rw [HTK.out] at this; exact this)
      have h32 : (∀ y ∈ ls.flatMap (wrL ts), y.length = 32) ∧ ∀ y ∈ ls.flatMap (rdL ts), y.length = 32 := by
        have := all32 HREG.out.good ls HOK.out HE.out
        exact this
      obtain ⟨S, rfl, hS1, hS2, hS3, hS4, hS5⟩ := clip_out HF.out.ou h32.1
      obtain ⟨T, rfl, hT1, hT2, hT3, hT4, hT5⟩ := clip_out HF.out.ov h32.2
      have HDONE : Hid (ResDone w ts ls (.returned (.tuple #[.slice (S.A.map fun g => ⟨g, 0, none⟩) S.n S.n, .slice (T.A.map fun g => ⟨g, 0, none⟩) T.n T.n, .int .i64 0])) wr) := Lib.hid
        ⟨⟨S.A, S.n, S.n⟩, ⟨T.A, T.n, T.n⟩, by rw [HE.out]; rfl, by rw [resW, if_pos HE.out]; exact hS4, by rw [resR, if_pos HE.out]; exact hT4, ⟨fun g e e' => HF.out.d g (hS5 g e) (hT5 g e'), rfl, rfl⟩, HF.out.b⟩
      have CS := Lib.hid (clipK (S.A.map fun g => ⟨g, 0, none⟩) S.n S.c wr hS2 hS3)
      have CT := Lib.hid (clipK (T.A.map fun g => ⟨g, 0, none⟩) T.n T.c wr hT2 hT3)
      clear hS1 hS2 hS3 hS4 hS5 hT1 hT2 hT3 hT4 hT5 h32 hkm
      unfold Sl.val
      go_wp2_with fail
      refine CS.out.mono ?_
      rintro e w' ⟨rfl, rfl⟩
      go_wp2_with fail
      refine CT.out.mono ?_
      rintro e w' ⟨rfl, rfl⟩
      go_wp2_with fail
      go_ret3
      exact HDONE.out
end Go.Proofs.Ytdbcbjjomhbhpaa

/-
  Of part Lives6: what is needed here.
-/
namespace Go.Proofs.Ytdbcbjjomhbhpaa
open Go.RowKit
set_option linter.unusedVariables false
set_option maxHeartbeats 400000 in
theorem sameKeys (A B : Option Addr) (n c d : Nat) (l : List (List Int)) (w : World) (S T : Nat) (hx : KeysIn w S A n l) (hy : KeysIn w T B n l) (hn : n ≤ maxLen) :
    Calls Try.prog 20 #[.slice A n c, .slice B n d] w fun e w' => e = .returned (.bool true) ∧ ∃ k, w' = w.drewN k := by
  have HC := Lib.hid (same_keys A B n c d l w S T hx hy hn)
  clear hx hy
  go_enter Try.func20, Try.ntmps20
  go_wp2_with fail
  refine HC.out.mono ?_
  rintro e w' ⟨rfl, k, rfl⟩
  go_wp2_with fail
  go_ret
  exact ⟨rfl, k, rfl⟩
theorem info_look6 : (Try.prog.info? 60).map (fun i => (i.zero, i.size, i.bytes)) = some (some (.agg (zeros 32 ++ [Value.slice none 0 0, .slice none 0 0]).toArray), 34, 80) := by kernel_rfl
theorem zsz_look6 : (Value.agg (zeros 32 ++ [Value.slice none 0 0, .slice none 0 0]).toArray).cells.size = 34 := by kernel_rfl
section
variable {P : Program}
/-- a slice literal of three elements of many cells -/
theorem wpList_buildThree {ops : Array Oper} {rest : List Oper} {o : Oper} {a : Act} {w : World} {Q : Exit → Act → World → Prop} (hg : o.guard = none) (t e : TypeId) (y y' y2 : Operand) (ho : o.op = .buildSlice t 3 #[(0, y), (1, y'), (2, y2)])
    (cs cs' cs2 : List Value) (z : Value) (size bytes : Nat) (hu : P.underlying t = some (.slice e)) (hi : (P.info? e).map (fun i => (i.zero, i.size, i.bytes)) = some (some z, size, bytes)) (hzs : z.cells.size = size) (hs0 : 0 < size) (hs1 : size ≤ 1000)
    (hcs : cs.length = size) (hcs' : cs'.length = size) (hcs2 : cs2.length = size) (hy : a.eval y = .agg cs.toArray) (hy' : a.eval y' = .agg cs'.toArray) (hy2 : a.eval y2 = .agg cs2.toArray)
    (h : wpList P ops Q rest (a.put o.dst (.slice (some ⟨w.heap.size, 0, none⟩) 3 3)) (w.alloc (.cells (cs ++ (cs' ++ cs2)).toArray e))) : wpList P ops Q (o :: rest) a w := by
  obtain ⟨ie, hie, h1, h2, _⟩ := info_parts hi
  subst h2
  refine wpList_buildSlice hg t e 3 _ ho (cs ++ (cs' ++ cs2)).toArray ie z hu hie h1 (by omega) (by omega) ?_ h
  have := Go.Great.fill_whole (s := ie.size) hs0 [Value.agg cs.toArray, Value.agg cs'.toArray, Value.agg cs2.toArray] ((Array.range (3 * ie.size)).map (z.cells[· % z.cells.size]!)) (by simp [Value.cells, hcs, hcs', hcs2]) (by simp)
  simpa [hy, hy', hy2, Value.cells] using this
end
def yks : List (List Int) := [xk 1, xk 2, xk 3]
def yts : List LTab := [⟨xk 9, yks⟩]
def y1 : List LLook := [⟨xk 9, [2], [0, 1]⟩]
def y2 : List LLook := [⟨xk 9, [], [3]⟩]
theorem y_put : mayPut [] (xk 9) yks = 0 := by decide +kernel
theorem y_ts : putT [] (xk 9) yks = yts := by unfold putT; rw [if_pos y_put]; rfl
theorem y_e1 : resErr yts y1 = 0 := by decide +kernel
theorem y_w1 : resW yts y1 = [xk 3] := by decide +kernel
theorem y_r1 : resR yts y1 = [xk 1, xk 2] := by decide +kernel
theorem y_e2 : resErr yts y2 = 8 := by decide +kernel
/-- one lookup in memory -/
theorem look_lone {w : World} {gl : Nat} {tl : TypeId} {tab wr rd : List Int} {v1 v2 : Value} (hl : Row w gl tl (bv tab ++ [v1, v2])) (ht : tab.length = 32) (h1 : BytesIn w w.heap.size v1 wr) (h2 : BytesIn w w.heap.size v2 rd) : LooksIn w w.heap.size (some ⟨gl, 0, none⟩) 1 [⟨tab, wr, rd⟩] :=
  ⟨rfl, fun i x hx => by
    match i, hx with
    | 0, hx =>
      cases hx
      exact ⟨_, v1, v2, rfl, hl.lt, fun j u hu => by rw [addr_row]; simp only [Nat.zero_mul, Nat.zero_add]; exact (hl.cell j).trans hu, ht, h1, h2⟩⟩
theorem bytes_row {w : World} {g t : Nat} {l : List Int} (h : Row w g t (bv l)) (hn : l.length ≤ 100) : BytesIn w w.heap.size (.slice (some ⟨g, 0, none⟩) l.length l.length) l := by
  refine ⟨_, _, rfl, ?_, Nat.le_refl _, by unfold maxLen; omega⟩
  have := h.sees0
  rwa [bv_length] at this
theorem bytes_none (w : World) : BytesIn w w.heap.size (.slice none 0 0) [] := ⟨_, _, rfl, Sees.nil _ _ _, Nat.le_refl _, Nat.zero_le _⟩
theorem built_look6 (l : List Value) (hl : l.length = 32) (A2 : Option Addr) (n2 c2 : Nat) : Try.prog.built 60 [(0, .agg l.toArray), (2, .slice A2 n2 c2)] = some (l ++ [Value.slice none 0 0, .slice A2 n2 c2]).toArray := by
  obtain ⟨f, rfl⟩ : ∃ f : Fin 32 → Value, l = List.ofFn f := ⟨fun i => l.getD i undef, by
    refine List.ext_getElem (by simpa using hl) fun i h1 h2 => ?_
    rw [List.getElem_ofFn, List.getD_eq_getElem?_getD, List.getElem?_eq_getElem h1]
    rfl⟩
  kernel_rfl
set_option maxRecDepth 100000 in
set_option maxHeartbeats 8000000 in
theorem lives6 (w : World) : Calls Try.prog 9 #[] w fun e w' => e = .returned (.bool true) ∧ Below w.heap.size w w' := by
  have HSZ := Lib.hid (show (Try.prog.info? 32).map (·.size) = some (bv (xk 9)).length from size_key)
  go_enter Try.func9, Try.ntmps9
  go_wp2_with fail
  refine (newReg w).mono ?_
  rintro e w1 ⟨rfl, hreg1, hb1⟩
  have REG1 := Lib.hid hreg1
  have B1 := Lib.hid hb1
  have HMB := Lib.hid (Nat.le_refl w.heap.size)
  generalize hrb : w.heap.size + 1 = rb at *
  generalize hmb : w.heap.size = mb at REG1 hreg1 HMB
  have HMW : Hid (w.heap.size ≤ mb) := Lib.hid (Nat.le_of_eq hmb)
  clear hreg1 hb1 hrb hmb HMB
  go_wp2_with (first
    | ((with_reducible show wpList _ _ _ ({ dst := some 12, op := Op.build _ _, type := _, pos := _, after := _, guard := _ } :: _) _ _); go_must (refine wpList_plain rfl fun K hK => wp_built _ _ _ rfl (by simp only [List.map_toArray, List.map_cons, List.map_nil]; exact built_xk _) (hK _ _ ?_)))
    | ((with_reducible show wpList _ _ _ ({ dst := none, op := Op.store 32 _ _, type := _, pos := _, after := _, guard := _ } :: _) _ _); go_must (refine wpList_store_new rfl 32 (.tmp 2) (.tmp 12) rfl (bv (xk 9)) HSZ.out (bv_one _) (by kernel_rfl) ?_ ?_ ?_; go_simp; go_simp; intro w2 hr2 hb2 hz2; have R2 := Lib.hid hr2; have B2 := Lib.hid hb2; clear hr2 hb2 hz2))
    | ((with_reducible show wpList _ _ _ ({ dst := some 13, op := Op.build _ _, type := _, pos := _, after := _, guard := _ } :: _) _ _); go_must (refine wpList_plain rfl fun K hK => wp_built _ _ _ rfl (by simp only [List.map_toArray, List.map_cons, List.map_nil]; exact built_xk _) (hK _ _ ?_)))
    | ((with_reducible show wpList _ _ _ ({ dst := some 14, op := Op.build _ _, type := _, pos := _, after := _, guard := _ } :: _) _ _); go_must (refine wpList_plain rfl fun K hK => wp_built _ _ _ rfl (by simp only [List.map_toArray, List.map_cons, List.map_nil]; exact built_xk _) (hK _ _ ?_)))
    | ((with_reducible show wpList _ _ _ ({ dst := some 15, op := Op.build _ _, type := _, pos := _, after := _, guard := _ } :: _) _ _); go_must (refine wpList_plain rfl fun K hK => wp_built _ _ _ rfl (by simp only [List.map_toArray, List.map_cons, List.map_nil]; exact built_xk _) (hK _ _ ?_)))
    | ((with_reducible show wpList _ _ _ ({ dst := some 16, op := Op.buildSlice _ _ _, type := _, pos := _, after := _, guard := _ } :: _) _ _); go_must (refine wpList_buildThree rfl 33 32 (.tmp 13) (.tmp 14) (.tmp 15) rfl (bv (xk 1)) (bv (xk 2)) (bv (xk 3)) _ 32 32 Try.underlying33 info_key (by kernel_rfl) (by omega) (by omega) (by rfl) (by rfl) (by rfl) ?_ ?_ ?_ ?_; go_simp; go_simp; go_simp))
    | ((with_reducible show wpList _ _ _ ({ dst := some 18, op := Op.load _ _, type := _, pos := _, after := _, guard := _ } :: _) _ _); go_must (refine wpList_load_whole rfl 32 (.tmp 2) rfl _ 32 (bv (xk 9)) _ Try.underlying32 rfl HSZ.out (R2.out.alloc _) ?_ ?_; go_simp)))
  have RT := Lib.hid (R2.out.alloc (.cells (bv (xk 1) ++ (bv (xk 2) ++ bv (xk 3))).toArray 32))
  have RL := Lib.hid (show Row (w2.alloc (.cells (bv (xk 1) ++ (bv (xk 2) ++ bv (xk 3))).toArray 32)) w2.heap.size 32 (bv yks.flatten) from Row.new w2 32 (bv (xk 1) ++ (bv (xk 2) ++ bv (xk 3))))
  have hbW : Below w1.heap.size w1 (w2.alloc (.cells (bv (xk 1) ++ (bv (xk 2) ++ bv (xk 3))).toArray 32)) := B2.out.alloc B2.out.size _
  have HBW := Lib.hid (B1.out.trans (hbW.mono B1.out.size))
  have REGW := Lib.hid (REG1.out.below hbW)
  clear hbW REG1 B1 B2 R2
  generalize w2.heap.size = gl at *
  generalize w1.heap.size = bt at *
  generalize w2.alloc (.cells (bv (xk 1) ++ (bv (xk 2) ++ bv (xk 3))).toArray 32) = W at *
  refine (putReg rb mb _ 0 [] (xk 9) (some ⟨gl, 0, none⟩) 3 3 W.heap.size yks W REGW.out (xk_ok 9 (by unfold IsByte; omega)) (keys_row (ys := []) (by rw [List.append_nil]; exact RL.out) rfl (by decide) RL.out.lt) (Nat.le_refl _) (by omega) (by unfold maxLen; omega)).mono ?_
  rintro e w3 ⟨rfl, hreg3, hgr3⟩
  rw [y_put]
  rw [y_ts] at hreg3
  have hkp : ∀ {g t : Nat} {xs : List Value}, Row W g t xs → Row w3 g t xs := fun hr => hr.grown hgr3 (fun e => REGW.out.map_ne hr (Option.some.inj e))
  have RT3 := Lib.hid (hkp RT.out)
  have RL3 := Lib.hid (hkp RL.out)
  have HB3 : Hid (Below w.heap.size w w3) := Lib.hid (HBW.out.grown hgr3 HBW.out.size (fun k hk => by cases hk; exact HMW.out))
  have REG3 := Lib.hid hreg3
  clear hkp hreg3 hgr3 RT RL HBW REGW W
  go_wp2_with (first
    | ((with_reducible show wpList _ _ _ ({ dst := some 23, op := Op.load _ _, type := _, pos := _, after := _, guard := _ } :: _) _ _); go_must (refine wpList_load_whole rfl 32 (.tmp 2) rfl _ 32 (bv (xk 9)) _ Try.underlying32 rfl HSZ.out RT3.out ?_ ?_; go_simp))
    | ((with_reducible show wpList _ _ _ ({ dst := some 26, op := Op.build _ _, type := _, pos := _, after := _, guard := _ } :: _) _ _); go_must (refine wpList_plain rfl fun K hK => wp_built _ _ _ rfl (by simp only [List.map_toArray, List.map_cons, List.map_nil]; exact built_look3 (bv (xk 9)) rfl _ _ _ _ _ _) (hK _ _ ?_)))
    | ((with_reducible show wpList _ _ _ ({ dst := some 27, op := Op.buildSlice _ _ _, type := _, pos := _, after := _, guard := _ } :: _) _ _); go_must (refine wpList_buildOne rfl 34 60 (.tmp 26) rfl (bv (xk 9) ++ [Value.slice (some ⟨w3.heap.size, 0, none⟩) 1 1, .slice (some ⟨w3.heap.size + 1, 0, none⟩) 2 2]) _ 34 80 Try.underlying34 info_look6 zsz_look6 (by omega) (by omega) (by rfl) ?_ ?_; go_simp)))
  have r1 := (((Row.new w3 5 (bv [2])).alloc (.cells (bv [0, 1]).toArray 5)).alloc (.cells (bv (xk 9) ++ [Value.slice (some ⟨w3.heap.size, 0, none⟩) 1 1, .slice (some ⟨w3.heap.size + 1, 0, none⟩) 2 2]).toArray 60))
  have r2 := (Row.new' (w3.alloc (.cells (bv [2]).toArray 5)) 5 (bv [0, 1]) (g := w3.heap.size + 1) (by simp)).alloc (.cells (bv (xk 9) ++ [Value.slice (some ⟨w3.heap.size, 0, none⟩) 1 1, .slice (some ⟨w3.heap.size + 1, 0, none⟩) 2 2]).toArray 60)
  have r3 := Row.new' ((w3.alloc (.cells (bv [2]).toArray 5)).alloc (.cells (bv [0, 1]).toArray 5)) 60 (bv (xk 9) ++ [Value.slice (some ⟨w3.heap.size, 0, none⟩) 1 1, .slice (some ⟨w3.heap.size + 1, 0, none⟩) 2 2]) (g := w3.heap.size + 1 + 1) (by simp)
  have hb4 := (((Below.refl w3.heap.size w3).alloc (Nat.le_refl _) (.cells (bv [2]).toArray 5)).alloc (by simp) (.cells (bv [0, 1]).toArray 5)).alloc (by simp; omega) (.cells (bv (xk 9) ++ [Value.slice (some ⟨w3.heap.size, 0, none⟩) 1 1, .slice (some ⟨w3.heap.size + 1, 0, none⟩) 2 2]).toArray 60)
  obtain ⟨V, hV⟩ : ∃ V, V = (((w3.alloc (.cells (bv [2]).toArray 5)).alloc (.cells (bv [0, 1]).toArray 5)).alloc (.cells (bv (xk 9) ++ [Value.slice (some ⟨w3.heap.size, 0, none⟩) 1 1, .slice (some ⟨w3.heap.size + 1, 0, none⟩) 2 2]).toArray 60)) := ⟨_, rfl⟩
  rw [← hV] at r1 r2 r3 hb4
  have hgoal : ∀ v u Q, Calls Try.prog 21 #[v, u] V Q → Calls Try.prog 21 #[v, u] (((w3.alloc (.cells (bv [2]).toArray 5)).alloc (.cells (bv [0, 1]).toArray 5)).alloc (.cells (bv (xk 9) ++ [Value.slice (some ⟨w3.heap.size, 0, none⟩) 1 1, .slice (some ⟨w3.heap.size + 1, 0, none⟩) 2 2]).toArray 60)) Q := fun v u Q h => by rw [← hV]; exact h
  refine hgoal _ _ _ ?_
  clear hgoal hV
  have hl1 : LooksIn V V.heap.size (some ⟨w3.heap.size + 1 + 1, 0, none⟩) 1 y1 := look_lone r3 rfl (bytes_row r1 (by simp)) (bytes_row r2 (by simp))
  have HB4 := Lib.hid (HB3.out.trans (hb4.mono HB3.out.size))
  have RT4 := Lib.hid (RT3.out.below hb4 RT3.out.lt)
  have RL4 := Lib.hid (RL3.out.below hb4 RL3.out.lt)
  have REG4 := Lib.hid (REG3.out.below hb4)
  clear r1 r2 r3 hb4 HB3 RT3 RL3 REG3
  generalize w3.heap.size + 1 + 1 = gk at *
  generalize w3.heap.size + 1 = gj at *
  generalize w3.heap.size = gi at *
  refine (resolveReg rb mb _ 1 yts (some ⟨gk, 0, none⟩) 1 1 V.heap.size y1 V REG4.out hl1 (Nat.le_refl _) (fun x hx => by obtain rfl := List.mem_singleton.1 hx; exact ⟨xk_ok 9 (by unfold IsByte; omega), by unfold AllBytes IsByte; simp, by unfold AllBytes IsByte; simp⟩) (by omega) (by decide)).mono ?_
  rintro e w5 ⟨S, T, rfl, hS, hT, hd, hb5⟩
  rw [y_e1]
  rw [y_w1] at hS
  rw [y_r1] at hT
  have HS := Lib.hid hS
  have HT := Lib.hid hT
  have HB5 := Lib.hid (HB4.out.trans (hb5.mono HB4.out.size))
  have RT5 := Lib.hid (RT4.out.below hb5 RT4.out.lt)
  have RL5 := Lib.hid (RL4.out.below hb5 RL4.out.lt)
  have REG5 := Lib.hid (REG4.out.below (hb5.mono REG4.out.lt.2.2))
  clear hS hT hd hb5 hl1 HB4 RT4 RL4 REG4
  obtain ⟨SA, sn, sc⟩ := S
  obtain ⟨TA, tn, tc⟩ := T
  unfold Sl.val
  go_wp2_with (first
    | ((with_reducible show wpList _ _ _ ({ dst := some 34, op := Op.load _ _, type := _, pos := _, after := _, guard := _ } :: _) _ _); go_must (refine wpList_load_whole rfl 32 (.tmp 2) rfl _ 32 (bv (xk 9)) _ Try.underlying32 rfl HSZ.out RT5.out ?_ ?_; go_simp))
    | ((with_reducible show wpList _ _ _ ({ dst := some 36, op := Op.build _ _, type := _, pos := _, after := _, guard := _ } :: _) _ _); go_must (refine wpList_plain rfl fun K hK => wp_built _ _ _ rfl (by simp only [List.map_toArray, List.map_cons, List.map_nil]; exact built_look6 (bv (xk 9)) rfl _ _ _) (hK _ _ ?_)))
    | ((with_reducible show wpList _ _ _ ({ dst := some 37, op := Op.buildSlice _ _ _, type := _, pos := _, after := _, guard := _ } :: _) _ _); go_must (refine wpList_buildOne rfl 34 60 (.tmp 36) rfl (bv (xk 9) ++ [Value.slice none 0 0, .slice (some ⟨w5.heap.size, 0, none⟩) 1 1]) _ 34 80 Try.underlying34 info_look6 zsz_look6 (by omega) (by omega) (by rfl) ?_ ?_; go_simp)))
  have r1 := (Row.new w5 5 (bv [3])).alloc (.cells (bv (xk 9) ++ [Value.slice none 0 0, .slice (some ⟨w5.heap.size, 0, none⟩) 1 1]).toArray 60)
  have r3 := Row.new' (w5.alloc (.cells (bv [3]).toArray 5)) 60 (bv (xk 9) ++ [Value.slice none 0 0, .slice (some ⟨w5.heap.size, 0, none⟩) 1 1]) (g := w5.heap.size + 1) (by simp)
  have hb6 := ((Below.refl w5.heap.size w5).alloc (Nat.le_refl _) (.cells (bv [3]).toArray 5)).alloc (by simp) (.cells (bv (xk 9) ++ [Value.slice none 0 0, .slice (some ⟨w5.heap.size, 0, none⟩) 1 1]).toArray 60)
  obtain ⟨U, hU⟩ : ∃ U, U = (w5.alloc (.cells (bv [3]).toArray 5)).alloc (.cells (bv (xk 9) ++ [Value.slice none 0 0, .slice (some ⟨w5.heap.size, 0, none⟩) 1 1]).toArray 60) := ⟨_, rfl⟩
  rw [← hU] at r1 r3 hb6
  have hgoal : ∀ v u Q, Calls Try.prog 21 #[v, u] U Q → Calls Try.prog 21 #[v, u] ((w5.alloc (.cells (bv [3]).toArray 5)).alloc (.cells (bv (xk 9) ++ [Value.slice none 0 0, .slice (some ⟨w5.heap.size, 0, none⟩) 1 1]).toArray 60)) Q := fun v u Q h => by rw [← hU]; exact h
  refine hgoal _ _ _ ?_
  clear hgoal hU
  have hl2 : LooksIn U U.heap.size (some ⟨w5.heap.size + 1, 0, none⟩) 1 y2 := look_lone r3 rfl (bytes_none U) (bytes_row r1 (by simp))
  have HB6 := Lib.hid (HB5.out.trans (hb6.mono HB5.out.size))
  have RL6 := Lib.hid (RL5.out.below hb6 RL5.out.lt)
  have REG6 := Lib.hid (REG5.out.below (hb6.mono REG5.out.lt.2.2))
  have HZ6 := Lib.hid hb6.size
  have HS6 := Lib.hid (HS.out.below hb6)
  have HT6 := Lib.hid (HT.out.below hb6)
  clear r1 r3 hb6 HB5 RT5 RL5 REG5 HS HT
  generalize w5.heap.size + 1 = gn at *
  generalize hz5 : w5.heap.size = gm at *
  refine (resolveReg rb mb _ 1 yts (some ⟨gn, 0, none⟩) 1 1 U.heap.size y2 U REG6.out hl2 (Nat.le_refl _) (fun x hx => by obtain rfl := List.mem_singleton.1 hx; exact ⟨xk_ok 9 (by unfold IsByte; omega), by unfold AllBytes; simp, by unfold AllBytes IsByte; simp⟩) (by omega) (by decide)).mono ?_
  rintro e w7 ⟨S', T', rfl, hS', hT', hd, hb7⟩
  rw [y_e2]
  have hz6 : gm ≤ U.heap.size := HZ6.out
  have HS7 := Lib.hid (HS6.out.below (hb7.mono hz6))
  have HT7 := Lib.hid (HT6.out.below (hb7.mono hz6))
  have HB7 := Lib.hid (HB6.out.trans (hb7.mono HB6.out.size))
  have RL7 := Lib.hid (RL6.out.below hb7 RL6.out.lt)
  clear hS' hT' hd hb7 hl2 HB6 RL6 REG6 HS6 HT6 hz6 hz5
  obtain ⟨SA', sn', sc'⟩ := S'
  obtain ⟨TA', tn', tc'⟩ := T'
  obtain rfl : 1 = sn := HS7.out.keys.len
  obtain rfl : 2 = tn := HT7.out.keys.len
  unfold Sl.val
  have HK3 : Hid (KeysIn w7 w7.heap.size (some ⟨gl, 64, none⟩) 1 [xk 3]) := Lib.hid ⟨rfl, by decide, RL7.out.sees 64⟩
  have HK12 : Hid (∀ k, KeysIn (w7.drewN k) (w7.drewN k).heap.size (some ⟨gl, 0, none⟩) 2 [xk 1, xk 2]) := Lib.hid fun k => keys_row (l := [xk 1, xk 2]) (ys := bv (xk 3)) (⟨RL7.out.is⟩ : Row (w7.drewN k) gl 32 (bv [xk 1, xk 2].flatten ++ bv (xk 3))) rfl (by decide) RL7.out.lt
  have HT7K : Hid (∀ k, KeysIn (w7.drewN k) gm (TA.map fun g => ⟨g, 0, none⟩) 2 [xk 1, xk 2]) := Lib.hid fun k => HT7.out.keys.keep fun p hp => rfl
  go_wp2_with fail
  refine (sameKeys _ _ 1 _ _ [xk 3] w7 _ _ HS7.out.keys HK3.out (by unfold maxLen; omega)).mono ?_
  rintro e w8 ⟨rfl, k8, rfl⟩
  go_wp2_with fail
  refine (sameKeys _ _ 2 _ _ [xk 1, xk 2] (w7.drewN k8) _ _ (HT7K.out k8) (HK12.out k8) (by unfold maxLen; omega)).mono ?_
  rintro e w9 ⟨rfl, k9, rfl⟩
  go_wp2_with fail
  go_ret
  exact ⟨rfl, below_drewN HB7.out (k8 + k9)⟩
end Go.Proofs.Ytdbcbjjomhbhpaa

/-
  Of part Elems: what is needed here.
-/
namespace Go.Proofs.Ytdbcbjjomhbhpaa
open Go.RowKit
set_option linter.unusedVariables false
/-- elements as cells, each of them size cells long -/
structure Elems {α : Type} (size : Nat) (E : World → Nat → List Value → α → Prop) (w : World) (B : Nat) (l : List α) (css : List (List Value)) : Prop where
  len : css.length = l.length
  at_ : ∀ (i : Nat) (x : α) (cs : List Value), l[i]? = some x → css[i]? = some cs → E w B cs x ∧ cs.length = size ∧ ∀ u ∈ cs, u.oneCell' = true
section
variable {α : Type} {size : Nat} {E : World → Nat → List Value → α → Prop} {w w' : World} {B B' : Nat} {l l' : List α} {css css' : List (List Value)}
theorem Elems.nil : Elems size E w B ([] : List α) [] := ⟨rfl, fun i x cs h => by simp at h⟩
theorem Elems.size_ (h : Elems size E w B l css) : ∀ (i : Nat) y, css[i]? = some y → y.length = size := fun i y hy => by
  have hi := (List.getElem?_eq_some_iff.1 hy).1
  exact (h.at_ i _ y (List.getElem?_eq_getElem (by rw [← h.len]; exact hi)) hy).2.1
theorem Elems.one (h : Elems size E w B l css) : ∀ u ∈ css.flatten, u.oneCell' = true := fun u hu => by
  obtain ⟨cs, hcs, hu⟩ := List.mem_flatten.1 hu
  obtain ⟨i, hi, rfl⟩ := List.getElem_of_mem hcs
  exact (h.at_ i _ _ (List.getElem?_eq_getElem (by rw [← h.len]; exact hi)) (List.getElem?_eq_getElem hi)).2.2 u hu
theorem Elems.app (h : Elems size E w B l css) (h' : Elems size E w B l' css') : Elems size E w B (l ++ l') (css ++ css') :=
  ⟨by rw [List.length_append, List.length_append, h.len, h'.len], fun i x cs hx hcs => by
    by_cases hi : i < l.length
    · rw [List.getElem?_append_left hi] at hx
      rw [List.getElem?_append_left (by rw [h.len]; exact hi)] at hcs
      exact h.at_ i x cs hx hcs
    · rw [List.getElem?_append_right (by omega)] at hx
      rw [List.getElem?_append_right (by rw [h.len]; omega), h.len] at hcs
      exact h'.at_ _ x cs hx hcs⟩
theorem Elems.map (h : Elems size E w B l css) (hm : ∀ cs x, E w B cs x → E w' B' cs x) : Elems size E w' B' l css :=
  ⟨h.len, fun i x cs hx hcs => by
    obtain ⟨a, b⟩ := h.at_ i x cs hx hcs
    exact ⟨hm _ _ a, b⟩⟩
theorem Elems.get (h : Elems size E w B l css) {A : Option Addr} {C : Nat} (hs : Sees w C A (l.length * size) css.flatten) {k : Nat} (hk : k < l.length) (h0 : 0 < size) :
    ∃ a x cs, A = some a ∧ a.block < C ∧ l[k]? = some x ∧ css[k]? = some cs ∧ E w B cs x ∧ cs.length = size ∧ (∀ j u, cs[j]? = some u → w.cell? ((a.add (k * size)).add j) = some u) ∧ ∀ u ∈ cs, u.oneCell' = true := by
  have hx := List.getElem?_eq_getElem (l := l) (i := k) hk
  have hcs := List.getElem?_eq_getElem (l := css) (i := k) (by rw [h.len]; exact hk)
  obtain ⟨e1, e2, e3⟩ := h.at_ k _ _ hx hcs
  have hat := flatten_at size css k _ h.size_ hcs
  obtain ⟨u0, hu0⟩ : ∃ u, (css[k]'(by rw [h.len]; exact hk))[0]? = some u := ⟨_, List.getElem?_eq_getElem (show 0 < (css[k]'(by rw [h.len]; exact hk)).length by rw [e2]; exact h0)⟩
  obtain ⟨a, rfl, hab, _⟩ := hs.cell _ _ (hat 0 u0 hu0)
  refine ⟨a, _, _, rfl, hab, hx, hcs, e1, e2, fun j u hu => ?_, e3⟩
  obtain ⟨a', e, _, hc⟩ := hs.cell _ _ (hat j u hu)
  cases e
  rw [addr_add]
  exact hc
end
/-- a lookup's cells -/
def EL (w : World) (B : Nat) (cs : List Value) (x : LLook) : Prop := ∃ va vd, cs = bv x.tab ++ [va, vd] ∧ x.tab.length = 32 ∧ BytesIn w B va x.wr ∧ BytesIn w B vd x.rd
theorem EL.keep {w w' : World} {B B' : Nat} {cs : List Value} {x : LLook} (h : EL w B cs x) (hb : Below B w w') (hB : B ≤ B') : EL w' B' cs x := by
  obtain ⟨va, vd, h1, h2, h3, h4⟩ := h
  exact ⟨va, vd, h1, h2, (h3.below hb).more hB, (h4.below hb).more hB⟩
theorem Elems.looks {w : World} {B n : Nat} {A : Option Addr} {l : List LLook} {css : List (List Value)} (h : Elems 34 EL w B l css) (hs : Sees w B A (n * 34) css.flatten) (hn : l.length = n) : LooksIn w B A n l := by
  subst hn
  refine ⟨rfl, fun i x hx => ?_⟩
  obtain ⟨a, y, cs, e1, e2, e3, _, ⟨va, vd, rfl, f2, f3, f4⟩, _, e5, _⟩ := h.get hs (k := i) (List.getElem?_eq_some_iff.1 hx).1 (by omega)
  rw [hx] at e3
  obtain rfl := Option.some.inj e3
  exact ⟨a, va, vd, e1, e2, fun j u hu => by rw [← addr_add]; exact e5 j u hu, f2, f3, f4⟩
end Go.Proofs.Ytdbcbjjomhbhpaa
