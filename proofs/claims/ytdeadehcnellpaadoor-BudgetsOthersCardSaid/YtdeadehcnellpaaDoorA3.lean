/-
  Parts joined: TwinMsg.
-/
import Derived.Below
import Derived.Laws.OwnMore
import Derived.Deep.AppendLies
import Derived.Deep.Draws
import Derived.Lib.Hide
import Derived.Laws.MakeOwn
import Derived.Laws.CopyOwn
import Derived.Laws.Rows
import Derived.Maps.AppendAt
import Derived.OwnWalk
import Derived.Laws.BitsAllLaws
import Derived.WalkKit
import Derived.Test.YtdeadehcnellpaaDoorRows
import Derived.WalkSpells
import Derived.WalkLawsBesides
import Derived.IntWalk
import Derived.Deep.MidRow
import Derived.Deep.WholeRow
import Derived.Great.BuildSlice
import Derived.Recover
import Derived.Deep.RegionHeld
import Derived.Deep.QuietTactic
import Derived.BigQuiet
import Derived.ChangeKeysEq
import Derived.Deep.RegionHeld2
import Derived.Deep.CutBlock
import Derived.Laws.Tables
import Derived.ProofKit
import Derived.OpenShut
import Derived.ShutString
import Derived.ChangeOld
import Derived.Lib.SmallJoins
import Derived.Deep.Slices
import Derived.Deep.Strs
import Derived.SizedLaws
import Derived.Laws.StructEq
import Derived.Deep.DeepCutAuto
import Derived.Test.YtdeadehcnellpaaDoorA1
import Derived.Test.YtdeadehcnellpaaDoorA2
/-
  Of part TwinMsg: what is needed here.
-/
namespace Go.Proofs.YtdeadehcnellpaaDoor
open Go.RowKit
set_option linter.unusedVariables false
/-- a twin of bytes, in the blocks from lo to hi -/
structure TwB (w : World) (lo hi : Nat) (v : Value) (l : List Int) : Prop where
  len : l.length ≤ 65535
  is : ∃ g, v = .slice (some ⟨g, 0, none⟩) l.length (l.length + 3) ∧ lo ≤ g ∧ g < hi ∧ Row w g 5 (bv (l ++ List.replicate 3 165))
def InT (w : World) (lo hi : Nat) (cs : List Value) (x : LIn) : Prop := ∃ va vd mid, cs = inCells x.p va vd ∧ lo ≤ mid ∧ mid ≤ hi ∧ TwB w lo mid va x.acc ∧ TwB w mid hi vd x.dat
def LookT (w : World) (lo hi : Nat) (cs : List Value) (x : LLook) : Prop := ∃ va vd mid, cs = bv x.tab ++ [va, vd] ∧ x.tab.length = 32 ∧ lo ≤ mid ∧ mid ≤ hi ∧ TwB w lo mid va x.wr ∧ TwB w mid hi vd x.rd
theorem TwB.stay {w w' : World} {lo hi : Nat} {v : Value} {l : List Int} (h : TwB w lo hi v l) (hk : ∀ k, lo ≤ k → k < hi → w'.heap[k]? = w.heap[k]?) : TwB w' lo hi v l := by
  obtain ⟨h0, g, h1, h2, h3, h4⟩ := h
  exact ⟨h0, g, h1, h2, h3, ⟨(hk g h2 h3).trans h4.is⟩⟩
theorem TwB.more {w : World} {lo hi lo' hi' : Nat} {v : Value} {l : List Int} (h : TwB w lo hi v l) (hl : lo' ≤ lo) (hh : hi ≤ hi') : TwB w lo' hi' v l := by
  obtain ⟨h0, g, h1, h2, h3, h4⟩ := h
  exact ⟨h0, g, h1, by omega, by omega, h4⟩
theorem TwB.own {w : World} {lo hi : Nat} {v : Value} {l : List Int} (h : TwB w lo hi v l) : OwnR w lo hi v l := by
  obtain ⟨h0, g, rfl, h2, h3, h4⟩ := h
  refine ⟨⟨by simp [bv_length], .inr ⟨g, _, _, rfl, h2, h4.is, by omega, by unfold maxLen; omega, by simp [bv_length], ?_⟩⟩, fun k hk => ?_, h0⟩
  · simp only [Nat.mul_one]
    rw [bv_append, List.take_left' (bv_length _)]
  · cases hk
    exact h3
theorem TwB.one {w : World} {lo hi : Nat} {v : Value} {l : List Int} (h : TwB w lo hi v l) : v.oneCell' = true := by
  obtain ⟨_, _, rfl, _⟩ := h
  rfl
theorem InT.inV {w : World} {lo hi : Nat} {cs : List Value} {x : LIn} (h : InT w lo hi cs x) : InV w lo hi cs x := by
  obtain ⟨va, vd, mid, h1, h2, h3, h4, h5⟩ := h
  exact ⟨va, vd, mid, h1, h2, h3, h4.own, h5.own⟩
theorem LookT.lookV {w : World} {lo hi : Nat} {cs : List Value} {x : LLook} (h : LookT w lo hi cs x) : LookV w lo hi cs x := by
  obtain ⟨va, vd, mid, h1, h2, h3, h4, h5, h6⟩ := h
  exact ⟨va, vd, mid, h1, h2, h3, h4, h5.own, h6.own⟩
theorem stays_inT : Stays InT := by
  rintro w w' lo hi cs x hk ⟨va, vd, mid, h1, h2, h3, h4, h5⟩
  exact ⟨va, vd, mid, h1, h2, h3, h4.stay fun k a b => hk k a (by omega), h5.stay fun k a b => hk k (by omega) b⟩
theorem stays_lookT : Stays LookT := by
  rintro w w' lo hi cs x hk ⟨va, vd, mid, h1, h0, h2, h3, h4, h5⟩
  exact ⟨va, vd, mid, h1, h0, h2, h3, h4.stay fun k a b => hk k a (by omega), h5.stay fun k a b => hk k (by omega) b⟩
theorem LVR.imp {α : Type} {EV EV' : World → Nat → Nat → List Value → α → Prop} {e size : Nat} {w : World} {lo hi : Nat} {v : Value} {l : List α} (h : LVR EV e size w lo hi v l) (hi' : ∀ w lo hi cs x, EV w lo hi cs x → EV' w lo hi cs x) : LVR EV' e size w lo hi v l := by
  obtain ⟨w0, css, L, R, h1, h2⟩ := h
  exact ⟨w0, css, L, R, ⟨h1.own, h1.len, h1.rise, fun i cs x hx hy => by
    obtain ⟨a, b, c, d, e⟩ := h1.each i cs x hx hy
    exact ⟨a, b, c, hi' _ _ _ _ _ d, e⟩⟩, h2⟩
/-- keys that stand in a row of one's own, as a list of the call's own -/
theorem keys_lvr {w : World} {g n c lo : Nat} {l : List (List Int)} {ys : List Value} (hr : Row w g 48 (bv l.flatten ++ ys)) (hn : l.length = n) (h32 : ∀ k ∈ l, k.length = 32) (hlo : lo ≤ g) (hnc : n ≤ c) (hc : c ≤ maxLen) (hl : n * 32 + ys.length = c * 32) :
    LVR KeyV 48 32 w lo w.heap.size (.slice (some ⟨g, 0, none⟩) n c) l := by
  have hf : (bv l.flatten).length = n * 32 := by rw [bv_length, flatten_len l h32, hn]
  have hfl : (l.map bv).flatten = bv l.flatten := by
    unfold bv cv
    rw [List.map_flatten]
  refine LVR.of (css := l.map bv) (L := fun _ => w.heap.size) (R := fun _ => w.heap.size) ⟨?_, by simp, fun _ _ => Nat.le_refl _, fun i cs x hi hx => ?_⟩
  · rw [hn]
    refine ⟨by rw [hfl, hf], .inr ⟨g, c, _, rfl, hlo, hr.is, hnc, hc, by simp [hf, hl], ?_⟩⟩
    simp only []
    rw [hfl, List.take_left' hf]
  · rw [List.getElem?_map, hx] at hi
    cases hi
    have := hr.lt
    refine ⟨by omega, Nat.le_refl _, Nat.le_refl _, ⟨rfl, h32 x (List.mem_of_getElem? hx)⟩, fun g' hg' => ?_⟩
    cases hg'
    exact .inl this
theorem built_in (p : Int) (A1 A2 : Option Addr) (n1 c1 n2 c2 : Nat) : Tryd.prog.built 45 [(0, .int .u8 p), (1, .slice A1 n1 c1), (2, .slice A2 n2 c2)] = some (inCells p (.slice A1 n1 c1) (.slice A2 n2 c2)).toArray := by kernel_rfl
/-- what stays while an element's twin is made -/
structure TwS (mb : Nat) (a : Addr) (k n ic : Nat) (p : Int) (v1 v2 : Value) (w : World) : Prop where
  c : w.cell? ⟨mb, 37, none⟩ = some (.slice (some a) n ic)
  c0 : w.cell? (a.add (k * 3)) = some (.int .u8 p)
  c1 : w.cell? ⟨(a.add (k * 3)).block, (a.add (k * 3)).off + 1, none⟩ = some v1
  c2 : w.cell? ⟨(a.add (k * 3)).block, (a.add (k * 3)).off + 2, none⟩ = some v2
theorem TwS.keep {mb k n ic B : Nat} {a : Addr} {p : Int} {v1 v2 : Value} {w w' : World} (h : TwS mb a k n ic p v1 v2 w) (hm : mb < B) (ha : a.block < B) (hb : Below B w w') : TwS mb a k n ic p v1 v2 w' :=
  have h' : (a.add (k * 3)).block < B := by rw [addr_block]; exact ha
  ⟨(hb.cell (p := ⟨mb, 37, none⟩) hm).trans h.c, (hb.cell h').trans h.c0, (hb.cell (p := ⟨(a.add (k * 3)).block, (a.add (k * 3)).off + 1, none⟩) h').trans h.c1, (hb.cell (p := ⟨(a.add (k * 3)).block, (a.add (k * 3)).off + 2, none⟩) h').trans h.c2⟩
theorem TwS.far {mb k n ic g o : Nat} {a : Addr} {p : Int} {v1 v2 u : Value} {w : World} (h : TwS mb a k n ic p v1 v2 w) (hm : g ≠ mb) (ha : g ≠ a.block) : TwS mb a k n ic p v1 v2 (w.setCell ⟨g, o, none⟩ u) :=
  have h' : g ≠ (a.add (k * 3)).block := by rw [addr_block]; exact ha
  ⟨(World.cell?_setCell_far w ⟨g, o, none⟩ ⟨mb, 37, none⟩ u hm).trans h.c, (World.cell?_setCell_far w ⟨g, o, none⟩ (a.add (k * 3)) u h').trans h.c0, (World.cell?_setCell_far w ⟨g, o, none⟩ ⟨(a.add (k * 3)).block, (a.add (k * 3)).off + 1, none⟩ u h').trans h.c1, (World.cell?_setCell_far w ⟨g, o, none⟩ ⟨(a.add (k * 3)).block, (a.add (k * 3)).off + 2, none⟩ u h').trans h.c2⟩
/-- a load of many cells yields them -/
theorem exec_load_at {P : Program} {a : Act} {o : Oper} (w : World) (ty : TypeId) (x : Operand) (ho : o.op = .load ty x) (p : Addr) (cs : List Value) (d : TypeDesc) (hu : P.underlying ty = some d) (hd : d.isRow = true) (hi : (P.info? ty).map (·.size) = some cs.length)
    (hc : ∀ j v, cs[j]? = some v → w.cell? (p.add j) = some v) (hx : a.eval x = .pointer (some p)) : (execOp a.eval o).run P w = .ok (.value (.agg cs.toArray)) w := by
  unfold execOp
  simp only [ho, hx, Sem.run_bind, Sem.run_pure, run_loadAt_at w p ty cs d hc hu hd hi, Result.andThen_ok]
theorem built_look3 (l : List Value) (hl : l.length = 32) (A1 A2 : Option Addr) (n1 c1 n2 c2 : Nat) : Tryd.prog.built 52 [(0, .agg l.toArray), (1, .slice A1 n1 c1), (2, .slice A2 n2 c2)] = some (l ++ [Value.slice A1 n1 c1, .slice A2 n2 c2]).toArray := by
  obtain ⟨f, rfl⟩ : ∃ f : Fin 32 → Value, l = List.ofFn f := ⟨fun i => l.getD i undef, by
    refine List.ext_getElem (by simpa using hl) fun i h1 h2 => ?_
    rw [List.getElem_ofFn, List.getD_eq_getElem?_getD, List.getElem?_eq_getElem h1]
    rfl⟩
  kernel_rfl
section
variable {w : World} {B k : Nat} {a : Addr} {x : LLook} {va vd : Value}
theorem LookAt.tab0 (h : LookAt w B a k x va vd) : ∀ j u, (bv x.tab)[j]? = some u → w.cell? ((a.add (k * 34)).add j) = some u := fun j u hu =>
  h.cells j u (by rw [List.getElem?_append_left (List.getElem?_eq_some_iff.1 hu).1]; exact hu)
theorem LookAt.cell32 (h : LookAt w B a k x va vd) : w.cell? ⟨(a.add (k * 34)).block, (a.add (k * 34)).off + 32, none⟩ = some va :=
  h.cells 32 va (by rw [List.getElem?_append_right (by rw [bv_length, h.len]; exact Nat.le_refl _), bv_length, h.len]; rfl)
theorem LookAt.cell33 (h : LookAt w B a k x va vd) : w.cell? ⟨(a.add (k * 34)).block, (a.add (k * 34)).off + 33, none⟩ = some vd :=
  h.cells 33 vd (by rw [List.getElem?_append_right (by rw [bv_length, h.len]; omega), bv_length, h.len]; rfl)
end
theorem LookAt.keep {w w' : World} {B k : Nat} {a : Addr} {x : LLook} {va vd : Value} (h : LookAt w B a k x va vd) (ha : a.block < B) (hk : ∀ p : Addr, p.block < B → w'.cell? p = w.cell? p) : LookAt w' B a k x va vd :=
  ⟨fun j u hu => (hk _ (by rw [addr_block, addr_block]; exact ha)).trans (h.cells j u hu), h.len, h.wr.keep hk, h.rd.keep hk⟩
/-- what stays while a lookup's twin is made -/
structure TwL (mb : Nat) (a : Addr) (k n ic : Nat) (tb : List Int) (v1 v2 : Value) (w : World) : Prop where
  c : w.cell? ⟨mb, 38, none⟩ = some (.slice (some a) n ic)
  tab : ∀ j u, (bv tb)[j]? = some u → w.cell? ((a.add (k * 34)).add j) = some u
  c1 : w.cell? ⟨(a.add (k * 34)).block, (a.add (k * 34)).off + 32, none⟩ = some v1
  c2 : w.cell? ⟨(a.add (k * 34)).block, (a.add (k * 34)).off + 33, none⟩ = some v2
theorem TwL.keep {mb k n ic B : Nat} {a : Addr} {p : List Int} {v1 v2 : Value} {w w' : World} (h : TwL mb a k n ic p v1 v2 w) (hm : mb < B) (ha : a.block < B) (hb : Below B w w') : TwL mb a k n ic p v1 v2 w' :=
  have h' : (a.add (k * 34)).block < B := by rw [addr_block]; exact ha
  ⟨(hb.cell (p := ⟨mb, 38, none⟩) hm).trans h.c, fun j u hu => (hb.cell (p := (a.add (k * 34)).add j) (by rw [addr_block]; exact h')).trans (h.tab j u hu), (hb.cell (p := ⟨(a.add (k * 34)).block, (a.add (k * 34)).off + 32, none⟩) h').trans h.c1, (hb.cell (p := ⟨(a.add (k * 34)).block, (a.add (k * 34)).off + 33, none⟩) h').trans h.c2⟩
theorem TwL.far {mb k n ic g o : Nat} {a : Addr} {p : List Int} {v1 v2 u : Value} {w : World} (h : TwL mb a k n ic p v1 v2 w) (hm : g ≠ mb) (ha : g ≠ a.block) : TwL mb a k n ic p v1 v2 (w.setCell ⟨g, o, none⟩ u) :=
  have h' : g ≠ (a.add (k * 34)).block := by rw [addr_block]; exact ha
  ⟨(World.cell?_setCell_far w ⟨g, o, none⟩ ⟨mb, 38, none⟩ u hm).trans h.c, fun j v hv => (World.cell?_setCell_far w ⟨g, o, none⟩ ((a.add (k * 34)).add j) u (by rw [addr_block]; exact h')).trans (h.tab j v hv), (World.cell?_setCell_far w ⟨g, o, none⟩ ⟨(a.add (k * 34)).block, (a.add (k * 34)).off + 32, none⟩ u h').trans h.c1, (World.cell?_setCell_far w ⟨g, o, none⟩ ⟨(a.add (k * 34)).block, (a.add (k * 34)).off + 33, none⟩ u h').trans h.c2⟩
/-- what TwinMessage leaves -/
def TwinDone (w : World) (q : Raw) (m : LMsg) (e : Ending) (w' : World) : Prop :=
  ∃ (gk : Nat) (q' : Raw) (a1 b1 b2 : Nat), e = .returned (.agg (q'.cells m).toArray) ∧ q'.KA = some ⟨gk, 0, none⟩ ∧ q'.kn = q.kn ∧ q'.kc = q.kn + 3 ∧ w.heap.size ≤ gk ∧ gk < a1 ∧ Row w' gk 48 (bv m.keys.flatten ++ keyRow 3 mk0) ∧
    a1 ≤ b1 ∧ b1 ≤ b2 ∧ b2 ≤ w'.heap.size ∧ LVR KeyV 48 32 w' gk a1 (.slice q'.KA q'.kn q'.kc) m.keys ∧ LVR InT 45 3 w' a1 b1 (.slice q'.IA q'.n q'.ic) m.ins ∧ LVR LookT 52 34 w' b1 b2 (.slice q'.LA q'.ln q'.lc) m.looks ∧ Below w.heap.size w w'
/-- three of a message's lists are set -/
theorem three_sets {w : World} {g t : Nat} {v0 : Bool} {s r o : Int} {K I L : Value} {h : List Int} (hr : Row w g t (mcells v0 s r o K h I L)) (hl : h.length = 32) (x y z : Value) :
    Row (((w.setCell ⟨g, 4, none⟩ x).setCell ⟨g, 37, none⟩ y).setCell ⟨g, 38, none⟩ z) g t (mcells v0 s r o x h y z) ∧ But g w (((w.setCell ⟨g, 4, none⟩ x).setCell ⟨g, 37, none⟩ y).setCell ⟨g, 38, none⟩ z) ∧ (((w.setCell ⟨g, 4, none⟩ x).setCell ⟨g, 37, none⟩ y).setCell ⟨g, 38, none⟩ z).heap.size = w.heap.size := by
  have h1 := turned_setCell w ⟨g, 4, none⟩ x
  have h2 := turned_setCell (w.setCell ⟨g, 4, none⟩ x) ⟨g, 37, none⟩ y
  have h3 := turned_setCell ((w.setCell ⟨g, 4, none⟩ x).setCell ⟨g, 37, none⟩ y) ⟨g, 38, none⟩ z
  exact ⟨mset38 (mset37 (mset4 hr x) hl y) hl z, ((But.of_turned h1).trans (But.of_turned h2)).trans (But.of_turned h3), by rw [h3.size, h2.size, h1.size]⟩
set_option maxRecDepth 100000 in
set_option maxHeartbeats 400000 in
theorem twinMessage (q : Raw) (m : LMsg) (B : Nat) (w : World) (hm : MsgIn w B q m) (hB : B ≤ w.heap.size)
    (hk : m.keys.length ≤ 65535) (hi : m.ins.length ≤ 65535) (hl : m.looks.length ≤ 65535) (hix : ∀ i ∈ m.ins, i.acc.length ≤ 65535 ∧ i.dat.length ≤ 65535) (hlx : ∀ l ∈ m.looks, l.wr.length ≤ 65535 ∧ l.rd.length ≤ 65535) :
    Calls Tryd.prog 9 #[.agg (q.cells m).toArray] w (TwinDone w q m) := by
  obtain ⟨KA, kn, kc, IA, n, ic, LA, ln, lc⟩ := q
  have hrow := Row.new w 30 (Raw.cells ⟨KA, kn, kc, IA, n, ic, LA, ln, lc⟩ m)
  have hb0 := (Below.refl w.heap.size w).alloc (Nat.le_refl _) (.cells (Raw.cells ⟨KA, kn, kc, IA, n, ic, LA, ln, lc⟩ m).toArray 30)
  have hlen := cells_len (q := ⟨KA, kn, kc, IA, n, ic, LA, ln, lc⟩) hm.recent
  have hmr := MsgRow.of hrow hm.recent
  have HCM := Lib.hid (cells_m ⟨KA, kn, kc, IA, n, ic, LA, ln, lc⟩ m)
  have HONE := Lib.hid (cells_one (q := ⟨KA, kn, kc, IA, n, ic, LA, ln, lc⟩) (m := m))
  obtain ⟨cs, hcs⟩ : ∃ cs, cs = Raw.cells ⟨KA, kn, kc, IA, n, ic, LA, ln, lc⟩ m := ⟨_, rfl⟩
  rw [← hcs] at hrow hb0 hlen hmr HCM HONE ⊢
  clear hcs
  have HSZ := Lib.hid (show (Tryd.prog.info? 30).map (·.size) = some cs.length by rw [size_msg, hlen])
  have HLEN := Lib.hid hlen
  have HROW := Lib.hid hrow
  have HMR := Lib.hid hmr
  have HM := Lib.hid hm
  have HB0 := Lib.hid hb0
  have HIX := Lib.hid (And.intro hix hlx)
  have k1 := hm.kn
  have k2 := hm.n
  have k3 := hm.ln
  have hkn := hm.keys.len
  have hin := hm.ins.len
  have hln := hm.looks.len
  dsimp only at k1 k2 k3 hkn hin hln
  have HNN := Lib.hid (And.intro hkn (And.intro hin hln))
  rw [hkn] at hk
  rw [hin] at hi
  rw [hln] at hl
  unfold maxLen at k1 k2 k3
  clear hlen hm hb0 hrow hmr hix hlx hkn hin hln
  go_enter Tryd.func9, Tryd.ntmps9
  go_upto_region 1 with fail
  change Code.wp _ _ _ _ ((w.alloc (.cells cs.toArray 30)).alloc (.cells mzero.toArray 30))
  have hr0 := Row.new (w.alloc (.cells cs.toArray 30)) 30 mzero
  have hz : ((w.alloc (.cells cs.toArray 30)).alloc (.cells mzero.toArray 30)).heap.size = w.heap.size + 2 := by simp
  have hb1 := HB0.out.alloc HB0.out.size (.cells mzero.toArray 30)
  have hrm := HROW.out.alloc (.cells mzero.toArray 30)
  have hmr := HMR.out.keep (B := w.heap.size + 1) (by omega) ((Below.refl (w.heap.size + 1) (w.alloc (.cells cs.toArray 30))).alloc (by simp) (.cells mzero.toArray 30))
  rw [show (w.alloc (.cells cs.toArray 30)).heap.size = w.heap.size + 1 by simp] at hr0
  generalize ((w.alloc (.cells cs.toArray 30)).alloc (.cells mzero.toArray 30)) = W1 at *
  clear HROW HMR HB0
  have HR0 := Lib.hid hr0
  have HZ1 := Lib.hid hz
  have HB1 := Lib.hid hb1
  have HRM := Lib.hid hrm
  have HMR := Lib.hid hmr
  clear hr0 hz hb1 hrm hmr
  generalize hT : w.heap.size + 2 = tb at *
  have HT := Lib.hid hT
  clear hT
  go_wp2_with (first
    | ((with_reducible show wpList _ _ _ ({ dst := some 6, op := Op.load _ _, type := _, pos := _, after := _, guard := _ } :: _) _ _); go_must (refine wpList_load_whole rfl 30 (.tmp 1) rfl w.heap.size 30 cs _ Tryd.underlying30 rfl HSZ.out HRM.out ?_ ?_; go_simp))
    | ((with_reducible show wpList _ _ _ ({ dst := none, op := Op.store 30 _ _, type := _, pos := _, after := _, guard := _ } :: _) _ _); go_must (refine wpList_store_new rfl 30 (.tmp 3) (.tmp 6) rfl cs HSZ.out HONE.out (by rw [HLEN.out]; rfl) ?_ ?_ ?_; go_simp; go_simp; intro w2 hr2 hb2 hz2; have HR2 := Lib.hid hr2; have HB2 := Lib.hid hb2; have HZ2 := Lib.hid hz2; have c4 := (HMR.out.keep (by have := HZ1.out; have := HT.out; omega) hb2).c4; dsimp only at c4; clear hr2 hb2 hz2)))
  clear c4
  have HB02 : Hid (Below w.heap.size w w2) := Lib.hid (HB1.out.trans (HB2.out.mono HB1.out.size))
  have HG2 : Hid (w.heap.size + 1 < W1.heap.size ∧ W1.heap.size < w2.heap.size) := Lib.hid ⟨by have := HZ1.out; have := HT.out; omega, by have := HZ2.out; omega⟩
  have H32 := Lib.hid HM.out.recent
  refine (twinKeys KA kn kc m.keys w2 B (HM.out.keys.below (HB02.out.mono hB)) (by have := HB02.out.size; omega) (by omega)).mono ?_
  rintro e w3 ⟨gk, rfl, hgk, hrk, hb3⟩
  have hr3 : Row w3 W1.heap.size 30 (mcells m.v0 m.s m.r m.o (.slice KA kn kc) m.recent (.slice IA n ic) (.slice LA ln lc)) := by
    have := HR2.out.below hb3 HG2.out.2
    rwa [HCM.out] at this
  have HB03 : Hid (Below w.heap.size w w3) := Lib.hid (HB02.out.trans (hb3.mono HB02.out.size))
  have HRM3 := Lib.hid ((HMR.out.keep (B := W1.heap.size) (by have := HG2.out; omega) HB2.out).keep (B := w2.heap.size) (by have := HG2.out; omega) hb3)
  have HRZ3 := Lib.hid ((HR0.out.below HB2.out (by have := HG2.out; omega)).below hb3 (by have := HG2.out; omega))
  have c4 : w3.cell? ⟨W1.heap.size, 4, none⟩ = some (.slice KA kn kc) := hr3.cell 4
  have f4 := hr3.frozen 4
  have c37 := mc37 hr3 H32.out
  have f37 := hr3.frozen 37
  have c38 := mc38 hr3 H32.out
  have f38 := hr3.frozen 38
  have HR3 := Lib.hid hr3
  have HRK := Lib.hid hrk
  have HGK := Lib.hid (And.intro hgk (And.intro hrk.lt hb3.size))
  clear hr3 hrk hgk hb3 HR2 HMR HR0 HRM HB2 HB1
  go_wp2_with fail
  clear c4 f4 c37 f37 c38 f38
  have h3s := three_sets HR3.out H32.out (.slice (some ⟨gk, 0, none⟩) kn (kn + 3)) (.slice none 0 0) (.slice none 0 0)
  obtain ⟨W5, hW5⟩ : ∃ W5, W5 = ((w3.setCell ⟨W1.heap.size, 4, none⟩ (.slice (some ⟨gk, 0, none⟩) kn (kn + 3))).setCell ⟨W1.heap.size, 37, none⟩ (.slice none 0 0)).setCell ⟨W1.heap.size, 38, none⟩ (.slice none 0 0) := ⟨_, rfl⟩
  rw [← hW5] at h3s ⊢
  clear hW5
  obtain ⟨hr5, ht5, hz5⟩ := h3s
  clear HR3
  have HB5 : Hid (Below w.heap.size w W5) := Lib.hid (HB03.out.trans (ht5.below (by have := HG2.out; omega) HB03.out.size))
  have HM5 := Lib.hid (HM.out.below (HB5.out.mono hB))
  have HRM5 : Hid (W5.cell? ⟨w.heap.size, 37, none⟩ = some (.slice IA n ic) ∧ W5.cell? ⟨w.heap.size, 38, none⟩ = some (.slice LA ln lc)) := Lib.hid ⟨(World.cell?_of_block (ht5.block w.heap.size (by have := HG2.out; have := HGK.out; omega) (by have := HG2.out; omega))).trans HRM3.out.c37, (World.cell?_of_block (ht5.block w.heap.size (by have := HG2.out; have := HGK.out; omega) (by have := HG2.out; omega))).trans HRM3.out.c38⟩
  have HRZ5 := Lib.hid (ht5.row HRZ3.out (by have := HG2.out; omega))
  have HRK5 := Lib.hid (ht5.row HRK.out (by have := HG2.out; have := HGK.out; omega))
  have HR5 := Lib.hid hr5
  have HS5 : Hid (w.heap.size + 1 < W1.heap.size ∧ W1.heap.size < gk ∧ gk < W5.heap.size) := Lib.hid (by have := HG2.out; have := HGK.out; omega)
  clear hr5 ht5 hz5 HRM3 HRZ3 HRK HB03 HB02 HM
  generalize W1.heap.size = tb at *
  clear HG2 HGK HZ1 HZ2
  have HOW0 := Lib.hid (World.ownsRow_nil W5 W5.heap.size 45 3)
  go_loopw [4] (fun i wr => ∃ (k : Nat) (V : Value) (css : List (List Value)) (L R : Nat → Nat), k ≤ n ∧ i = .int .i64 k ∧ Row wr tb 30 (mcells m.v0 m.s m.r m.o (.slice (some ⟨gk, 0, none⟩) kn (kn + 3)) m.recent V (.slice none 0 0)) ∧ LV InT 45 3 wr W5.heap.size V (m.ins.take k) css L R ∧ But tb W5 wr) (fun i _ => n - (intOf i).toNat)
  case atStart => exact ⟨0, .slice none 0 0, [], fun _ => 0, fun _ => 0, Nat.zero_le _, rfl, HR5.out, LV.none HOW0.out, But.refl _ _⟩
  case round =>
  clear HR5 HOW0
  obtain ⟨k, V, css, L, R, hk, rfl, hr, hv, hb⟩ := hrel
  have HR := Lib.hid hr
  have HV := Lib.hid hv
  have HB := Lib.hid hb
  have c37 : wr.cell? ⟨w.heap.size, 37, none⟩ = some (.slice IA n ic) := (World.cell?_of_block (hb.block w.heap.size (by have := HS5.out; omega) (by have := HS5.out; omega))).trans HRM5.out.1
  clear hr hv hb
  by_cases hlt : k < n
  · obtain ⟨a, x, va, vd, rfl, hab, hx, hat⟩ := HM5.out.ins.get hlt
    replace hat := hat.keep hab fun p hp => World.cell?_of_block (HB.out.block p.block (by have := HS5.out; omega) (by have := HS5.out; omega))
    have hbe := HIX.out.1 x (List.mem_of_getElem? hx)
    obtain ⟨A1, c1, rfl, s1, _, _⟩ := hat.acc.is
    obtain ⟨A2, c2, rfl, s2, _, _⟩ := hat.dat.is
    have HS0 : Hid (TwS w.heap.size a k n ic x.p (.slice A1 x.acc.length c1) (.slice A2 x.dat.length c2) wr.drew) := Lib.hid ⟨c37, by
      have h := hat.cells 0 _ rfl
      rw [addr_add, Nat.add_zero] at h
      exact h, hat.cells 1 _ rfl, hat.cells 2 _ rfl⟩
    obtain ⟨A0, c0, hV⟩ := HV.out.form
    subst hV
    have HT0 : Hid (wr.drew.cell? ⟨tb, 37, none⟩ = some (.slice A0 (m.ins.take k).length c0)) := Lib.hid (mc37 HR.out.drew H32.out)
    have hki : (k : Int) < n := by omega
    have hk0 : (0 : Int) ≤ k := by omega
    have HX := Lib.hid hx
    have HBE := Lib.hid hbe
    have S2 := Lib.hid s2
    have HBW : Hid (B ≤ wr.drew.heap.size ∧ tb < wr.drew.heap.size ∧ w.heap.size < wr.drew.heap.size ∧ a.block < wr.drew.heap.size) := Lib.hid (by have := HB.out.size; have := HS5.out; show B ≤ wr.heap.size ∧ tb < wr.heap.size ∧ w.heap.size < wr.heap.size ∧ a.block < wr.heap.size; omega)
    have HC5 := Lib.hid (twinBytes A1 x.acc.length c1 x.acc wr.drew B s1.drew HBW.out.1 (by omega))
    clear hat s1 s2 hx hbe
    go_wp2_with fail
    refine wp_region_held (S := TwS w.heap.size a k n ic x.p (.slice A1 x.acc.length c1) (.slice A2 x.dat.length c2)) (by kernel_rfl) ?_
    try (change wpAnyH _ _ _ _ _ _ _ _ (World.drew _))
    refine takeL (i := 0) (v := ?_) rfl (by kernel_rfl) (by kernel_rfl) (by kernel_rfl) (fun _ _ _ h => h) (Or.inl ⟨by rfl, ?_⟩) HS0.out ?_
    rotate_left
    · intro w hw
      obtain ⟨q37, q0, q1, q2⟩ := hw
      go_simp
      try with_reducible rfl
    try simp only [Act.put, List.setIfInBounds_toArray, List.set_cons_zero, List.set_cons_succ]
    refine takeL (i := 2) (v := ?_) rfl (by kernel_rfl) (by kernel_rfl) (by kernel_rfl) (fun _ _ _ h => h) (Or.inl ⟨by rfl, ?_⟩) HS0.out ?_
    rotate_left
    · intro w hw
      obtain ⟨q37, q0, q1, q2⟩ := hw
      go_simp
      try with_reducible rfl
    try simp only [Act.put, List.setIfInBounds_toArray, List.set_cons_zero, List.set_cons_succ]
    refine takeL (i := 3) (v := ?_) rfl (by kernel_rfl) (by kernel_rfl) (by kernel_rfl) (fun _ _ _ h => h) (Or.inl ⟨by rfl, ?_⟩) HS0.out ?_
    rotate_left
    · intro w hw
      obtain ⟨q37, q0, q1, q2⟩ := hw
      go_simp
      try with_reducible rfl
    try simp only [Act.put, List.setIfInBounds_toArray, List.set_cons_zero, List.set_cons_succ]
    refine takeL (i := 4) (v := ?_) rfl (by kernel_rfl) (by kernel_rfl) (by kernel_rfl) (fun _ _ _ h => h) (Or.inl ⟨by rfl, ?_⟩) HS0.out ?_
    rotate_left
    · intro w hw
      obtain ⟨q37, q0, q1, q2⟩ := hw
      go_simp
      try with_reducible rfl
    try simp only [Act.put, List.setIfInBounds_toArray, List.set_cons_zero, List.set_cons_succ]
    refine takeL (i := 5) (v := ?_) rfl (by kernel_rfl) (by kernel_rfl) (by kernel_rfl) (fun _ _ _ h => h) (Or.inl ⟨by rfl, ?_⟩) HS0.out ?_
    rotate_left
    · intro w hw
      obtain ⟨q37, q0, q1, q2⟩ := hw
      go_simp
      try with_reducible rfl
    try simp only [Act.put, List.setIfInBounds_toArray, List.set_cons_zero, List.set_cons_succ]
    refine takeL (i := 6) (v := ?_) rfl (by kernel_rfl) (by kernel_rfl) (by kernel_rfl) (fun _ _ _ h => h) (Or.inl ⟨by rfl, ?_⟩) HS0.out ?_
    rotate_left
    · intro w hw
      obtain ⟨q37, q0, q1, q2⟩ := hw
      go_simp
      try with_reducible rfl
    try simp only [Act.put, List.setIfInBounds_toArray, List.set_cons_zero, List.set_cons_succ]
    refine takeL (i := 7) (v := ?_) rfl (by kernel_rfl) (by kernel_rfl) (by kernel_rfl) (fun _ _ _ h => h) (Or.inl ⟨by rfl, ?_⟩) HS0.out ?_
    rotate_left
    · intro w hw
      obtain ⟨q37, q0, q1, q2⟩ := hw
      go_simp
      try with_reducible rfl
    try simp only [Act.put, List.setIfInBounds_toArray, List.set_cons_zero, List.set_cons_succ]
    refine takeL (i := 8) (v := ?_) rfl (by kernel_rfl) (by kernel_rfl) (by kernel_rfl) (fun _ _ _ h => h) (Or.inl ⟨by rfl, ?_⟩) HS0.out ?_
    rotate_left
    · intro w hw
      obtain ⟨q37, q0, q1, q2⟩ := hw
      go_simp
      try with_reducible rfl
    try simp only [Act.put, List.setIfInBounds_toArray, List.set_cons_zero, List.set_cons_succ]
    refine takeL (i := 9) (v := ?_) rfl (by kernel_rfl) (by kernel_rfl) (by kernel_rfl) (fun _ _ _ h => h) (Or.inl ⟨by rfl, ?_⟩) HS0.out ?_
    rotate_left
    · intro w hw
      obtain ⟨q37, q0, q1, q2⟩ := hw
      go_simp
      try with_reducible rfl
    try simp only [Act.put, List.setIfInBounds_toArray, List.set_cons_zero, List.set_cons_succ]
    refine takeL (i := 10) (v := ?_) rfl (by kernel_rfl) (by kernel_rfl) (by kernel_rfl) (fun _ _ _ h => h) (Or.inl ⟨by rfl, ?_⟩) HS0.out ?_
    rotate_left
    · intro w hw
      obtain ⟨q37, q0, q1, q2⟩ := hw
      go_simp
      try with_reducible rfl
    try simp only [Act.put, List.setIfInBounds_toArray, List.set_cons_zero, List.set_cons_succ]
    refine takeL (i := 11) (v := ?_) rfl (by kernel_rfl) (by kernel_rfl) (by kernel_rfl) (fun _ _ _ h => h) (Or.inl ⟨by rfl, ?_⟩) HS0.out ?_
    rotate_left
    · intro w hw
      obtain ⟨q37, q0, q1, q2⟩ := hw
      go_simp
      try with_reducible rfl
    try simp only [Act.put, List.setIfInBounds_toArray, List.set_cons_zero, List.set_cons_succ]
    refine takeL (i := 12) (v := ?_) rfl (by kernel_rfl) (by kernel_rfl) (by kernel_rfl) (fun _ _ _ h => h) (Or.inl ⟨by rfl, ?_⟩) HS0.out ?_
    rotate_left
    · intro w hw
      obtain ⟨q37, q0, q1, q2⟩ := hw
      go_simp
      try with_reducible rfl
    try simp only [Act.put, List.setIfInBounds_toArray, List.set_cons_zero, List.set_cons_succ]
    refine takeL (i := 13) (v := ?_) rfl (by kernel_rfl) (by kernel_rfl) (by kernel_rfl) (fun _ _ _ h => h) (Or.inl ⟨by rfl, ?_⟩) HS0.out ?_
    rotate_left
    · intro w hw
      obtain ⟨q37, q0, q1, q2⟩ := hw
      go_simp
      try with_reducible rfl
    try simp only [Act.put, List.setIfInBounds_toArray, List.set_cons_zero, List.set_cons_succ]
    refine takeL (i := 15) (v := ?_) rfl (by kernel_rfl) (by kernel_rfl) (by kernel_rfl) (fun _ _ _ h => h) (Or.inl ⟨by rfl, ?_⟩) HS0.out ?_
    rotate_left
    · intro w hw
      obtain ⟨q37, q0, q1, q2⟩ := hw
      go_simp
      try with_reducible rfl
    try simp only [Act.put, List.setIfInBounds_toArray, List.set_cons_zero, List.set_cons_succ]
    refine takeL (i := 16) (v := ?_) rfl (by kernel_rfl) (by kernel_rfl) (by kernel_rfl) (fun _ _ _ h => h) (Or.inl ⟨by rfl, ?_⟩) HS0.out ?_
    rotate_left
    · intro w hw
      obtain ⟨q37, q0, q1, q2⟩ := hw
      go_simp
      try with_reducible rfl
    try simp only [Act.put, List.setIfInBounds_toArray, List.set_cons_zero, List.set_cons_succ]
    refine takeL (i := 17) (v := ?_) rfl (by kernel_rfl) (by kernel_rfl) (by kernel_rfl) (fun _ _ _ h => h) (Or.inl ⟨by rfl, ?_⟩) HS0.out ?_
    rotate_left
    · intro w hw
      obtain ⟨q37, q0, q1, q2⟩ := hw
      go_simp
      try with_reducible rfl
    try simp only [Act.put, List.setIfInBounds_toArray, List.set_cons_zero, List.set_cons_succ]
    refine takeL (i := 18) (v := ?_) rfl (by kernel_rfl) (by kernel_rfl) (by kernel_rfl) (fun _ _ _ h => h) (Or.inl ⟨by rfl, ?_⟩) HS0.out ?_
    rotate_left
    · intro w hw
      obtain ⟨q37, q0, q1, q2⟩ := hw
      go_simp
      try with_reducible rfl
    try simp only [Act.put, List.setIfInBounds_toArray, List.set_cons_zero, List.set_cons_succ]
    refine takeL (i := 19) (v := ?_) rfl (by kernel_rfl) (by kernel_rfl) (by kernel_rfl) (fun _ _ _ h => h) (Or.inl ⟨by rfl, ?_⟩) HS0.out ?_
    rotate_left
    · intro w hw
      obtain ⟨q37, q0, q1, q2⟩ := hw
      go_simp
      try with_reducible rfl
    try simp only [Act.put, List.setIfInBounds_toArray, List.set_cons_zero, List.set_cons_succ]
    refine takeL (i := 20) (v := ?_) rfl (by kernel_rfl) (by kernel_rfl) (by kernel_rfl) (fun _ _ _ h => h) (Or.inl ⟨by rfl, ?_⟩) HS0.out ?_
    rotate_left
    · intro w hw
      obtain ⟨q37, q0, q1, q2⟩ := hw
      go_simp
      try with_reducible rfl
    try simp only [Act.put, List.setIfInBounds_toArray, List.set_cons_zero, List.set_cons_succ]
    refine wpAnyH_ready (rs := [1, 14]) (by kernel_rfl) (by simp) ?_
    refine allL rfl (by kernel_rfl) (fun K hK => ?_) (allL rfl (by kernel_rfl) (fun K hK => ?_) (AllReadyH.nil))
    · have c37 := HT0.out
      go_simp
      clear c37
      refine hK _ _ HS0.out ?_
      clear hK K
      try simp only [Act.put, List.setIfInBounds_toArray, List.set_cons_zero, List.set_cons_succ]
      refine readyL (i := 14) rfl (by kernel_rfl) (by kernel_rfl) fun K hK => ?_
      go_simp
      refine HC5.out.mono ?_
      rintro e w6 ⟨g1, rfl, hg1, hr1, hb6⟩
      have HB6 := Lib.hid hb6
      have HR61 := Lib.hid hr1
      have HS6 := Lib.hid (HS0.out.keep HBW.out.2.2.1 HBW.out.2.2.2 hb6)
      have HT6 := Lib.hid ((hb6.cell (p := ⟨tb, 37, none⟩) HBW.out.2.1).trans HT0.out)
      have HG1 := Lib.hid hg1
      have HC6 := Lib.hid (twinBytes A2 x.dat.length c2 x.dat w6 B (S2.out.drew.below (hb6.mono HBW.out.1)) (Nat.le_trans HBW.out.1 hb6.size) (by have := HBE.out; omega))
      clear hr1 hb6 hg1
      simp only []
      refine hK _ _ HS6.out ?_
      clear hK K
      try simp only [Act.put, List.setIfInBounds_toArray, List.set_cons_zero, List.set_cons_succ]
      refine readyL (i := 21) rfl (by kernel_rfl) (by kernel_rfl) fun K hK => ?_
      go_simp
      refine HC6.out.mono ?_
      rintro e w7 ⟨g2, rfl, hg2, hr2, hb7⟩
      have hb67 := HB6.out.trans (hb7.mono HB6.out.size)
      have HB7 := Lib.hid hb67
      have HS7 := Lib.hid (HS0.out.keep HBW.out.2.2.1 HBW.out.2.2.2 hb67)
      have HT7 := Lib.hid ((hb67.cell (p := ⟨tb, 37, none⟩) HBW.out.2.1).trans HT0.out)
      have HR71 := Lib.hid (HR61.out.below hb7 HR61.out.lt)
      have HR72 := Lib.hid hr2
      have HG12 := Lib.hid (And.intro HG1.out (And.intro HR61.out.lt (And.intro hg2 hr2.lt)))
      clear hr2 hb7 hb67 hg2
      simp only []
      refine hK _ _ HS7.out ?_
      clear hK K
      try simp only [Act.put, List.setIfInBounds_toArray, List.set_cons_zero, List.set_cons_succ]
      have HOW := Lib.hid (own_below (w := wr.drew) (w' := w7) HV.out.own HB7.out)
      have HON : Hid (∀ u ∈ (inCells x.p (.slice (some ⟨g1, 0, none⟩) x.acc.length (x.acc.length + 3)) (.slice (some ⟨g2, 0, none⟩) x.dat.length (x.dat.length + 3))), u.oneCell' = true) := Lib.hid (by simp [inCells, Value.oneCell'])
      have HLW : Hid (W5.heap.size ≤ w7.heap.size ∧ (m.ins.take k).length ≤ 65535) := Lib.hid ⟨Nat.le_trans HB.out.size HB7.out.size, by rw [List.length_take]; omega⟩
      have HLT7 : Hid (w.heap.size < w7.heap.size ∧ a.block < w7.heap.size) := Lib.hid (by have := HLW.out.1; have := HS5.out; omega)
      refine takeL (i := 22) (v := .agg (inCells x.p (.slice (some ⟨g1, 0, none⟩) x.acc.length (x.acc.length + 3)) (.slice (some ⟨g2, 0, none⟩) x.dat.length (x.dat.length + 3))).toArray) rfl (by kernel_rfl) (by kernel_rfl) (by kernel_rfl) (fun _ _ _ h => h) (Or.inl ⟨by rfl, fun w _ => exec_built w _ _ _ rfl (by simp only [List.map_toArray, List.map_cons, List.map_nil]; exact built_in _ _ _ _ _ _ _)⟩) HS7.out ?_
      try simp only [Act.put, List.setIfInBounds_toArray, List.set_cons_zero, List.set_cons_succ]
      refine readyL (i := 23) rfl (by kernel_rfl) (by kernel_rfl) fun K hK => ?_
      refine wp_buildOne 27 45 (.tmp 42) rfl (inCells x.p (.slice (some ⟨g1, 0, none⟩) x.acc.length (x.acc.length + 3)) (.slice (some ⟨g2, 0, none⟩) x.dat.length (x.dat.length + 3))) _ 3 56 Tryd.underlying27 info_in zsz_in (by omega) (by omega) rfl ?_ ?_
      · go_simp
      refine hK _ _ (HS7.out.keep HLT7.out.1 HLT7.out.2 ((Below.refl _ _).alloc (Nat.le_refl _) _)) ?_
      clear hK K
      try simp only [Act.put, List.setIfInBounds_toArray, List.set_cons_zero, List.set_cons_succ]
      refine readyL (i := 24) rfl (by kernel_rfl) (by kernel_rfl) fun K hK => ?_
      refine wp_addRow (.tmp 21) (.tmp 43) 27 rfl W5.heap.size 45 _ 3 56 Tryd.underlying27 info_in zsz_in (by omega) (.slice A0 (m.ins.take k).length c0) (m.ins.take k).length css.flatten (inCells x.p (.slice (some ⟨g1, 0, none⟩) x.acc.length (x.acc.length + 3)) (.slice (some ⟨g2, 0, none⟩) x.dat.length (x.dat.length + 3))) 1 rfl HON.out rfl ?_ HOW.out ?_ HLW.out.1 (by have := HLW.out.2; unfold maxLen; omega) (by have := HLW.out.2; omega) ?_
      · go_simp
      · go_simp
      intro v8 w8 ho8 hg8
      obtain ⟨A8, c8, rfl⟩ := own_formN ho8
      have hb8 := hg8.below HOW.out HLW.out.1
      have HG8 := Lib.hid hg8
      have HO8 := Lib.hid ho8
      have HR8 := Lib.hid ((HR.out.drew.below HB7.out HBW.out.2.1).below hb8 (by have := HS5.out; omega))
      have HS8 := Lib.hid (HS7.out.keep (by have := HS5.out; omega) (by have := HS5.out; omega) hb8)
      have e8 := mc37 HR8.out H32.out
      have f8 := HR8.out.frozen 37
      clear ho8 hg8
      refine hK _ _ HS8.out ?_
      clear hK K
      try simp only [Act.put, List.setIfInBounds_toArray, List.set_cons_zero, List.set_cons_succ]
      refine takeL (i := 25) (v := ?_) rfl (by kernel_rfl) (by kernel_rfl) (by kernel_rfl) (fun _ _ _ h => h) (Or.inl ⟨by rfl, ?_⟩) HS8.out ?_
      rotate_left
      · intro w hw
        obtain ⟨q37, q0, q1, q2⟩ := hw
        go_simp
        try with_reducible rfl
      try simp only [Act.put, List.setIfInBounds_toArray, List.set_cons_zero, List.set_cons_succ]
      refine readyL (i := 26) rfl (by kernel_rfl) (by kernel_rfl) fun K hK => ?_
      go_simp
      refine hK _ _ (HS8.out.far (by have := HS5.out; omega) (by have := HS5.out; omega)) ?_
      clear hK K e8 f8
      try simp only [Act.put, List.setIfInBounds_toArray, List.set_cons_zero, List.set_cons_succ]
      refine wpAnyH_done (by kernel_rfl) ?_ _
      go_wp2_with fail
      go_roundw
      case rel =>
        have hz6 : wr.heap.size ≤ w6.heap.size := HB6.out.size
        have hz7 : wr.heap.size ≤ w7.heap.size := HB7.out.size
        have hg12 := HG12.out
        have hev : InT w7 wr.heap.size w7.heap.size (inCells x.p (.slice (some ⟨g1, 0, none⟩) x.acc.length (x.acc.length + 3)) (.slice (some ⟨g2, 0, none⟩) x.dat.length (x.dat.length + 3))) x := by
          refine ⟨_, _, w6.heap.size, rfl, hz6, by omega, ⟨HBE.out.1, g1, rfl, hg12.1, hg12.2.1, HR71.out⟩, ⟨HBE.out.2, g2, rfl, hg12.2.2.1, hg12.2.2.2, HR72.out⟩⟩
        have hbw : But tb wr w7 := (But.refl tb wr).drew.trans (But.of_below HB7.out tb)
        have hlv := HV.out.snoc stays_inT hbw (by have := HS5.out; omega) HB.out.size hev HG8.out HO8.out
        have htk : m.ins.take k ++ [x] = m.ins.take (k + 1) := by rw [List.take_add_one, HX.out]; rfl
        rw [htk] at hlv
        have hT := turned_setCell w8 ⟨tb, 37, none⟩ (.slice A8 ((m.ins.take k).length + 1) c8)
        have hbt := (But.grewV HG8.out HOW.out W5 (HB.out.trans hbw) (Nat.le_refl _)).trans (But.of_turned hT)
        have hr9 := mset37 HR8.out H32.out (.slice A8 ((m.ins.take k).length + 1) c8)
        rw [← List.length_take]
        exact ⟨k + 1, _, _, _, _, by omega, by go_num, hr9, hlv.but stays_inT (But.of_turned hT) (by have := HS5.out; show tb < W5.heap.size; omega), hbt⟩
      case measure => simp [intOf]; omega
    · go_simp
      refine HC5.out.mono ?_
      rintro e w6 ⟨g1, rfl, hg1, hr1, hb6⟩
      have HB6 := Lib.hid hb6
      have HR61 := Lib.hid hr1
      have HS6 := Lib.hid (HS0.out.keep HBW.out.2.2.1 HBW.out.2.2.2 hb6)
      have HT6 := Lib.hid ((hb6.cell (p := ⟨tb, 37, none⟩) HBW.out.2.1).trans HT0.out)
      have HG1 := Lib.hid hg1
      have HC6 := Lib.hid (twinBytes A2 x.dat.length c2 x.dat w6 B (S2.out.drew.below (hb6.mono HBW.out.1)) (Nat.le_trans HBW.out.1 hb6.size) (by have := HBE.out; omega))
      clear hr1 hb6 hg1
      simp only []
      refine hK _ _ HS6.out ?_
      clear hK K
      try simp only [Act.put, List.setIfInBounds_toArray, List.set_cons_zero, List.set_cons_succ]
      refine wpAnyH_ready (rs := [1, 21]) (by kernel_rfl) (by simp) ?_
      refine allL rfl (by kernel_rfl) (fun K hK => ?_) (allL rfl (by kernel_rfl) (fun K hK => ?_) (AllReadyH.nil))
      · have c37 := HT6.out
        go_simp
        clear c37
        refine hK _ _ HS6.out ?_
        clear hK K
        try simp only [Act.put, List.setIfInBounds_toArray, List.set_cons_zero, List.set_cons_succ]
        refine readyL (i := 21) rfl (by kernel_rfl) (by kernel_rfl) fun K hK => ?_
        go_simp
        refine HC6.out.mono ?_
        rintro e w7 ⟨g2, rfl, hg2, hr2, hb7⟩
        have hb67 := HB6.out.trans (hb7.mono HB6.out.size)
        have HB7 := Lib.hid hb67
        have HS7 := Lib.hid (HS0.out.keep HBW.out.2.2.1 HBW.out.2.2.2 hb67)
        have HT7 := Lib.hid ((hb67.cell (p := ⟨tb, 37, none⟩) HBW.out.2.1).trans HT0.out)
        have HR71 := Lib.hid (HR61.out.below hb7 HR61.out.lt)
        have HR72 := Lib.hid hr2
        have HG12 := Lib.hid (And.intro HG1.out (And.intro HR61.out.lt (And.intro hg2 hr2.lt)))
        clear hr2 hb7 hb67 hg2
        simp only []
        refine hK _ _ HS7.out ?_
        clear hK K
        try simp only [Act.put, List.setIfInBounds_toArray, List.set_cons_zero, List.set_cons_succ]
        have HOW := Lib.hid (own_below (w := wr.drew) (w' := w7) HV.out.own HB7.out)
        have HON : Hid (∀ u ∈ (inCells x.p (.slice (some ⟨g1, 0, none⟩) x.acc.length (x.acc.length + 3)) (.slice (some ⟨g2, 0, none⟩) x.dat.length (x.dat.length + 3))), u.oneCell' = true) := Lib.hid (by simp [inCells, Value.oneCell'])
        have HLW : Hid (W5.heap.size ≤ w7.heap.size ∧ (m.ins.take k).length ≤ 65535) := Lib.hid ⟨Nat.le_trans HB.out.size HB7.out.size, by rw [List.length_take]; omega⟩
        have HLT7 : Hid (w.heap.size < w7.heap.size ∧ a.block < w7.heap.size) := Lib.hid (by have := HLW.out.1; have := HS5.out; omega)
        refine takeL (i := 22) (v := .agg (inCells x.p (.slice (some ⟨g1, 0, none⟩) x.acc.length (x.acc.length + 3)) (.slice (some ⟨g2, 0, none⟩) x.dat.length (x.dat.length + 3))).toArray) rfl (by kernel_rfl) (by kernel_rfl) (by kernel_rfl) (fun _ _ _ h => h) (Or.inl ⟨by rfl, fun w _ => exec_built w _ _ _ rfl (by simp only [List.map_toArray, List.map_cons, List.map_nil]; exact built_in _ _ _ _ _ _ _)⟩) HS7.out ?_
        try simp only [Act.put, List.setIfInBounds_toArray, List.set_cons_zero, List.set_cons_succ]
        refine readyL (i := 23) rfl (by kernel_rfl) (by kernel_rfl) fun K hK => ?_
        refine wp_buildOne 27 45 (.tmp 42) rfl (inCells x.p (.slice (some ⟨g1, 0, none⟩) x.acc.length (x.acc.length + 3)) (.slice (some ⟨g2, 0, none⟩) x.dat.length (x.dat.length + 3))) _ 3 56 Tryd.underlying27 info_in zsz_in (by omega) (by omega) rfl ?_ ?_
        · go_simp
        refine hK _ _ (HS7.out.keep HLT7.out.1 HLT7.out.2 ((Below.refl _ _).alloc (Nat.le_refl _) _)) ?_
        clear hK K
        try simp only [Act.put, List.setIfInBounds_toArray, List.set_cons_zero, List.set_cons_succ]
        refine readyL (i := 24) rfl (by kernel_rfl) (by kernel_rfl) fun K hK => ?_
        refine wp_addRow (.tmp 21) (.tmp 43) 27 rfl W5.heap.size 45 _ 3 56 Tryd.underlying27 info_in zsz_in (by omega) (.slice A0 (m.ins.take k).length c0) (m.ins.take k).length css.flatten (inCells x.p (.slice (some ⟨g1, 0, none⟩) x.acc.length (x.acc.length + 3)) (.slice (some ⟨g2, 0, none⟩) x.dat.length (x.dat.length + 3))) 1 rfl HON.out rfl ?_ HOW.out ?_ HLW.out.1 (by have := HLW.out.2; unfold maxLen; omega) (by have := HLW.out.2; omega) ?_
        · go_simp
        · go_simp
        intro v8 w8 ho8 hg8
        obtain ⟨A8, c8, rfl⟩ := own_formN ho8
        have hb8 := hg8.below HOW.out HLW.out.1
        have HG8 := Lib.hid hg8
        have HO8 := Lib.hid ho8
        have HR8 := Lib.hid ((HR.out.drew.below HB7.out HBW.out.2.1).below hb8 (by have := HS5.out; omega))
        have HS8 := Lib.hid (HS7.out.keep (by have := HS5.out; omega) (by have := HS5.out; omega) hb8)
        have e8 := mc37 HR8.out H32.out
        have f8 := HR8.out.frozen 37
        clear ho8 hg8
        refine hK _ _ HS8.out ?_
        clear hK K
        try simp only [Act.put, List.setIfInBounds_toArray, List.set_cons_zero, List.set_cons_succ]
        refine takeL (i := 25) (v := ?_) rfl (by kernel_rfl) (by kernel_rfl) (by kernel_rfl) (fun _ _ _ h => h) (Or.inl ⟨by rfl, ?_⟩) HS8.out ?_
        rotate_left
        · intro w hw
          obtain ⟨q37, q0, q1, q2⟩ := hw
          go_simp
          try with_reducible rfl
        try simp only [Act.put, List.setIfInBounds_toArray, List.set_cons_zero, List.set_cons_succ]
        refine readyL (i := 26) rfl (by kernel_rfl) (by kernel_rfl) fun K hK => ?_
        go_simp
        refine hK _ _ (HS8.out.far (by have := HS5.out; omega) (by have := HS5.out; omega)) ?_
        clear hK K e8 f8
        try simp only [Act.put, List.setIfInBounds_toArray, List.set_cons_zero, List.set_cons_succ]
        refine wpAnyH_done (by kernel_rfl) ?_ _
        go_wp2_with fail
        go_roundw
        case rel =>
          have hz6 : wr.heap.size ≤ w6.heap.size := HB6.out.size
          have hz7 : wr.heap.size ≤ w7.heap.size := HB7.out.size
          have hg12 := HG12.out
          have hev : InT w7 wr.heap.size w7.heap.size (inCells x.p (.slice (some ⟨g1, 0, none⟩) x.acc.length (x.acc.length + 3)) (.slice (some ⟨g2, 0, none⟩) x.dat.length (x.dat.length + 3))) x := by
            refine ⟨_, _, w6.heap.size, rfl, hz6, by omega, ⟨HBE.out.1, g1, rfl, hg12.1, hg12.2.1, HR71.out⟩, ⟨HBE.out.2, g2, rfl, hg12.2.2.1, hg12.2.2.2, HR72.out⟩⟩
          have hbw : But tb wr w7 := (But.refl tb wr).drew.trans (But.of_below HB7.out tb)
          have hlv := HV.out.snoc stays_inT hbw (by have := HS5.out; omega) HB.out.size hev HG8.out HO8.out
          have htk : m.ins.take k ++ [x] = m.ins.take (k + 1) := by rw [List.take_add_one, HX.out]; rfl
          rw [htk] at hlv
          have hT := turned_setCell w8 ⟨tb, 37, none⟩ (.slice A8 ((m.ins.take k).length + 1) c8)
          have hbt := (But.grewV HG8.out HOW.out W5 (HB.out.trans hbw) (Nat.le_refl _)).trans (But.of_turned hT)
          have hr9 := mset37 HR8.out H32.out (.slice A8 ((m.ins.take k).length + 1) c8)
          rw [← List.length_take]
          exact ⟨k + 1, _, _, _, _, by omega, by go_num, hr9, hlv.but stays_inT (But.of_turned hT) (by have := HS5.out; show tb < W5.heap.size; omega), hbt⟩
        case measure => simp [intOf]; omega
      · go_simp
        refine HC6.out.mono ?_
        rintro e w7 ⟨g2, rfl, hg2, hr2, hb7⟩
        have hb67 := HB6.out.trans (hb7.mono HB6.out.size)
        have HB7 := Lib.hid hb67
        have HS7 := Lib.hid (HS0.out.keep HBW.out.2.2.1 HBW.out.2.2.2 hb67)
        have HT7 := Lib.hid ((hb67.cell (p := ⟨tb, 37, none⟩) HBW.out.2.1).trans HT0.out)
        have HR71 := Lib.hid (HR61.out.below hb7 HR61.out.lt)
        have HR72 := Lib.hid hr2
        have HG12 := Lib.hid (And.intro HG1.out (And.intro HR61.out.lt (And.intro hg2 hr2.lt)))
        clear hr2 hb7 hb67 hg2
        simp only []
        refine hK _ _ HS7.out ?_
        clear hK K
        try simp only [Act.put, List.setIfInBounds_toArray, List.set_cons_zero, List.set_cons_succ]
        have HOW := Lib.hid (own_below (w := wr.drew) (w' := w7) HV.out.own HB7.out)
        have HON : Hid (∀ u ∈ (inCells x.p (.slice (some ⟨g1, 0, none⟩) x.acc.length (x.acc.length + 3)) (.slice (some ⟨g2, 0, none⟩) x.dat.length (x.dat.length + 3))), u.oneCell' = true) := Lib.hid (by simp [inCells, Value.oneCell'])
        have HLW : Hid (W5.heap.size ≤ w7.heap.size ∧ (m.ins.take k).length ≤ 65535) := Lib.hid ⟨Nat.le_trans HB.out.size HB7.out.size, by rw [List.length_take]; omega⟩
        have HLT7 : Hid (w.heap.size < w7.heap.size ∧ a.block < w7.heap.size) := Lib.hid (by have := HLW.out.1; have := HS5.out; omega)
        refine takeL (i := 22) (v := .agg (inCells x.p (.slice (some ⟨g1, 0, none⟩) x.acc.length (x.acc.length + 3)) (.slice (some ⟨g2, 0, none⟩) x.dat.length (x.dat.length + 3))).toArray) rfl (by kernel_rfl) (by kernel_rfl) (by kernel_rfl) (fun _ _ _ h => h) (Or.inl ⟨by rfl, fun w _ => exec_built w _ _ _ rfl (by simp only [List.map_toArray, List.map_cons, List.map_nil]; exact built_in _ _ _ _ _ _ _)⟩) HS7.out ?_
        try simp only [Act.put, List.setIfInBounds_toArray, List.set_cons_zero, List.set_cons_succ]
        refine wpAnyH_ready (rs := [1, 23]) (by kernel_rfl) (by simp) ?_
        refine allL rfl (by kernel_rfl) (fun K hK => ?_) (allL rfl (by kernel_rfl) (fun K hK => ?_) (AllReadyH.nil))
        · have c37 := HT7.out
          go_simp
          clear c37
          refine hK _ _ HS7.out ?_
          clear hK K
          try simp only [Act.put, List.setIfInBounds_toArray, List.set_cons_zero, List.set_cons_succ]
          refine readyL (i := 23) rfl (by kernel_rfl) (by kernel_rfl) fun K hK => ?_
          refine wp_buildOne 27 45 (.tmp 42) rfl (inCells x.p (.slice (some ⟨g1, 0, none⟩) x.acc.length (x.acc.length + 3)) (.slice (some ⟨g2, 0, none⟩) x.dat.length (x.dat.length + 3))) _ 3 56 Tryd.underlying27 info_in zsz_in (by omega) (by omega) rfl ?_ ?_
          · go_simp
          refine hK _ _ (HS7.out.keep HLT7.out.1 HLT7.out.2 ((Below.refl _ _).alloc (Nat.le_refl _) _)) ?_
          clear hK K
          try simp only [Act.put, List.setIfInBounds_toArray, List.set_cons_zero, List.set_cons_succ]
          refine readyL (i := 24) rfl (by kernel_rfl) (by kernel_rfl) fun K hK => ?_
          refine wp_addRow (.tmp 21) (.tmp 43) 27 rfl W5.heap.size 45 _ 3 56 Tryd.underlying27 info_in zsz_in (by omega) (.slice A0 (m.ins.take k).length c0) (m.ins.take k).length css.flatten (inCells x.p (.slice (some ⟨g1, 0, none⟩) x.acc.length (x.acc.length + 3)) (.slice (some ⟨g2, 0, none⟩) x.dat.length (x.dat.length + 3))) 1 rfl HON.out rfl ?_ HOW.out ?_ HLW.out.1 (by have := HLW.out.2; unfold maxLen; omega) (by have := HLW.out.2; omega) ?_
          · go_simp
          · go_simp
          intro v8 w8 ho8 hg8
          obtain ⟨A8, c8, rfl⟩ := own_formN ho8
          have hb8 := hg8.below HOW.out HLW.out.1
          have HG8 := Lib.hid hg8
          have HO8 := Lib.hid ho8
          have HR8 := Lib.hid ((HR.out.drew.below HB7.out HBW.out.2.1).below hb8 (by have := HS5.out; omega))
          have HS8 := Lib.hid (HS7.out.keep (by have := HS5.out; omega) (by have := HS5.out; omega) hb8)
          have e8 := mc37 HR8.out H32.out
          have f8 := HR8.out.frozen 37
          clear ho8 hg8
          refine hK _ _ HS8.out ?_
          clear hK K
          try simp only [Act.put, List.setIfInBounds_toArray, List.set_cons_zero, List.set_cons_succ]
          refine takeL (i := 25) (v := ?_) rfl (by kernel_rfl) (by kernel_rfl) (by kernel_rfl) (fun _ _ _ h => h) (Or.inl ⟨by rfl, ?_⟩) HS8.out ?_
          rotate_left
          · intro w hw
            obtain ⟨q37, q0, q1, q2⟩ := hw
            go_simp
            try with_reducible rfl
          try simp only [Act.put, List.setIfInBounds_toArray, List.set_cons_zero, List.set_cons_succ]
          refine readyL (i := 26) rfl (by kernel_rfl) (by kernel_rfl) fun K hK => ?_
          go_simp
          refine hK _ _ (HS8.out.far (by have := HS5.out; omega) (by have := HS5.out; omega)) ?_
          clear hK K e8 f8
          try simp only [Act.put, List.setIfInBounds_toArray, List.set_cons_zero, List.set_cons_succ]
          refine wpAnyH_done (by kernel_rfl) ?_ _
          go_wp2_with fail
          go_roundw
          case rel =>
            have hz6 : wr.heap.size ≤ w6.heap.size := HB6.out.size
            have hz7 : wr.heap.size ≤ w7.heap.size := HB7.out.size
            have hg12 := HG12.out
            have hev : InT w7 wr.heap.size w7.heap.size (inCells x.p (.slice (some ⟨g1, 0, none⟩) x.acc.length (x.acc.length + 3)) (.slice (some ⟨g2, 0, none⟩) x.dat.length (x.dat.length + 3))) x := by
              refine ⟨_, _, w6.heap.size, rfl, hz6, by omega, ⟨HBE.out.1, g1, rfl, hg12.1, hg12.2.1, HR71.out⟩, ⟨HBE.out.2, g2, rfl, hg12.2.2.1, hg12.2.2.2, HR72.out⟩⟩
            have hbw : But tb wr w7 := (But.refl tb wr).drew.trans (But.of_below HB7.out tb)
            have hlv := HV.out.snoc stays_inT hbw (by have := HS5.out; omega) HB.out.size hev HG8.out HO8.out
            have htk : m.ins.take k ++ [x] = m.ins.take (k + 1) := by rw [List.take_add_one, HX.out]; rfl
            rw [htk] at hlv
            have hT := turned_setCell w8 ⟨tb, 37, none⟩ (.slice A8 ((m.ins.take k).length + 1) c8)
            have hbt := (But.grewV HG8.out HOW.out W5 (HB.out.trans hbw) (Nat.le_refl _)).trans (But.of_turned hT)
            have hr9 := mset37 HR8.out H32.out (.slice A8 ((m.ins.take k).length + 1) c8)
            rw [← List.length_take]
            exact ⟨k + 1, _, _, _, _, by omega, by go_num, hr9, hlv.but stays_inT (But.of_turned hT) (by have := HS5.out; show tb < W5.heap.size; omega), hbt⟩
          case measure => simp [intOf]; omega
        · refine wp_buildOne 27 45 (.tmp 42) rfl (inCells x.p (.slice (some ⟨g1, 0, none⟩) x.acc.length (x.acc.length + 3)) (.slice (some ⟨g2, 0, none⟩) x.dat.length (x.dat.length + 3))) _ 3 56 Tryd.underlying27 info_in zsz_in (by omega) (by omega) rfl ?_ ?_
          · go_simp
          refine hK _ _ (HS7.out.keep HLT7.out.1 HLT7.out.2 ((Below.refl _ _).alloc (Nat.le_refl _) _)) ?_
          clear hK K
          try simp only [Act.put, List.setIfInBounds_toArray, List.set_cons_zero, List.set_cons_succ]
          refine readyL (i := 1) rfl (by kernel_rfl) (by kernel_rfl) fun K hK => ?_
          have c37 := ((Below.refl w7.heap.size w7).alloc (Nat.le_refl _) (.cells (inCells x.p (.slice (some ⟨g1, 0, none⟩) x.acc.length (x.acc.length + 3)) (.slice (some ⟨g2, 0, none⟩) x.dat.length (x.dat.length + 3))).toArray 45)).cell (p := ⟨tb, 37, none⟩) (show tb < w7.heap.size from Nat.lt_of_lt_of_le HBW.out.2.1 HB7.out.size) |>.trans HT7.out
          go_simp
          clear c37
          refine hK _ _ (HS7.out.keep HLT7.out.1 HLT7.out.2 ((Below.refl _ _).alloc (Nat.le_refl _) _)) ?_
          clear hK K
          try simp only [Act.put, List.setIfInBounds_toArray, List.set_cons_zero, List.set_cons_succ]
          refine readyL (i := 24) rfl (by kernel_rfl) (by kernel_rfl) fun K hK => ?_
          refine wp_addRow (.tmp 21) (.tmp 43) 27 rfl W5.heap.size 45 _ 3 56 Tryd.underlying27 info_in zsz_in (by omega) (.slice A0 (m.ins.take k).length c0) (m.ins.take k).length css.flatten (inCells x.p (.slice (some ⟨g1, 0, none⟩) x.acc.length (x.acc.length + 3)) (.slice (some ⟨g2, 0, none⟩) x.dat.length (x.dat.length + 3))) 1 rfl HON.out rfl ?_ HOW.out ?_ HLW.out.1 (by have := HLW.out.2; unfold maxLen; omega) (by have := HLW.out.2; omega) ?_
          · go_simp
          · go_simp
          intro v8 w8 ho8 hg8
          obtain ⟨A8, c8, rfl⟩ := own_formN ho8
          have hb8 := hg8.below HOW.out HLW.out.1
          have HG8 := Lib.hid hg8
          have HO8 := Lib.hid ho8
          have HR8 := Lib.hid ((HR.out.drew.below HB7.out HBW.out.2.1).below hb8 (by have := HS5.out; omega))
          have HS8 := Lib.hid (HS7.out.keep (by have := HS5.out; omega) (by have := HS5.out; omega) hb8)
          have e8 := mc37 HR8.out H32.out
          have f8 := HR8.out.frozen 37
          clear ho8 hg8
          refine hK _ _ HS8.out ?_
          clear hK K
          try simp only [Act.put, List.setIfInBounds_toArray, List.set_cons_zero, List.set_cons_succ]
          refine takeL (i := 25) (v := ?_) rfl (by kernel_rfl) (by kernel_rfl) (by kernel_rfl) (fun _ _ _ h => h) (Or.inl ⟨by rfl, ?_⟩) HS8.out ?_
          rotate_left
          · intro w hw
            obtain ⟨q37, q0, q1, q2⟩ := hw
            go_simp
            try with_reducible rfl
          try simp only [Act.put, List.setIfInBounds_toArray, List.set_cons_zero, List.set_cons_succ]
          refine readyL (i := 26) rfl (by kernel_rfl) (by kernel_rfl) fun K hK => ?_
          go_simp
          refine hK _ _ (HS8.out.far (by have := HS5.out; omega) (by have := HS5.out; omega)) ?_
          clear hK K e8 f8
          try simp only [Act.put, List.setIfInBounds_toArray, List.set_cons_zero, List.set_cons_succ]
          refine wpAnyH_done (by kernel_rfl) ?_ _
          go_wp2_with fail
          go_roundw
          case rel =>
            have hz6 : wr.heap.size ≤ w6.heap.size := HB6.out.size
            have hz7 : wr.heap.size ≤ w7.heap.size := HB7.out.size
            have hg12 := HG12.out
            have hev : InT w7 wr.heap.size w7.heap.size (inCells x.p (.slice (some ⟨g1, 0, none⟩) x.acc.length (x.acc.length + 3)) (.slice (some ⟨g2, 0, none⟩) x.dat.length (x.dat.length + 3))) x := by
              refine ⟨_, _, w6.heap.size, rfl, hz6, by omega, ⟨HBE.out.1, g1, rfl, hg12.1, hg12.2.1, HR71.out⟩, ⟨HBE.out.2, g2, rfl, hg12.2.2.1, hg12.2.2.2, HR72.out⟩⟩
            have hbw : But tb wr w7 := (But.refl tb wr).drew.trans (But.of_below HB7.out tb)
            have hlv := HV.out.snoc stays_inT hbw (by have := HS5.out; omega) HB.out.size hev HG8.out HO8.out
            have htk : m.ins.take k ++ [x] = m.ins.take (k + 1) := by rw [List.take_add_one, HX.out]; rfl
            rw [htk] at hlv
            have hT := turned_setCell w8 ⟨tb, 37, none⟩ (.slice A8 ((m.ins.take k).length + 1) c8)
            have hbt := (But.grewV HG8.out HOW.out W5 (HB.out.trans hbw) (Nat.le_refl _)).trans (But.of_turned hT)
            have hr9 := mset37 HR8.out H32.out (.slice A8 ((m.ins.take k).length + 1) c8)
            rw [← List.length_take]
            exact ⟨k + 1, _, _, _, _, by omega, by go_num, hr9, hlv.but stays_inT (But.of_turned hT) (by have := HS5.out; show tb < W5.heap.size; omega), hbt⟩
          case measure => simp [intOf]; omega
  · obtain rfl : k = n := by omega
    obtain ⟨W6, hW6⟩ : ∃ u : World, u = wr := ⟨_, rfl⟩
    subst hW6
    have htk : m.ins.take k = m.ins := List.take_of_length_le (by have := HNN.out.2.1; omega)
    have hv6 := HV.out
    rw [htk] at hv6
    obtain ⟨IA', ic', hVf⟩ := hv6.form
    subst hVf
    have HIV := Lib.hid (LVR.of hv6)
    have HRI := Lib.hid HR.out
    have HBI := Lib.hid HB.out
    have HSW : Hid (w.heap.size + 1 < tb ∧ tb < gk ∧ gk < W5.heap.size ∧ W5.heap.size ≤ W6.heap.size ∧ B ≤ w.heap.size) := Lib.hid (by have := HS5.out; have := HB.out.size; omega)
    clear hv6 HV HR HB htk css L R
    go_wp2_with fail
    clear c37
    have HOWL := Lib.hid (World.ownsRow_nil W6 W6.heap.size 52 34)
    go_loopw [5] (fun i wr => ∃ (k : Nat) (V : Value) (css : List (List Value)) (L R : Nat → Nat), k ≤ ln ∧ i = .int .i64 k ∧ Row wr tb 30 (mcells m.v0 m.s m.r m.o (.slice (some ⟨gk, 0, none⟩) kn (kn + 3)) m.recent (.slice IA' m.ins.length ic') V) ∧ LV LookT 52 34 wr W6.heap.size V (m.looks.take k) css L R ∧ But tb W6 wr) (fun i _ => ln - (intOf i).toNat)
    case atStart => exact ⟨0, .slice none 0 0, [], fun _ => 0, fun _ => 0, Nat.zero_le _, rfl, HRI.out, LV.none HOWL.out, But.refl _ _⟩
    case round =>
    clear HOWL HRI
    obtain ⟨k, V, css, L, R, hk, rfl, hr, hv, hb⟩ := hrel
    have HR := Lib.hid hr
    have HV := Lib.hid hv
    have HBL := Lib.hid hb
    have HB5W := Lib.hid (HBI.out.trans hb)
    have c37 : wr.cell? ⟨w.heap.size, 38, none⟩ = some (.slice LA ln lc) := (World.cell?_of_block (HB5W.out.block w.heap.size (by have := HSW.out; omega) (by have := HSW.out; omega))).trans HRM5.out.2
    clear hr hv hb
    by_cases hlt : k < ln
    · obtain ⟨a, x, va, vd, rfl, hab, hx, hat⟩ := HM5.out.looks.get hlt
      replace hat := hat.keep hab fun p hp => World.cell?_of_block (HB5W.out.block p.block (by have := HSW.out; omega) (by have := HSW.out; omega))
      have hbe := HIX.out.2 x (List.mem_of_getElem? hx)
      obtain ⟨A1, c1, rfl, s1, _, _⟩ := hat.wr.is
      obtain ⟨A2, c2, rfl, s2, _, _⟩ := hat.rd.is
      have H32T := Lib.hid hat.len
      have HS0 : Hid (TwL w.heap.size a k ln lc x.tab (.slice A1 x.wr.length c1) (.slice A2 x.rd.length c2) wr.drew) := Lib.hid ⟨c37, hat.tab0, hat.cell32, hat.cell33⟩
      obtain ⟨A0, c0, hV⟩ := HV.out.form
      subst hV
      have HT0 : Hid (wr.drew.cell? ⟨tb, 38, none⟩ = some (.slice A0 (m.looks.take k).length c0)) := Lib.hid (mc38 HR.out.drew H32.out)
      have hki : (k : Int) < ln := by omega
      have hk0 : (0 : Int) ≤ k := by omega
      have HX := Lib.hid hx
      have HBE := Lib.hid hbe
      have S2 := Lib.hid s2
      have HBW : Hid (B ≤ wr.drew.heap.size ∧ tb < wr.drew.heap.size ∧ w.heap.size < wr.drew.heap.size ∧ a.block < wr.drew.heap.size) := Lib.hid (by have := HBL.out.size; have := HSW.out; show B ≤ wr.heap.size ∧ tb < wr.heap.size ∧ w.heap.size < wr.heap.size ∧ a.block < wr.heap.size; omega)
      have HC5 := Lib.hid (twinBytes A1 x.wr.length c1 x.wr wr.drew B s1.drew HBW.out.1 (by omega))
      clear hat s1 s2 hx hbe
      go_wp2_with fail
      refine wp_region_held (S := TwL w.heap.size a k ln lc x.tab (.slice A1 x.wr.length c1) (.slice A2 x.rd.length c2)) (by kernel_rfl) ?_
      try (change wpAnyH _ _ _ _ _ _ _ _ (World.drew _))
      refine takeL (i := 0) (v := ?_) rfl (by kernel_rfl) (by kernel_rfl) (by kernel_rfl) (fun _ _ _ h => h) (Or.inl ⟨by rfl, ?_⟩) HS0.out ?_
      rotate_left
      · intro w hw
        obtain ⟨q37, q0, q1, q2⟩ := hw
        clear q0
        go_simp
        try with_reducible rfl
      try simp only [Act.put, List.setIfInBounds_toArray, List.set_cons_zero, List.set_cons_succ]
      refine takeL (i := 2) (v := ?_) rfl (by kernel_rfl) (by kernel_rfl) (by kernel_rfl) (fun _ _ _ h => h) (Or.inl ⟨by rfl, ?_⟩) HS0.out ?_
      rotate_left
      · intro w hw
        obtain ⟨q37, q0, q1, q2⟩ := hw
        clear q0
        go_simp
        try with_reducible rfl
      try simp only [Act.put, List.setIfInBounds_toArray, List.set_cons_zero, List.set_cons_succ]
      refine takeL (i := 3) (v := ?_) rfl (by kernel_rfl) (by kernel_rfl) (by kernel_rfl) (fun _ _ _ h => h) (Or.inl ⟨by rfl, ?_⟩) HS0.out ?_
      rotate_left
      · intro w hw
        obtain ⟨q37, q0, q1, q2⟩ := hw
        clear q0
        go_simp
        try with_reducible rfl
      try simp only [Act.put, List.setIfInBounds_toArray, List.set_cons_zero, List.set_cons_succ]
      refine takeL (i := 4) (v := ?_) rfl (by kernel_rfl) (by kernel_rfl) (by kernel_rfl) (fun _ _ _ h => h) (Or.inl ⟨by rfl, ?_⟩) HS0.out ?_
      rotate_left
      · intro w hw
        obtain ⟨q37, q0, q1, q2⟩ := hw
        clear q0
        go_simp
        try with_reducible rfl
      try simp only [Act.put, List.setIfInBounds_toArray, List.set_cons_zero, List.set_cons_succ]
      refine takeL (i := 5) (v := ?_) rfl (by kernel_rfl) (by kernel_rfl) (by kernel_rfl) (fun _ _ _ h => h) (Or.inl ⟨by rfl, ?_⟩) HS0.out ?_
      rotate_left
      · intro w hw
        obtain ⟨q37, q0, q1, q2⟩ := hw
        clear q0
        go_simp
        try with_reducible rfl
      try simp only [Act.put, List.setIfInBounds_toArray, List.set_cons_zero, List.set_cons_succ]
      refine takeL (i := 6) (v := ?_) rfl (by kernel_rfl) (by kernel_rfl) (by kernel_rfl) (fun _ _ _ h => h) (Or.inl ⟨by rfl, ?_⟩) HS0.out ?_
      rotate_left
      · intro w hw
        obtain ⟨q37, q0, q1, q2⟩ := hw
        clear q0
        go_simp
        try with_reducible rfl
      try simp only [Act.put, List.setIfInBounds_toArray, List.set_cons_zero, List.set_cons_succ]
      refine takeL (i := 7) (v := .agg (bv x.tab).toArray) rfl (by kernel_rfl) (by kernel_rfl) (by kernel_rfl) (fun _ _ _ h => h) (Or.inl ⟨by rfl, ?_⟩) HS0.out ?_
      · intro w hw
        refine exec_load_at w 48 (.tmp 59) rfl (a.add (k * 34)) (bv x.tab) _ Tryd.underlying48 rfl (size_key' H32T.out) hw.tab ?_
        go_simp
      try simp only [Act.put, List.setIfInBounds_toArray, List.set_cons_zero, List.set_cons_succ]
      refine takeL (i := 8) (v := ?_) rfl (by kernel_rfl) (by kernel_rfl) (by kernel_rfl) (fun _ _ _ h => h) (Or.inl ⟨by rfl, ?_⟩) HS0.out ?_
      rotate_left
      · intro w hw
        obtain ⟨q37, q0, q1, q2⟩ := hw
        clear q0
        go_simp
        try with_reducible rfl
      try simp only [Act.put, List.setIfInBounds_toArray, List.set_cons_zero, List.set_cons_succ]
      refine takeL (i := 9) (v := ?_) rfl (by kernel_rfl) (by kernel_rfl) (by kernel_rfl) (fun _ _ _ h => h) (Or.inl ⟨by rfl, ?_⟩) HS0.out ?_
      rotate_left
      · intro w hw
        obtain ⟨q37, q0, q1, q2⟩ := hw
        clear q0
        go_simp
        try with_reducible rfl
      try simp only [Act.put, List.setIfInBounds_toArray, List.set_cons_zero, List.set_cons_succ]
      refine takeL (i := 10) (v := ?_) rfl (by kernel_rfl) (by kernel_rfl) (by kernel_rfl) (fun _ _ _ h => h) (Or.inl ⟨by rfl, ?_⟩) HS0.out ?_
      rotate_left
      · intro w hw
        obtain ⟨q37, q0, q1, q2⟩ := hw
        clear q0
        go_simp
        try with_reducible rfl
      try simp only [Act.put, List.setIfInBounds_toArray, List.set_cons_zero, List.set_cons_succ]
      refine takeL (i := 11) (v := ?_) rfl (by kernel_rfl) (by kernel_rfl) (by kernel_rfl) (fun _ _ _ h => h) (Or.inl ⟨by rfl, ?_⟩) HS0.out ?_
      rotate_left
      · intro w hw
        obtain ⟨q37, q0, q1, q2⟩ := hw
        clear q0
        go_simp
        try with_reducible rfl
      try simp only [Act.put, List.setIfInBounds_toArray, List.set_cons_zero, List.set_cons_succ]
      refine takeL (i := 12) (v := ?_) rfl (by kernel_rfl) (by kernel_rfl) (by kernel_rfl) (fun _ _ _ h => h) (Or.inl ⟨by rfl, ?_⟩) HS0.out ?_
      rotate_left
      · intro w hw
        obtain ⟨q37, q0, q1, q2⟩ := hw
        clear q0
        go_simp
        try with_reducible rfl
      try simp only [Act.put, List.setIfInBounds_toArray, List.set_cons_zero, List.set_cons_succ]
      refine takeL (i := 13) (v := ?_) rfl (by kernel_rfl) (by kernel_rfl) (by kernel_rfl) (fun _ _ _ h => h) (Or.inl ⟨by rfl, ?_⟩) HS0.out ?_
      rotate_left
      · intro w hw
        obtain ⟨q37, q0, q1, q2⟩ := hw
        clear q0
        go_simp
        try with_reducible rfl
      try simp only [Act.put, List.setIfInBounds_toArray, List.set_cons_zero, List.set_cons_succ]
      refine takeL (i := 15) (v := ?_) rfl (by kernel_rfl) (by kernel_rfl) (by kernel_rfl) (fun _ _ _ h => h) (Or.inl ⟨by rfl, ?_⟩) HS0.out ?_
      rotate_left
      · intro w hw
        obtain ⟨q37, q0, q1, q2⟩ := hw
        clear q0
        go_simp
        try with_reducible rfl
      try simp only [Act.put, List.setIfInBounds_toArray, List.set_cons_zero, List.set_cons_succ]
      refine takeL (i := 16) (v := ?_) rfl (by kernel_rfl) (by kernel_rfl) (by kernel_rfl) (fun _ _ _ h => h) (Or.inl ⟨by rfl, ?_⟩) HS0.out ?_
      rotate_left
      · intro w hw
        obtain ⟨q37, q0, q1, q2⟩ := hw
        clear q0
        go_simp
        try with_reducible rfl
      try simp only [Act.put, List.setIfInBounds_toArray, List.set_cons_zero, List.set_cons_succ]
      refine takeL (i := 17) (v := ?_) rfl (by kernel_rfl) (by kernel_rfl) (by kernel_rfl) (fun _ _ _ h => h) (Or.inl ⟨by rfl, ?_⟩) HS0.out ?_
      rotate_left
      · intro w hw
        obtain ⟨q37, q0, q1, q2⟩ := hw
        clear q0
        go_simp
        try with_reducible rfl
      try simp only [Act.put, List.setIfInBounds_toArray, List.set_cons_zero, List.set_cons_succ]
      refine takeL (i := 18) (v := ?_) rfl (by kernel_rfl) (by kernel_rfl) (by kernel_rfl) (fun _ _ _ h => h) (Or.inl ⟨by rfl, ?_⟩) HS0.out ?_
      rotate_left
      · intro w hw
        obtain ⟨q37, q0, q1, q2⟩ := hw
        clear q0
        go_simp
        try with_reducible rfl
      try simp only [Act.put, List.setIfInBounds_toArray, List.set_cons_zero, List.set_cons_succ]
      refine takeL (i := 19) (v := ?_) rfl (by kernel_rfl) (by kernel_rfl) (by kernel_rfl) (fun _ _ _ h => h) (Or.inl ⟨by rfl, ?_⟩) HS0.out ?_
      rotate_left
      · intro w hw
        obtain ⟨q37, q0, q1, q2⟩ := hw
        clear q0
        go_simp
        try with_reducible rfl
      try simp only [Act.put, List.setIfInBounds_toArray, List.set_cons_zero, List.set_cons_succ]
      refine takeL (i := 20) (v := ?_) rfl (by kernel_rfl) (by kernel_rfl) (by kernel_rfl) (fun _ _ _ h => h) (Or.inl ⟨by rfl, ?_⟩) HS0.out ?_
      rotate_left
      · intro w hw
        obtain ⟨q37, q0, q1, q2⟩ := hw
        clear q0
        go_simp
        try with_reducible rfl
      try simp only [Act.put, List.setIfInBounds_toArray, List.set_cons_zero, List.set_cons_succ]
      refine wpAnyH_ready (rs := [1, 14]) (by kernel_rfl) (by simp) ?_
      refine allL rfl (by kernel_rfl) (fun K hK => ?_) (allL rfl (by kernel_rfl) (fun K hK => ?_) (AllReadyH.nil))
      · have c37 := HT0.out
        go_simp
        clear c37
        refine hK _ _ HS0.out ?_
        clear hK K
        try simp only [Act.put, List.setIfInBounds_toArray, List.set_cons_zero, List.set_cons_succ]
        refine readyL (i := 14) rfl (by kernel_rfl) (by kernel_rfl) fun K hK => ?_
        go_simp
        refine HC5.out.mono ?_
        rintro e w6 ⟨g1, rfl, hg1, hr1, hb6⟩
        have HB6 := Lib.hid hb6
        have HR61 := Lib.hid hr1
        have HS6 := Lib.hid (HS0.out.keep HBW.out.2.2.1 HBW.out.2.2.2 hb6)
        have HT6 := Lib.hid ((hb6.cell (p := ⟨tb, 38, none⟩) HBW.out.2.1).trans HT0.out)
        have HG1 := Lib.hid hg1
        have HC6 := Lib.hid (twinBytes A2 x.rd.length c2 x.rd w6 B (S2.out.drew.below (hb6.mono HBW.out.1)) (Nat.le_trans HBW.out.1 hb6.size) (by have := HBE.out; omega))
        clear hr1 hb6 hg1
        simp only []
        refine hK _ _ HS6.out ?_
        clear hK K
        try simp only [Act.put, List.setIfInBounds_toArray, List.set_cons_zero, List.set_cons_succ]
        refine readyL (i := 21) rfl (by kernel_rfl) (by kernel_rfl) fun K hK => ?_
        go_simp
        refine HC6.out.mono ?_
        rintro e w7 ⟨g2, rfl, hg2, hr2, hb7⟩
        have hb67 := HB6.out.trans (hb7.mono HB6.out.size)
        have HB7 := Lib.hid hb67
        have HS7 := Lib.hid (HS0.out.keep HBW.out.2.2.1 HBW.out.2.2.2 hb67)
        have HT7 := Lib.hid ((hb67.cell (p := ⟨tb, 38, none⟩) HBW.out.2.1).trans HT0.out)
        have HR71 := Lib.hid (HR61.out.below hb7 HR61.out.lt)
        have HR72 := Lib.hid hr2
        have HG12 := Lib.hid (And.intro HG1.out (And.intro HR61.out.lt (And.intro hg2 hr2.lt)))
        clear hr2 hb7 hb67 hg2
        simp only []
        refine hK _ _ HS7.out ?_
        clear hK K
        try simp only [Act.put, List.setIfInBounds_toArray, List.set_cons_zero, List.set_cons_succ]
        have HOW := Lib.hid (own_below (w := wr.drew) (w' := w7) HV.out.own HB7.out)
        have HON : Hid (∀ u ∈ (bv x.tab ++ [Value.slice (some ⟨g1, 0, none⟩) x.wr.length (x.wr.length + 3), Value.slice (some ⟨g2, 0, none⟩) x.rd.length (x.rd.length + 3)]), u.oneCell' = true) := Lib.hid (look_one x.tab rfl rfl)
        have HIC : Hid ((bv x.tab ++ [Value.slice (some ⟨g1, 0, none⟩) x.wr.length (x.wr.length + 3), Value.slice (some ⟨g2, 0, none⟩) x.rd.length (x.rd.length + 3)]).length = 34) := Lib.hid (by simp [bv_length, H32T.out])
        have HLW : Hid (W6.heap.size ≤ w7.heap.size ∧ (m.looks.take k).length ≤ 65535) := Lib.hid ⟨Nat.le_trans HBL.out.size HB7.out.size, by rw [List.length_take]; omega⟩
        have HLT7 : Hid (w.heap.size < w7.heap.size ∧ a.block < w7.heap.size) := Lib.hid (by have := HLW.out.1; have := HSW.out; omega)
        refine takeL (i := 22) (v := .agg (bv x.tab ++ [Value.slice (some ⟨g1, 0, none⟩) x.wr.length (x.wr.length + 3), Value.slice (some ⟨g2, 0, none⟩) x.rd.length (x.rd.length + 3)]).toArray) rfl (by kernel_rfl) (by kernel_rfl) (by kernel_rfl) (fun _ _ _ h => h) (Or.inl ⟨by rfl, fun w _ => exec_built w _ _ _ rfl (by simp only [List.map_toArray, List.map_cons, List.map_nil]; exact built_look3 (bv x.tab) (by rw [bv_length, H32T.out]) _ _ _ _ _ _)⟩) HS7.out ?_
        try simp only [Act.put, List.setIfInBounds_toArray, List.set_cons_zero, List.set_cons_succ]
        refine readyL (i := 23) rfl (by kernel_rfl) (by kernel_rfl) fun K hK => ?_
        refine wp_buildOne 28 52 (.tmp 75) rfl (bv x.tab ++ [Value.slice (some ⟨g1, 0, none⟩) x.wr.length (x.wr.length + 3), Value.slice (some ⟨g2, 0, none⟩) x.rd.length (x.rd.length + 3)]) _ 34 80 Tryd.underlying28 info_look zsz_look (by omega) (by omega) HIC.out ?_ ?_
        · go_simp
        refine hK _ _ (HS7.out.keep HLT7.out.1 HLT7.out.2 ((Below.refl _ _).alloc (Nat.le_refl _) _)) ?_
        clear hK K
        try simp only [Act.put, List.setIfInBounds_toArray, List.set_cons_zero, List.set_cons_succ]
        refine readyL (i := 24) rfl (by kernel_rfl) (by kernel_rfl) fun K hK => ?_
        refine wp_addRow (.tmp 54) (.tmp 76) 28 rfl W6.heap.size 52 _ 34 80 Tryd.underlying28 info_look zsz_look (by omega) (.slice A0 (m.looks.take k).length c0) (m.looks.take k).length css.flatten (bv x.tab ++ [Value.slice (some ⟨g1, 0, none⟩) x.wr.length (x.wr.length + 3), Value.slice (some ⟨g2, 0, none⟩) x.rd.length (x.rd.length + 3)]) 1 HIC.out HON.out rfl ?_ HOW.out ?_ HLW.out.1 (by have := HLW.out.2; unfold maxLen; omega) (by have := HLW.out.2; omega) ?_
        · go_simp
        · go_simp
        intro v8 w8 ho8 hg8
        obtain ⟨A8, c8, rfl⟩ := own_formN ho8
        have hb8 := hg8.below HOW.out HLW.out.1
        have HG8 := Lib.hid hg8
        have HO8 := Lib.hid ho8
        have HR8 := Lib.hid ((HR.out.drew.below HB7.out HBW.out.2.1).below hb8 (by have := HSW.out; omega))
        have HS8 := Lib.hid (HS7.out.keep (by have := HSW.out; omega) (by have := HSW.out; omega) hb8)
        have e8 := mc38 HR8.out H32.out
        have f8 := HR8.out.frozen 38
        clear ho8 hg8
        refine hK _ _ HS8.out ?_
        clear hK K
        try simp only [Act.put, List.setIfInBounds_toArray, List.set_cons_zero, List.set_cons_succ]
        refine takeL (i := 25) (v := ?_) rfl (by kernel_rfl) (by kernel_rfl) (by kernel_rfl) (fun _ _ _ h => h) (Or.inl ⟨by rfl, ?_⟩) HS8.out ?_
        rotate_left
        · intro w hw
          obtain ⟨q37, q0, q1, q2⟩ := hw
          clear q0
          go_simp
          try with_reducible rfl
        try simp only [Act.put, List.setIfInBounds_toArray, List.set_cons_zero, List.set_cons_succ]
        refine readyL (i := 26) rfl (by kernel_rfl) (by kernel_rfl) fun K hK => ?_
        go_simp
        refine hK _ _ (HS8.out.far (by have := HSW.out; omega) (by have := HSW.out; omega)) ?_
        clear hK K e8 f8
        try simp only [Act.put, List.setIfInBounds_toArray, List.set_cons_zero, List.set_cons_succ]
        refine wpAnyH_done (by kernel_rfl) ?_ _
        go_wp2_with fail
        go_roundw
        case rel =>
          have hz6 : wr.heap.size ≤ w6.heap.size := HB6.out.size
          have hz7 : wr.heap.size ≤ w7.heap.size := HB7.out.size
          have hg12 := HG12.out
          have hev : LookT w7 wr.heap.size w7.heap.size (bv x.tab ++ [Value.slice (some ⟨g1, 0, none⟩) x.wr.length (x.wr.length + 3), Value.slice (some ⟨g2, 0, none⟩) x.rd.length (x.rd.length + 3)]) x := by
            refine ⟨_, _, w6.heap.size, rfl, H32T.out, hz6, by omega, ⟨HBE.out.1, g1, rfl, hg12.1, hg12.2.1, HR71.out⟩, ⟨HBE.out.2, g2, rfl, hg12.2.2.1, hg12.2.2.2, HR72.out⟩⟩
          have hbw : But tb wr w7 := (But.refl tb wr).drew.trans (But.of_below HB7.out tb)
          have hlv := HV.out.snoc stays_lookT hbw (by have := HSW.out; omega) HBL.out.size hev HG8.out HO8.out
          have htk : m.looks.take k ++ [x] = m.looks.take (k + 1) := by rw [List.take_add_one, HX.out]; rfl
          rw [htk] at hlv
          have hT := turned_setCell w8 ⟨tb, 38, none⟩ (.slice A8 ((m.looks.take k).length + 1) c8)
          have hbt := (But.grewV HG8.out HOW.out W6 (HBL.out.trans hbw) (Nat.le_refl _)).trans (But.of_turned hT)
          have hr9 := mset38 HR8.out H32.out (.slice A8 ((m.looks.take k).length + 1) c8)
          rw [← List.length_take]
          exact ⟨k + 1, _, _, _, _, by omega, by go_num, hr9, hlv.but stays_lookT (But.of_turned hT) (by have := HSW.out; show tb < W6.heap.size; omega), hbt⟩
        case measure => simp [intOf]; omega
      · go_simp
        refine HC5.out.mono ?_
        rintro e w6 ⟨g1, rfl, hg1, hr1, hb6⟩
        have HB6 := Lib.hid hb6
        have HR61 := Lib.hid hr1
        have HS6 := Lib.hid (HS0.out.keep HBW.out.2.2.1 HBW.out.2.2.2 hb6)
        have HT6 := Lib.hid ((hb6.cell (p := ⟨tb, 38, none⟩) HBW.out.2.1).trans HT0.out)
        have HG1 := Lib.hid hg1
        have HC6 := Lib.hid (twinBytes A2 x.rd.length c2 x.rd w6 B (S2.out.drew.below (hb6.mono HBW.out.1)) (Nat.le_trans HBW.out.1 hb6.size) (by have := HBE.out; omega))
        clear hr1 hb6 hg1
        simp only []
        refine hK _ _ HS6.out ?_
        clear hK K
        try simp only [Act.put, List.setIfInBounds_toArray, List.set_cons_zero, List.set_cons_succ]
        refine wpAnyH_ready (rs := [1, 21]) (by kernel_rfl) (by simp) ?_
        refine allL rfl (by kernel_rfl) (fun K hK => ?_) (allL rfl (by kernel_rfl) (fun K hK => ?_) (AllReadyH.nil))
        · have c37 := HT6.out
          go_simp
          clear c37
          refine hK _ _ HS6.out ?_
          clear hK K
          try simp only [Act.put, List.setIfInBounds_toArray, List.set_cons_zero, List.set_cons_succ]
          refine readyL (i := 21) rfl (by kernel_rfl) (by kernel_rfl) fun K hK => ?_
          go_simp
          refine HC6.out.mono ?_
          rintro e w7 ⟨g2, rfl, hg2, hr2, hb7⟩
          have hb67 := HB6.out.trans (hb7.mono HB6.out.size)
          have HB7 := Lib.hid hb67
          have HS7 := Lib.hid (HS0.out.keep HBW.out.2.2.1 HBW.out.2.2.2 hb67)
          have HT7 := Lib.hid ((hb67.cell (p := ⟨tb, 38, none⟩) HBW.out.2.1).trans HT0.out)
          have HR71 := Lib.hid (HR61.out.below hb7 HR61.out.lt)
          have HR72 := Lib.hid hr2
          have HG12 := Lib.hid (And.intro HG1.out (And.intro HR61.out.lt (And.intro hg2 hr2.lt)))
          clear hr2 hb7 hb67 hg2
          simp only []
          refine hK _ _ HS7.out ?_
          clear hK K
          try simp only [Act.put, List.setIfInBounds_toArray, List.set_cons_zero, List.set_cons_succ]
          have HOW := Lib.hid (own_below (w := wr.drew) (w' := w7) HV.out.own HB7.out)
          have HON : Hid (∀ u ∈ (bv x.tab ++ [Value.slice (some ⟨g1, 0, none⟩) x.wr.length (x.wr.length + 3), Value.slice (some ⟨g2, 0, none⟩) x.rd.length (x.rd.length + 3)]), u.oneCell' = true) := Lib.hid (look_one x.tab rfl rfl)
          have HIC : Hid ((bv x.tab ++ [Value.slice (some ⟨g1, 0, none⟩) x.wr.length (x.wr.length + 3), Value.slice (some ⟨g2, 0, none⟩) x.rd.length (x.rd.length + 3)]).length = 34) := Lib.hid (by simp [bv_length, H32T.out])
          have HLW : Hid (W6.heap.size ≤ w7.heap.size ∧ (m.looks.take k).length ≤ 65535) := Lib.hid ⟨Nat.le_trans HBL.out.size HB7.out.size, by rw [List.length_take]; omega⟩
          have HLT7 : Hid (w.heap.size < w7.heap.size ∧ a.block < w7.heap.size) := Lib.hid (by have := HLW.out.1; have := HSW.out; omega)
          refine takeL (i := 22) (v := .agg (bv x.tab ++ [Value.slice (some ⟨g1, 0, none⟩) x.wr.length (x.wr.length + 3), Value.slice (some ⟨g2, 0, none⟩) x.rd.length (x.rd.length + 3)]).toArray) rfl (by kernel_rfl) (by kernel_rfl) (by kernel_rfl) (fun _ _ _ h => h) (Or.inl ⟨by rfl, fun w _ => exec_built w _ _ _ rfl (by simp only [List.map_toArray, List.map_cons, List.map_nil]; exact built_look3 (bv x.tab) (by rw [bv_length, H32T.out]) _ _ _ _ _ _)⟩) HS7.out ?_
          try simp only [Act.put, List.setIfInBounds_toArray, List.set_cons_zero, List.set_cons_succ]
          refine readyL (i := 23) rfl (by kernel_rfl) (by kernel_rfl) fun K hK => ?_
          refine wp_buildOne 28 52 (.tmp 75) rfl (bv x.tab ++ [Value.slice (some ⟨g1, 0, none⟩) x.wr.length (x.wr.length + 3), Value.slice (some ⟨g2, 0, none⟩) x.rd.length (x.rd.length + 3)]) _ 34 80 Tryd.underlying28 info_look zsz_look (by omega) (by omega) HIC.out ?_ ?_
          · go_simp
          refine hK _ _ (HS7.out.keep HLT7.out.1 HLT7.out.2 ((Below.refl _ _).alloc (Nat.le_refl _) _)) ?_
          clear hK K
          try simp only [Act.put, List.setIfInBounds_toArray, List.set_cons_zero, List.set_cons_succ]
          refine readyL (i := 24) rfl (by kernel_rfl) (by kernel_rfl) fun K hK => ?_
          refine wp_addRow (.tmp 54) (.tmp 76) 28 rfl W6.heap.size 52 _ 34 80 Tryd.underlying28 info_look zsz_look (by omega) (.slice A0 (m.looks.take k).length c0) (m.looks.take k).length css.flatten (bv x.tab ++ [Value.slice (some ⟨g1, 0, none⟩) x.wr.length (x.wr.length + 3), Value.slice (some ⟨g2, 0, none⟩) x.rd.length (x.rd.length + 3)]) 1 HIC.out HON.out rfl ?_ HOW.out ?_ HLW.out.1 (by have := HLW.out.2; unfold maxLen; omega) (by have := HLW.out.2; omega) ?_
          · go_simp
          · go_simp
          intro v8 w8 ho8 hg8
          obtain ⟨A8, c8, rfl⟩ := own_formN ho8
          have hb8 := hg8.below HOW.out HLW.out.1
          have HG8 := Lib.hid hg8
          have HO8 := Lib.hid ho8
          have HR8 := Lib.hid ((HR.out.drew.below HB7.out HBW.out.2.1).below hb8 (by have := HSW.out; omega))
          have HS8 := Lib.hid (HS7.out.keep (by have := HSW.out; omega) (by have := HSW.out; omega) hb8)
          have e8 := mc38 HR8.out H32.out
          have f8 := HR8.out.frozen 38
          clear ho8 hg8
          refine hK _ _ HS8.out ?_
          clear hK K
          try simp only [Act.put, List.setIfInBounds_toArray, List.set_cons_zero, List.set_cons_succ]
          refine takeL (i := 25) (v := ?_) rfl (by kernel_rfl) (by kernel_rfl) (by kernel_rfl) (fun _ _ _ h => h) (Or.inl ⟨by rfl, ?_⟩) HS8.out ?_
          rotate_left
          · intro w hw
            obtain ⟨q37, q0, q1, q2⟩ := hw
            clear q0
            go_simp
            try with_reducible rfl
          try simp only [Act.put, List.setIfInBounds_toArray, List.set_cons_zero, List.set_cons_succ]
          refine readyL (i := 26) rfl (by kernel_rfl) (by kernel_rfl) fun K hK => ?_
          go_simp
          refine hK _ _ (HS8.out.far (by have := HSW.out; omega) (by have := HSW.out; omega)) ?_
          clear hK K e8 f8
          try simp only [Act.put, List.setIfInBounds_toArray, List.set_cons_zero, List.set_cons_succ]
          refine wpAnyH_done (by kernel_rfl) ?_ _
          go_wp2_with fail
          go_roundw
          case rel =>
            have hz6 : wr.heap.size ≤ w6.heap.size := HB6.out.size
            have hz7 : wr.heap.size ≤ w7.heap.size := HB7.out.size
            have hg12 := HG12.out
            have hev : LookT w7 wr.heap.size w7.heap.size (bv x.tab ++ [Value.slice (some ⟨g1, 0, none⟩) x.wr.length (x.wr.length + 3), Value.slice (some ⟨g2, 0, none⟩) x.rd.length (x.rd.length + 3)]) x := by
              refine ⟨_, _, w6.heap.size, rfl, H32T.out, hz6, by omega, ⟨HBE.out.1, g1, rfl, hg12.1, hg12.2.1, HR71.out⟩, ⟨HBE.out.2, g2, rfl, hg12.2.2.1, hg12.2.2.2, HR72.out⟩⟩
            have hbw : But tb wr w7 := (But.refl tb wr).drew.trans (But.of_below HB7.out tb)
            have hlv := HV.out.snoc stays_lookT hbw (by have := HSW.out; omega) HBL.out.size hev HG8.out HO8.out
            have htk : m.looks.take k ++ [x] = m.looks.take (k + 1) := by rw [List.take_add_one, HX.out]; rfl
            rw [htk] at hlv
            have hT := turned_setCell w8 ⟨tb, 38, none⟩ (.slice A8 ((m.looks.take k).length + 1) c8)
            have hbt := (But.grewV HG8.out HOW.out W6 (HBL.out.trans hbw) (Nat.le_refl _)).trans (But.of_turned hT)
            have hr9 := mset38 HR8.out H32.out (.slice A8 ((m.looks.take k).length + 1) c8)
            rw [← List.length_take]
            exact ⟨k + 1, _, _, _, _, by omega, by go_num, hr9, hlv.but stays_lookT (But.of_turned hT) (by have := HSW.out; show tb < W6.heap.size; omega), hbt⟩
          case measure => simp [intOf]; omega
        · go_simp
          refine HC6.out.mono ?_
          rintro e w7 ⟨g2, rfl, hg2, hr2, hb7⟩
          have hb67 := HB6.out.trans (hb7.mono HB6.out.size)
          have HB7 := Lib.hid hb67
          have HS7 := Lib.hid (HS0.out.keep HBW.out.2.2.1 HBW.out.2.2.2 hb67)
          have HT7 := Lib.hid ((hb67.cell (p := ⟨tb, 38, none⟩) HBW.out.2.1).trans HT0.out)
          have HR71 := Lib.hid (HR61.out.below hb7 HR61.out.lt)
          have HR72 := Lib.hid hr2
          have HG12 := Lib.hid (And.intro HG1.out (And.intro HR61.out.lt (And.intro hg2 hr2.lt)))
          clear hr2 hb7 hb67 hg2
          simp only []
          refine hK _ _ HS7.out ?_
          clear hK K
          try simp only [Act.put, List.setIfInBounds_toArray, List.set_cons_zero, List.set_cons_succ]
          have HOW := Lib.hid (own_below (w := wr.drew) (w' := w7) HV.out.own HB7.out)
          have HON : Hid (∀ u ∈ (bv x.tab ++ [Value.slice (some ⟨g1, 0, none⟩) x.wr.length (x.wr.length + 3), Value.slice (some ⟨g2, 0, none⟩) x.rd.length (x.rd.length + 3)]), u.oneCell' = true) := Lib.hid (look_one x.tab rfl rfl)
          have HIC : Hid ((bv x.tab ++ [Value.slice (some ⟨g1, 0, none⟩) x.wr.length (x.wr.length + 3), Value.slice (some ⟨g2, 0, none⟩) x.rd.length (x.rd.length + 3)]).length = 34) := Lib.hid (by simp [bv_length, H32T.out])
          have HLW : Hid (W6.heap.size ≤ w7.heap.size ∧ (m.looks.take k).length ≤ 65535) := Lib.hid ⟨Nat.le_trans HBL.out.size HB7.out.size, by rw [List.length_take]; omega⟩
          have HLT7 : Hid (w.heap.size < w7.heap.size ∧ a.block < w7.heap.size) := Lib.hid (by have := HLW.out.1; have := HSW.out; omega)
          refine takeL (i := 22) (v := .agg (bv x.tab ++ [Value.slice (some ⟨g1, 0, none⟩) x.wr.length (x.wr.length + 3), Value.slice (some ⟨g2, 0, none⟩) x.rd.length (x.rd.length + 3)]).toArray) rfl (by kernel_rfl) (by kernel_rfl) (by kernel_rfl) (fun _ _ _ h => h) (Or.inl ⟨by rfl, fun w _ => exec_built w _ _ _ rfl (by simp only [List.map_toArray, List.map_cons, List.map_nil]; exact built_look3 (bv x.tab) (by rw [bv_length, H32T.out]) _ _ _ _ _ _)⟩) HS7.out ?_
          try simp only [Act.put, List.setIfInBounds_toArray, List.set_cons_zero, List.set_cons_succ]
          refine wpAnyH_ready (rs := [1, 23]) (by kernel_rfl) (by simp) ?_
          refine allL rfl (by kernel_rfl) (fun K hK => ?_) (allL rfl (by kernel_rfl) (fun K hK => ?_) (AllReadyH.nil))
          · have c37 := HT7.out
            go_simp
            clear c37
            refine hK _ _ HS7.out ?_
            clear hK K
            try simp only [Act.put, List.setIfInBounds_toArray, List.set_cons_zero, List.set_cons_succ]
            refine readyL (i := 23) rfl (by kernel_rfl) (by kernel_rfl) fun K hK => ?_
            refine wp_buildOne 28 52 (.tmp 75) rfl (bv x.tab ++ [Value.slice (some ⟨g1, 0, none⟩) x.wr.length (x.wr.length + 3), Value.slice (some ⟨g2, 0, none⟩) x.rd.length (x.rd.length + 3)]) _ 34 80 Tryd.underlying28 info_look zsz_look (by omega) (by omega) HIC.out ?_ ?_
            · go_simp
            refine hK _ _ (HS7.out.keep HLT7.out.1 HLT7.out.2 ((Below.refl _ _).alloc (Nat.le_refl _) _)) ?_
            clear hK K
            try simp only [Act.put, List.setIfInBounds_toArray, List.set_cons_zero, List.set_cons_succ]
            refine readyL (i := 24) rfl (by kernel_rfl) (by kernel_rfl) fun K hK => ?_
            refine wp_addRow (.tmp 54) (.tmp 76) 28 rfl W6.heap.size 52 _ 34 80 Tryd.underlying28 info_look zsz_look (by omega) (.slice A0 (m.looks.take k).length c0) (m.looks.take k).length css.flatten (bv x.tab ++ [Value.slice (some ⟨g1, 0, none⟩) x.wr.length (x.wr.length + 3), Value.slice (some ⟨g2, 0, none⟩) x.rd.length (x.rd.length + 3)]) 1 HIC.out HON.out rfl ?_ HOW.out ?_ HLW.out.1 (by have := HLW.out.2; unfold maxLen; omega) (by have := HLW.out.2; omega) ?_
            · go_simp
            · go_simp
            intro v8 w8 ho8 hg8
            obtain ⟨A8, c8, rfl⟩ := own_formN ho8
            have hb8 := hg8.below HOW.out HLW.out.1
            have HG8 := Lib.hid hg8
            have HO8 := Lib.hid ho8
            have HR8 := Lib.hid ((HR.out.drew.below HB7.out HBW.out.2.1).below hb8 (by have := HSW.out; omega))
            have HS8 := Lib.hid (HS7.out.keep (by have := HSW.out; omega) (by have := HSW.out; omega) hb8)
            have e8 := mc38 HR8.out H32.out
            have f8 := HR8.out.frozen 38
            clear ho8 hg8
            refine hK _ _ HS8.out ?_
            clear hK K
            try simp only [Act.put, List.setIfInBounds_toArray, List.set_cons_zero, List.set_cons_succ]
            refine takeL (i := 25) (v := ?_) rfl (by kernel_rfl) (by kernel_rfl) (by kernel_rfl) (fun _ _ _ h => h) (Or.inl ⟨by rfl, ?_⟩) HS8.out ?_
            rotate_left
            · intro w hw
              obtain ⟨q37, q0, q1, q2⟩ := hw
              clear q0
              go_simp
              try with_reducible rfl
            try simp only [Act.put, List.setIfInBounds_toArray, List.set_cons_zero, List.set_cons_succ]
            refine readyL (i := 26) rfl (by kernel_rfl) (by kernel_rfl) fun K hK => ?_
            go_simp
            refine hK _ _ (HS8.out.far (by have := HSW.out; omega) (by have := HSW.out; omega)) ?_
            clear hK K e8 f8
            try simp only [Act.put, List.setIfInBounds_toArray, List.set_cons_zero, List.set_cons_succ]
            refine wpAnyH_done (by kernel_rfl) ?_ _
            go_wp2_with fail
            go_roundw
            case rel =>
              have hz6 : wr.heap.size ≤ w6.heap.size := HB6.out.size
              have hz7 : wr.heap.size ≤ w7.heap.size := HB7.out.size
              have hg12 := HG12.out
              have hev : LookT w7 wr.heap.size w7.heap.size (bv x.tab ++ [Value.slice (some ⟨g1, 0, none⟩) x.wr.length (x.wr.length + 3), Value.slice (some ⟨g2, 0, none⟩) x.rd.length (x.rd.length + 3)]) x := by
                refine ⟨_, _, w6.heap.size, rfl, H32T.out, hz6, by omega, ⟨HBE.out.1, g1, rfl, hg12.1, hg12.2.1, HR71.out⟩, ⟨HBE.out.2, g2, rfl, hg12.2.2.1, hg12.2.2.2, HR72.out⟩⟩
              have hbw : But tb wr w7 := (But.refl tb wr).drew.trans (But.of_below HB7.out tb)
              have hlv := HV.out.snoc stays_lookT hbw (by have := HSW.out; omega) HBL.out.size hev HG8.out HO8.out
              have htk : m.looks.take k ++ [x] = m.looks.take (k + 1) := by rw [List.take_add_one, HX.out]; rfl
              rw [htk] at hlv
              have hT := turned_setCell w8 ⟨tb, 38, none⟩ (.slice A8 ((m.looks.take k).length + 1) c8)
              have hbt := (But.grewV HG8.out HOW.out W6 (HBL.out.trans hbw) (Nat.le_refl _)).trans (But.of_turned hT)
              have hr9 := mset38 HR8.out H32.out (.slice A8 ((m.looks.take k).length + 1) c8)
              rw [← List.length_take]
              exact ⟨k + 1, _, _, _, _, by omega, by go_num, hr9, hlv.but stays_lookT (But.of_turned hT) (by have := HSW.out; show tb < W6.heap.size; omega), hbt⟩
            case measure => simp [intOf]; omega
          · refine wp_buildOne 28 52 (.tmp 75) rfl (bv x.tab ++ [Value.slice (some ⟨g1, 0, none⟩) x.wr.length (x.wr.length + 3), Value.slice (some ⟨g2, 0, none⟩) x.rd.length (x.rd.length + 3)]) _ 34 80 Tryd.underlying28 info_look zsz_look (by omega) (by omega) HIC.out ?_ ?_
            · go_simp
            refine hK _ _ (HS7.out.keep HLT7.out.1 HLT7.out.2 ((Below.refl _ _).alloc (Nat.le_refl _) _)) ?_
            clear hK K
            try simp only [Act.put, List.setIfInBounds_toArray, List.set_cons_zero, List.set_cons_succ]
            refine readyL (i := 1) rfl (by kernel_rfl) (by kernel_rfl) fun K hK => ?_
            have c37 := ((Below.refl w7.heap.size w7).alloc (Nat.le_refl _) (.cells (bv x.tab ++ [Value.slice (some ⟨g1, 0, none⟩) x.wr.length (x.wr.length + 3), Value.slice (some ⟨g2, 0, none⟩) x.rd.length (x.rd.length + 3)]).toArray 52)).cell (p := ⟨tb, 38, none⟩) (show tb < w7.heap.size from Nat.lt_of_lt_of_le HBW.out.2.1 HB7.out.size) |>.trans HT7.out
            go_simp
            clear c37
            refine hK _ _ (HS7.out.keep HLT7.out.1 HLT7.out.2 ((Below.refl _ _).alloc (Nat.le_refl _) _)) ?_
            clear hK K
            try simp only [Act.put, List.setIfInBounds_toArray, List.set_cons_zero, List.set_cons_succ]
            refine readyL (i := 24) rfl (by kernel_rfl) (by kernel_rfl) fun K hK => ?_
            refine wp_addRow (.tmp 54) (.tmp 76) 28 rfl W6.heap.size 52 _ 34 80 Tryd.underlying28 info_look zsz_look (by omega) (.slice A0 (m.looks.take k).length c0) (m.looks.take k).length css.flatten (bv x.tab ++ [Value.slice (some ⟨g1, 0, none⟩) x.wr.length (x.wr.length + 3), Value.slice (some ⟨g2, 0, none⟩) x.rd.length (x.rd.length + 3)]) 1 HIC.out HON.out rfl ?_ HOW.out ?_ HLW.out.1 (by have := HLW.out.2; unfold maxLen; omega) (by have := HLW.out.2; omega) ?_
            · go_simp
            · go_simp
            intro v8 w8 ho8 hg8
            obtain ⟨A8, c8, rfl⟩ := own_formN ho8
            have hb8 := hg8.below HOW.out HLW.out.1
            have HG8 := Lib.hid hg8
            have HO8 := Lib.hid ho8
            have HR8 := Lib.hid ((HR.out.drew.below HB7.out HBW.out.2.1).below hb8 (by have := HSW.out; omega))
            have HS8 := Lib.hid (HS7.out.keep (by have := HSW.out; omega) (by have := HSW.out; omega) hb8)
            have e8 := mc38 HR8.out H32.out
            have f8 := HR8.out.frozen 38
            clear ho8 hg8
            refine hK _ _ HS8.out ?_
            clear hK K
            try simp only [Act.put, List.setIfInBounds_toArray, List.set_cons_zero, List.set_cons_succ]
            refine takeL (i := 25) (v := ?_) rfl (by kernel_rfl) (by kernel_rfl) (by kernel_rfl) (fun _ _ _ h => h) (Or.inl ⟨by rfl, ?_⟩) HS8.out ?_
            rotate_left
            · intro w hw
              obtain ⟨q37, q0, q1, q2⟩ := hw
              clear q0
              go_simp
              try with_reducible rfl
            try simp only [Act.put, List.setIfInBounds_toArray, List.set_cons_zero, List.set_cons_succ]
            refine readyL (i := 26) rfl (by kernel_rfl) (by kernel_rfl) fun K hK => ?_
            go_simp
            refine hK _ _ (HS8.out.far (by have := HSW.out; omega) (by have := HSW.out; omega)) ?_
            clear hK K e8 f8
            try simp only [Act.put, List.setIfInBounds_toArray, List.set_cons_zero, List.set_cons_succ]
            refine wpAnyH_done (by kernel_rfl) ?_ _
            go_wp2_with fail
            go_roundw
            case rel =>
              have hz6 : wr.heap.size ≤ w6.heap.size := HB6.out.size
              have hz7 : wr.heap.size ≤ w7.heap.size := HB7.out.size
              have hg12 := HG12.out
              have hev : LookT w7 wr.heap.size w7.heap.size (bv x.tab ++ [Value.slice (some ⟨g1, 0, none⟩) x.wr.length (x.wr.length + 3), Value.slice (some ⟨g2, 0, none⟩) x.rd.length (x.rd.length + 3)]) x := by
                refine ⟨_, _, w6.heap.size, rfl, H32T.out, hz6, by omega, ⟨HBE.out.1, g1, rfl, hg12.1, hg12.2.1, HR71.out⟩, ⟨HBE.out.2, g2, rfl, hg12.2.2.1, hg12.2.2.2, HR72.out⟩⟩
              have hbw : But tb wr w7 := (But.refl tb wr).drew.trans (But.of_below HB7.out tb)
              have hlv := HV.out.snoc stays_lookT hbw (by have := HSW.out; omega) HBL.out.size hev HG8.out HO8.out
              have htk : m.looks.take k ++ [x] = m.looks.take (k + 1) := by rw [List.take_add_one, HX.out]; rfl
              rw [htk] at hlv
              have hT := turned_setCell w8 ⟨tb, 38, none⟩ (.slice A8 ((m.looks.take k).length + 1) c8)
              have hbt := (But.grewV HG8.out HOW.out W6 (HBL.out.trans hbw) (Nat.le_refl _)).trans (But.of_turned hT)
              have hr9 := mset38 HR8.out H32.out (.slice A8 ((m.looks.take k).length + 1) c8)
              rw [← List.length_take]
              exact ⟨k + 1, _, _, _, _, by omega, by go_num, hr9, hlv.but stays_lookT (But.of_turned hT) (by have := HSW.out; show tb < W6.heap.size; omega), hbt⟩
            case measure => simp [intOf]; omega
    · obtain rfl : k = ln := by omega
      have htk : m.looks.take k = m.looks := List.take_of_length_le (by have := HNN.out.2.2; omega)
      have hvl := HV.out
      rw [htk] at hvl
      obtain ⟨LA', lc', hVf⟩ := hvl.form
      subst hVf
      have HLV := Lib.hid (LVR.of hvl)
      clear hvl htk
      have HKV := Lib.hid (keys_lvr HRK5.out (by rw [HNN.out.1]) HM5.out.keys.each (Nat.le_refl gk) (by omega : kn ≤ kn + 3) (by unfold maxLen; omega) (by rw [keyRow_len 3 rfl]; omega))
      obtain ⟨C9, hC9⟩ : ∃ C, C = Raw.cells ⟨some ⟨gk, 0, none⟩, kn, kn + 3, IA', m.ins.length, ic', LA', m.looks.length, lc'⟩ m := ⟨_, rfl⟩
      have HR9 : Hid (Row wr tb 30 C9) := Lib.hid (by rw [hC9]; exact HR.out)
      have HC9 := Lib.hid hC9
      have hl9 : C9.length = 39 := by rw [hC9]; exact cells_len H32.out
      have HSZ9 := Lib.hid (show (Tryd.prog.info? 30).map (·.size) = some C9.length by rw [size_msg, hl9])
      have HL9 := Lib.hid (show mzero.length = C9.length by rw [hl9]; rfl)
      have HO9 := Lib.hid (show ∀ u ∈ C9, u.oneCell' = true by rw [hC9]; exact cells_one)
      have HRZ9 := Lib.hid (HB5W.out.row HRZ5.out (by have := HSW.out; omega))
      clear hC9 hl9 HR HV
      go_wp2_with (first
        | ((with_reducible show wpList _ _ _ ({ dst := some 79, op := Op.load _ _, type := _, pos := _, after := _, guard := _ } :: _) _ _); go_must (refine wpList_load_whole rfl 30 (.tmp 3) rfl tb 30 C9 _ Tryd.underlying30 rfl HSZ9.out HR9.out ?_ ?_; go_simp))
        | ((with_reducible show wpList _ _ _ ({ dst := none, op := Op.store 30 _ _, type := _, pos := _, after := _, guard := _ } :: _) _ _); go_must (refine wpList_store_whole rfl 30 (.tmp 2) (.tmp 79) rfl (w.heap.size + 1) mzero C9 HRZ9.out HSZ9.out HL9.out HO9.out ?_ ?_ ?_; go_simp; go_simp; intro w9 hr9 ht9; have HR99 := Lib.hid hr9; have HT9 := Lib.hid ht9; clear hr9 ht9)))
      refine bodyPost_ret (results_cell_row (h := rfl) _ w9 (w.heap.size + 1) 30 _ (0, 0) _ (by rfl) HR99.out.is Tryd.underlying30 rfl HSZ9.out) rfl ?_
      have h1 := HSW.out
      have h2 := HT9.out.size
      have h3 := HBL.out.size
      have hk9 := (HKV.out.but HB5W.out (by omega)).turned HT9.out (by omega)
      have hi9 := (HIV.out.but HBL.out (by omega)).turned HT9.out (by omega)
      have hl9 := HLV.out.turned HT9.out (by omega)
      have hrk : Row w9 gk 48 (bv m.keys.flatten ++ keyRow 3 mk0) := ⟨(HT9.out.block gk (by omega)).trans (HB5W.out.row HRK5.out (by omega)).is⟩
      have hb9 : Below w.heap.size w w9 := (HB5.out.trans (HB5W.out.below (by omega) HB5.out.size)).trans (HT9.out.below (by omega))
      refine ⟨gk, ⟨some ⟨gk, 0, none⟩, kn, kn + 3, IA', m.ins.length, ic', LA', m.looks.length, lc'⟩, W5.heap.size, W6.heap.size, wr.heap.size, by rw [HC9.out], rfl, rfl, rfl, by omega, by omega, hrk, by omega, h3, by omega, hk9, hi9, hl9, hb9⟩
end Go.Proofs.YtdeadehcnellpaaDoor
