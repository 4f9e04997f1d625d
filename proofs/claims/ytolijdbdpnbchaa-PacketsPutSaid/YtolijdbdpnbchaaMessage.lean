/-
  messages.reader.message.
-/
import Derived.Test.YtolijdbdpnbchaaListK
namespace Go.Proofs.Ytolijdbdpnbchaa
open Go.RowKit
set_option linter.unusedVariables false

/-- a list of the call's own, in the blocks from lo to hi -/
def LVR {α : Type} (EV : World → Nat → Nat → List Value → α → Prop) (e size : Nat) (w : World) (lo hi : Nat) (v : Value) (l : List α) : Prop :=
  ∃ w0 css L R, LV EV e size w0 lo v l css L R ∧ w0.heap.size = hi ∧ hi ≤ w.heap.size ∧ ∀ k, lo ≤ k → k < hi → w.heap[k]? = w0.heap[k]?

section
variable {α : Type} {EV : World → Nat → Nat → List Value → α → Prop} {e size : Nat} {w w' : World} {lo hi : Nat} {v : Value} {l : List α}
theorem LVR.of {css : List (List Value)} {L R : Nat → Nat} (h : LV EV e size w lo v l css L R) : LVR EV e size w lo w.heap.size v l := ⟨w, css, L, R, h, rfl, Nat.le_refl _, fun _ _ _ => rfl⟩
theorem LVR.nil (w : World) (hlo : lo ≤ w.heap.size) : LVR EV e size w lo w.heap.size (.slice none 0 0) [] := LVR.of (L := fun _ => 0) (R := fun _ => 0) (LV.none (World.ownsRow_nil w lo e size))
theorem LVR.but {p : Nat} (h : LVR EV e size w lo hi v l) (hb : But p w w') (hp : p < lo) : LVR EV e size w' lo hi v l := by
  obtain ⟨w0, css, L, R, h1, h2, h3, h4⟩ := h
  exact ⟨w0, css, L, R, h1, h2, Nat.le_trans h3 hb.size, fun k a b => (hb.block k (by omega) (by omega)).trans (h4 k a b)⟩
theorem LVR.turned {g : Nat} (h : LVR EV e size w lo hi v l) (ht : Turned w w' g) (hg : g < lo) : LVR EV e size w' lo hi v l := by
  obtain ⟨w0, css, L, R, h1, h2, h3, h4⟩ := h
  exact ⟨w0, css, L, R, h1, h2, by rw [ht.size]; exact h3, fun k a b => (ht.block k (by omega)).trans (h4 k a b)⟩
theorem LVR.below (h : LVR EV e size w lo hi v l) (hb : Below w.heap.size w w') : LVR EV e size w' lo hi v l := by
  obtain ⟨w0, css, L, R, h1, h2, h3, h4⟩ := h
  exact ⟨w0, css, L, R, h1, h2, Nat.le_trans h3 hb.size, fun k a b => (hb.block k (by omega)).trans (h4 k a b)⟩
theorem LVR.form (h : LVR EV e size w lo hi v l) : ∃ A c, v = .slice A l.length c := by
  obtain ⟨w0, css, L, R, h1, _⟩ := h
  exact h1.form
end

/-- a message of the call's own, in the blocks from lo to hi -/
structure MsgV (w : World) (lo hi : Nat) (q : Raw) (m : LMsg) : Prop where
  recent : m.recent.length = 32
  short : m.keys.length ≤ 65535 ∧ m.ins.length ≤ 65535 ∧ m.looks.length ≤ 65535
  is : ∃ a1 b1 a2 b2 a3 b3, (lo ≤ a1 ∧ a1 ≤ b1 ∧ b1 ≤ a2 ∧ a2 ≤ b2 ∧ b2 ≤ a3 ∧ a3 ≤ b3 ∧ b3 ≤ hi) ∧ LVR KeyV 58 32 w a1 b1 (.slice q.KA q.kn q.kc) m.keys ∧ LVR InV 89 3 w a2 b2 (.slice q.IA q.n q.ic) m.ins ∧ LVR LookV 93 34 w a3 b3 (.slice q.LA q.ln q.lc) m.looks

theorem MsgV.turned {w w' : World} {lo hi g : Nat} {q : Raw} {m : LMsg} (h : MsgV w lo hi q m) (ht : Turned w w' g) (hg : g < lo) : MsgV w' lo hi q m := by
  obtain ⟨a1, b1, a2, b2, a3, b3, h1, h5, h6, h7⟩ := h.is
  exact ⟨h.recent, h.short, a1, b1, a2, b2, a3, b3, h1, h5.turned ht (by omega), h6.turned ht (by omega), h7.turned ht (by omega)⟩
theorem MsgV.more {w : World} {lo hi hi' : Nat} {q : Raw} {m : LMsg} (h : MsgV w lo hi q m) (hh : hi ≤ hi') : MsgV w lo hi' q m := by
  obtain ⟨a1, b1, a2, b2, a3, b3, h1, h5⟩ := h.is
  exact ⟨h.recent, h.short, a1, b1, a2, b2, a3, b3, by omega, h5⟩

theorem LVR.stay {α : Type} {EV : World → Nat → Nat → List Value → α → Prop} {e size : Nat} {w w' : World} {lo hi : Nat} {v : Value} {l : List α} (h : LVR EV e size w lo hi v l) (hz : w.heap.size ≤ w'.heap.size) (hk : ∀ k, lo ≤ k → k < hi → w'.heap[k]? = w.heap[k]?) : LVR EV e size w' lo hi v l := by
  obtain ⟨w0, css, L, R, h1, h2, h3, h4⟩ := h
  exact ⟨w0, css, L, R, h1, h2, Nat.le_trans h3 hz, fun k a b => (hk k a b).trans (h4 k a b)⟩
theorem MsgV.stay {w w' : World} {lo hi : Nat} {q : Raw} {m : LMsg} (h : MsgV w lo hi q m) (hz : w.heap.size ≤ w'.heap.size) (hk : ∀ k, lo ≤ k → k < hi → w'.heap[k]? = w.heap[k]?) : MsgV w' lo hi q m := by
  obtain ⟨a1, b1, a2, b2, a3, b3, h1, h5, h6, h7⟩ := h.is
  exact ⟨h.recent, h.short, a1, b1, a2, b2, a3, b3, h1, h5.stay hz fun k a b => hk k (by omega) (by omega), h6.stay hz fun k a b => hk k (by omega) (by omega), h7.stay hz fun k a b => hk k (by omega) (by omega)⟩

/-- a message's cells, by themselves -/
def mcells (v0 : Bool) (s r o : Int) (K : Value) (h : List Int) (I L : Value) : List Value := [.bool v0, .int .u8 s, .int .u8 r, .int .u8 o, K] ++ (bv h ++ [I, L])
theorem cells_m (q : Raw) (m : LMsg) : q.cells m = mcells m.v0 m.s m.r m.o (.slice q.KA q.kn q.kc) m.recent (.slice q.IA q.n q.ic) (.slice q.LA q.ln q.lc) := rfl
def zero32 : List Int := List.replicate 32 0
theorem zero32_len : zero32.length = 32 := rfl
def mzero : List Value := mcells false 0 0 0 (.slice none 0 0) zero32 (.slice none 0 0) (.slice none 0 0)

section
variable {w : World} {g t : Nat} {v0 : Bool} {s r o : Int} {K I L : Value} {h : List Int}
theorem mset0 (hr : Row w g t (mcells v0 s r o K h I L)) (b : Bool) : Row (w.setCell ⟨g, 0, none⟩ (.bool b)) g t (mcells b s r o K h I L) := hr.set_ 0 _
theorem mset1 (hr : Row w g t (mcells v0 s r o K h I L)) (x : Int) : Row (w.setCell ⟨g, 1, none⟩ (.int .u8 x)) g t (mcells v0 x r o K h I L) := hr.set_ 1 _
theorem mset2 (hr : Row w g t (mcells v0 s r o K h I L)) (x : Int) : Row (w.setCell ⟨g, 2, none⟩ (.int .u8 x)) g t (mcells v0 s x o K h I L) := hr.set_ 2 _
theorem mset3 (hr : Row w g t (mcells v0 s r o K h I L)) (x : Int) : Row (w.setCell ⟨g, 3, none⟩ (.int .u8 x)) g t (mcells v0 s r x K h I L) := hr.set_ 3 _
theorem mset4 (hr : Row w g t (mcells v0 s r o K h I L)) (x : Value) : Row (w.setCell ⟨g, 4, none⟩ x) g t (mcells v0 s r o x h I L) := hr.set_ 4 _
theorem mset37 (hr : Row w g t (mcells v0 s r o K h I L)) (hl : h.length = 32) (x : Value) : Row (w.setCell ⟨g, 37, none⟩ x) g t (mcells v0 s r o K h x L) := by
  have e := hr.set_ 37 x
  unfold mcells at e
  rw [List.set_append_right _ _ (by simp), List.set_append_right _ _ (by rw [bv_length, hl]; simp), bv_length, hl] at e
  exact e
theorem mset38 (hr : Row w g t (mcells v0 s r o K h I L)) (hl : h.length = 32) (x : Value) : Row (w.setCell ⟨g, 38, none⟩ x) g t (mcells v0 s r o K h I x) := by
  have e := hr.set_ 38 x
  unfold mcells at e
  rw [List.set_append_right _ _ (by simp), List.set_append_right _ _ (by rw [bv_length, hl]; simp), bv_length, hl] at e
  exact e
theorem mpart {h' : List Int} (hl : h.length = 32) (hl' : h'.length = 32) : (mcells v0 s r o K h I L).take 5 ++ bv h' ++ (mcells v0 s r o K h I L).drop (5 + (bv h').length) = mcells v0 s r o K h' I L := by
  unfold mcells
  rw [bv_length, hl', List.take_left' (by rfl), show 5 + 32 = ([Value.bool v0, .int .u8 s, .int .u8 r, .int .u8 o, K] : List Value).length + 32 from rfl, List.drop_length_add_append]
  rw [List.drop_left' (by rw [bv_length, hl])]
  simp
theorem mlen (hl : h.length = 32) : (mcells v0 s r o K h I L).length = 39 := by simp [mcells, bv_length, hl]
theorem mc37 (hr : Row w g t (mcells v0 s r o K h I L)) (hl : h.length = 32) : w.cell? ⟨g, 37, none⟩ = some I := by
  rw [hr.cell]
  simp [mcells, List.getElem?_append, bv_length, hl]
theorem mc38 (hr : Row w g t (mcells v0 s r o K h I L)) (hl : h.length = 32) : w.cell? ⟨g, 38, none⟩ = some L := by
  rw [hr.cell]
  simp [mcells, List.getElem?_append, bv_length, hl]
theorem mone (hK : K.oneCell' = true) (hI : I.oneCell' = true) (hL : L.oneCell' = true) : ∀ u ∈ mcells v0 s r o K h I L, u.oneCell' = true := by
  intro u hu
  simp only [mcells, List.mem_append, List.mem_cons, List.not_mem_nil, or_false] at hu
  rcases hu with (rfl | rfl | rfl | rfl | rfl) | hu | rfl | rfl
  all_goals first | rfl | assumption | exact bv_one _ _ hu
end
end Go.Proofs.Ytolijdbdpnbchaa
