/-
  ferryhouseref01.Short.
-/
import Derived.Test.YtidggfbjmmjmfaaAppend
import Derived.Test.YtidggfbjmmjmfaaPut
namespace Go.Proofs.Ytidggfbjmmjmfaa
open Go.RowKit
set_option linter.unusedVariables false

/-- the call leaves a list of its own -/
def OwnRet (w : World) (t : TypeId) (n : Nat) (ys : List Int) (e : Ending) (w' : World) : Prop :=
  ∃ A c, e = .returned (.slice A n c) ∧ w'.ownsRow w.heap.size t 1 (.slice A n c) n (bv ys) ∧ Below w.heap.size w w'

theorem OwnRet.mk {w w' : World} {t : TypeId} {n : Nat} {ys : List Int} {v : Value} (h : w'.ownsRow w.heap.size t 1 v n (bv ys)) (hb : Below w.heap.size w w') : OwnRet w t n ys (.returned v) w' := by
  obtain ⟨A, c, rfl⟩ := own_form h
  exact ⟨A, c, rfl, h, hb⟩

set_option maxHeartbeats 400000 in
theorem refShort1 (x : Int) (w : World) (h0 : 0 ≤ x) (h1 : x < 128) : Calls Try.prog 30 #[.int .i64 x] w (OwnRet w 5 1 [x]) := by
  go_enter Try.func30, Try.ntmps30
  go_wp2_with fail
  go_ret
  refine OwnRet.mk ?_ ?_
  · exact (Row.new w 5 (bv [x])).own_all (Nat.le_refl _) (by simp [bv, cv, maxLen])
  · exact (Below.refl _ _).alloc (Nat.le_refl _) _

theorem refShort_step (x : Int) (w : World) (m : Nat) (ys : List Int) (h0 : 128 ≤ x) (h1 : x ≤ 65535) (hm : m ≤ 8)
    (H : ∀ w, Hid (Calls Try.prog 30 #[.int .i64 (x / 128)] w (OwnRet w 5 m ys))) :
    Calls Try.prog 30 #[.int .i64 x] w (OwnRet w 5 (1 + m) ((x % 128 + 128) :: ys)) := by
  go_enter Try.func30, Try.ntmps30
  go_wp2_with fail
  refine (H _).out.mono ?_
  rintro e w1 ⟨A, c, rfl, hown, hb⟩
  have hown0 := (((Row.new w 5 (bv [x % 128 + 128])).own_all (base := w.heap.size) (Nat.le_refl _) (by simp [bv, cv, maxLen])))
  have hb0 : Below w.heap.size w (w.alloc (.cells (bv [x % 128 + 128]).toArray 5)) := (Below.refl _ _).alloc (Nat.le_refl _) _
  have hrow1 := (Row.new w 5 (bv [x % 128 + 128])).below hb (by simp)
  have hown1 := hrow1.own_all (base := w.heap.size) (Nat.le_refl _) (by simp [bv, cv, maxLen])
  have hb1 := hb0.trans (hb.mono (by simp))
  have hsees := Sees.of_own hown
  have hone := bv_one ys
  have hsz := hb1.size
  clear hrow1 hown hb0 hown0
  go_wp2_with (at_builtin; (obtain ⟨i0, hi, hz0, hz1, hz2⟩ := info_parts info_u8); go_must (refine wpList_append_sees rfl (.tmp 12) (.tmp 15) 34 rfl w.heap.size 5 i0 _ 1 Try.underlying34 hi hz0 hz1 hz2 rfl _ 1 _ rfl hown1 _ A m c _ rfl hsees hone ?_ ?_ hsz ?_))
  case refine_1 => unfold maxLen; omega
  case refine_2 => omega
  intro v' w2 hown2 hg2 _
  go_wp2
  go_ret
  exact OwnRet.mk (by simpa [bv, cv] using hown2) (below_append hb1 hown1 (Nat.le_refl _) hsz hg2)

theorem refShort (x : Int) (w : World) (h0 : 0 ≤ x) (h1 : x ≤ 65535) : Calls Try.prog 30 #[.int .i64 x] w (OwnRet w 5 (short x).length (short x)) := by
  have two : ∀ (x : Int) (w : World), 128 ≤ x → x < 16384 → Calls Try.prog 30 #[.int .i64 x] w (OwnRet w 5 2 [x % 128 + 128, x / 128]) := fun x w h0 h1 =>
    refShort_step x w 1 [x / 128] h0 (by omega) (by omega) fun w => refShort1 (x / 128) w (by omega) (by omega)
  by_cases h : x < 128
  · have e : short x = [x] := by simp [short, h]
    rw [e]
    exact refShort1 x w h0 h
  · by_cases h' : x < 16384
    · have e : short x = [x % 128 + 128, x / 128] := by simp [short, h, h']
      rw [e]
      exact two x w (by omega) h'
    · have e : short x = [x % 128 + 128, x / 128 % 128 + 128, x / 16384] := by simp [short, h, h']
      have e2 : x / 128 / 128 = x / 16384 := by omega
      rw [e, ← e2]
      exact refShort_step x w 2 [x / 128 % 128 + 128, x / 128 / 128] (by omega) h1 (by omega) fun w => two (x / 128) w (by omega) (by omega)

theorem below_old {B : Nat} {w w1 w2 : World} (h : Below B w w1) (h2 : Below w1.heap.size w1 w2) (hB : B ≤ w1.heap.size) : Below B w w2 := h.trans (h2.mono hB)

theorem own_keep {w w' : World} {base : Nat} {e : TypeId} {v : Value} {n : Nat} {xs : List Value} (h : w.ownsRow base e 1 v n xs) (hb : Below w.heap.size w w') : w'.ownsRow base e 1 v n xs :=
  h.kept (row := none) ⟨hb.os, hb.tape, hb.output, hb.size, fun k hk _ => hb.block k hk⟩ (by cases v.ownBlock <;> simp)

end Go.Proofs.Ytidggfbjmmjmfaa
