/-
  messages.Get.
-/
import Derived.Test.YtidggfbjmmjmfaaMsgWalk
import Derived.Recover
namespace Go.Proofs.Ytidggfbjmmjmfaa
open Go.RowKit
set_option linter.unusedVariables false

theorem run_isErrno (c : Int) (w : World) : (Instr.typeAssert (.iface 35 (.int .i64 c)) 20 35 true).run Try.prog w = .ok (.tuple #[.int .i64 c, .bool true]) w := by kernel_rfl
theorem run_isErrno_nil (w : World) : (Instr.typeAssert .nilIface 20 35 true).run Try.prog w = .ok (.tuple #[.int .i64 0, .bool false]) w := by kernel_rfl

theorem mzero_one : ∀ u ∈ mzero, u.oneCell' = true := by unfold mzero; exact mone rfl rfl rfl
theorem frame37 (a b d i t x u : Value) : (#[a, b, d] : Array Value) ++ (((((((Array.replicate 10 undef).setIfInBounds 3 i).setIfInBounds 4 t).setIfInBounds 2 t).setIfInBounds 5 x).setIfInBounds 6 u).setIfInBounds 0 x).setIfInBounds 1 u = #[a, b, d, x, u, t, i, t, x, u, undef, undef, undef] := by kernel_rfl

set_option maxRecDepth 100000 in
set_option maxHeartbeats 1000000 in
theorem catch_panics (g : Nat) (c : Int) (cs₀ : List Value) (x y : Int) (w : World) (h0 : Row w g 30 cs₀) (hl : cs₀.length = 39) (h1 : Row w (g + 1) 3 [.int .i64 x]) (h2 : Row w (g + 2) 35 [.int .i64 y]) :
    CallsD Try.prog 37 #[.pointer (some ⟨g, 0, none⟩), .pointer (some ⟨g + 1, 0, none⟩), .pointer (some ⟨g + 2, 0, none⟩)] (.panicking ({ v := .iface 35 (.int .i64 c), recovered := false } :: [])) w fun e u' w' =>
      e = .returned (.tuple #[]) ∧ u' = .panicking ({ v := .iface 35 (.int .i64 c), recovered := true } :: []) ∧ Row w' g 30 mzero ∧ Row w' (g + 1) 3 [.int .i64 0] ∧ Row w' (g + 2) 35 [.int .i64 c] ∧ Below g w w' := by
  refine callsD_of_wpS Try.func37 rfl fun c₀ cs hu => ?_
  apply wpS_seq
  apply wpS_region
  simp [wpOpsS, go_sem, run_isErrno, recoverD, hu, Try.ntmps37, Exit.thenS]
  refine wpS_of_wp ?_
  rw [frame37]
  have HS := Lib.hid (show (Try.prog.info? 30).map (·.size) = some mzero.length from size_msg)
  have H0 := Lib.hid h0
  have H1 := Lib.hid h1
  have H2 := Lib.hid h2
  have HL := Lib.hid (show cs₀.length = mzero.length by rw [hl]; rfl)
  clear h0 h1 h2 hl
  go_wp2_with ((with_reducible show wpList _ _ _ ({ dst := none, op := Op.store 30 _ _, type := _, pos := _, after := _, guard := _ } :: _) _ _); go_must (refine wpList_store_whole rfl 30 (.tmp 0) (.tmp 11) rfl g _ mzero H0.out HS.out HL.out mzero_one ?_ ?_ ?_; go_simp; (go_simp; kernel_rfl); intro w1 hr1 ht1; have c1 := (ht1.row H1.out (by omega)).cell 0; have f1 := (ht1.row H1.out (by omega)).frozen 0; have c1 : w1.cell? ⟨g + 1, 0, none⟩ = some (.int .i64 x) := c1; have ht2 := turned_setCell w1 ⟨g + 1, 0, none⟩ (.int .i64 0); have c2 := (ht2.row (ht1.row H2.out (by omega)) (show g + 2 ≠ g + 1 by omega)).cell 0; have f2 := (ht2.row (ht1.row H2.out (by omega)) (show g + 2 ≠ g + 1 by omega)).frozen 0; have c2 : (w1.setCell ⟨g + 1, 0, none⟩ (.int .i64 0)).cell? ⟨g + 2, 0, none⟩ = some (.int .i64 y) := c2; have HT1 := Lib.hid ht1; have HR1 := Lib.hid hr1; have HT2 := Lib.hid ht2; clear ht1 hr1 ht2))
  have q1 := HT1.out.row H1.out (show g + 1 ≠ g by omega)
  have q2 := HT1.out.row H2.out (show g + 2 ≠ g by omega)
  have ht3 := turned_setCell (w1.setCell ⟨g + 1, 0, none⟩ (.int .i64 0)) ⟨g + 2, 0, none⟩ (.int .i64 c)
  refine ⟨rfl, _, rfl, .tuple #[], by simp [results, Try.results37], rfl, rfl, ?_, ?_, ?_, ?_⟩
  · exact (HR1.out.far (show g ≠ g + 1 by omega) _).far (show g ≠ g + 2 by omega) _
  · exact (q1.set_ 0 _).far (show g + 1 ≠ g + 2 by omega) _
  · exact (q2.far (show g + 2 ≠ g + 1 by omega) _).set_ 0 _
  · exact ((HT1.out.below (Nat.le_refl _)).setCell (show g ≤ g + 1 by omega) _).setCell (show g ≤ g + 2 by omega) _

set_option maxRecDepth 100000 in
set_option maxHeartbeats 1000000 in
theorem catch_idle (p0 p1 p2 : Addr) (w : World) :
    CallsD Try.prog 37 #[.pointer (some p0), .pointer (some p1), .pointer (some p2)] .returning w fun e u' w' => e = .returned (.tuple #[]) ∧ u' = .returning ∧ w' = w := by
  refine callsD_of_wpS Try.func37 rfl fun c₀ cs hu => ?_
  apply wpS_seq
  apply wpS_region
  simp [wpOpsS, go_sem, run_isErrno_nil, recoverD, hu, Try.ntmps37, Exit.thenS]
  refine wpS_of_wp ?_
  rw [frame37]
  go_wp2_with fail
  exact ⟨rfl, .returning, by rw [← hu], .tuple #[], by simp [results, Try.results37], rfl, rfl, rfl⟩
end Go.Proofs.Ytidggfbjmmjmfaa
