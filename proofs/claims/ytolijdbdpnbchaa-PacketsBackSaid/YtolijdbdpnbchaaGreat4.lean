/-
  ferryhouselaw04.great.
-/
import Derived.Test.YtolijdbdpnbchaaTx
import Derived.Test.YtolijdbdpnbchaaGreat
import Derived.Test.YtolijdbdpnbchaaGuard
import Derived.Test.YtolijdbdpnbchaaSameZero
namespace Go.Proofs.Ytolijdbdpnbchaa
open Go.RowKit
set_option linter.unusedVariables false

set_option maxRecDepth 100000 in
set_option maxHeartbeats 400000 in
theorem great4 (s : TRaw) (x : LTx) (B : Nat) (w : World) (hm : TxIn w B s x) (hB : B ≤ w.heap.size) (hs : Sized x.m) :
    Calls Try.prog 8 #[.agg (s.cells x).toArray] w fun e w' => (∃ b, e = .returned (.bool b) ∧ (b = false → x.sigs.length ≤ 100 ∧ total x.m < 3000)) ∧ Below w.heap.size w w' := by
  obtain ⟨SA, sn, sc, q⟩ := s
  have hsl := hm.sigs.len
  have hsc := hm.sn
  dsimp only at hsl hsc
  have hrow := Row.new w 33 (TRaw.cells ⟨SA, sn, sc, q⟩ x)
  have hb0 := (Below.refl w.heap.size w).alloc (Nat.le_refl _) (.cells (TRaw.cells ⟨SA, sn, sc, q⟩ x).toArray 33)
  have c0 : (w.alloc (.cells (TRaw.cells ⟨SA, sn, sc, q⟩ x).toArray 33)).cell? ⟨w.heap.size, 0, none⟩ = some (.slice SA sn sc) := hrow.cell 0
  have HG := Lib.hid (great_ q x.m B _ (hm.below (hb0.mono hB)).m (Nat.le_trans hB hb0.size) hs)
  have HSM := Lib.hid (show (Try.prog.info? 31).map (·.size) = some (q.cells x.m).length by rw [size_msg, cells_len hm.m.recent])
  have HCM := Lib.hid (tcells_m (s := ⟨SA, sn, sc, q⟩) (x := x))
  dsimp only at HCM
  have HSL := Lib.hid hsl
  unfold maxLen at hsc
  generalize TRaw.cells ⟨SA, sn, sc, q⟩ x = cs at *
  have HROW := Lib.hid hrow
  have HB0 := Lib.hid hb0
  clear hrow hb0 hm hsl
  by_cases h : 100 < (sn : Int)
  · go_enter Try.func8, Try.ntmps8
    go_wp2_with fail
    go_ret
    exact ⟨⟨true, rfl, fun h => by cases h⟩, HB0.out⟩
  · go_enter Try.func8, Try.ntmps8
    go_wp2_with (first
      | ((with_reducible show wpList _ _ _ ({ dst := some 9, op := Op.load _ _, type := _, pos := _, after := _, guard := _ } :: _) _ _); go_must (refine wpList_load_atg (by kernel_rfl) 31 (.tmp 8) rfl ⟨w.heap.size, 1, none⟩ (q.cells x.m) _ Try.underlying31 rfl HSM.out (fun j u hu => by rw [addr_row, HROW.out.cell, HCM.out]; exact hu) ?_ ?_; go_simp)))
    refine HG.out.mono ?_
    rintro e w1 ⟨⟨b, rfl, hgr⟩, hb1⟩
    go_wp2_with fail
    go_ret
    exact ⟨⟨b, rfl, fun hb => ⟨by have := HSL.out; omega, hgr hb⟩⟩, HB0.out.trans (hb1.mono HB0.out.size)⟩
end Go.Proofs.Ytolijdbdpnbchaa
