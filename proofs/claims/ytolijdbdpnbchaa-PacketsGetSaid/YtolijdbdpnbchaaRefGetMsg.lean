/-
  ferryhouseref03.Get, by its contract.
-/
import Derived.Test.YtolijdbdpnbchaaRefMsgA
import Derived.Test.YtolijdbdpnbchaaRefMsgB
import Derived.Test.YtolijdbdpnbchaaRefMsgC
namespace Go.Proofs.Ytolijdbdpnbchaa
open Go.RowKit
set_option linter.unusedVariables false

set_option maxRecDepth 100000 in
set_option maxHeartbeats 2000000 in
theorem refGetMsgD (A : Option Addr) (c : Nat) (zs : List Int) (w : World) (B : Nat) (hx : Sees w B A zs.length (bv zs)) (hB : B ≤ w.heap.size) (hnc : zs.length ≤ c ∧ (A = none → c = 0)) (hc : c ≤ maxLen) (hz : AllBytes zs) (a : Int) (r : List Int) (hP : pOctet zs = .ok (a, r) ∧ 128 < a) :
    Calls Try.prog 44 #[.slice A zs.length c] w (RefGot w zs) := by
  have HX := Lib.hid hx
  have HNC := Lib.hid (And.intro hnc hc)
  have HZ := Lib.hid hz
  have HP := Lib.hid hP
  clear hx hnc hc hP
  go_enter Try.func44, Try.ntmps44
  go_wp2_with (((with_reducible show wpList _ _ _ ({ dst := none, op := Op.store 31 _ _, type := _, pos := _, after := _, guard := _ } :: _) _ _); go_must (refine wpList_store_new rfl 31 (.tmp 6) (.tmp 17) rfl mzero size_mz mzero_one rfl ?_ ?_ ?_; go_simp; go_simp; rfl; intro w1 hr1 hb1 hz1; have HR1 := Lib.hid hr1; have HB1 := Lib.hid hb1; clear hr1 hb1)))
  have ha1 : RAt w w1 B zs mzero (.ok zs) := rat_first HX.out HNC.out.1 HNC.out.2 hB HR1.out HB1.out
  have HA := Lib.hid ha1
  clear HR1 HB1 ha1 hz1
  refine (tbyte_ (w.heap.size + 1) B zs (.ok zs) w1 HA.out.tk (by omega) HZ.out).mono ?_
  rintro e w2 ⟨x, v, s1, rfl, ⟨rfl, hx, hx0⟩, hs1, ht1, hb1⟩
  have HA1 := Lib.hid (HA.out.call hb1 ht1)
  have c2 := ht1.ecell.1
  obtain ⟨rfl, rfl⟩ : x = a ∧ s1 = .ok r := step_octet hs1 HP.out.1
  have hx1 : 128 < x := HP.out.2
  have HNO := Lib.hid (Step.first_no hs1 hx1)
  rw [show ecode (.ok r) = 0 from rfl] at c2
  clear ht1 hb1 hs1 HA hx hx0
  have HRS := Lib.hid HA1.out.res
  go_wp2_with (((with_reducible show wpList _ _ _ ({ dst := none, op := Op.store 31 (.tmp 2) _, type := _, pos := _, after := _, guard := _ } :: _) _ _); go_must (refine wpList_store_whole rfl 31 (.tmp 2) (.tmp 29) rfl w.heap.size mzero mzero HRS.out size_mz rfl mzero_one ?_ ?_ ?_; go_simp; go_simp; (try rfl); intro wl hrl htl; have HRL := Lib.hid hrl; have HTL := Lib.hid htl; clear hrl htl)))
  refine bodyPost_ret (results_cell_two (h := rfl) _ wl ⟨w.heap.size, 0, none⟩ (.agg mzero.toArray) _ _ (by rfl) (run_loadVar_row wl w.heap.size 31 31 mzero.toArray (0, 0) _ HRL.out.is Try.underlying31 rfl (by rw [List.size_toArray]; exact size_mz)) (by rfl) (by rfl)) rfl ?_
  exact ⟨HA1.out.below.trans (HTL.out.below (Nat.le_refl _)), .inr ⟨4, HNO.out, rfl⟩⟩

theorem refGetMsg (A : Option Addr) (c : Nat) (zs : List Int) (w : World) (B : Nat) (hx : Sees w B A zs.length (bv zs)) (hB : B ≤ w.heap.size) (hnc : zs.length ≤ c ∧ (A = none → c = 0)) (hc : c ≤ maxLen) (hz : AllBytes zs) :
    Calls Try.prog 44 #[.slice A zs.length c] w (RefGot w zs) := by
  cases hP : pOctet zs with
  | error k => exact refGetMsgC A c zs w B hx hB hnc hc hz k hP
  | ok a =>
    obtain ⟨a, r⟩ := a
    rcases Int.lt_trichotomy a 128 with h | h | h
    · exact refGetMsgA A c zs w B hx hB hnc hc hz a r ⟨hP, h⟩
    · subst h; exact refGetMsgB A c zs w B hx hB hnc hc hz r hP
    · exact refGetMsgD A c zs w B hx hB hnc hc hz a r ⟨hP, h⟩
end Go.Proofs.Ytolijdbdpnbchaa
