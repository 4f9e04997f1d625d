/-
  SameBytes of lists that are the same.
-/
import Derived.Test.YtolijdbdpnbchaaSame
namespace Go.Proofs.Ytolijdbdpnbchaa
open Go.RowKit
set_option linter.unusedVariables false

theorem same_yes3 (A B : Option Addr) (n m c d : Nat) (xs : List Int) (w : World) (S T : Nat)
    (hx : Sees w S A n (bv xs)) (hy : Sees w T B m (bv xs)) (hn : n ≤ maxLen) (hm : m ≤ maxLen) :
    Calls Try.prog 13 #[.slice A n c, .slice B m d] w fun e w' => e = .returned (.bool true) ∧ ∃ k, w' = w.drewN k := by
  refine (sameBytes A B n m c d xs xs w S T hx hy hn hm).mono ?_
  rintro e w' ⟨rfl, k, rfl⟩
  exact ⟨by simp, k, rfl⟩
end Go.Proofs.Ytolijdbdpnbchaa
