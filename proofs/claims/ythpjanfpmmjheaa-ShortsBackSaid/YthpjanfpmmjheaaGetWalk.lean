import Derived.Test.YthpjanfpmmjheaaLives
import Derived.Test.YthpjanfpmmjheaaRefGet
import Derived.Test.YthpjanfpmmjheaaRefGetN
namespace Go.Proofs.Ythpjanfpmmjheaa
open Go.RowKit
set_option linter.unusedVariables false

set_option maxHeartbeats 1000000 in
theorem get_walk (A : Option Addr) (n c : Nat) (zs : List Int) (m : Int) (w : World) (hx : Sees w w.heap.size A n (bv zs)) (hn : n ≤ maxLen) (hb : Bytes zs) :
    Calls Try.prog 4 #[.slice A n c, .int .i64 m] w fun e w' => e = .returned (.bool true) ∧ Below w.heap.size w w' := by
  have G1 := fun w (hx : Sees w w.heap.size A n (bv zs)) => Lib.hid (getShort A n c zs w _ hx hn hb)
  have G2 := fun w (hx : Sees w w.heap.size A n (bv zs)) => Lib.hid (refGetShort A n c zs w _ hx hn hb)
  have G3 := fun w (hx : Sees w w.heap.size A n (bv zs)) => Lib.hid (getMany A n c zs m w _ hx hn hb)
  have G4 := fun w (hx : Sees w w.heap.size A n (bv zs)) => Lib.hid (refGet A n c zs m w _ hx hn hb)
  unfold maxLen at hn
  clear hb
  generalize getS zs = s at *
  generalize getN zs m = g at *
  by_cases hbig : n ≤ 5000
  · go_enter Try.func4, Try.ntmps4
    go_wp2_with fail
    refine (G1 _ hx).out.mono ?_
    rintro e w1 ⟨rfl, rfl⟩
    go_wp2_with fail
    refine (G2 _ hx).out.mono ?_
    rintro e w1 ⟨rfl, rfl⟩
    go_wp2_with fail
    refine (G3 _ hx).out.mono ?_
    rintro e w1 ⟨rfl, rfl⟩
    go_wp2_with fail
    refine (G4 _ hx).out.mono ?_
    rintro e w1 ⟨rfl, rfl⟩
    go_wp2_with fail
    refine (lives _).mono ?_
    rintro e w5 ⟨rfl, hb5⟩
    go_wp2_with fail
    go_ret
    exact ⟨rfl, hb5⟩
  · go_enter Try.func4, Try.ntmps4
    go_wp2_with fail
    refine (lives _).mono ?_
    rintro e w5 ⟨rfl, hb5⟩
    go_wp2_with fail
    go_ret
    exact ⟨rfl, hb5⟩

theorem bytes_wf {zs : List Int} (h : ∀ z ∈ zs, (Lit.int .u8 z).wf = true) : Bytes zs := bytes_of fun z hz => by
  have := h z hz
  simp [Lit.wf, IntKind.min, IntKind.max, IntKind.signed, IntKind.bits] at this
  omega
end Go.Proofs.Ythpjanfpmmjheaa
