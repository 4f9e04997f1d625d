import Derived.Test.YtolijdbdpnbchaaRows
import Derived.Test.YtolijdbdpnbchaaRow
import Derived.Test.YtolijdbdpnbchaaBits
import Derived.WalkKit
import Derived.WalkSpells
import Derived.WalkLawsBesides
import Derived.IntWalk
namespace Go.Proofs.Ytolijdbdpnbchaa
open Go.RowKit
set_option linter.unusedVariables false

theorem info_u8 : (Try.prog.info? 5).map (fun i => (i.zero, i.size, i.bytes)) = some (some (.int .u8 0), 1, 1) := by kernel_rfl
theorem size_u8 : (Try.prog.info? 5).map (·.size) = some 1 := by kernel_rfl

theorem made_bytes (n : Nat) : (madeCells (Value.int .u8 0).cells (n * 1)).toList = bv (List.replicate n 0) := by
  apply List.ext_getElem?
  intro i
  simp [madeCells, bv, cv, Value.cells]
  by_cases h : i < n <;> simp [h, Nat.mod_one]

set_option maxHeartbeats 400000 in
theorem longer_ (A : Option Addr) (n c m : Nat) (zs : List Int) (w : World) (S : Nat)
    (hx : Sees w S A n (bv zs)) (hS : S ≤ w.heap.size) (hn : n ≤ 1099511627776) (hm : m ≤ 8) :
    Calls Try.prog 55 #[.slice A n c, .int .i64 m] w fun e w' => ∃ g, e = .returned (.slice (some ⟨g, 0, none⟩) (n + m) (n + m)) ∧ w.heap.size ≤ g ∧ Row w' g 5 (bv (zs ++ List.replicate m 0)) ∧ Below w.heap.size w w' := by
  obtain ⟨i0, hi, hz0, hz1, hz2⟩ := info_parts info_u8
  have lx := Lib.hid (show zs.length = n by have := hx.len; rwa [bv_length] at this)
  go_enter Try.func55, Try.ntmps55
  go_wp2_with (first
    | (at_make; go_must (refine wpList_make_full _ rfl (.tmp 9) (.tmp 9) 37 rfl w.heap.size 5 i0 _ 1 Try.underlying37 hi hz0 hz1 .i64 .i64 _ _ (n + m) rfl rfl (by simp) (by simp) (by rw [hz2]; omega) (by unfold maxLen; omega) (Nat.le_refl _) ?_; intro w1 hown hgrow); rw [made_bytes] at hown; have hrow := Row.of_own hown; have hb1 := (Below.refl w.heap.size w).grown hgrow (Nat.le_refl _) (fun k hk => by cases hk))
    | (with_reducible refine wpList_copy_splice rfl (.tmp 11) (.tmp 12) 37 37 rfl 5 Try.underlying37 size_u8 (some ⟨w.heap.size, 0, none⟩) A (n + m) (n + m) n c rfl rfl w.heap.size 0 (bv (List.replicate (n + m) 0)) 5 hrow.is (bv zs) ?_ ?_ ?_ (bv_one zs) w.heap.size w hb1 (Nat.le_refl _) ?_))
  case refine_1 => rw [bv_length, lx.out]; simp
  case refine_2 =>
    intro hp
    obtain ⟨a, _, e, _⟩ := hx.at_ (k := 0) (by rw [bv_length, lx.out] at hp; exact hp)
    refine ⟨a, e, fun j v hv => ?_⟩
    obtain ⟨_, e', _, hc⟩ := (hx.below (hb1.mono hS)).cell j v hv
    rw [e] at e'
    cases e'
    exact hc
  case refine_3 => rw [bv_length, bv_length, lx.out]; simp
  intro w2 hrow2 hb2
  go_wp2
  go_ret
  refine ⟨w.heap.size, rfl, Nat.le_refl _, ?_, hb2⟩
  have h := hrow2.out
  refine ⟨?_⟩
  rw [h]
  have e : splice (bv (List.replicate (n + m) 0)) 0 (bv zs) = bv (zs ++ List.replicate m 0) := by
    simp [splice, bv, cv, lx.out]
  rw [e]
end Go.Proofs.Ytolijdbdpnbchaa
