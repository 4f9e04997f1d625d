/-
  A message's bytes: they are bytes; there are some.
-/
import Derived.Test.YtolijdbdpnbchaaParseBack
import Derived.Test.YtolijdbdpnbchaaPutMsg
import Derived.Test.YtolijdbdpnbchaaCameIn
import Derived.Test.YtolijdbdpnbchaaListK
namespace Go.Proofs.Ytolijdbdpnbchaa
open Go.RowKit
set_option linter.unusedVariables false

theorem isByte_wf {z : Int} (h : (Lit.int .u8 z).wf = true) : IsByte z := by
  have := bounds_u8 h
  unfold IsByte
  omega
theorem enc_pos (m : LMsg) : 0 < (enc m).length := by
  have := enc_parts m
  have : 3 ≤ (encHead m).length := by unfold encHead; simp
  omega
theorem short_bytes (n : Nat) (h : n ≤ 65535) : AllBytes (short n) := by
  intro z hz
  unfold short at hz
  unfold IsByte
  split at hz
  · simp at hz; omega
  · split at hz <;> simp at hz <;> omega
theorem AllBytes.app {a b : List Int} (ha : AllBytes a) (hb : AllBytes b) : AllBytes (a ++ b) := fun z hz => by
  rcases List.mem_append.1 hz with h | h
  · exact ha z h
  · exact hb z h
theorem AllBytes.map {α : Type} {f : α → List Int} {l : List α} (h : ∀ x ∈ l, AllBytes (f x)) : AllBytes (l.flatMap f) := fun z hz => by
  obtain ⟨x, hx, hz⟩ := List.mem_flatMap.1 hz
  exact h x hx z hz
theorem enc_bytes {m : LMsg} (hf : Fits m) (hw : m.Wf) : AllBytes (enc m) := by
  obtain ⟨f1, f2, f3, f4, f5, f6⟩ := hf
  have hh : AllBytes (encHead m) := by
    intro z hz
    have h1 := hw.s
    have h2 := hw.r
    have h3 := hw.o
    unfold encHead at hz
    split at hz <;> simp at hz
    · rcases hz with rfl | rfl | rfl | rfl
      · unfold IsByte; omega
      all_goals assumption
    · rcases hz with rfl | rfl | rfl <;> assumption
  have ht : AllBytes (encTail m) := by
    unfold encTail
    split
    · exact (short_bytes _ f4).app (AllBytes.map fun l hl => (hw.looks l hl).1.2.app (((short_bytes _ (f6 l hl).1).app (hw.looks l hl).2.1).app ((short_bytes _ (f6 l hl).2).app (hw.looks l hl).2.2)))
    · intro z hz; simp at hz
  have hk : AllBytes m.keys.flatten := fun z hz => by
    obtain ⟨k, hk, hz⟩ := List.mem_flatten.1 hz
    exact (hw.keys k hk).2 z hz
  have hi : AllBytes (m.ins.flatMap encIn) := AllBytes.map fun i hi z hz => by
    unfold encIn at hz
    rcases List.mem_cons.1 hz with rfl | hz
    · exact (hw.ins i hi).1
    · exact (((short_bytes _ (f5 i hi).1).app (hw.ins i hi).2.1).app ((short_bytes _ (f5 i hi).2).app (hw.ins i hi).2.2)) z hz
  exact hh.app ((short_bytes _ f2).app (hk.app (hw.recent.2.app ((short_bytes _ f3).app (hi.app ht)))))
theorem info_key3 : (Try.prog.info? 58).map (fun i => (i.zero, i.size, i.bytes)) = some (some (.agg (zeros 32).toArray), 32, 32) := by kernel_rfl
end Go.Proofs.Ytolijdbdpnbchaa
