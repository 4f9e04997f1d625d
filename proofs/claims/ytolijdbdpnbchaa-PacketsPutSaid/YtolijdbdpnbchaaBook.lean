import Derived.Test.YtolijdbdpnbchaaAppend
import Derived.Test.YtolijdbdpnbchaaLonger
namespace Go.Proofs.Ytolijdbdpnbchaa
open Go.RowKit
set_option linter.unusedVariables false

/-- a page: where its list lies, how long it is, its room, its two signs -/
structure Pg where
  A : Option Nat
  n : Nat
  c : Nat
  h : Int
  f : Int

def Pg.addr (p : Pg) : Option Addr := p.A.map fun g => ⟨g, 0, none⟩
def Pg.list (p : Pg) : Value := .slice p.addr p.n p.c
/-- as the book keeps it -/
def Pg.val (p : Pg) : Value := .iface 73 (.agg #[p.list, .int .u8 p.h, .int .u8 p.f])

theorem info_page : (Try.prog.info? 75).map (fun i => (i.zero, i.size, i.bytes)) = some (some .nilIface, 1, 16) := by kernel_rfl

set_option maxHeartbeats 400000 in
theorem number_ (p : Nat) (A : Option Addr) (n c : Nat) (w : World) (hr : Row w p 45 [.slice A n c]) (hn : n ≤ 1000000) :
    Calls Try.prog 39 #[.pointer (some ⟨p, 0, none⟩)] w fun e w' => e = .returned (.int .i64 ((n : Int) + 1)) ∧ w = w' := by
  have c0 : w.cell? ⟨p, 0, none⟩ = some (.slice A n c) := hr.cell 0
  clear hr
  go_enter Try.func39, Try.ntmps39
  go_wp2
  go_ret
  exact ⟨rfl, rfl⟩

/-- the sign of the n-th page (from 1 on) -/
def mark1 (n : Nat) : Int := (n : Int) % 256
def mark2 (n : Nat) : Int := 255 - (n : Int) % 256

set_option maxHeartbeats 400000 in
theorem bookBytes (p : Nat) (A B : Option Addr) (n c m d : Nat) (ps : List Value) (base : Nat) (w : World)
    (hr : Row w p 45 [.slice A n c]) (hown : w.ownsRow base 75 1 (.slice A n c) n ps) (hn : n ≤ 1000000) (hbase : base ≤ w.heap.size) :
    Calls Try.prog 16 #[.pointer (some ⟨p, 0, none⟩), .slice B m d] w fun e w' => ∃ A' c', e = .returned (.tuple #[]) ∧ Row w' p 45 [.slice A' (n + 1) c'] ∧
      w'.ownsRow base 75 1 (.slice A' (n + 1) c') (n + 1) (ps ++ [.iface 73 (.agg #[.slice B m d, .int .u8 (mark1 (n + 1)), .int .u8 (mark2 (n + 1))])]) ∧
      (∀ k, k < base → k ≠ p → w'.heap[k]? = w.heap[k]?) ∧ w'.os = w.os ∧ w'.tape = w.tape ∧ w'.output = w.output ∧ w.heap.size ≤ w'.heap.size := by
  obtain ⟨i0, hi, hz0, hz1, hz2⟩ := info_parts info_page
  have c0 : w.cell? ⟨p, 0, none⟩ = some (.slice A n c) := hr.cell 0
  have f0 := hr.frozen 0
  have HN := Lib.hid (number_ p A n c w hr hn)
  have R := Lib.hid hr
  have hlt := hr.lt
  clear hr
  have hm1 : (mark1 (n + 1)) = ((n : Int) + 1) % 256 := by simp [mark1]
  have hm2 : (mark2 (n + 1)) = 255 - ((n : Int) + 1) % 256 := by simp [mark2]
  rw [hm1, hm2]
  clear hm1 hm2
  let q : Value := .iface 73 (.agg #[.slice B m d, .int .u8 (((n : Int) + 1) % 256), .int .u8 (255 - ((n : Int) + 1) % 256)])
  have hrow := Row.new w 75 [q]
  have hsees := hrow.sees0
  have hown1 := hown.alloc (.cells [q].toArray 75)
  have hone : ∀ u ∈ [q], u.oneCell' = true := by simp [q, Value.oneCell']
  have hR1 := Lib.hid (R.out.alloc (.cells [q].toArray 75))
  have hne : p ≠ w.heap.size := by omega
  have hne2 := own_row_ne hown1 hR1.out (by decide)
  clear hrow hown
  go_enter Try.func16, Try.ntmps16
  go_wp2_with fail
  refine HN.out.mono ?_
  rintro e w1 ⟨rfl, rfl⟩
  go_wp2_with (at_builtin; go_must (refine wpList_append_sees rfl (.tmp 12) (.tmp 19) 43 rfl base 75 i0 _ 16 Try.underlying43 hi hz0 hz1 hz2 rfl _ n _ rfl hown1 _ _ 1 _ _ rfl hsees hone (by unfold maxLen; omega) (by omega) (by simp; omega) ?_); intro v2 w2 hown2 hg2 hat2; have hR2 := hR1.out.grown hg2 hne2; have c2 : w2.cell? ⟨p, 0, none⟩ = some (.slice A n c) := hR2.cell 0; have f2 := hR2.frozen 0; obtain ⟨A', c', rfl⟩ := own_form hown2; have HR2 := Lib.hid hR2; clear hR2)
  go_end0
  refine ⟨A', c', rfl, by simpa using HR2.out.set_ 0 (.slice A' (n + 1) c'), own_far hown2 HR2.out (by decide) 0 _, fun k hk hkp => ?_, ?_, ?_, ?_, ?_⟩
  · rw [Below.heap_setCell _ _ _ _ hkp, hg2.block k (by simp; omega) (fun e => by have := (hown1.lt k e.symm).1; omega)]
    exact Below.heap_alloc w _ k (by omega)
  · exact hg2.os
  · exact hg2.tape
  · exact hg2.output
  · have := hg2.size
    simp [World.setCell] at this ⊢
    omega
end Go.Proofs.Ytolijdbdpnbchaa
