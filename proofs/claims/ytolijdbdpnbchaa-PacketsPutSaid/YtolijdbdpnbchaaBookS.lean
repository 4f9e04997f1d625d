/-
  ferryhouselaw01: Book.Sigs.
-/
import Derived.Test.YtolijdbdpnbchaaBookK
import Derived.Test.YtolijdbdpnbchaaSheetS
namespace Go.Proofs.Ytolijdbdpnbchaa
open Go.RowKit
set_option linter.unusedVariables false

/-- a signature's mark -/
def sgz (a b l : Int) : List Int := [a, b, l] ++ List.replicate 61 0
theorem sgz_len (a b l : Int) : (sgz a b l).length = 64 := rfl
theorem built_sgz (a b l : Int) : Try.prog.built 62 [(0, .int .u8 a), (1, .int .u8 b), (2, .int .u8 l)] = some (bv (sgz a b l)).toArray := by kernel_rfl
theorem built_sheetS (B : Option Addr) (m d : Nat) (z1 z2 : List Int) (h1 : z1.length = 64) (h2 : z2.length = 64) : Try.prog.built 99 [(0, .slice B m d), (1, .agg (bv z1).toArray), (2, .agg (bv z2).toArray)] = some (sheetCells (.slice B m d) z1 z2).toArray := by
  obtain ⟨f, rfl⟩ : ∃ f : Fin 64 → Int, z1 = List.ofFn f := ⟨fun i => z1.getD i 0, by
    refine List.ext_getElem (by simpa using h1) fun i h3 h4 => ?_
    rw [List.getElem_ofFn, List.getD_eq_getElem?_getD, List.getElem?_eq_getElem h3]
    rfl⟩
  obtain ⟨g, rfl⟩ : ∃ f : Fin 64 → Int, z2 = List.ofFn f := ⟨fun i => z2.getD i 0, by
    refine List.ext_getElem (by simpa using h2) fun i h3 h4 => ?_
    rw [List.getElem_ofFn, List.getD_eq_getElem?_getD, List.getElem?_eq_getElem h3]
    rfl⟩
  kernel_rfl

set_option maxRecDepth 100000 in
set_option maxHeartbeats 1000000 in
theorem bookSigs (p base : Nat) (A B : Option Addr) (n c m d : Nat) (ps : List Value) (w0 w : World) (h : BookW w0 p base A n c ps w) (hn : n ≤ 1000000) :
    Calls Try.prog 37 #[.pointer (some ⟨p, 0, none⟩), .slice B m d] w fun e w' => ∃ z1 z2 A' c', e = .returned (.tuple #[]) ∧ z1.length = 64 ∧ z2.length = 64 ∧
      BookW w0 p base A' (n + 1) c' (ps ++ [.iface 99 (.agg (sheetCells (.slice B m d) z1 z2).toArray)]) w' := by
  obtain ⟨i0, hi, hz0, hz1, hz2⟩ := info_parts info_page
  have c0 : w.cell? ⟨p, 0, none⟩ = some (.slice A n c) := h.row.cell 0
  have f0 := h.row.frozen 0
  have HN := Lib.hid (number_ p A n c w h.row hn)
  have HH := Lib.hid h
  obtain ⟨z1, hzz1⟩ : ∃ z, z = sgz (((n : Int) + 1) % 256) (((n : Int) + 1) / 256 % 256) 1 := ⟨_, rfl⟩
  obtain ⟨z2, hzz2⟩ : ∃ z, z = sgz (((n : Int) + 1) % 256) (((n : Int) + 1) / 256 % 256) 2 := ⟨_, rfl⟩
  have HZ1 := Lib.hid hzz1
  have HZ2 := Lib.hid hzz2
  have hl1 : z1.length = 64 := by rw [hzz1]; exact sgz_len _ _ _
  have hl2 : z2.length = 64 := by rw [hzz2]; exact sgz_len _ _ _
  let q : Value := .iface 99 (.agg (sheetCells (.slice B m d) z1 z2).toArray)
  have hsees := (Row.new w 75 [q]).sees0
  have HH1 := Lib.hid (h.alloc (.cells [q].toArray 75))
  have hown1 := HH1.out.own
  have hone : ∀ u ∈ [q], u.oneCell' = true := by simp [q, Value.oneCell']
  have hbase := HH1.out.lt
  have HL1 := Lib.hid hl1
  have HL2 := Lib.hid hl2
  clear h hzz1 hzz2 hl1 hl2
  go_enter Try.func37, Try.ntmps37
  go_wp2_with fail
  refine HN.out.mono ?_
  rintro e w1 ⟨rfl, rfl⟩
  go_wp2_with (first
    | ((with_reducible show wpList _ _ _ ({ dst := some 18, op := Op.build _ _, type := _, pos := _, after := _, guard := _ } :: _) _ _); go_must (refine wpList_plain rfl fun K hK => wp_built _ _ _ rfl (by simp only [List.map_toArray, List.map_cons, List.map_nil]; exact built_sgz _ _ _) (hK _ _ ?_); rw [← HZ1.out]))
    | ((with_reducible show wpList _ _ _ ({ dst := some 24, op := Op.build _ _, type := _, pos := _, after := _, guard := _ } :: _) _ _); go_must (refine wpList_plain rfl fun K hK => wp_built _ _ _ rfl (by simp only [List.map_toArray, List.map_cons, List.map_nil]; exact built_sgz _ _ _) (hK _ _ ?_); rw [← HZ2.out]))
    | ((with_reducible show wpList _ _ _ ({ dst := some 25, op := Op.build _ _, type := _, pos := _, after := _, guard := _ } :: _) _ _); go_must (refine wpList_plain rfl fun K hK => wp_built _ _ _ rfl (by simp only [List.map_toArray, List.map_cons, List.map_nil]; exact built_sheetS B m d z1 z2 HL1.out HL2.out) (hK _ _ ?_)))
    | (at_builtin; go_must (refine wpList_append_sees rfl (.tmp 11) (.tmp 27) 43 rfl base 75 i0 _ 16 Try.underlying43 hi hz0 hz1 hz2 rfl _ n _ rfl hown1 _ _ 1 _ _ rfl hsees hone (by unfold maxLen; omega) (by omega) hbase ?_); intro v2 w2 hown2 hg2 hat2; have hR2 := HH1.out.row.grown hg2 (own_row_ne HH1.out.own HH1.out.row (by decide)); have c2 : w2.cell? ⟨p, 0, none⟩ = some (.slice A n c) := hR2.cell 0; have f2 := hR2.frozen 0; obtain ⟨A', c', rfl⟩ := own_form hown2; have HR2 := Lib.hid hR2; clear hR2))
  go_end0
  exact ⟨z1, z2, A', c', rfl, HL1.out, HL2.out, HH1.out.last HR2.out hown2 hg2⟩
end Go.Proofs.Ytolijdbdpnbchaa
