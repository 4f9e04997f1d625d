/-
  Parts joined: MoveWalk14.
-/
import Derived.Below
import Derived.Laws.OwnMore
import Derived.Deep.AppendLies
import Derived.Deep.Draws
import Derived.Lib.Hide
import Derived.Laws.MakeOwn
import Derived.Laws.CopyOwn
import Derived.Laws.Rows
import Derived.Laws.BitsAllLaws
import Derived.WalkKit
import Derived.Test.YtodoaebpkmhhmaaRows
import Derived.WalkSpells
import Derived.WalkLawsBesides
import Derived.IntWalk
import Derived.Deep.MidRow
import Derived.Deep.WholeRow
import Derived.Maps.AppendAt
import Derived.OwnWalk
import Derived.Great.BuildSlice
import Derived.Recover
import Derived.Deep.RegionHeld
import Derived.Deep.QuietTactic
import Derived.BigQuiet
import Derived.ChangeKeysEq
import Derived.ProofKit
import Derived.OpenShut
import Derived.ShutString
import Derived.ChangeOld
import Derived.Lib.SmallJoins
import Derived.Deep.Slices
import Derived.Deep.Strs
import Derived.SizedLaws
import Derived.Deep.RegionHeld2
import Derived.Deep.CutBlock
import Derived.Laws.Tables
import Derived.Laws.StructEq
import Derived.Laws.Slices
import Derived.Deep.DeepCutAuto
import Derived.Laws.EntriesVeiled
import Derived.Deep.RegionHeld3
import Derived.Maps.OwnSet
import Derived.DeepKeys4
import Derived.WideKeyArr
import Derived.WideKeyEntry
import Derived.WalkMore
import Derived.Shelf.SlMaps.Clone
import Derived.LaidMore
import Derived.Laws.Append
import Derived.Laws.AppendOwn
import Derived.Maps.OwnOps
import Derived.Maps.RangeWalk
import Derived.Laws.BytesArg
import Derived.Laws.Strings
import Derived.Lib.Strings
import Derived.Great.Walk
import Derived.Laws.Bits64b
import Derived.Laws.Externs
import Derived.Test.YtodoaebpkmhhmaaQ1
import Derived.Test.YtodoaebpkmhhmaaQ2
import Derived.Test.YtodoaebpkmhhmaaQ3
import Derived.Test.YtodoaebpkmhhmaaQ4
import Derived.Test.YtodoaebpkmhhmaaQ5
import Derived.Test.YtodoaebpkmhhmaaQ6
import Derived.Test.YtodoaebpkmhhmaaQ7
/-
  Of part MoveWalk14: what is needed here.
-/
namespace Go.Proofs.Ytodoaebpkmhhmaa
open Go.RowKit
set_option linter.unusedVariables false
set_option maxRecDepth 100000
/-- two accounts, alone and in a list -/
structure MX14 (w V : World) (gx gy gl : Nat) (x y : LAcc) : Prop where
  b : Below w.heap.size w V
  rx : Row V gx 48 x.cells
  ry : Row V gy 48 y.cells
  rl : Row V gl 48 (x.cells ++ y.cells)
section
variable {w V V' : World} {gx gy gl : Nat} {x y : LAcc}
theorem MX14.below (h : MX14 w V gx gy gl x y) (hb : Below V.heap.size V V') : MX14 w V' gx gy gl x y := ⟨h.b.trans (hb.mono h.b.size), h.rx.below hb h.rx.lt, h.ry.below hb h.ry.lt, h.rl.below hb h.rl.lt⟩
theorem MX14.turned (h : MX14 w V gx gy gl x y) {g : Nat} (ht : Turned V V' g) (h0 : w.heap.size ≤ g) (h1 : gx ≠ g) (h2 : gy ≠ g) (h3 : gl ≠ g) : MX14 w V' gx gy gl x y := ⟨h.b.trans (ht.below h0), ht.row h.rx h1, ht.row h.ry h2, ht.row h.rl h3⟩
theorem MX14.xo (h : MX14 w V gx gy gl x y) : ∀ j u, (bv x.o)[j]? = some u → V.cell? ((⟨gx, 1, none⟩ : Addr).add j) = some u := fun j u hu => by
  rw [addr_row, h.rx.cell]
  exact acc_o hu
theorem MX14.yo (h : MX14 w V gx gy gl x y) : ∀ j u, (bv y.o)[j]? = some u → V.cell? ((⟨gy, 1, none⟩ : Addr).add j) = some u := fun j u hu => by
  rw [addr_row, h.ry.cell]
  exact acc_o hu
theorem MX14.xc (h : MX14 w V gx gy gl x y) : V.cell? ⟨gx, 0, none⟩ = some (.int .u64 x.c) := h.rx.cell 0
theorem MX14.yc (h : MX14 w V gx gy gl x y) : V.cell? ⟨gy, 0, none⟩ = some (.int .u64 y.c) := h.ry.cell 0
theorem MX14.xs (h : MX14 w V gx gy gl x y) (ho : x.o.length = 32) : V.cell? ⟨gx, 33, none⟩ = some (.int .u64 x.s) := (h.rx.cell 33).trans (acc_s ho)
theorem MX14.ys (h : MX14 w V gx gy gl x y) (ho : y.o.length = 32) : V.cell? ⟨gy, 33, none⟩ = some (.int .u64 y.s) := (h.ry.cell 33).trans (acc_s ho)
end
theorem ins14_any {w : World} {ga b : Nat} {D : Option Addr} {c dn : Nat} {d acc : List Int} (hr : Row w ga 5 (bv acc)) (ho : OwnB w b (.slice D dn c) d) (hn : d.length = dn) (hd : AllBytes d) (ha : acc.length = 2) (hb : AllBytes acc) : InsAt14 w w.heap.size 1 (some ⟨ga, 0, none⟩) 2 2 D dn c acc d := by
  subst hn
  obtain ⟨A', c', h1, h2, h3, h4, h5⟩ := own_form2 ho
  cases h1
  exact ⟨by have := hr.sees0; rwa [bv_length, ha] at this, ho.sees, hb, hd, ⟨Nat.le_refl _, by unfold maxLen; omega⟩, ⟨h3, h4⟩⟩
theorem two_bytes {i j : Int} (hi : IsByte i) (hj : IsByte j) : AllBytes [i, j] := fun z hz => by
  simp only [List.mem_cons, List.not_mem_nil, or_false] at hz
  rcases hz with rfl | rfl
  · exact hi
  · exact hj
/-- systems.Do of two accounts, both of them signing -/
theorem do_two14 {V : World} {LA : Option Addr} {lc : Nat} {x y : LAcc} {gr ga b : Nat} {D : Option Addr} {c dn : Nat} {d acc : List Int} (hl : AccsIn V V.heap.size LA 2 [x, y]) (hlc : 2 ≤ lc) (hrr : Row V gr 50 (b14C true)) (hr : Row V ga 5 (bv acc)) (ho : OwnB V b (.slice D dn c) d) (hn : d.length = dn) (hd : AllBytes d) (ha : acc.length = 2) (hb : AllBytes acc) {e n : Int} {L : List LAcc}
    (hR : do14 [x, y] (b14 true) acc d = ⟨e, L, n⟩) :
    Calls Try.prog 12 #[.slice LA 2 lc, .slice (some ⟨gr, 0, none⟩) 2 2, .agg (insC 1 (some ⟨ga, 0, none⟩) 2 2 D dn c).toArray] V fun e' w' => ∃ v, e' = .returned (.tuple #[v, .int .u64 n, .int .i64 e]) ∧ OA14 w' V.heap.size v L ∧ Below V.heap.size V w' := by
  have := sysDo14 [x, y] (b14 true) 1 (some ⟨ga, 0, none⟩) 2 2 D dn c acc d LA 2 lc (some ⟨gr, 0, none⟩) 2 2 V.heap.size V hl hlc (b14_in hrr hrr.lt) (ins14_any hr ho hn hd ha hb) (Nat.le_refl _) (by omega) (by omega) (by omega)
  rw [hR] at this
  exact this
theorem two_in' {w : World} {g B : Nat} {x y : LAcc} {rest : List Value} (h : Row w g 48 (x.cells ++ (y.cells ++ rest))) (ho : ∀ z ∈ [x, y], AccOk z) (hB : g < B) : AccsIn w B (some ⟨g, 0, none⟩) 2 [x, y] :=
  accs_row (ys := rest) (by rw [accs_two, List.append_assoc]; exact h) rfl ho hB
theorem oa_two14 {w : World} {base : Nat} {v : Value} {x y : LAcc} (h : OA14 w base v [x, y]) : ∃ g c rest, v = .slice (some ⟨g, 0, none⟩) 2 c ∧ 2 ≤ c ∧ c ≤ maxLen ∧ base ≤ g ∧ Row w g 48 (x.cells ++ (y.cells ++ rest)) := by
  obtain ⟨A, c, c', rfl, h1, h2, h3⟩ := h.is
  rcases h3.2 with ⟨_, e⟩ | ⟨g, cap, cur, e, hg, hh, r1, r2, r3, r4⟩
  · cases e
  · injection e with ea _ ec
    subst ea ec
    refine ⟨g, c, cur.toList.drop (2 * 34), rfl, h1, by omega, hg, ⟨?_⟩⟩
    have e2 : cur.toList = x.cells ++ (y.cells ++ cur.toList.drop (2 * 34)) := by
      rw [← List.append_assoc, ← accs_two, ← r4]
      exact (List.take_append_drop _ _).symm
    rw [hh, ← e2]
/-- all that lies there while coins are moved to oneself, or back -/
structure MS14 (w V : World) (gx gy gl : Nat) (x y : LAcc) (gi ga b : Nat) (D : Option Addr) (c : Nat) (n : Int) (A : Option Addr) (m k : Nat) (acc : List Int) (base : Nat) (va : Value) (L : List LAcc) : Prop where
  p : MX14 w V gx gy gl x y
  i : Row V gi 26 (insC 1 A m k D 12 c)
  a : Row V ga 5 (bv acc)
  o : OwnB V b (.slice D 12 c) (mv14 n)
  l : OA14 V base va L
theorem MS14.below {w V V' : World} {gx gy gl : Nat} {x y : LAcc} {gi ga b : Nat} {D : Option Addr} {c : Nat} {n : Int} {A : Option Addr} {m k : Nat} {acc : List Int} {base : Nat} {va : Value} {L : List LAcc} (h : MS14 w V gx gy gl x y gi ga b D c n A m k acc base va L) (hb : Below V.heap.size V V') : MS14 w V' gx gy gl x y gi ga b D c n A m k acc base va L :=
  ⟨h.p.below hb, h.i.below hb h.i.lt, h.a.below hb h.a.lt, h.o.below hb, h.l.below hb⟩
theorem MS14.ins {w V : World} {gx gy gl : Nat} {x y : LAcc} {gi ga b : Nat} {D : Option Addr} {c : Nat} {n : Int} {A : Option Addr} {m k : Nat} {acc : List Int} {base : Nat} {va : Value} {L : List LAcc} (h : MS14 w V gx gy gl x y gi ga b D c n A m k acc base va L) : ∀ j u, (insC 1 A m k D 12 c)[j]? = some u → V.cell? ((⟨gi, 0, none⟩ : Addr).add j) = some u := fun j u hu => by
  rw [addr_row, h.i.cell, Nat.zero_add]
  exact hu
set_option maxHeartbeats 16000000 in
theorem mv_owner (x y : LAcc) (n : Int) (w : World) (hx : AccOk x) (hy : AccOk y) (hn0 : 0 ≤ n) (hn1 : n < 18446744073709551616) (ho : x.o ≠ key0) : Calls Try.prog 5 #[.agg x.cells.toArray, .agg y.cells.toArray, .int .u64 n] w fun e w' => e = .returned (.bool true) ∧ Below w.heap.size w w' := by
  have HX := Lib.hid hx
  have HY := Lib.hid hy
  have HN := Lib.hid (And.intro hn0 hn1)
  have HM := Lib.hid (fun V => move14_ n V hn0 hn1)
  have HOK : Hid (∀ z ∈ [x, y], AccOk z) := Lib.hid (fun z hz => by
    simp only [List.mem_cons, List.not_mem_nil, or_false] at hz
    rcases hz with rfl | rfl
    · exact hx
    · exact hy)
  have HR1 := Lib.hid ((do_m1 (x := x) (y := y) hn0 hn1).trans (m1_owner 1 (fun h => ho h.1)))
  have HR2 := Lib.hid ((do_m2 (x := x) (y := y) hn0 hn1).trans (m1_owner 0 (fun h => ho h.1)))
  have HK := Lib.hid (fun w => key_neq hx.o.1 key0_ok.1 w)
  rw [decide_eq_false ho] at HK
  clear ho
  clear hx hy hn0 hn1
  have RX := Lib.hid ((Row.new w 48 x.cells).alloc (.cells y.cells.toArray 48))
  have RY := Lib.hid (Row.new' (w.alloc (.cells x.cells.toArray 48)) 48 y.cells (g := w.heap.size + 1) (by simp))
  have B0 := Lib.hid (((Below.refl w.heap.size w).alloc (Nat.le_refl _) (.cells x.cells.toArray 48)).alloc (by simp) (.cells y.cells.toArray 48))
  obtain ⟨gy, hgy⟩ : ∃ g, g = w.heap.size + 1 := ⟨_, rfl⟩
  obtain ⟨gx, hgx⟩ : ∃ g, g = w.heap.size := ⟨_, rfl⟩
  have HGY : Hid (w.heap.size + 1 = gy) := Lib.hid hgy.symm
  have HGX : Hid (w.heap.size = gx) := Lib.hid hgx.symm
  rw [← hgy] at RY
  rw [← hgx] at RX
  clear hgy hgx
  generalize hW : (w.alloc (.cells x.cells.toArray 48)).alloc (.cells y.cells.toArray 48) = W at *
  have HW := Lib.hid hW
  clear hW
  go_enter Try.func5, Try.ntmps5
  go_upto_region 1 with fail
  try rw [HGY.out]
  try rw [HGX.out]
  rw [HW.out]
  clear HW
  go_upto_region 2 with (first
    | ((with_reducible show wpList _ _ _ ({ dst := some 21, op := Op.load _ _, type := _, pos := _, after := _, guard := _ } :: _) _ _); go_must (refine wpList_load_whole rfl 48 (.tmp 3) rfl gx 48 x.cells _ Try.underlying48 rfl (size_acc HX.out.o.1) RX.out ?_ ?_; go_simp))
    | ((with_reducible show wpList _ _ _ ({ dst := some 22, op := Op.load _ _, type := _, pos := _, after := _, guard := _ } :: _) _ _); go_must (refine wpList_load_whole rfl 48 (.tmp 4) rfl gy 48 y.cells _ Try.underlying48 rfl (size_acc HY.out.o.1) RY.out ?_ ?_; go_simp))
    | ((with_reducible show wpList _ _ _ ({ dst := some 23, op := Op.buildSlice _ _ _, type := _, pos := _, after := _, guard := _ } :: _) _ _); go_must (refine wpList_buildTwo rfl 22 48 (.tmp 21) (.tmp 22) rfl x.cells y.cells _ 34 48 Try.underlying22 infoAc14 zszAc14 (by omega) (by omega) (acc_len HX.out.o.1) (acc_len HY.out.o.1) ?_ ?_ ?_; go_simp; go_simp)))
  have P1 := Lib.hid (MX14.mk (B0.out.trans (((Below.refl W.heap.size W).alloc (Nat.le_refl _) (.cells (x.cells ++ y.cells).toArray 48)).mono B0.out.size)) (RX.out.alloc _) (RY.out.alloc _) (Row.new W 48 (x.cells ++ y.cells)))
  have HGL : Hid (w.heap.size ≤ W.heap.size ∧ gx < W.heap.size ∧ gy < W.heap.size) := Lib.hid ⟨B0.out.size, RX.out.lt, RY.out.lt⟩
  clear B0 RX RY
  obtain ⟨gl, hgl⟩ : ∃ g, g = W.heap.size := ⟨_, rfl⟩
  rw [← hgl] at P1 HGL ⊢
  clear hgl
  generalize W.alloc (.cells (x.cells ++ y.cells).toArray 48) = w1 at *
  go_wp2_with fail
  refine (both14_ w1).mono ?_
  rintro e w2 ⟨rfl, hr2, hb2⟩
  have P2 := Lib.hid (P1.out.below hb2)
  have RR2 := Lib.hid hr2
  clear hr2 hb2 P1
  go_wp2_with fail
  refine (HM.out w2).mono ?_
  rintro e w3 ⟨ga, D, c, rfl, _, hra, hoa, _, hb3⟩
  have P3 := Lib.hid (P2.out.below hb3)
  have HDO := Lib.hid (do_two14 (two_in P3.out.rl HOK.out P3.out.rl.lt) (Nat.le_refl _) (RR2.out.below hb3 RR2.out.lt) hra hoa (mv14_len n) (mv14_bytes n) rfl (two_bytes (by unfold IsByte; omega) (by unfold IsByte; omega)) HR1.out)
  clear hra hoa hb3 P2 RR2
  go_wp2_with fail
  refine HDO.out.mono ?_
  rintro e w4 ⟨va, rfl, hva, hb4⟩
  have P4 := Lib.hid (P3.out.below hb4)
  have OA4 := Lib.hid hva
  clear hva hb4 P3 HDO
  have nk := HK.out
  go_wp2_with (first
    | ((with_reducible show wpList _ _ _ ({ dst := some 34, op := Op.load _ _, type := _, pos := _, after := _, guard := _ } :: _) _ _); go_must (refine wpList_load_at rfl 46 (.tmp 33) rfl ⟨gx, 1, none⟩ (bv x.o) _ Try.underlying46 rfl (by rw [size_key, bv_length, HX.out.o.1]) P4.out.xo ?_ ?_; go_simp))
    | ((with_reducible show wpList _ _ _ ({ dst := some 35, op := Op.build _ _, type := _, pos := _, after := _, guard := _ } :: _) _ _); go_must (refine wpList_plain rfl fun K hK => wp_built _ _ _ rfl (by simp only [List.map_toArray, List.map_nil]; exact built_key14) (hK _ _ ?_))))
  clear nk
  refine (HM.out w4).mono ?_
  rintro e w5 ⟨ga, D, c, rfl, hga, hra, hoa, hne, hb5⟩
  have P5 := Lib.hid (P4.out.below hb5)
  have OA5 := Lib.hid (OA4.out.below hb5)
  have RA5 := Lib.hid hra
  have RO5 := Lib.hid hoa
  have NE5 := Lib.hid hne
  have HGA := Lib.hid hga
  have HVL := Lib.hid OA4.out.lt
  have HL4 : Hid (w.heap.size ≤ w4.heap.size ∧ gx < w4.heap.size ∧ gy < w4.heap.size ∧ gl < w4.heap.size) := Lib.hid ⟨P4.out.b.size, P4.out.rx.lt, P4.out.ry.lt, P4.out.rl.lt⟩
  clear hga hra hoa hne hb5 P4 OA4
  go_upto_region 9 with (first
    | ((with_reducible show wpList _ _ _ ({ dst := some 12, op := Op.alloc _, type := _, pos := _, after := _, guard := _ } :: _) _ _); go_must (refine wpList_alloc_zero rfl 26 rfl (insC 0 none 0 0 none 0 0) zero_ins14 ?_))
    | ((with_reducible show wpList _ _ _ ({ dst := none, op := Op.store 26 _ _, type := _, pos := _, after := _, guard := _ } :: _) _ _); go_must (refine wpList_store_new rfl 26 (.tmp 12) (.tmp 47) rfl (insC 1 (some ⟨ga, 0, none⟩) 2 2 D 12 c) (size_ins14 _ _ _ _ _ _ _) (ins14_one _ _ _ _ _ _ _) rfl ?_ ?_ ?_; go_simp; go_simp; intro w6 hr6 hb6 hz6)))
  obtain ⟨gi, hgi⟩ : ∃ g, g = w5.heap.size := ⟨_, rfl⟩
  rw [← hgi] at hr6 ⊢
  have HIA : Hid (gi ≠ ga) := Lib.hid (by have := RA5.out.lt; omega)
  have P6 := Lib.hid (P5.out.below hb6)
  have OA6 := Lib.hid (OA5.out.below hb6)
  have RA6 := Lib.hid (RA5.out.below hb6 RA5.out.lt)
  have RO6 := Lib.hid (RO5.out.below hb6)
  have RI6 := Lib.hid hr6
  have c61 : w6.cell? ⟨gi, 1, none⟩ = some (.slice (some ⟨ga, 0, none⟩) 2 2) := hr6.cell 1
  have ca1 : w6.cell? ⟨ga, 1, none⟩ = some (.int .u8 1) := RA6.out.cell 1
  have fa1 := RA6.out.frozen 1
  clear hr6 hb6 hz6 hgi P5 OA5 RA5 RO5
  go_upto_region 10 with fail
  have M7 := Lib.hid (MS14.mk (w := w) (acc := [0, 0]) (P6.out.turned (turned_setCell w6 ⟨ga, 1, none⟩ (.int .u8 0)) (by have := HL4.out; have := HGA.out; show _ ≤ ga; omega) (by have := HL4.out; have := HGA.out; show _ ≠ ga; omega) (by have := HL4.out; have := HGA.out; show _ ≠ ga; omega) (by have := HL4.out; have := HGA.out; show _ ≠ ga; omega))
    ((turned_setCell w6 ⟨ga, 1, none⟩ (.int .u8 0)).row RI6.out HIA.out) (show Row _ ga 5 (bv [0, 0]) from RA6.out.set_ 1 (.int .u8 0)) (own14_turned RO6.out (turned_setCell w6 ⟨ga, 1, none⟩ (.int .u8 0)) NE5.out)
    (OA6.out.keep fun g hg => (turned_setCell w6 ⟨ga, 1, none⟩ (.int .u8 0)).block g (by have := (HVL.out g hg).2; have := HGA.out; show g ≠ ga; omega)))
  clear c61 ca1 fa1 P6 OA6 RA6 RO6 RI6 NE5 HIA HVL HGA
  generalize hW7 : w6.setCell ⟨ga, 1, none⟩ (.int .u8 0) = w7 at *
  clear hW7
  have MD := Lib.hid (M7.out.below (Below.refl w7.heap.size w7).drew)
  clear M7
  refine wp_region_held_drew (S := fun V => MS14 w V gx gy gl x y gi ga w4.heap.size D c n (some ⟨ga, 0, none⟩) 2 2 [0, 0] w3.heap.size va []) (by kernel_rfl) MD.out (fun _ => ?_)
  refine takeL (i := 0) (v := ?_) rfl (by kernel_rfl) (by kernel_rfl) (by kernel_rfl) (fun _ _ _ h => h) (Or.inl ⟨by rfl, ?_⟩) MD.out ?_
  rotate_left
  · intro w hw
    try dsimp only at hw
    go_simp
    try with_reducible rfl
  try simp only [Act.put, List.setIfInBounds_toArray, List.set_cons_zero, List.set_cons_succ]
  refine takeL (i := 2) (v := .agg (insC 1 (some ⟨ga, 0, none⟩) 2 2 D 12 c).toArray) rfl (by kernel_rfl) (by kernel_rfl) (by kernel_rfl) (fun _ _ _ h => h) (Or.inl ⟨by rfl, fun wz hwz => exec_load_at wz 26 (.tmp 12) rfl ⟨gi, 0, none⟩ (insC 1 (some ⟨ga, 0, none⟩) 2 2 D 12 c) _ Try.underlying26 rfl (size_ins14 _ _ _ _ _ _ _) hwz.ins (by go_simp)⟩) MD.out ?_
  try simp only [Act.put, List.setIfInBounds_toArray, List.set_cons_zero, List.set_cons_succ]
  refine readyL (i := 1) rfl (by kernel_rfl) (by kernel_rfl) fun K hK => ?_
  go_simp
  refine (both14_ _).mono ?_
  rintro e w8 ⟨rfl, hr8, hb8⟩
  have M8 := Lib.hid (MD.out.below hb8)
  have RR8 := Lib.hid hr8
  clear hr8 hb8 MD
  refine hK.out _ _ M8.out ?_
  clear hK K
  try simp only [Act.put, List.setIfInBounds_toArray, List.set_cons_zero, List.set_cons_succ]
  refine readyL (i := 3) rfl (by kernel_rfl) (by kernel_rfl) fun K hK => ?_
  go_simp
  have HDO := Lib.hid (do_two14 (two_in M8.out.p.rl HOK.out M8.out.p.rl.lt) (Nat.le_refl _) RR8.out M8.out.a M8.out.o (mv14_len n) (mv14_bytes n) rfl (two_bytes (by unfold IsByte; omega) (by unfold IsByte; omega)) HR2.out)
  refine HDO.out.mono ?_
  rintro e w9 ⟨vb, rfl, hvb, hb9⟩
  have M9 := Lib.hid (M8.out.below hb9)
  have OB9 := Lib.hid hvb
  clear hvb hb9 M8 RR8 HDO
  refine hK.out _ _ M9.out ?_
  clear hK K
  try simp only [Act.put, List.setIfInBounds_toArray, List.set_cons_zero, List.set_cons_succ]
  refine takeL (i := 4) (v := ?_) rfl (by kernel_rfl) (by kernel_rfl) (by kernel_rfl) (fun _ _ _ h => h) (Or.inl ⟨by rfl, ?_⟩) M9.out ?_
  rotate_left
  · intro w hw
    try dsimp only at hw
    go_simp
    try with_reducible rfl
  try simp only [Act.put, List.setIfInBounds_toArray, List.set_cons_zero, List.set_cons_succ]
  refine takeL (i := 5) (v := ?_) rfl (by kernel_rfl) (by kernel_rfl) (by kernel_rfl) (fun _ _ _ h => h) (Or.inl ⟨by rfl, ?_⟩) M9.out ?_
  rotate_left
  · intro w hw
    try dsimp only at hw
    go_simp
    try with_reducible rfl
  try simp only [Act.put, List.setIfInBounds_toArray, List.set_cons_zero, List.set_cons_succ]
  refine takeL (i := 6) (v := ?_) rfl (by kernel_rfl) (by kernel_rfl) (by kernel_rfl) (fun _ _ _ h => h) (Or.inl ⟨by rfl, ?_⟩) M9.out ?_
  rotate_left
  · intro w hw
    try dsimp only at hw
    go_simp
    try with_reducible rfl
  try simp only [Act.put, List.setIfInBounds_toArray, List.set_cons_zero, List.set_cons_succ]
  refine takeL (i := 7) (v := ?_) rfl (by kernel_rfl) (by kernel_rfl) (by kernel_rfl) (fun _ _ _ h => h) (Or.inl ⟨by rfl, ?_⟩) M9.out ?_
  rotate_left
  · intro w hw
    try dsimp only at hw
    go_simp
    try with_reducible rfl
  try simp only [Act.put, List.setIfInBounds_toArray, List.set_cons_zero, List.set_cons_succ]
  refine takeL (i := 8) (v := ?_) rfl (by kernel_rfl) (by kernel_rfl) (by kernel_rfl) (fun _ _ _ h => h) (Or.inl ⟨by rfl, ?_⟩) M9.out ?_
  rotate_left
  · intro w hw
    try dsimp only at hw
    go_simp
    try with_reducible rfl
  try simp only [Act.put, List.setIfInBounds_toArray, List.set_cons_zero, List.set_cons_succ]
  refine takeL (i := 9) (v := ?_) rfl (by kernel_rfl) (by kernel_rfl) (by kernel_rfl) (fun _ _ _ h => h) (Or.inl ⟨by rfl, ?_⟩) M9.out ?_
  rotate_left
  · intro w hw
    try dsimp only at hw
    go_simp
    try with_reducible rfl
  try simp only [Act.put, List.setIfInBounds_toArray, List.set_cons_zero, List.set_cons_succ]
  refine takeL (i := 10) (v := ?_) rfl (by kernel_rfl) (by kernel_rfl) (by kernel_rfl) (fun _ _ _ h => h) (Or.inl ⟨by rfl, ?_⟩) M9.out ?_
  rotate_left
  · intro w hw
    try dsimp only at hw
    go_simp
    try with_reducible rfl
  try simp only [Act.put, List.setIfInBounds_toArray, List.set_cons_zero, List.set_cons_succ]
  refine wpAnyH_done (by kernel_rfl) ?_ _
  go_wp2_with fail
  refine (lives14_ _).mono ?_
  rintro e w10 ⟨rfl, hb10⟩
  have B10 := Lib.hid (M9.out.p.b.trans (hb10.mono M9.out.p.b.size))
  clear hb10
  go_wp2_with fail
  go_ret
  exact ⟨rfl, B10.out⟩
set_option maxHeartbeats 16000000 in
theorem mv_space (x y : LAcc) (n : Int) (w : World) (hx : AccOk x) (hy : AccOk y) (hn0 : 0 ≤ n) (hn1 : n < 18446744073709551616) (ho : x.o = key0) (hs : ¬ x.s = 0) : Calls Try.prog 5 #[.agg x.cells.toArray, .agg y.cells.toArray, .int .u64 n] w fun e w' => e = .returned (.bool true) ∧ Below w.heap.size w w' := by
  have HX := Lib.hid hx
  have HY := Lib.hid hy
  have HN := Lib.hid (And.intro hn0 hn1)
  have HM := Lib.hid (fun V => move14_ n V hn0 hn1)
  have HOK : Hid (∀ z ∈ [x, y], AccOk z) := Lib.hid (fun z hz => by
    simp only [List.mem_cons, List.not_mem_nil, or_false] at hz
    rcases hz with rfl | rfl
    · exact hx
    · exact hy)
  have HR1 := Lib.hid ((do_m1 (x := x) (y := y) hn0 hn1).trans (m1_owner 1 (fun h => hs h.2)))
  have HR2 := Lib.hid ((do_m2 (x := x) (y := y) hn0 hn1).trans (m1_owner 0 (fun h => hs h.2)))
  have HK := Lib.hid (fun w => key_neq hx.o.1 key0_ok.1 w)
  rw [decide_eq_true ho] at HK
  clear ho
  clear hx hy hn0 hn1
  have RX := Lib.hid ((Row.new w 48 x.cells).alloc (.cells y.cells.toArray 48))
  have RY := Lib.hid (Row.new' (w.alloc (.cells x.cells.toArray 48)) 48 y.cells (g := w.heap.size + 1) (by simp))
  have B0 := Lib.hid (((Below.refl w.heap.size w).alloc (Nat.le_refl _) (.cells x.cells.toArray 48)).alloc (by simp) (.cells y.cells.toArray 48))
  obtain ⟨gy, hgy⟩ : ∃ g, g = w.heap.size + 1 := ⟨_, rfl⟩
  obtain ⟨gx, hgx⟩ : ∃ g, g = w.heap.size := ⟨_, rfl⟩
  have HGY : Hid (w.heap.size + 1 = gy) := Lib.hid hgy.symm
  have HGX : Hid (w.heap.size = gx) := Lib.hid hgx.symm
  rw [← hgy] at RY
  rw [← hgx] at RX
  clear hgy hgx
  generalize hW : (w.alloc (.cells x.cells.toArray 48)).alloc (.cells y.cells.toArray 48) = W at *
  have HW := Lib.hid hW
  clear hW
  go_enter Try.func5, Try.ntmps5
  go_upto_region 1 with fail
  try rw [HGY.out]
  try rw [HGX.out]
  rw [HW.out]
  clear HW
  go_upto_region 2 with (first
    | ((with_reducible show wpList _ _ _ ({ dst := some 21, op := Op.load _ _, type := _, pos := _, after := _, guard := _ } :: _) _ _); go_must (refine wpList_load_whole rfl 48 (.tmp 3) rfl gx 48 x.cells _ Try.underlying48 rfl (size_acc HX.out.o.1) RX.out ?_ ?_; go_simp))
    | ((with_reducible show wpList _ _ _ ({ dst := some 22, op := Op.load _ _, type := _, pos := _, after := _, guard := _ } :: _) _ _); go_must (refine wpList_load_whole rfl 48 (.tmp 4) rfl gy 48 y.cells _ Try.underlying48 rfl (size_acc HY.out.o.1) RY.out ?_ ?_; go_simp))
    | ((with_reducible show wpList _ _ _ ({ dst := some 23, op := Op.buildSlice _ _ _, type := _, pos := _, after := _, guard := _ } :: _) _ _); go_must (refine wpList_buildTwo rfl 22 48 (.tmp 21) (.tmp 22) rfl x.cells y.cells _ 34 48 Try.underlying22 infoAc14 zszAc14 (by omega) (by omega) (acc_len HX.out.o.1) (acc_len HY.out.o.1) ?_ ?_ ?_; go_simp; go_simp)))
  have P1 := Lib.hid (MX14.mk (B0.out.trans (((Below.refl W.heap.size W).alloc (Nat.le_refl _) (.cells (x.cells ++ y.cells).toArray 48)).mono B0.out.size)) (RX.out.alloc _) (RY.out.alloc _) (Row.new W 48 (x.cells ++ y.cells)))
  have HGL : Hid (w.heap.size ≤ W.heap.size ∧ gx < W.heap.size ∧ gy < W.heap.size) := Lib.hid ⟨B0.out.size, RX.out.lt, RY.out.lt⟩
  clear B0 RX RY
  obtain ⟨gl, hgl⟩ : ∃ g, g = W.heap.size := ⟨_, rfl⟩
  rw [← hgl] at P1 HGL ⊢
  clear hgl
  generalize W.alloc (.cells (x.cells ++ y.cells).toArray 48) = w1 at *
  go_wp2_with fail
  refine (both14_ w1).mono ?_
  rintro e w2 ⟨rfl, hr2, hb2⟩
  have P2 := Lib.hid (P1.out.below hb2)
  have RR2 := Lib.hid hr2
  clear hr2 hb2 P1
  go_wp2_with fail
  refine (HM.out w2).mono ?_
  rintro e w3 ⟨ga, D, c, rfl, _, hra, hoa, _, hb3⟩
  have P3 := Lib.hid (P2.out.below hb3)
  have HDO := Lib.hid (do_two14 (two_in P3.out.rl HOK.out P3.out.rl.lt) (Nat.le_refl _) (RR2.out.below hb3 RR2.out.lt) hra hoa (mv14_len n) (mv14_bytes n) rfl (two_bytes (by unfold IsByte; omega) (by unfold IsByte; omega)) HR1.out)
  clear hra hoa hb3 P2 RR2
  go_wp2_with fail
  refine HDO.out.mono ?_
  rintro e w4 ⟨va, rfl, hva, hb4⟩
  have P4 := Lib.hid (P3.out.below hb4)
  have OA4 := Lib.hid hva
  clear hva hb4 P3 HDO
  have cxs := P4.out.xs HX.out.o.1
  have hs1 : (x.s == 0) = false := by simpa using hs
  have hs2 : (x.s != 0) = true := by simpa using hs
  have nk := HK.out
  go_wp2_with (first
    | ((with_reducible show wpList _ _ _ ({ dst := some 34, op := Op.load _ _, type := _, pos := _, after := _, guard := _ } :: _) _ _); go_must (refine wpList_load_at rfl 46 (.tmp 33) rfl ⟨gx, 1, none⟩ (bv x.o) _ Try.underlying46 rfl (by rw [size_key, bv_length, HX.out.o.1]) P4.out.xo ?_ ?_; go_simp))
    | ((with_reducible show wpList _ _ _ ({ dst := some 35, op := Op.build _ _, type := _, pos := _, after := _, guard := _ } :: _) _ _); go_must (refine wpList_plain rfl fun K hK => wp_built _ _ _ rfl (by simp only [List.map_toArray, List.map_nil]; exact built_key14) (hK _ _ ?_))))
  clear cxs hs1 hs2
  clear nk
  refine (HM.out w4).mono ?_
  rintro e w5 ⟨ga, D, c, rfl, hga, hra, hoa, hne, hb5⟩
  have P5 := Lib.hid (P4.out.below hb5)
  have OA5 := Lib.hid (OA4.out.below hb5)
  have RA5 := Lib.hid hra
  have RO5 := Lib.hid hoa
  have NE5 := Lib.hid hne
  have HGA := Lib.hid hga
  have HVL := Lib.hid OA4.out.lt
  have HL4 : Hid (w.heap.size ≤ w4.heap.size ∧ gx < w4.heap.size ∧ gy < w4.heap.size ∧ gl < w4.heap.size) := Lib.hid ⟨P4.out.b.size, P4.out.rx.lt, P4.out.ry.lt, P4.out.rl.lt⟩
  clear hga hra hoa hne hb5 P4 OA4
  go_upto_region 9 with (first
    | ((with_reducible show wpList _ _ _ ({ dst := some 12, op := Op.alloc _, type := _, pos := _, after := _, guard := _ } :: _) _ _); go_must (refine wpList_alloc_zero rfl 26 rfl (insC 0 none 0 0 none 0 0) zero_ins14 ?_))
    | ((with_reducible show wpList _ _ _ ({ dst := none, op := Op.store 26 _ _, type := _, pos := _, after := _, guard := _ } :: _) _ _); go_must (refine wpList_store_new rfl 26 (.tmp 12) (.tmp 47) rfl (insC 1 (some ⟨ga, 0, none⟩) 2 2 D 12 c) (size_ins14 _ _ _ _ _ _ _) (ins14_one _ _ _ _ _ _ _) rfl ?_ ?_ ?_; go_simp; go_simp; intro w6 hr6 hb6 hz6)))
  obtain ⟨gi, hgi⟩ : ∃ g, g = w5.heap.size := ⟨_, rfl⟩
  rw [← hgi] at hr6 ⊢
  have HIA : Hid (gi ≠ ga) := Lib.hid (by have := RA5.out.lt; omega)
  have P6 := Lib.hid (P5.out.below hb6)
  have OA6 := Lib.hid (OA5.out.below hb6)
  have RA6 := Lib.hid (RA5.out.below hb6 RA5.out.lt)
  have RO6 := Lib.hid (RO5.out.below hb6)
  have RI6 := Lib.hid hr6
  have c61 : w6.cell? ⟨gi, 1, none⟩ = some (.slice (some ⟨ga, 0, none⟩) 2 2) := hr6.cell 1
  have ca1 : w6.cell? ⟨ga, 1, none⟩ = some (.int .u8 1) := RA6.out.cell 1
  have fa1 := RA6.out.frozen 1
  clear hr6 hb6 hz6 hgi P5 OA5 RA5 RO5
  go_upto_region 10 with fail
  have M7 := Lib.hid (MS14.mk (w := w) (acc := [0, 0]) (P6.out.turned (turned_setCell w6 ⟨ga, 1, none⟩ (.int .u8 0)) (by have := HL4.out; have := HGA.out; show _ ≤ ga; omega) (by have := HL4.out; have := HGA.out; show _ ≠ ga; omega) (by have := HL4.out; have := HGA.out; show _ ≠ ga; omega) (by have := HL4.out; have := HGA.out; show _ ≠ ga; omega))
    ((turned_setCell w6 ⟨ga, 1, none⟩ (.int .u8 0)).row RI6.out HIA.out) (show Row _ ga 5 (bv [0, 0]) from RA6.out.set_ 1 (.int .u8 0)) (own14_turned RO6.out (turned_setCell w6 ⟨ga, 1, none⟩ (.int .u8 0)) NE5.out)
    (OA6.out.keep fun g hg => (turned_setCell w6 ⟨ga, 1, none⟩ (.int .u8 0)).block g (by have := (HVL.out g hg).2; have := HGA.out; show g ≠ ga; omega)))
  clear c61 ca1 fa1 P6 OA6 RA6 RO6 RI6 NE5 HIA HVL HGA
  generalize hW7 : w6.setCell ⟨ga, 1, none⟩ (.int .u8 0) = w7 at *
  clear hW7
  have MD := Lib.hid (M7.out.below (Below.refl w7.heap.size w7).drew)
  clear M7
  refine wp_region_held_drew (S := fun V => MS14 w V gx gy gl x y gi ga w4.heap.size D c n (some ⟨ga, 0, none⟩) 2 2 [0, 0] w3.heap.size va []) (by kernel_rfl) MD.out (fun _ => ?_)
  refine takeL (i := 0) (v := ?_) rfl (by kernel_rfl) (by kernel_rfl) (by kernel_rfl) (fun _ _ _ h => h) (Or.inl ⟨by rfl, ?_⟩) MD.out ?_
  rotate_left
  · intro w hw
    try dsimp only at hw
    go_simp
    try with_reducible rfl
  try simp only [Act.put, List.setIfInBounds_toArray, List.set_cons_zero, List.set_cons_succ]
  refine takeL (i := 2) (v := .agg (insC 1 (some ⟨ga, 0, none⟩) 2 2 D 12 c).toArray) rfl (by kernel_rfl) (by kernel_rfl) (by kernel_rfl) (fun _ _ _ h => h) (Or.inl ⟨by rfl, fun wz hwz => exec_load_at wz 26 (.tmp 12) rfl ⟨gi, 0, none⟩ (insC 1 (some ⟨ga, 0, none⟩) 2 2 D 12 c) _ Try.underlying26 rfl (size_ins14 _ _ _ _ _ _ _) hwz.ins (by go_simp)⟩) MD.out ?_
  try simp only [Act.put, List.setIfInBounds_toArray, List.set_cons_zero, List.set_cons_succ]
  refine readyL (i := 1) rfl (by kernel_rfl) (by kernel_rfl) fun K hK => ?_
  go_simp
  refine (both14_ _).mono ?_
  rintro e w8 ⟨rfl, hr8, hb8⟩
  have M8 := Lib.hid (MD.out.below hb8)
  have RR8 := Lib.hid hr8
  clear hr8 hb8 MD
  refine hK.out _ _ M8.out ?_
  clear hK K
  try simp only [Act.put, List.setIfInBounds_toArray, List.set_cons_zero, List.set_cons_succ]
  refine readyL (i := 3) rfl (by kernel_rfl) (by kernel_rfl) fun K hK => ?_
  go_simp
  have HDO := Lib.hid (do_two14 (two_in M8.out.p.rl HOK.out M8.out.p.rl.lt) (Nat.le_refl _) RR8.out M8.out.a M8.out.o (mv14_len n) (mv14_bytes n) rfl (two_bytes (by unfold IsByte; omega) (by unfold IsByte; omega)) HR2.out)
  refine HDO.out.mono ?_
  rintro e w9 ⟨vb, rfl, hvb, hb9⟩
  have M9 := Lib.hid (M8.out.below hb9)
  have OB9 := Lib.hid hvb
  clear hvb hb9 M8 RR8 HDO
  refine hK.out _ _ M9.out ?_
  clear hK K
  try simp only [Act.put, List.setIfInBounds_toArray, List.set_cons_zero, List.set_cons_succ]
  refine takeL (i := 4) (v := ?_) rfl (by kernel_rfl) (by kernel_rfl) (by kernel_rfl) (fun _ _ _ h => h) (Or.inl ⟨by rfl, ?_⟩) M9.out ?_
  rotate_left
  · intro w hw
    try dsimp only at hw
    go_simp
    try with_reducible rfl
  try simp only [Act.put, List.setIfInBounds_toArray, List.set_cons_zero, List.set_cons_succ]
  refine takeL (i := 5) (v := ?_) rfl (by kernel_rfl) (by kernel_rfl) (by kernel_rfl) (fun _ _ _ h => h) (Or.inl ⟨by rfl, ?_⟩) M9.out ?_
  rotate_left
  · intro w hw
    try dsimp only at hw
    go_simp
    try with_reducible rfl
  try simp only [Act.put, List.setIfInBounds_toArray, List.set_cons_zero, List.set_cons_succ]
  refine takeL (i := 6) (v := ?_) rfl (by kernel_rfl) (by kernel_rfl) (by kernel_rfl) (fun _ _ _ h => h) (Or.inl ⟨by rfl, ?_⟩) M9.out ?_
  rotate_left
  · intro w hw
    try dsimp only at hw
    go_simp
    try with_reducible rfl
  try simp only [Act.put, List.setIfInBounds_toArray, List.set_cons_zero, List.set_cons_succ]
  refine takeL (i := 7) (v := ?_) rfl (by kernel_rfl) (by kernel_rfl) (by kernel_rfl) (fun _ _ _ h => h) (Or.inl ⟨by rfl, ?_⟩) M9.out ?_
  rotate_left
  · intro w hw
    try dsimp only at hw
    go_simp
    try with_reducible rfl
  try simp only [Act.put, List.setIfInBounds_toArray, List.set_cons_zero, List.set_cons_succ]
  refine takeL (i := 8) (v := ?_) rfl (by kernel_rfl) (by kernel_rfl) (by kernel_rfl) (fun _ _ _ h => h) (Or.inl ⟨by rfl, ?_⟩) M9.out ?_
  rotate_left
  · intro w hw
    try dsimp only at hw
    go_simp
    try with_reducible rfl
  try simp only [Act.put, List.setIfInBounds_toArray, List.set_cons_zero, List.set_cons_succ]
  refine takeL (i := 9) (v := ?_) rfl (by kernel_rfl) (by kernel_rfl) (by kernel_rfl) (fun _ _ _ h => h) (Or.inl ⟨by rfl, ?_⟩) M9.out ?_
  rotate_left
  · intro w hw
    try dsimp only at hw
    go_simp
    try with_reducible rfl
  try simp only [Act.put, List.setIfInBounds_toArray, List.set_cons_zero, List.set_cons_succ]
  refine takeL (i := 10) (v := ?_) rfl (by kernel_rfl) (by kernel_rfl) (by kernel_rfl) (fun _ _ _ h => h) (Or.inl ⟨by rfl, ?_⟩) M9.out ?_
  rotate_left
  · intro w hw
    try dsimp only at hw
    go_simp
    try with_reducible rfl
  try simp only [Act.put, List.setIfInBounds_toArray, List.set_cons_zero, List.set_cons_succ]
  refine wpAnyH_done (by kernel_rfl) ?_ _
  go_wp2_with fail
  refine (lives14_ _).mono ?_
  rintro e w10 ⟨rfl, hb10⟩
  have B10 := Lib.hid (M9.out.p.b.trans (hb10.mono M9.out.p.b.size))
  clear hb10
  go_wp2_with fail
  go_ret
  exact ⟨rfl, B10.out⟩
set_option maxHeartbeats 16000000 in
theorem mv_funds (x y : LAcc) (n : Int) (w : World) (hx : AccOk x) (hy : AccOk y) (hn0 : 0 ≤ n) (hn1 : n < 18446744073709551616) (ho : x.o = key0) (hs : x.s = 0) (hc : x.c < n) : Calls Try.prog 5 #[.agg x.cells.toArray, .agg y.cells.toArray, .int .u64 n] w fun e w' => e = .returned (.bool true) ∧ Below w.heap.size w w' := by
  have HX := Lib.hid hx
  have HY := Lib.hid hy
  have HN := Lib.hid (And.intro hn0 hn1)
  have HM := Lib.hid (fun V => move14_ n V hn0 hn1)
  have HOK : Hid (∀ z ∈ [x, y], AccOk z) := Lib.hid (fun z hz => by
    simp only [List.mem_cons, List.not_mem_nil, or_false] at hz
    rcases hz with rfl | rfl
    · exact hx
    · exact hy)
  have hpl : plain14 x := ⟨ho, hs⟩
  have HR1 := Lib.hid ((do_m1 (x := x) (y := y) hn0 hn1).trans (m1_funds 1 hpl hc))
  have HR2 := Lib.hid ((do_m2 (x := x) (y := y) hn0 hn1).trans (m1_funds 0 hpl hc))
  have HK := Lib.hid (fun w => key_neq hx.o.1 key0_ok.1 w)
  rw [decide_eq_true ho] at HK
  clear ho hpl
  clear hx hy hn0 hn1
  have RX := Lib.hid ((Row.new w 48 x.cells).alloc (.cells y.cells.toArray 48))
  have RY := Lib.hid (Row.new' (w.alloc (.cells x.cells.toArray 48)) 48 y.cells (g := w.heap.size + 1) (by simp))
  have B0 := Lib.hid (((Below.refl w.heap.size w).alloc (Nat.le_refl _) (.cells x.cells.toArray 48)).alloc (by simp) (.cells y.cells.toArray 48))
  obtain ⟨gy, hgy⟩ : ∃ g, g = w.heap.size + 1 := ⟨_, rfl⟩
  obtain ⟨gx, hgx⟩ : ∃ g, g = w.heap.size := ⟨_, rfl⟩
  have HGY : Hid (w.heap.size + 1 = gy) := Lib.hid hgy.symm
  have HGX : Hid (w.heap.size = gx) := Lib.hid hgx.symm
  rw [← hgy] at RY
  rw [← hgx] at RX
  clear hgy hgx
  generalize hW : (w.alloc (.cells x.cells.toArray 48)).alloc (.cells y.cells.toArray 48) = W at *
  have HW := Lib.hid hW
  clear hW
  go_enter Try.func5, Try.ntmps5
  go_upto_region 1 with fail
  try rw [HGY.out]
  try rw [HGX.out]
  rw [HW.out]
  clear HW
  go_upto_region 2 with (first
    | ((with_reducible show wpList _ _ _ ({ dst := some 21, op := Op.load _ _, type := _, pos := _, after := _, guard := _ } :: _) _ _); go_must (refine wpList_load_whole rfl 48 (.tmp 3) rfl gx 48 x.cells _ Try.underlying48 rfl (size_acc HX.out.o.1) RX.out ?_ ?_; go_simp))
    | ((with_reducible show wpList _ _ _ ({ dst := some 22, op := Op.load _ _, type := _, pos := _, after := _, guard := _ } :: _) _ _); go_must (refine wpList_load_whole rfl 48 (.tmp 4) rfl gy 48 y.cells _ Try.underlying48 rfl (size_acc HY.out.o.1) RY.out ?_ ?_; go_simp))
    | ((with_reducible show wpList _ _ _ ({ dst := some 23, op := Op.buildSlice _ _ _, type := _, pos := _, after := _, guard := _ } :: _) _ _); go_must (refine wpList_buildTwo rfl 22 48 (.tmp 21) (.tmp 22) rfl x.cells y.cells _ 34 48 Try.underlying22 infoAc14 zszAc14 (by omega) (by omega) (acc_len HX.out.o.1) (acc_len HY.out.o.1) ?_ ?_ ?_; go_simp; go_simp)))
  have P1 := Lib.hid (MX14.mk (B0.out.trans (((Below.refl W.heap.size W).alloc (Nat.le_refl _) (.cells (x.cells ++ y.cells).toArray 48)).mono B0.out.size)) (RX.out.alloc _) (RY.out.alloc _) (Row.new W 48 (x.cells ++ y.cells)))
  have HGL : Hid (w.heap.size ≤ W.heap.size ∧ gx < W.heap.size ∧ gy < W.heap.size) := Lib.hid ⟨B0.out.size, RX.out.lt, RY.out.lt⟩
  clear B0 RX RY
  obtain ⟨gl, hgl⟩ : ∃ g, g = W.heap.size := ⟨_, rfl⟩
  rw [← hgl] at P1 HGL ⊢
  clear hgl
  generalize W.alloc (.cells (x.cells ++ y.cells).toArray 48) = w1 at *
  go_wp2_with fail
  refine (both14_ w1).mono ?_
  rintro e w2 ⟨rfl, hr2, hb2⟩
  have P2 := Lib.hid (P1.out.below hb2)
  have RR2 := Lib.hid hr2
  clear hr2 hb2 P1
  go_wp2_with fail
  refine (HM.out w2).mono ?_
  rintro e w3 ⟨ga, D, c, rfl, _, hra, hoa, _, hb3⟩
  have P3 := Lib.hid (P2.out.below hb3)
  have HDO := Lib.hid (do_two14 (two_in P3.out.rl HOK.out P3.out.rl.lt) (Nat.le_refl _) (RR2.out.below hb3 RR2.out.lt) hra hoa (mv14_len n) (mv14_bytes n) rfl (two_bytes (by unfold IsByte; omega) (by unfold IsByte; omega)) HR1.out)
  clear hra hoa hb3 P2 RR2
  go_wp2_with fail
  refine HDO.out.mono ?_
  rintro e w4 ⟨va, rfl, hva, hb4⟩
  have P4 := Lib.hid (P3.out.below hb4)
  have OA4 := Lib.hid hva
  clear hva hb4 P3 HDO
  have cxs := P4.out.xs HX.out.o.1
  rw [hs] at cxs
  have cxc := P4.out.xc
  have nk := HK.out
  go_wp2_with (first
    | ((with_reducible show wpList _ _ _ ({ dst := some 34, op := Op.load _ _, type := _, pos := _, after := _, guard := _ } :: _) _ _); go_must (refine wpList_load_at rfl 46 (.tmp 33) rfl ⟨gx, 1, none⟩ (bv x.o) _ Try.underlying46 rfl (by rw [size_key, bv_length, HX.out.o.1]) P4.out.xo ?_ ?_; go_simp))
    | ((with_reducible show wpList _ _ _ ({ dst := some 35, op := Op.build _ _, type := _, pos := _, after := _, guard := _ } :: _) _ _); go_must (refine wpList_plain rfl fun K hK => wp_built _ _ _ rfl (by simp only [List.map_toArray, List.map_nil]; exact built_key14) (hK _ _ ?_))))
  clear cxs cxc
  clear nk
  refine (HM.out w4).mono ?_
  rintro e w5 ⟨ga, D, c, rfl, hga, hra, hoa, hne, hb5⟩
  have P5 := Lib.hid (P4.out.below hb5)
  have OA5 := Lib.hid (OA4.out.below hb5)
  have RA5 := Lib.hid hra
  have RO5 := Lib.hid hoa
  have NE5 := Lib.hid hne
  have HGA := Lib.hid hga
  have HVL := Lib.hid OA4.out.lt
  have HL4 : Hid (w.heap.size ≤ w4.heap.size ∧ gx < w4.heap.size ∧ gy < w4.heap.size ∧ gl < w4.heap.size) := Lib.hid ⟨P4.out.b.size, P4.out.rx.lt, P4.out.ry.lt, P4.out.rl.lt⟩
  clear hga hra hoa hne hb5 P4 OA4
  go_upto_region 9 with (first
    | ((with_reducible show wpList _ _ _ ({ dst := some 12, op := Op.alloc _, type := _, pos := _, after := _, guard := _ } :: _) _ _); go_must (refine wpList_alloc_zero rfl 26 rfl (insC 0 none 0 0 none 0 0) zero_ins14 ?_))
    | ((with_reducible show wpList _ _ _ ({ dst := none, op := Op.store 26 _ _, type := _, pos := _, after := _, guard := _ } :: _) _ _); go_must (refine wpList_store_new rfl 26 (.tmp 12) (.tmp 47) rfl (insC 1 (some ⟨ga, 0, none⟩) 2 2 D 12 c) (size_ins14 _ _ _ _ _ _ _) (ins14_one _ _ _ _ _ _ _) rfl ?_ ?_ ?_; go_simp; go_simp; intro w6 hr6 hb6 hz6)))
  obtain ⟨gi, hgi⟩ : ∃ g, g = w5.heap.size := ⟨_, rfl⟩
  rw [← hgi] at hr6 ⊢
  have HIA : Hid (gi ≠ ga) := Lib.hid (by have := RA5.out.lt; omega)
  have P6 := Lib.hid (P5.out.below hb6)
  have OA6 := Lib.hid (OA5.out.below hb6)
  have RA6 := Lib.hid (RA5.out.below hb6 RA5.out.lt)
  have RO6 := Lib.hid (RO5.out.below hb6)
  have RI6 := Lib.hid hr6
  have c61 : w6.cell? ⟨gi, 1, none⟩ = some (.slice (some ⟨ga, 0, none⟩) 2 2) := hr6.cell 1
  have ca1 : w6.cell? ⟨ga, 1, none⟩ = some (.int .u8 1) := RA6.out.cell 1
  have fa1 := RA6.out.frozen 1
  clear hr6 hb6 hz6 hgi P5 OA5 RA5 RO5
  go_upto_region 10 with fail
  have M7 := Lib.hid (MS14.mk (w := w) (acc := [0, 0]) (P6.out.turned (turned_setCell w6 ⟨ga, 1, none⟩ (.int .u8 0)) (by have := HL4.out; have := HGA.out; show _ ≤ ga; omega) (by have := HL4.out; have := HGA.out; show _ ≠ ga; omega) (by have := HL4.out; have := HGA.out; show _ ≠ ga; omega) (by have := HL4.out; have := HGA.out; show _ ≠ ga; omega))
    ((turned_setCell w6 ⟨ga, 1, none⟩ (.int .u8 0)).row RI6.out HIA.out) (show Row _ ga 5 (bv [0, 0]) from RA6.out.set_ 1 (.int .u8 0)) (own14_turned RO6.out (turned_setCell w6 ⟨ga, 1, none⟩ (.int .u8 0)) NE5.out)
    (OA6.out.keep fun g hg => (turned_setCell w6 ⟨ga, 1, none⟩ (.int .u8 0)).block g (by have := (HVL.out g hg).2; have := HGA.out; show g ≠ ga; omega)))
  clear c61 ca1 fa1 P6 OA6 RA6 RO6 RI6 NE5 HIA HVL HGA
  generalize hW7 : w6.setCell ⟨ga, 1, none⟩ (.int .u8 0) = w7 at *
  clear hW7
  have MD := Lib.hid (M7.out.below (Below.refl w7.heap.size w7).drew)
  clear M7
  refine wp_region_held_drew (S := fun V => MS14 w V gx gy gl x y gi ga w4.heap.size D c n (some ⟨ga, 0, none⟩) 2 2 [0, 0] w3.heap.size va []) (by kernel_rfl) MD.out (fun _ => ?_)
  refine takeL (i := 0) (v := ?_) rfl (by kernel_rfl) (by kernel_rfl) (by kernel_rfl) (fun _ _ _ h => h) (Or.inl ⟨by rfl, ?_⟩) MD.out ?_
  rotate_left
  · intro w hw
    try dsimp only at hw
    go_simp
    try with_reducible rfl
  try simp only [Act.put, List.setIfInBounds_toArray, List.set_cons_zero, List.set_cons_succ]
  refine takeL (i := 2) (v := .agg (insC 1 (some ⟨ga, 0, none⟩) 2 2 D 12 c).toArray) rfl (by kernel_rfl) (by kernel_rfl) (by kernel_rfl) (fun _ _ _ h => h) (Or.inl ⟨by rfl, fun wz hwz => exec_load_at wz 26 (.tmp 12) rfl ⟨gi, 0, none⟩ (insC 1 (some ⟨ga, 0, none⟩) 2 2 D 12 c) _ Try.underlying26 rfl (size_ins14 _ _ _ _ _ _ _) hwz.ins (by go_simp)⟩) MD.out ?_
  try simp only [Act.put, List.setIfInBounds_toArray, List.set_cons_zero, List.set_cons_succ]
  refine readyL (i := 1) rfl (by kernel_rfl) (by kernel_rfl) fun K hK => ?_
  go_simp
  refine (both14_ _).mono ?_
  rintro e w8 ⟨rfl, hr8, hb8⟩
  have M8 := Lib.hid (MD.out.below hb8)
  have RR8 := Lib.hid hr8
  clear hr8 hb8 MD
  refine hK.out _ _ M8.out ?_
  clear hK K
  try simp only [Act.put, List.setIfInBounds_toArray, List.set_cons_zero, List.set_cons_succ]
  refine readyL (i := 3) rfl (by kernel_rfl) (by kernel_rfl) fun K hK => ?_
  go_simp
  have HDO := Lib.hid (do_two14 (two_in M8.out.p.rl HOK.out M8.out.p.rl.lt) (Nat.le_refl _) RR8.out M8.out.a M8.out.o (mv14_len n) (mv14_bytes n) rfl (two_bytes (by unfold IsByte; omega) (by unfold IsByte; omega)) HR2.out)
  refine HDO.out.mono ?_
  rintro e w9 ⟨vb, rfl, hvb, hb9⟩
  have M9 := Lib.hid (M8.out.below hb9)
  have OB9 := Lib.hid hvb
  clear hvb hb9 M8 RR8 HDO
  refine hK.out _ _ M9.out ?_
  clear hK K
  try simp only [Act.put, List.setIfInBounds_toArray, List.set_cons_zero, List.set_cons_succ]
  refine takeL (i := 4) (v := ?_) rfl (by kernel_rfl) (by kernel_rfl) (by kernel_rfl) (fun _ _ _ h => h) (Or.inl ⟨by rfl, ?_⟩) M9.out ?_
  rotate_left
  · intro w hw
    try dsimp only at hw
    go_simp
    try with_reducible rfl
  try simp only [Act.put, List.setIfInBounds_toArray, List.set_cons_zero, List.set_cons_succ]
  refine takeL (i := 5) (v := ?_) rfl (by kernel_rfl) (by kernel_rfl) (by kernel_rfl) (fun _ _ _ h => h) (Or.inl ⟨by rfl, ?_⟩) M9.out ?_
  rotate_left
  · intro w hw
    try dsimp only at hw
    go_simp
    try with_reducible rfl
  try simp only [Act.put, List.setIfInBounds_toArray, List.set_cons_zero, List.set_cons_succ]
  refine takeL (i := 6) (v := ?_) rfl (by kernel_rfl) (by kernel_rfl) (by kernel_rfl) (fun _ _ _ h => h) (Or.inl ⟨by rfl, ?_⟩) M9.out ?_
  rotate_left
  · intro w hw
    try dsimp only at hw
    go_simp
    try with_reducible rfl
  try simp only [Act.put, List.setIfInBounds_toArray, List.set_cons_zero, List.set_cons_succ]
  refine takeL (i := 7) (v := ?_) rfl (by kernel_rfl) (by kernel_rfl) (by kernel_rfl) (fun _ _ _ h => h) (Or.inl ⟨by rfl, ?_⟩) M9.out ?_
  rotate_left
  · intro w hw
    try dsimp only at hw
    go_simp
    try with_reducible rfl
  try simp only [Act.put, List.setIfInBounds_toArray, List.set_cons_zero, List.set_cons_succ]
  refine takeL (i := 8) (v := ?_) rfl (by kernel_rfl) (by kernel_rfl) (by kernel_rfl) (fun _ _ _ h => h) (Or.inl ⟨by rfl, ?_⟩) M9.out ?_
  rotate_left
  · intro w hw
    try dsimp only at hw
    go_simp
    try with_reducible rfl
  try simp only [Act.put, List.setIfInBounds_toArray, List.set_cons_zero, List.set_cons_succ]
  refine takeL (i := 9) (v := ?_) rfl (by kernel_rfl) (by kernel_rfl) (by kernel_rfl) (fun _ _ _ h => h) (Or.inl ⟨by rfl, ?_⟩) M9.out ?_
  rotate_left
  · intro w hw
    try dsimp only at hw
    go_simp
    try with_reducible rfl
  try simp only [Act.put, List.setIfInBounds_toArray, List.set_cons_zero, List.set_cons_succ]
  refine takeL (i := 10) (v := ?_) rfl (by kernel_rfl) (by kernel_rfl) (by kernel_rfl) (fun _ _ _ h => h) (Or.inl ⟨by rfl, ?_⟩) M9.out ?_
  rotate_left
  · intro w hw
    try dsimp only at hw
    go_simp
    try with_reducible rfl
  try simp only [Act.put, List.setIfInBounds_toArray, List.set_cons_zero, List.set_cons_succ]
  refine wpAnyH_done (by kernel_rfl) ?_ _
  go_wp2_with fail
  refine (lives14_ _).mono ?_
  rintro e w10 ⟨rfl, hb10⟩
  have B10 := Lib.hid (M9.out.p.b.trans (hb10.mono M9.out.p.b.size))
  clear hb10
  go_wp2_with fail
  go_ret
  exact ⟨rfl, B10.out⟩
set_option maxHeartbeats 16000000 in
theorem mv_over (x y : LAcc) (n : Int) (w : World) (hx : AccOk x) (hy : AccOk y) (hn0 : 0 ≤ n) (hn1 : n < 18446744073709551616) (ho : x.o = key0) (hs : x.s = 0) (hc : ¬ x.c < n) (hv : 18446744073709551615 - n < y.c) : Calls Try.prog 5 #[.agg x.cells.toArray, .agg y.cells.toArray, .int .u64 n] w fun e w' => e = .returned (.bool true) ∧ Below w.heap.size w w' := by
  have HX := Lib.hid hx
  have HY := Lib.hid hy
  have HN := Lib.hid (And.intro hn0 hn1)
  have HM := Lib.hid (fun V => move14_ n V hn0 hn1)
  have HOK : Hid (∀ z ∈ [x, y], AccOk z) := Lib.hid (fun z hz => by
    simp only [List.mem_cons, List.not_mem_nil, or_false] at hz
    rcases hz with rfl | rfl
    · exact hx
    · exact hy)
  have hpl : plain14 x := ⟨ho, hs⟩
  have HR1 := Lib.hid ((do_m1 (x := x) (y := y) hn0 hn1).trans (m1_over hpl hc hv))
  have HR2 := Lib.hid ((do_m2 (x := x) (y := y) hn0 hn1).trans (m2_good hpl hc))
  have HK := Lib.hid (fun w => key_neq hx.o.1 key0_ok.1 w)
  rw [decide_eq_true ho] at HK
  clear ho hpl
  clear hx hy hn0 hn1
  have RX := Lib.hid ((Row.new w 48 x.cells).alloc (.cells y.cells.toArray 48))
  have RY := Lib.hid (Row.new' (w.alloc (.cells x.cells.toArray 48)) 48 y.cells (g := w.heap.size + 1) (by simp))
  have B0 := Lib.hid (((Below.refl w.heap.size w).alloc (Nat.le_refl _) (.cells x.cells.toArray 48)).alloc (by simp) (.cells y.cells.toArray 48))
  obtain ⟨gy, hgy⟩ : ∃ g, g = w.heap.size + 1 := ⟨_, rfl⟩
  obtain ⟨gx, hgx⟩ : ∃ g, g = w.heap.size := ⟨_, rfl⟩
  have HGY : Hid (w.heap.size + 1 = gy) := Lib.hid hgy.symm
  have HGX : Hid (w.heap.size = gx) := Lib.hid hgx.symm
  rw [← hgy] at RY
  rw [← hgx] at RX
  clear hgy hgx
  generalize hW : (w.alloc (.cells x.cells.toArray 48)).alloc (.cells y.cells.toArray 48) = W at *
  have HW := Lib.hid hW
  clear hW
  go_enter Try.func5, Try.ntmps5
  go_upto_region 1 with fail
  try rw [HGY.out]
  try rw [HGX.out]
  rw [HW.out]
  clear HW
  go_upto_region 2 with (first
    | ((with_reducible show wpList _ _ _ ({ dst := some 21, op := Op.load _ _, type := _, pos := _, after := _, guard := _ } :: _) _ _); go_must (refine wpList_load_whole rfl 48 (.tmp 3) rfl gx 48 x.cells _ Try.underlying48 rfl (size_acc HX.out.o.1) RX.out ?_ ?_; go_simp))
    | ((with_reducible show wpList _ _ _ ({ dst := some 22, op := Op.load _ _, type := _, pos := _, after := _, guard := _ } :: _) _ _); go_must (refine wpList_load_whole rfl 48 (.tmp 4) rfl gy 48 y.cells _ Try.underlying48 rfl (size_acc HY.out.o.1) RY.out ?_ ?_; go_simp))
    | ((with_reducible show wpList _ _ _ ({ dst := some 23, op := Op.buildSlice _ _ _, type := _, pos := _, after := _, guard := _ } :: _) _ _); go_must (refine wpList_buildTwo rfl 22 48 (.tmp 21) (.tmp 22) rfl x.cells y.cells _ 34 48 Try.underlying22 infoAc14 zszAc14 (by omega) (by omega) (acc_len HX.out.o.1) (acc_len HY.out.o.1) ?_ ?_ ?_; go_simp; go_simp)))
  have P1 := Lib.hid (MX14.mk (B0.out.trans (((Below.refl W.heap.size W).alloc (Nat.le_refl _) (.cells (x.cells ++ y.cells).toArray 48)).mono B0.out.size)) (RX.out.alloc _) (RY.out.alloc _) (Row.new W 48 (x.cells ++ y.cells)))
  have HGL : Hid (w.heap.size ≤ W.heap.size ∧ gx < W.heap.size ∧ gy < W.heap.size) := Lib.hid ⟨B0.out.size, RX.out.lt, RY.out.lt⟩
  clear B0 RX RY
  obtain ⟨gl, hgl⟩ : ∃ g, g = W.heap.size := ⟨_, rfl⟩
  rw [← hgl] at P1 HGL ⊢
  clear hgl
  generalize W.alloc (.cells (x.cells ++ y.cells).toArray 48) = w1 at *
  go_wp2_with fail
  refine (both14_ w1).mono ?_
  rintro e w2 ⟨rfl, hr2, hb2⟩
  have P2 := Lib.hid (P1.out.below hb2)
  have RR2 := Lib.hid hr2
  clear hr2 hb2 P1
  go_wp2_with fail
  refine (HM.out w2).mono ?_
  rintro e w3 ⟨ga, D, c, rfl, _, hra, hoa, _, hb3⟩
  have P3 := Lib.hid (P2.out.below hb3)
  have HDO := Lib.hid (do_two14 (two_in P3.out.rl HOK.out P3.out.rl.lt) (Nat.le_refl _) (RR2.out.below hb3 RR2.out.lt) hra hoa (mv14_len n) (mv14_bytes n) rfl (two_bytes (by unfold IsByte; omega) (by unfold IsByte; omega)) HR1.out)
  clear hra hoa hb3 P2 RR2
  go_wp2_with fail
  refine HDO.out.mono ?_
  rintro e w4 ⟨va, rfl, hva, hb4⟩
  have P4 := Lib.hid (P3.out.below hb4)
  have OA4 := Lib.hid hva
  clear hva hb4 P3 HDO
  have cxs := P4.out.xs HX.out.o.1
  rw [hs] at cxs
  have cxc := P4.out.xc
  have nk := HK.out
  go_wp2_with (first
    | ((with_reducible show wpList _ _ _ ({ dst := some 34, op := Op.load _ _, type := _, pos := _, after := _, guard := _ } :: _) _ _); go_must (refine wpList_load_at rfl 46 (.tmp 33) rfl ⟨gx, 1, none⟩ (bv x.o) _ Try.underlying46 rfl (by rw [size_key, bv_length, HX.out.o.1]) P4.out.xo ?_ ?_; go_simp))
    | ((with_reducible show wpList _ _ _ ({ dst := some 35, op := Op.build _ _, type := _, pos := _, after := _, guard := _ } :: _) _ _); go_must (refine wpList_plain rfl fun K hK => wp_built _ _ _ rfl (by simp only [List.map_toArray, List.map_nil]; exact built_key14) (hK _ _ ?_))))
  clear cxs cxc
  clear nk
  refine (HM.out w4).mono ?_
  rintro e w5 ⟨ga, D, c, rfl, hga, hra, hoa, hne, hb5⟩
  have P5 := Lib.hid (P4.out.below hb5)
  have OA5 := Lib.hid (OA4.out.below hb5)
  have RA5 := Lib.hid hra
  have RO5 := Lib.hid hoa
  have NE5 := Lib.hid hne
  have HGA := Lib.hid hga
  have HVL := Lib.hid OA4.out.lt
  have HL4 : Hid (w.heap.size ≤ w4.heap.size ∧ gx < w4.heap.size ∧ gy < w4.heap.size ∧ gl < w4.heap.size) := Lib.hid ⟨P4.out.b.size, P4.out.rx.lt, P4.out.ry.lt, P4.out.rl.lt⟩
  clear hga hra hoa hne hb5 P4 OA4
  go_upto_region 9 with (first
    | ((with_reducible show wpList _ _ _ ({ dst := some 12, op := Op.alloc _, type := _, pos := _, after := _, guard := _ } :: _) _ _); go_must (refine wpList_alloc_zero rfl 26 rfl (insC 0 none 0 0 none 0 0) zero_ins14 ?_))
    | ((with_reducible show wpList _ _ _ ({ dst := none, op := Op.store 26 _ _, type := _, pos := _, after := _, guard := _ } :: _) _ _); go_must (refine wpList_store_new rfl 26 (.tmp 12) (.tmp 47) rfl (insC 1 (some ⟨ga, 0, none⟩) 2 2 D 12 c) (size_ins14 _ _ _ _ _ _ _) (ins14_one _ _ _ _ _ _ _) rfl ?_ ?_ ?_; go_simp; go_simp; intro w6 hr6 hb6 hz6)))
  obtain ⟨gi, hgi⟩ : ∃ g, g = w5.heap.size := ⟨_, rfl⟩
  rw [← hgi] at hr6 ⊢
  have HIA : Hid (gi ≠ ga) := Lib.hid (by have := RA5.out.lt; omega)
  have P6 := Lib.hid (P5.out.below hb6)
  have OA6 := Lib.hid (OA5.out.below hb6)
  have RA6 := Lib.hid (RA5.out.below hb6 RA5.out.lt)
  have RO6 := Lib.hid (RO5.out.below hb6)
  have RI6 := Lib.hid hr6
  have c61 : w6.cell? ⟨gi, 1, none⟩ = some (.slice (some ⟨ga, 0, none⟩) 2 2) := hr6.cell 1
  have ca1 : w6.cell? ⟨ga, 1, none⟩ = some (.int .u8 1) := RA6.out.cell 1
  have fa1 := RA6.out.frozen 1
  clear hr6 hb6 hz6 hgi P5 OA5 RA5 RO5
  go_upto_region 10 with fail
  have M7 := Lib.hid (MS14.mk (w := w) (acc := [0, 0]) (P6.out.turned (turned_setCell w6 ⟨ga, 1, none⟩ (.int .u8 0)) (by have := HL4.out; have := HGA.out; show _ ≤ ga; omega) (by have := HL4.out; have := HGA.out; show _ ≠ ga; omega) (by have := HL4.out; have := HGA.out; show _ ≠ ga; omega) (by have := HL4.out; have := HGA.out; show _ ≠ ga; omega))
    ((turned_setCell w6 ⟨ga, 1, none⟩ (.int .u8 0)).row RI6.out HIA.out) (show Row _ ga 5 (bv [0, 0]) from RA6.out.set_ 1 (.int .u8 0)) (own14_turned RO6.out (turned_setCell w6 ⟨ga, 1, none⟩ (.int .u8 0)) NE5.out)
    (OA6.out.keep fun g hg => (turned_setCell w6 ⟨ga, 1, none⟩ (.int .u8 0)).block g (by have := (HVL.out g hg).2; have := HGA.out; show g ≠ ga; omega)))
  clear c61 ca1 fa1 P6 OA6 RA6 RO6 RI6 NE5 HIA HVL HGA
  generalize hW7 : w6.setCell ⟨ga, 1, none⟩ (.int .u8 0) = w7 at *
  clear hW7
  have MD := Lib.hid (M7.out.below (Below.refl w7.heap.size w7).drew)
  clear M7
  refine wp_region_held_drew (S := fun V => MS14 w V gx gy gl x y gi ga w4.heap.size D c n (some ⟨ga, 0, none⟩) 2 2 [0, 0] w3.heap.size va []) (by kernel_rfl) MD.out (fun _ => ?_)
  refine takeL (i := 0) (v := ?_) rfl (by kernel_rfl) (by kernel_rfl) (by kernel_rfl) (fun _ _ _ h => h) (Or.inl ⟨by rfl, ?_⟩) MD.out ?_
  rotate_left
  · intro w hw
    try dsimp only at hw
    go_simp
    try with_reducible rfl
  try simp only [Act.put, List.setIfInBounds_toArray, List.set_cons_zero, List.set_cons_succ]
  refine takeL (i := 2) (v := .agg (insC 1 (some ⟨ga, 0, none⟩) 2 2 D 12 c).toArray) rfl (by kernel_rfl) (by kernel_rfl) (by kernel_rfl) (fun _ _ _ h => h) (Or.inl ⟨by rfl, fun wz hwz => exec_load_at wz 26 (.tmp 12) rfl ⟨gi, 0, none⟩ (insC 1 (some ⟨ga, 0, none⟩) 2 2 D 12 c) _ Try.underlying26 rfl (size_ins14 _ _ _ _ _ _ _) hwz.ins (by go_simp)⟩) MD.out ?_
  try simp only [Act.put, List.setIfInBounds_toArray, List.set_cons_zero, List.set_cons_succ]
  refine readyL (i := 1) rfl (by kernel_rfl) (by kernel_rfl) fun K hK => ?_
  go_simp
  refine (both14_ _).mono ?_
  rintro e w8 ⟨rfl, hr8, hb8⟩
  have M8 := Lib.hid (MD.out.below hb8)
  have RR8 := Lib.hid hr8
  clear hr8 hb8 MD
  refine hK.out _ _ M8.out ?_
  clear hK K
  try simp only [Act.put, List.setIfInBounds_toArray, List.set_cons_zero, List.set_cons_succ]
  refine readyL (i := 3) rfl (by kernel_rfl) (by kernel_rfl) fun K hK => ?_
  go_simp
  have HDO := Lib.hid (do_two14 (two_in M8.out.p.rl HOK.out M8.out.p.rl.lt) (Nat.le_refl _) RR8.out M8.out.a M8.out.o (mv14_len n) (mv14_bytes n) rfl (two_bytes (by unfold IsByte; omega) (by unfold IsByte; omega)) HR2.out)
  refine HDO.out.mono ?_
  rintro e w9 ⟨vb, rfl, hvb, hb9⟩
  have M9 := Lib.hid (M8.out.below hb9)
  have OB9 := Lib.hid hvb
  clear hvb hb9 M8 RR8 HDO
  refine hK.out _ _ M9.out ?_
  clear hK K
  try simp only [Act.put, List.setIfInBounds_toArray, List.set_cons_zero, List.set_cons_succ]
  refine takeL (i := 4) (v := ?_) rfl (by kernel_rfl) (by kernel_rfl) (by kernel_rfl) (fun _ _ _ h => h) (Or.inl ⟨by rfl, ?_⟩) M9.out ?_
  rotate_left
  · intro w hw
    try dsimp only at hw
    go_simp
    try with_reducible rfl
  try simp only [Act.put, List.setIfInBounds_toArray, List.set_cons_zero, List.set_cons_succ]
  refine takeL (i := 5) (v := ?_) rfl (by kernel_rfl) (by kernel_rfl) (by kernel_rfl) (fun _ _ _ h => h) (Or.inl ⟨by rfl, ?_⟩) M9.out ?_
  rotate_left
  · intro w hw
    try dsimp only at hw
    go_simp
    try with_reducible rfl
  try simp only [Act.put, List.setIfInBounds_toArray, List.set_cons_zero, List.set_cons_succ]
  refine takeL (i := 6) (v := ?_) rfl (by kernel_rfl) (by kernel_rfl) (by kernel_rfl) (fun _ _ _ h => h) (Or.inl ⟨by rfl, ?_⟩) M9.out ?_
  rotate_left
  · intro w hw
    try dsimp only at hw
    go_simp
    try with_reducible rfl
  try simp only [Act.put, List.setIfInBounds_toArray, List.set_cons_zero, List.set_cons_succ]
  refine takeL (i := 7) (v := ?_) rfl (by kernel_rfl) (by kernel_rfl) (by kernel_rfl) (fun _ _ _ h => h) (Or.inl ⟨by rfl, ?_⟩) M9.out ?_
  rotate_left
  · intro w hw
    try dsimp only at hw
    go_simp
    try with_reducible rfl
  try simp only [Act.put, List.setIfInBounds_toArray, List.set_cons_zero, List.set_cons_succ]
  refine takeL (i := 8) (v := ?_) rfl (by kernel_rfl) (by kernel_rfl) (by kernel_rfl) (fun _ _ _ h => h) (Or.inl ⟨by rfl, ?_⟩) M9.out ?_
  rotate_left
  · intro w hw
    try dsimp only at hw
    go_simp
    try with_reducible rfl
  try simp only [Act.put, List.setIfInBounds_toArray, List.set_cons_zero, List.set_cons_succ]
  refine takeL (i := 9) (v := ?_) rfl (by kernel_rfl) (by kernel_rfl) (by kernel_rfl) (fun _ _ _ h => h) (Or.inl ⟨by rfl, ?_⟩) M9.out ?_
  rotate_left
  · intro w hw
    try dsimp only at hw
    go_simp
    try with_reducible rfl
  try simp only [Act.put, List.setIfInBounds_toArray, List.set_cons_zero, List.set_cons_succ]
  refine takeL (i := 10) (v := ?_) rfl (by kernel_rfl) (by kernel_rfl) (by kernel_rfl) (fun _ _ _ h => h) (Or.inl ⟨by rfl, ?_⟩) M9.out ?_
  rotate_left
  · intro w hw
    try dsimp only at hw
    go_simp
    try with_reducible rfl
  try simp only [Act.put, List.setIfInBounds_toArray, List.set_cons_zero, List.set_cons_succ]
  refine wpAnyH_done (by kernel_rfl) ?_ _
  obtain ⟨gb, cb, rb, rfl, hcb, hcm, hgb, hrb⟩ := oa_two14 OB9.out
  have HAB := Lib.hid (two_in' hrb HOK.out hrb.lt)
  clear hcb hcm hgb hrb
  go_wp2_with fail
  refine (sameAccs (some ⟨gb, 0, none⟩) (some ⟨gl, 0, none⟩) 2 cb 2 [x, y] _ _ _ HAB.out (two_in M9.out.p.rl HOK.out M9.out.p.rl.lt) (by unfold maxLen; omega)).mono ?_
  rintro e w10 ⟨rfl, k10, rfl⟩
  have M10 := Lib.hid (M9.out.p.below (⟨rfl, rfl, rfl, Nat.le_refl _, fun _ _ => rfl⟩ : Below w9.heap.size w9 (w9.drewN k10)))
  clear M9 HAB
  generalize w9.drewN k10 = w10 at *
  have hw1 : IntKind.u64.wrap (18446744073709551615 - n) = 18446744073709551615 - n := by rw [IntKind.wrap_u64]; have := HN.out; omega
  have cyc := M10.out.yc
  go_wp2_with fail
  clear hw1 cyc
  refine (lives14_ _).mono ?_
  rintro e w11 ⟨rfl, hb10⟩
  have B10 := Lib.hid (M10.out.b.trans (hb10.mono M10.out.b.size))
  clear hb10
  go_wp2_with fail
  go_ret
  exact ⟨rfl, B10.out⟩
set_option maxHeartbeats 16000000 in
theorem mv_plain (x y : LAcc) (n : Int) (w : World) (hx : AccOk x) (hy : AccOk y) (hn0 : 0 ≤ n) (hn1 : n < 18446744073709551616) (ho : x.o = key0) (hs : x.s = 0) (hc : ¬ x.c < n) (hv : ¬ 18446744073709551615 - n < y.c) (hy1 : y.o = key0) (hy2 : y.s = 0) : Calls Try.prog 5 #[.agg x.cells.toArray, .agg y.cells.toArray, .int .u64 n] w fun e w' => e = .returned (.bool true) ∧ Below w.heap.size w w' := by
  have HX := Lib.hid hx
  have HY := Lib.hid hy
  have HN := Lib.hid (And.intro hn0 hn1)
  have HM := Lib.hid (fun V => move14_ n V hn0 hn1)
  have HOK : Hid (∀ z ∈ [x, y], AccOk z) := Lib.hid (fun z hz => by
    simp only [List.mem_cons, List.not_mem_nil, or_false] at hz
    rcases hz with rfl | rfl
    · exact hx
    · exact hy)
  have hpl : plain14 x := ⟨ho, hs⟩
  have HR1 := Lib.hid ((do_m1 (x := x) (y := y) hn0 hn1).trans (m1_good hpl hc hv))
  have HR2 := Lib.hid ((do_m2 (x := x) (y := y) hn0 hn1).trans (m2_good hpl hc))
  have HK := Lib.hid (fun w => key_neq hx.o.1 key0_ok.1 w)
  have HR3 := Lib.hid ((do_m3 (x := (⟨x.c - n, x.o, x.s⟩ : LAcc)) (y := (⟨y.c + n, y.o, y.s⟩ : LAcc)) hn0 hn1).trans (m3_good hx hn0 hy.c.1 ⟨hy1, hy2⟩ hc))
  have HX1 : Hid (AccOk (⟨x.c - n, x.o, x.s⟩ : LAcc)) := Lib.hid ⟨by have := hx.c; constructor <;> dsimp only <;> omega, hx.o, hx.s⟩
  have HY1 : Hid (AccOk (⟨y.c + n, y.o, y.s⟩ : LAcc)) := Lib.hid ⟨by have := hy.c; constructor <;> dsimp only <;> omega, hy.o, hy.s⟩
  have HKY := Lib.hid (fun w => key_eql hy.o.1 key0_ok.1 w)
  rw [decide_eq_true ho] at HK
  clear ho hpl
  rw [decide_eq_true hy1] at HKY
  clear hy1
  clear hx hy hn0 hn1
  have RX := Lib.hid ((Row.new w 48 x.cells).alloc (.cells y.cells.toArray 48))
  have RY := Lib.hid (Row.new' (w.alloc (.cells x.cells.toArray 48)) 48 y.cells (g := w.heap.size + 1) (by simp))
  have B0 := Lib.hid (((Below.refl w.heap.size w).alloc (Nat.le_refl _) (.cells x.cells.toArray 48)).alloc (by simp) (.cells y.cells.toArray 48))
  obtain ⟨gy, hgy⟩ : ∃ g, g = w.heap.size + 1 := ⟨_, rfl⟩
  obtain ⟨gx, hgx⟩ : ∃ g, g = w.heap.size := ⟨_, rfl⟩
  have HGY : Hid (w.heap.size + 1 = gy) := Lib.hid hgy.symm
  have HGX : Hid (w.heap.size = gx) := Lib.hid hgx.symm
  rw [← hgy] at RY
  rw [← hgx] at RX
  clear hgy hgx
  generalize hW : (w.alloc (.cells x.cells.toArray 48)).alloc (.cells y.cells.toArray 48) = W at *
  have HW := Lib.hid hW
  clear hW
  go_enter Try.func5, Try.ntmps5
  go_upto_region 1 with fail
  try rw [HGY.out]
  try rw [HGX.out]
  rw [HW.out]
  clear HW
  go_upto_region 2 with (first
    | ((with_reducible show wpList _ _ _ ({ dst := some 21, op := Op.load _ _, type := _, pos := _, after := _, guard := _ } :: _) _ _); go_must (refine wpList_load_whole rfl 48 (.tmp 3) rfl gx 48 x.cells _ Try.underlying48 rfl (size_acc HX.out.o.1) RX.out ?_ ?_; go_simp))
    | ((with_reducible show wpList _ _ _ ({ dst := some 22, op := Op.load _ _, type := _, pos := _, after := _, guard := _ } :: _) _ _); go_must (refine wpList_load_whole rfl 48 (.tmp 4) rfl gy 48 y.cells _ Try.underlying48 rfl (size_acc HY.out.o.1) RY.out ?_ ?_; go_simp))
    | ((with_reducible show wpList _ _ _ ({ dst := some 23, op := Op.buildSlice _ _ _, type := _, pos := _, after := _, guard := _ } :: _) _ _); go_must (refine wpList_buildTwo rfl 22 48 (.tmp 21) (.tmp 22) rfl x.cells y.cells _ 34 48 Try.underlying22 infoAc14 zszAc14 (by omega) (by omega) (acc_len HX.out.o.1) (acc_len HY.out.o.1) ?_ ?_ ?_; go_simp; go_simp)))
  have P1 := Lib.hid (MX14.mk (B0.out.trans (((Below.refl W.heap.size W).alloc (Nat.le_refl _) (.cells (x.cells ++ y.cells).toArray 48)).mono B0.out.size)) (RX.out.alloc _) (RY.out.alloc _) (Row.new W 48 (x.cells ++ y.cells)))
  have HGL : Hid (w.heap.size ≤ W.heap.size ∧ gx < W.heap.size ∧ gy < W.heap.size) := Lib.hid ⟨B0.out.size, RX.out.lt, RY.out.lt⟩
  clear B0 RX RY
  obtain ⟨gl, hgl⟩ : ∃ g, g = W.heap.size := ⟨_, rfl⟩
  rw [← hgl] at P1 HGL ⊢
  clear hgl
  generalize W.alloc (.cells (x.cells ++ y.cells).toArray 48) = w1 at *
  go_wp2_with fail
  refine (both14_ w1).mono ?_
  rintro e w2 ⟨rfl, hr2, hb2⟩
  have P2 := Lib.hid (P1.out.below hb2)
  have RR2 := Lib.hid hr2
  clear hr2 hb2 P1
  go_wp2_with fail
  refine (HM.out w2).mono ?_
  rintro e w3 ⟨ga, D, c, rfl, _, hra, hoa, _, hb3⟩
  have P3 := Lib.hid (P2.out.below hb3)
  have HDO := Lib.hid (do_two14 (two_in P3.out.rl HOK.out P3.out.rl.lt) (Nat.le_refl _) (RR2.out.below hb3 RR2.out.lt) hra hoa (mv14_len n) (mv14_bytes n) rfl (two_bytes (by unfold IsByte; omega) (by unfold IsByte; omega)) HR1.out)
  clear hra hoa hb3 P2 RR2
  go_wp2_with fail
  refine HDO.out.mono ?_
  rintro e w4 ⟨va, rfl, hva, hb4⟩
  have P4 := Lib.hid (P3.out.below hb4)
  have OA4 := Lib.hid hva
  clear hva hb4 P3 HDO
  have cxs := P4.out.xs HX.out.o.1
  rw [hs] at cxs
  have cxc := P4.out.xc
  have nk := HK.out
  go_wp2_with (first
    | ((with_reducible show wpList _ _ _ ({ dst := some 34, op := Op.load _ _, type := _, pos := _, after := _, guard := _ } :: _) _ _); go_must (refine wpList_load_at rfl 46 (.tmp 33) rfl ⟨gx, 1, none⟩ (bv x.o) _ Try.underlying46 rfl (by rw [size_key, bv_length, HX.out.o.1]) P4.out.xo ?_ ?_; go_simp))
    | ((with_reducible show wpList _ _ _ ({ dst := some 35, op := Op.build _ _, type := _, pos := _, after := _, guard := _ } :: _) _ _); go_must (refine wpList_plain rfl fun K hK => wp_built _ _ _ rfl (by simp only [List.map_toArray, List.map_nil]; exact built_key14) (hK _ _ ?_))))
  clear cxs cxc
  obtain ⟨gz, cz, rz, rfl, hcz, hcm, hgz, _⟩ := oa_two14 OA4.out
  have HCZ := Lib.hid (And.intro hcz hcm)
  clear hcz hcm
  clear nk
  refine (HM.out w4).mono ?_
  rintro e w5 ⟨ga, D, c, rfl, hga, hra, hoa, hne, hb5⟩
  have P5 := Lib.hid (P4.out.below hb5)
  have OA5 := Lib.hid (OA4.out.below hb5)
  have RA5 := Lib.hid hra
  have RO5 := Lib.hid hoa
  have NE5 := Lib.hid hne
  have HGA := Lib.hid hga
  have HVL := Lib.hid OA4.out.lt
  have HL4 : Hid (w.heap.size ≤ w4.heap.size ∧ gx < w4.heap.size ∧ gy < w4.heap.size ∧ gl < w4.heap.size) := Lib.hid ⟨P4.out.b.size, P4.out.rx.lt, P4.out.ry.lt, P4.out.rl.lt⟩
  clear hga hra hoa hne hb5 P4 OA4
  go_upto_region 9 with (first
    | ((with_reducible show wpList _ _ _ ({ dst := some 12, op := Op.alloc _, type := _, pos := _, after := _, guard := _ } :: _) _ _); go_must (refine wpList_alloc_zero rfl 26 rfl (insC 0 none 0 0 none 0 0) zero_ins14 ?_))
    | ((with_reducible show wpList _ _ _ ({ dst := none, op := Op.store 26 _ _, type := _, pos := _, after := _, guard := _ } :: _) _ _); go_must (refine wpList_store_new rfl 26 (.tmp 12) (.tmp 47) rfl (insC 1 (some ⟨ga, 0, none⟩) 2 2 D 12 c) (size_ins14 _ _ _ _ _ _ _) (ins14_one _ _ _ _ _ _ _) rfl ?_ ?_ ?_; go_simp; go_simp; intro w6 hr6 hb6 hz6)))
  obtain ⟨gi, hgi⟩ : ∃ g, g = w5.heap.size := ⟨_, rfl⟩
  rw [← hgi] at hr6 ⊢
  have HIA : Hid (gi ≠ ga) := Lib.hid (by have := RA5.out.lt; omega)
  have P6 := Lib.hid (P5.out.below hb6)
  have OA6 := Lib.hid (OA5.out.below hb6)
  have RA6 := Lib.hid (RA5.out.below hb6 RA5.out.lt)
  have RO6 := Lib.hid (RO5.out.below hb6)
  have RI6 := Lib.hid hr6
  have c61 : w6.cell? ⟨gi, 1, none⟩ = some (.slice (some ⟨ga, 0, none⟩) 2 2) := hr6.cell 1
  have ca1 : w6.cell? ⟨ga, 1, none⟩ = some (.int .u8 1) := RA6.out.cell 1
  have fa1 := RA6.out.frozen 1
  clear hr6 hb6 hz6 hgi P5 OA5 RA5 RO5
  go_upto_region 10 with fail
  have M7 := Lib.hid (MS14.mk (w := w) (acc := [0, 0]) (P6.out.turned (turned_setCell w6 ⟨ga, 1, none⟩ (.int .u8 0)) (by have := HL4.out; have := HGA.out; show _ ≤ ga; omega) (by have := HL4.out; have := HGA.out; show _ ≠ ga; omega) (by have := HL4.out; have := HGA.out; show _ ≠ ga; omega) (by have := HL4.out; have := HGA.out; show _ ≠ ga; omega))
    ((turned_setCell w6 ⟨ga, 1, none⟩ (.int .u8 0)).row RI6.out HIA.out) (show Row _ ga 5 (bv [0, 0]) from RA6.out.set_ 1 (.int .u8 0)) (own14_turned RO6.out (turned_setCell w6 ⟨ga, 1, none⟩ (.int .u8 0)) NE5.out)
    (OA6.out.keep fun g hg => (turned_setCell w6 ⟨ga, 1, none⟩ (.int .u8 0)).block g (by have := (HVL.out g hg).2; have := HGA.out; show g ≠ ga; omega)))
  clear c61 ca1 fa1 P6 OA6 RA6 RO6 RI6 NE5 HIA HVL HGA
  generalize hW7 : w6.setCell ⟨ga, 1, none⟩ (.int .u8 0) = w7 at *
  clear hW7
  have MD := Lib.hid (M7.out.below (Below.refl w7.heap.size w7).drew)
  clear M7
  refine wp_region_held_drew (S := fun V => MS14 w V gx gy gl x y gi ga w4.heap.size D c n (some ⟨ga, 0, none⟩) 2 2 [0, 0] w3.heap.size (.slice (some ⟨gz, 0, none⟩) 2 cz) [(⟨x.c - n, x.o, x.s⟩ : LAcc), (⟨y.c + n, y.o, y.s⟩ : LAcc)]) (by kernel_rfl) MD.out (fun _ => ?_)
  refine takeL (i := 0) (v := ?_) rfl (by kernel_rfl) (by kernel_rfl) (by kernel_rfl) (fun _ _ _ h => h) (Or.inl ⟨by rfl, ?_⟩) MD.out ?_
  rotate_left
  · intro w hw
    try dsimp only at hw
    go_simp
    try with_reducible rfl
  try simp only [Act.put, List.setIfInBounds_toArray, List.set_cons_zero, List.set_cons_succ]
  refine takeL (i := 2) (v := .agg (insC 1 (some ⟨ga, 0, none⟩) 2 2 D 12 c).toArray) rfl (by kernel_rfl) (by kernel_rfl) (by kernel_rfl) (fun _ _ _ h => h) (Or.inl ⟨by rfl, fun wz hwz => exec_load_at wz 26 (.tmp 12) rfl ⟨gi, 0, none⟩ (insC 1 (some ⟨ga, 0, none⟩) 2 2 D 12 c) _ Try.underlying26 rfl (size_ins14 _ _ _ _ _ _ _) hwz.ins (by go_simp)⟩) MD.out ?_
  try simp only [Act.put, List.setIfInBounds_toArray, List.set_cons_zero, List.set_cons_succ]
  refine readyL (i := 1) rfl (by kernel_rfl) (by kernel_rfl) fun K hK => ?_
  go_simp
  refine (both14_ _).mono ?_
  rintro e w8 ⟨rfl, hr8, hb8⟩
  have M8 := Lib.hid (MD.out.below hb8)
  have RR8 := Lib.hid hr8
  clear hr8 hb8 MD
  refine hK.out _ _ M8.out ?_
  clear hK K
  try simp only [Act.put, List.setIfInBounds_toArray, List.set_cons_zero, List.set_cons_succ]
  refine readyL (i := 3) rfl (by kernel_rfl) (by kernel_rfl) fun K hK => ?_
  go_simp
  have HDO := Lib.hid (do_two14 (two_in M8.out.p.rl HOK.out M8.out.p.rl.lt) (Nat.le_refl _) RR8.out M8.out.a M8.out.o (mv14_len n) (mv14_bytes n) rfl (two_bytes (by unfold IsByte; omega) (by unfold IsByte; omega)) HR2.out)
  refine HDO.out.mono ?_
  rintro e w9 ⟨vb, rfl, hvb, hb9⟩
  have M9 := Lib.hid (M8.out.below hb9)
  have OB9 := Lib.hid hvb
  clear hvb hb9 M8 RR8 HDO
  refine hK.out _ _ M9.out ?_
  clear hK K
  try simp only [Act.put, List.setIfInBounds_toArray, List.set_cons_zero, List.set_cons_succ]
  refine takeL (i := 4) (v := ?_) rfl (by kernel_rfl) (by kernel_rfl) (by kernel_rfl) (fun _ _ _ h => h) (Or.inl ⟨by rfl, ?_⟩) M9.out ?_
  rotate_left
  · intro w hw
    try dsimp only at hw
    go_simp
    try with_reducible rfl
  try simp only [Act.put, List.setIfInBounds_toArray, List.set_cons_zero, List.set_cons_succ]
  refine takeL (i := 5) (v := ?_) rfl (by kernel_rfl) (by kernel_rfl) (by kernel_rfl) (fun _ _ _ h => h) (Or.inl ⟨by rfl, ?_⟩) M9.out ?_
  rotate_left
  · intro w hw
    try dsimp only at hw
    go_simp
    try with_reducible rfl
  try simp only [Act.put, List.setIfInBounds_toArray, List.set_cons_zero, List.set_cons_succ]
  refine takeL (i := 6) (v := ?_) rfl (by kernel_rfl) (by kernel_rfl) (by kernel_rfl) (fun _ _ _ h => h) (Or.inl ⟨by rfl, ?_⟩) M9.out ?_
  rotate_left
  · intro w hw
    try dsimp only at hw
    go_simp
    try with_reducible rfl
  try simp only [Act.put, List.setIfInBounds_toArray, List.set_cons_zero, List.set_cons_succ]
  refine takeL (i := 7) (v := ?_) rfl (by kernel_rfl) (by kernel_rfl) (by kernel_rfl) (fun _ _ _ h => h) (Or.inl ⟨by rfl, ?_⟩) M9.out ?_
  rotate_left
  · intro w hw
    try dsimp only at hw
    go_simp
    try with_reducible rfl
  try simp only [Act.put, List.setIfInBounds_toArray, List.set_cons_zero, List.set_cons_succ]
  refine takeL (i := 8) (v := ?_) rfl (by kernel_rfl) (by kernel_rfl) (by kernel_rfl) (fun _ _ _ h => h) (Or.inl ⟨by rfl, ?_⟩) M9.out ?_
  rotate_left
  · intro w hw
    try dsimp only at hw
    go_simp
    try with_reducible rfl
  try simp only [Act.put, List.setIfInBounds_toArray, List.set_cons_zero, List.set_cons_succ]
  refine takeL (i := 9) (v := ?_) rfl (by kernel_rfl) (by kernel_rfl) (by kernel_rfl) (fun _ _ _ h => h) (Or.inl ⟨by rfl, ?_⟩) M9.out ?_
  rotate_left
  · intro w hw
    try dsimp only at hw
    go_simp
    try with_reducible rfl
  try simp only [Act.put, List.setIfInBounds_toArray, List.set_cons_zero, List.set_cons_succ]
  refine takeL (i := 10) (v := ?_) rfl (by kernel_rfl) (by kernel_rfl) (by kernel_rfl) (fun _ _ _ h => h) (Or.inl ⟨by rfl, ?_⟩) M9.out ?_
  rotate_left
  · intro w hw
    try dsimp only at hw
    go_simp
    try with_reducible rfl
  try simp only [Act.put, List.setIfInBounds_toArray, List.set_cons_zero, List.set_cons_succ]
  refine wpAnyH_done (by kernel_rfl) ?_ _
  obtain ⟨gb, cb, rb, rfl, hcb, hcm, hgb, hrb⟩ := oa_two14 OB9.out
  have HAB := Lib.hid (two_in' hrb HOK.out hrb.lt)
  clear hcb hcm hgb hrb
  go_wp2_with fail
  refine (sameAccs (some ⟨gb, 0, none⟩) (some ⟨gl, 0, none⟩) 2 cb 2 [x, y] _ _ _ HAB.out (two_in M9.out.p.rl HOK.out M9.out.p.rl.lt) (by unfold maxLen; omega)).mono ?_
  rintro e w10 ⟨rfl, k10, rfl⟩
  have M10 := Lib.hid (M9.out.below (⟨rfl, rfl, rfl, Nat.le_refl _, fun _ _ => rfl⟩ : Below w9.heap.size w9 (w9.drewN k10)))
  clear M9 HAB OB9
  generalize w9.drewN k10 = w10 at *
  have hw1 : IntKind.u64.wrap (18446744073709551615 - n) = 18446744073709551615 - n := by rw [IntKind.wrap_u64]; have := HN.out; omega
  have cyc := M10.out.p.yc
  go_upto_region 17 with fail
  clear hw1
  obtain ⟨g', c', rest, e', _, _, _, hrow⟩ := oa_two14 M10.out.l
  injection e' with e1 e2 e3
  injection e1 with e1
  injection e1 with e1
  subst e1 e3
  have HZR := Lib.hid hrow
  have cz0 : w10.cell? ⟨gz, 0, none⟩ = some (.int .u64 (x.c - n)) := hrow.cell 0
  have cz1 : w10.cell? ⟨gz, 34, none⟩ = some (.int .u64 (y.c + n)) := by
    have := hrow.cell (34 + 0)
    rw [List.getElem?_append_right (by rw [acc_len HX1.out.o.1]; omega), acc_len HX1.out.o.1] at this
    exact this
  have cz2 : w10.cell? ⟨gz, 67, none⟩ = some (.int .u64 y.s) := by
    have := hrow.cell (34 + 33)
    rw [List.getElem?_append_right (by rw [acc_len HX1.out.o.1]; omega), acc_len HX1.out.o.1, Nat.add_sub_cancel_left, List.getElem?_append_left (by rw [acc_len HY1.out.o.1]; omega)] at this
    exact this.trans (acc_s HY1.out.o.1)
  have HZO : ∀ j u, (bv y.o)[j]? = some u → w10.cell? ((⟨gz, 35, none⟩ : Addr).add j) = some u := fun j u hu => by
    rw [addr_row, hrow.cell, show 35 + j = 34 + (1 + j) by omega, List.getElem?_append_right (by rw [acc_len HX1.out.o.1]; omega), acc_len HX1.out.o.1, Nat.add_sub_cancel_left]
    have h1 := acc_o (a := (⟨y.c + n, y.o, y.s⟩ : LAcc)) hu
    rw [List.getElem?_append_left (List.getElem?_eq_some_iff.1 h1).1]
    exact h1
  have HZO := Lib.hid HZO
  clear hrow HZR
  have cxc := M10.out.p.xc
  have cys := M10.out.p.ys HY.out.o.1
  have hw2 : IntKind.u64.wrap (x.c - n) = x.c - n := by rw [IntKind.wrap_u64]; have := HX.out.c; have := HN.out; omega
  have hw3 : IntKind.u64.wrap (y.c + n) = y.c + n := by rw [IntKind.wrap_u64]; have := HY.out.c; have := HN.out; omega
  have NZ := fun w => key_neq HY.out.o.1 HY.out.o.1 w
  rw [decide_eq_true rfl] at NZ
  try go_frame
  refine wp_region_quiet_lit (by kernel_rfl) (by kernel_rfl) ?_
  try go_frame
  repeat (first
    | ((with_reducible show wpQuiet _ _ _ _ ({ dst := some 123, op := Op.load _ _, type := _, pos := _, after := _, guard := _ } :: _) _); go_must (refine quiet_load_at (by kernel_rfl) 46 (.tmp 122) rfl ⟨gz, 35, none⟩ (bv y.o) _ Try.underlying46 rfl (by rw [size_key, bv_length, HY.out.o.1]) (by rintro _ ⟨nq, rfl⟩; exact HZO) ?_ ?_; go_simp; go_simp))
    | ((with_reducible show wpQuiet _ _ _ _ ({ dst := some 125, op := Op.load _ _, type := _, pos := _, after := _, guard := _ } :: _) _); go_must (refine quiet_load_at (by kernel_rfl) 46 (.tmp 124) rfl ⟨gy, 1, none⟩ (bv y.o) _ Try.underlying46 rfl (by rw [size_key, bv_length, HY.out.o.1]) (by rintro _ ⟨nq, rfl⟩; exact M10.out.p.yo) ?_ ?_; go_simp; go_simp))
    | go_big_quiet_step (fail))
  refine wpQuiet_nil ?_
  intro nq
  clear cz0 cz1 cz2 HZO cxc cyc cys hw2 hw3 NZ
  have M11 := Lib.hid (M10.out.below (⟨rfl, rfl, rfl, Nat.le_refl _, fun _ _ => rfl⟩ : Below w10.heap.size w10 (w10.drewN nq)))
  clear M10
  generalize w10.drewN nq = w11 at *
  go_wp2_with fail
  refine (HM.out w11).mono ?_
  rintro e w12 ⟨gd, D2, c2, rfl, _, _, hoa, _, hb12⟩
  have M12 := Lib.hid (M11.out.below hb12)
  have RO12 := Lib.hid hoa
  clear hoa hb12 M11
  go_upto_region 20 with (first
    | ((with_reducible show wpList _ _ _ ({ dst := some 16, op := Op.alloc _, type := _, pos := _, after := _, guard := _ } :: _) _ _); go_must (refine wpList_alloc_zero rfl 26 rfl (insC 0 none 0 0 none 0 0) zero_ins14 ?_))
    | ((with_reducible show wpList _ _ _ ({ dst := none, op := Op.store 26 _ _, type := _, pos := _, after := _, guard := _ } :: _) _ _); go_must (refine wpList_store_new rfl 26 (.tmp 16) (.tmp 138) rfl (insC 1 (some ⟨gd, 0, none⟩) 2 2 D2 12 c2) (size_ins14 _ _ _ _ _ _ _) (ins14_one _ _ _ _ _ _ _) rfl ?_ ?_ ?_; go_simp; go_simp; intro w13 hr13 hb13 hz13)))
  obtain ⟨gj, hgj⟩ : ∃ g, g = w12.heap.size := ⟨_, rfl⟩
  rw [← hgj] at hr13 ⊢
  have P13 := Lib.hid (M12.out.p.below hb13)
  have OA13 := Lib.hid (M12.out.l.below hb13)
  have RO13 := Lib.hid (RO12.out.below hb13)
  have HGJ : Hid (w.heap.size ≤ gj ∧ gx < gj ∧ gy < gj ∧ gl < gj ∧ (∀ g, (Value.slice (some ⟨gz, 0, none⟩) 2 cz).ownBlock = some g → g < gj)) := Lib.hid (by
    rw [hgj]
    exact ⟨M12.out.p.b.size, M12.out.p.rx.lt, M12.out.p.ry.lt, M12.out.p.rl.lt, fun g hg => (M12.out.l.lt g hg).2⟩)
  have RI13 := Lib.hid hr13
  have hal := (Below.refl w13.heap.size w13).alloc (Nat.le_refl _) (.cells #[.int .u8 1, .int .u8 0] 5)
  have P14 := Lib.hid (P13.out.below hal)
  have OA14_ := Lib.hid (OA13.out.below hal)
  have RO14 := Lib.hid (RO13.out.below hal)
  have RI14 := Lib.hid (RI13.out.below hal RI13.out.lt)
  have RA14 := Lib.hid (Row.new w13 5 (bv [1, 0]))
  have RA14' : Hid (Row (w13.alloc (.cells #[.int .u8 1, .int .u8 0] 5)) w13.heap.size 5 (bv [1, 0])) := Lib.hid RA14.out
  have HJK : Hid (w13.heap.size ≠ gj) := Lib.hid (by have := RI13.out.lt; omega)
  have ci : (w13.alloc (.cells #[.int .u8 1, .int .u8 0] 5)).cell? ⟨gj, 1, none⟩ = some (.slice (some ⟨gd, 0, none⟩) 2 2) := RI14.out.cell 1
  have fi := RI14.out.frozen 1
  clear hr13 hb13 hz13 hgj hal M12 RO12 P13 OA13 RO13 RI13 RA14
  go_upto_region 21 with fail
  generalize hgk : w13.heap.size = gk at *
  clear hgk
  generalize w13.alloc (.cells #[.int .u8 1, .int .u8 0] 5) = w14 at *
  have M15 := Lib.hid (MS14.mk (w := w) (acc := [1, 0]) (P14.out.turned (turned_setCell w14 ⟨gj, 1, none⟩ (.slice (some ⟨gk, 0, none⟩) 2 2)) HGJ.out.1 (Nat.ne_of_lt HGJ.out.2.1) (Nat.ne_of_lt HGJ.out.2.2.1) (Nat.ne_of_lt HGJ.out.2.2.2.1))
    (show Row _ gj 26 (insC 1 (some ⟨gk, 0, none⟩) 2 2 D2 12 c2) from RI14.out.set_ 1 (.slice (some ⟨gk, 0, none⟩) 2 2)) ((turned_setCell w14 ⟨gj, 1, none⟩ (.slice (some ⟨gk, 0, none⟩) 2 2)).row RA14'.out HJK.out) (own14_turned RO14.out (turned_setCell w14 ⟨gj, 1, none⟩ (.slice (some ⟨gk, 0, none⟩) 2 2)) (fun k hk e => own_row_ne RO14.out RI14.out (by decide) (by rw [hk]; exact congrArg some e.symm)))
    (OA14_.out.keep fun g hg => (turned_setCell w14 ⟨gj, 1, none⟩ (.slice (some ⟨gk, 0, none⟩) 2 2)).block g (Nat.ne_of_lt (HGJ.out.2.2.2.2 g hg))))
  clear ci fi P14 OA14_ RO14 RI14 RA14' HJK
  generalize hW15 : w14.setCell ⟨gj, 1, none⟩ (.slice (some ⟨gk, 0, none⟩) 2 2) = w15 at *
  clear hW15
  have MD := Lib.hid (M15.out.below (Below.refl w15.heap.size w15).drew)
  clear M15
  refine wp_region_held_drew (S := fun V => MS14 w V gx gy gl x y gj gk w11.heap.size D2 c2 n (some ⟨gk, 0, none⟩) 2 2 [1, 0] w3.heap.size (.slice (some ⟨gz, 0, none⟩) 2 cz) [(⟨x.c - n, x.o, x.s⟩ : LAcc), (⟨y.c + n, y.o, y.s⟩ : LAcc)]) (by kernel_rfl) MD.out (fun _ => ?_)
  refine takeL (i := 0) (v := ?_) rfl (by kernel_rfl) (by kernel_rfl) (by kernel_rfl) (fun _ _ _ h => h) (Or.inl ⟨by rfl, ?_⟩) MD.out ?_
  rotate_left
  · intro w hw
    try dsimp only at hw
    go_simp
    try with_reducible rfl
  try simp only [Act.put, List.setIfInBounds_toArray, List.set_cons_zero, List.set_cons_succ]
  refine takeL (i := 2) (v := .agg (insC 1 (some ⟨gk, 0, none⟩) 2 2 D2 12 c2).toArray) rfl (by kernel_rfl) (by kernel_rfl) (by kernel_rfl) (fun _ _ _ h => h) (Or.inl ⟨by rfl, fun wz hwz => exec_load_at wz 26 (.tmp 16) rfl ⟨gj, 0, none⟩ (insC 1 (some ⟨gk, 0, none⟩) 2 2 D2 12 c2) _ Try.underlying26 rfl (size_ins14 _ _ _ _ _ _ _) hwz.ins (by go_simp)⟩) MD.out ?_
  try simp only [Act.put, List.setIfInBounds_toArray, List.set_cons_zero, List.set_cons_succ]
  refine readyL (i := 1) rfl (by kernel_rfl) (by kernel_rfl) fun K hK => ?_
  go_simp
  refine (both14_ _).mono ?_
  rintro e w16 ⟨rfl, hr16, hb16⟩
  have M16 := Lib.hid (MD.out.below hb16)
  have RR16 := Lib.hid hr16
  clear hr16 hb16 MD
  refine hK.out _ _ M16.out ?_
  clear hK K
  try simp only [Act.put, List.setIfInBounds_toArray, List.set_cons_zero, List.set_cons_succ]
  refine readyL (i := 3) rfl (by kernel_rfl) (by kernel_rfl) fun K hK => ?_
  go_simp
  have HDO := Lib.hid (do_two14 (M16.out.l.accs rfl) HCZ.out.1 RR16.out M16.out.a M16.out.o (mv14_len n) (mv14_bytes n) rfl (two_bytes (by unfold IsByte; omega) (by unfold IsByte; omega)) HR3.out)
  refine HDO.out.mono ?_
  rintro e w17 ⟨vc, rfl, hvc, hb17⟩
  have M17 := Lib.hid (M16.out.below hb17)
  have OC17 := Lib.hid hvc
  clear hvc hb17 M16 RR16 HDO
  refine hK.out _ _ M17.out ?_
  clear hK K
  try simp only [Act.put, List.setIfInBounds_toArray, List.set_cons_zero, List.set_cons_succ]
  refine takeL (i := 4) (v := ?_) rfl (by kernel_rfl) (by kernel_rfl) (by kernel_rfl) (fun _ _ _ h => h) (Or.inl ⟨by rfl, ?_⟩) M17.out ?_
  rotate_left
  · intro w hw
    try dsimp only at hw
    go_simp
    try with_reducible rfl
  try simp only [Act.put, List.setIfInBounds_toArray, List.set_cons_zero, List.set_cons_succ]
  refine takeL (i := 5) (v := ?_) rfl (by kernel_rfl) (by kernel_rfl) (by kernel_rfl) (fun _ _ _ h => h) (Or.inl ⟨by rfl, ?_⟩) M17.out ?_
  rotate_left
  · intro w hw
    try dsimp only at hw
    go_simp
    try with_reducible rfl
  try simp only [Act.put, List.setIfInBounds_toArray, List.set_cons_zero, List.set_cons_succ]
  refine takeL (i := 6) (v := ?_) rfl (by kernel_rfl) (by kernel_rfl) (by kernel_rfl) (fun _ _ _ h => h) (Or.inl ⟨by rfl, ?_⟩) M17.out ?_
  rotate_left
  · intro w hw
    try dsimp only at hw
    go_simp
    try with_reducible rfl
  try simp only [Act.put, List.setIfInBounds_toArray, List.set_cons_zero, List.set_cons_succ]
  refine takeL (i := 7) (v := ?_) rfl (by kernel_rfl) (by kernel_rfl) (by kernel_rfl) (fun _ _ _ h => h) (Or.inl ⟨by rfl, ?_⟩) M17.out ?_
  rotate_left
  · intro w hw
    try dsimp only at hw
    go_simp
    try with_reducible rfl
  try simp only [Act.put, List.setIfInBounds_toArray, List.set_cons_zero, List.set_cons_succ]
  refine takeL (i := 8) (v := ?_) rfl (by kernel_rfl) (by kernel_rfl) (by kernel_rfl) (fun _ _ _ h => h) (Or.inl ⟨by rfl, ?_⟩) M17.out ?_
  rotate_left
  · intro w hw
    try dsimp only at hw
    go_simp
    try with_reducible rfl
  try simp only [Act.put, List.setIfInBounds_toArray, List.set_cons_zero, List.set_cons_succ]
  refine takeL (i := 9) (v := ?_) rfl (by kernel_rfl) (by kernel_rfl) (by kernel_rfl) (fun _ _ _ h => h) (Or.inl ⟨by rfl, ?_⟩) M17.out ?_
  rotate_left
  · intro w hw
    try dsimp only at hw
    go_simp
    try with_reducible rfl
  try simp only [Act.put, List.setIfInBounds_toArray, List.set_cons_zero, List.set_cons_succ]
  refine takeL (i := 10) (v := ?_) rfl (by kernel_rfl) (by kernel_rfl) (by kernel_rfl) (fun _ _ _ h => h) (Or.inl ⟨by rfl, ?_⟩) M17.out ?_
  rotate_left
  · intro w hw
    try dsimp only at hw
    go_simp
    try with_reducible rfl
  try simp only [Act.put, List.setIfInBounds_toArray, List.set_cons_zero, List.set_cons_succ]
  refine wpAnyH_done (by kernel_rfl) ?_ _
  have nky := HKY.out
  have cys := M17.out.p.ys HY.out.o.1
  rw [hy2] at cys
  obtain ⟨gc, cc, rc, rfl, hcc, hccm, hgc, hrc⟩ := oa_two14 OC17.out
  have HAC := Lib.hid (two_in' hrc HOK.out hrc.lt)
  clear hcc hccm hgc hrc
  go_wp2_with (first
    | ((with_reducible show wpList _ _ _ ({ dst := some 150, op := Op.load _ _, type := _, pos := _, after := _, guard := _ } :: _) _ _); go_must (refine wpList_load_at rfl 46 (.tmp 149) rfl ⟨gy, 1, none⟩ (bv y.o) _ Try.underlying46 rfl (by rw [size_key, bv_length, HY.out.o.1]) M17.out.p.yo ?_ ?_; go_simp))
    | ((with_reducible show wpList _ _ _ ({ dst := some 151, op := Op.build _ _, type := _, pos := _, after := _, guard := _ } :: _) _ _); go_must (refine wpList_plain rfl fun K hK => wp_built _ _ _ rfl (by simp only [List.map_toArray, List.map_nil]; exact built_key14) (hK _ _ ?_))))
  clear cys
  refine (sameAccs (some ⟨gc, 0, none⟩) (some ⟨gl, 0, none⟩) 2 cc 2 [x, y] _ _ _ HAC.out (two_in M17.out.p.rl HOK.out M17.out.p.rl.lt) (by unfold maxLen; omega)).mono ?_
  rintro e w18 ⟨rfl, k18, rfl⟩
  have M18 := Lib.hid (M17.out.p.below (⟨rfl, rfl, rfl, Nat.le_refl _, fun _ _ => rfl⟩ : Below w17.heap.size w17 (w17.drewN k18)))
  clear M17 HAC
  generalize w17.drewN k18 = w18 at *
  go_wp2_with fail
  refine (lives14_ _).mono ?_
  rintro e w19 ⟨rfl, hb10⟩
  have B10 := Lib.hid (M18.out.b.trans (hb10.mono M18.out.b.size))
  clear hb10
  go_wp2_with fail
  go_ret
  exact ⟨rfl, B10.out⟩
set_option maxHeartbeats 16000000 in
theorem mv_other (x y : LAcc) (n : Int) (w : World) (hx : AccOk x) (hy : AccOk y) (hn0 : 0 ≤ n) (hn1 : n < 18446744073709551616) (ho : x.o = key0) (hs : x.s = 0) (hc : ¬ x.c < n) (hv : ¬ 18446744073709551615 - n < y.c) (hy1 : y.o ≠ key0) : Calls Try.prog 5 #[.agg x.cells.toArray, .agg y.cells.toArray, .int .u64 n] w fun e w' => e = .returned (.bool true) ∧ Below w.heap.size w w' := by
  have HX := Lib.hid hx
  have HY := Lib.hid hy
  have HN := Lib.hid (And.intro hn0 hn1)
  have HM := Lib.hid (fun V => move14_ n V hn0 hn1)
  have HOK : Hid (∀ z ∈ [x, y], AccOk z) := Lib.hid (fun z hz => by
    simp only [List.mem_cons, List.not_mem_nil, or_false] at hz
    rcases hz with rfl | rfl
    · exact hx
    · exact hy)
  have hpl : plain14 x := ⟨ho, hs⟩
  have HR1 := Lib.hid ((do_m1 (x := x) (y := y) hn0 hn1).trans (m1_good hpl hc hv))
  have HR2 := Lib.hid ((do_m2 (x := x) (y := y) hn0 hn1).trans (m2_good hpl hc))
  have HK := Lib.hid (fun w => key_neq hx.o.1 key0_ok.1 w)
  have HR3 := Lib.hid ((do_m3 (x := (⟨x.c - n, x.o, x.s⟩ : LAcc)) (y := (⟨y.c + n, y.o, y.s⟩ : LAcc)) hn0 hn1).trans (m3_owner (fun h => hy1 h.1)))
  have HX1 : Hid (AccOk (⟨x.c - n, x.o, x.s⟩ : LAcc)) := Lib.hid ⟨by have := hx.c; constructor <;> dsimp only <;> omega, hx.o, hx.s⟩
  have HY1 : Hid (AccOk (⟨y.c + n, y.o, y.s⟩ : LAcc)) := Lib.hid ⟨by have := hy.c; constructor <;> dsimp only <;> omega, hy.o, hy.s⟩
  have HKY := Lib.hid (fun w => key_eql hy.o.1 key0_ok.1 w)
  rw [decide_eq_true ho] at HK
  clear ho hpl
  rw [decide_eq_false hy1] at HKY
  clear hy1
  clear hx hy hn0 hn1
  have RX := Lib.hid ((Row.new w 48 x.cells).alloc (.cells y.cells.toArray 48))
  have RY := Lib.hid (Row.new' (w.alloc (.cells x.cells.toArray 48)) 48 y.cells (g := w.heap.size + 1) (by simp))
  have B0 := Lib.hid (((Below.refl w.heap.size w).alloc (Nat.le_refl _) (.cells x.cells.toArray 48)).alloc (by simp) (.cells y.cells.toArray 48))
  obtain ⟨gy, hgy⟩ : ∃ g, g = w.heap.size + 1 := ⟨_, rfl⟩
  obtain ⟨gx, hgx⟩ : ∃ g, g = w.heap.size := ⟨_, rfl⟩
  have HGY : Hid (w.heap.size + 1 = gy) := Lib.hid hgy.symm
  have HGX : Hid (w.heap.size = gx) := Lib.hid hgx.symm
  rw [← hgy] at RY
  rw [← hgx] at RX
  clear hgy hgx
  generalize hW : (w.alloc (.cells x.cells.toArray 48)).alloc (.cells y.cells.toArray 48) = W at *
  have HW := Lib.hid hW
  clear hW
  go_enter Try.func5, Try.ntmps5
  go_upto_region 1 with fail
  try rw [HGY.out]
  try rw [HGX.out]
  rw [HW.out]
  clear HW
  go_upto_region 2 with (first
    | ((with_reducible show wpList _ _ _ ({ dst := some 21, op := Op.load _ _, type := _, pos := _, after := _, guard := _ } :: _) _ _); go_must (refine wpList_load_whole rfl 48 (.tmp 3) rfl gx 48 x.cells _ Try.underlying48 rfl (size_acc HX.out.o.1) RX.out ?_ ?_; go_simp))
    | ((with_reducible show wpList _ _ _ ({ dst := some 22, op := Op.load _ _, type := _, pos := _, after := _, guard := _ } :: _) _ _); go_must (refine wpList_load_whole rfl 48 (.tmp 4) rfl gy 48 y.cells _ Try.underlying48 rfl (size_acc HY.out.o.1) RY.out ?_ ?_; go_simp))
    | ((with_reducible show wpList _ _ _ ({ dst := some 23, op := Op.buildSlice _ _ _, type := _, pos := _, after := _, guard := _ } :: _) _ _); go_must (refine wpList_buildTwo rfl 22 48 (.tmp 21) (.tmp 22) rfl x.cells y.cells _ 34 48 Try.underlying22 infoAc14 zszAc14 (by omega) (by omega) (acc_len HX.out.o.1) (acc_len HY.out.o.1) ?_ ?_ ?_; go_simp; go_simp)))
  have P1 := Lib.hid (MX14.mk (B0.out.trans (((Below.refl W.heap.size W).alloc (Nat.le_refl _) (.cells (x.cells ++ y.cells).toArray 48)).mono B0.out.size)) (RX.out.alloc _) (RY.out.alloc _) (Row.new W 48 (x.cells ++ y.cells)))
  have HGL : Hid (w.heap.size ≤ W.heap.size ∧ gx < W.heap.size ∧ gy < W.heap.size) := Lib.hid ⟨B0.out.size, RX.out.lt, RY.out.lt⟩
  clear B0 RX RY
  obtain ⟨gl, hgl⟩ : ∃ g, g = W.heap.size := ⟨_, rfl⟩
  rw [← hgl] at P1 HGL ⊢
  clear hgl
  generalize W.alloc (.cells (x.cells ++ y.cells).toArray 48) = w1 at *
  go_wp2_with fail
  refine (both14_ w1).mono ?_
  rintro e w2 ⟨rfl, hr2, hb2⟩
  have P2 := Lib.hid (P1.out.below hb2)
  have RR2 := Lib.hid hr2
  clear hr2 hb2 P1
  go_wp2_with fail
  refine (HM.out w2).mono ?_
  rintro e w3 ⟨ga, D, c, rfl, _, hra, hoa, _, hb3⟩
  have P3 := Lib.hid (P2.out.below hb3)
  have HDO := Lib.hid (do_two14 (two_in P3.out.rl HOK.out P3.out.rl.lt) (Nat.le_refl _) (RR2.out.below hb3 RR2.out.lt) hra hoa (mv14_len n) (mv14_bytes n) rfl (two_bytes (by unfold IsByte; omega) (by unfold IsByte; omega)) HR1.out)
  clear hra hoa hb3 P2 RR2
  go_wp2_with fail
  refine HDO.out.mono ?_
  rintro e w4 ⟨va, rfl, hva, hb4⟩
  have P4 := Lib.hid (P3.out.below hb4)
  have OA4 := Lib.hid hva
  clear hva hb4 P3 HDO
  have cxs := P4.out.xs HX.out.o.1
  rw [hs] at cxs
  have cxc := P4.out.xc
  have nk := HK.out
  go_wp2_with (first
    | ((with_reducible show wpList _ _ _ ({ dst := some 34, op := Op.load _ _, type := _, pos := _, after := _, guard := _ } :: _) _ _); go_must (refine wpList_load_at rfl 46 (.tmp 33) rfl ⟨gx, 1, none⟩ (bv x.o) _ Try.underlying46 rfl (by rw [size_key, bv_length, HX.out.o.1]) P4.out.xo ?_ ?_; go_simp))
    | ((with_reducible show wpList _ _ _ ({ dst := some 35, op := Op.build _ _, type := _, pos := _, after := _, guard := _ } :: _) _ _); go_must (refine wpList_plain rfl fun K hK => wp_built _ _ _ rfl (by simp only [List.map_toArray, List.map_nil]; exact built_key14) (hK _ _ ?_))))
  clear cxs cxc
  obtain ⟨gz, cz, rz, rfl, hcz, hcm, hgz, _⟩ := oa_two14 OA4.out
  have HCZ := Lib.hid (And.intro hcz hcm)
  clear hcz hcm
  clear nk
  refine (HM.out w4).mono ?_
  rintro e w5 ⟨ga, D, c, rfl, hga, hra, hoa, hne, hb5⟩
  have P5 := Lib.hid (P4.out.below hb5)
  have OA5 := Lib.hid (OA4.out.below hb5)
  have RA5 := Lib.hid hra
  have RO5 := Lib.hid hoa
  have NE5 := Lib.hid hne
  have HGA := Lib.hid hga
  have HVL := Lib.hid OA4.out.lt
  have HL4 : Hid (w.heap.size ≤ w4.heap.size ∧ gx < w4.heap.size ∧ gy < w4.heap.size ∧ gl < w4.heap.size) := Lib.hid ⟨P4.out.b.size, P4.out.rx.lt, P4.out.ry.lt, P4.out.rl.lt⟩
  clear hga hra hoa hne hb5 P4 OA4
  go_upto_region 9 with (first
    | ((with_reducible show wpList _ _ _ ({ dst := some 12, op := Op.alloc _, type := _, pos := _, after := _, guard := _ } :: _) _ _); go_must (refine wpList_alloc_zero rfl 26 rfl (insC 0 none 0 0 none 0 0) zero_ins14 ?_))
    | ((with_reducible show wpList _ _ _ ({ dst := none, op := Op.store 26 _ _, type := _, pos := _, after := _, guard := _ } :: _) _ _); go_must (refine wpList_store_new rfl 26 (.tmp 12) (.tmp 47) rfl (insC 1 (some ⟨ga, 0, none⟩) 2 2 D 12 c) (size_ins14 _ _ _ _ _ _ _) (ins14_one _ _ _ _ _ _ _) rfl ?_ ?_ ?_; go_simp; go_simp; intro w6 hr6 hb6 hz6)))
  obtain ⟨gi, hgi⟩ : ∃ g, g = w5.heap.size := ⟨_, rfl⟩
  rw [← hgi] at hr6 ⊢
  have HIA : Hid (gi ≠ ga) := Lib.hid (by have := RA5.out.lt; omega)
  have P6 := Lib.hid (P5.out.below hb6)
  have OA6 := Lib.hid (OA5.out.below hb6)
  have RA6 := Lib.hid (RA5.out.below hb6 RA5.out.lt)
  have RO6 := Lib.hid (RO5.out.below hb6)
  have RI6 := Lib.hid hr6
  have c61 : w6.cell? ⟨gi, 1, none⟩ = some (.slice (some ⟨ga, 0, none⟩) 2 2) := hr6.cell 1
  have ca1 : w6.cell? ⟨ga, 1, none⟩ = some (.int .u8 1) := RA6.out.cell 1
  have fa1 := RA6.out.frozen 1
  clear hr6 hb6 hz6 hgi P5 OA5 RA5 RO5
  go_upto_region 10 with fail
  have M7 := Lib.hid (MS14.mk (w := w) (acc := [0, 0]) (P6.out.turned (turned_setCell w6 ⟨ga, 1, none⟩ (.int .u8 0)) (by have := HL4.out; have := HGA.out; show _ ≤ ga; omega) (by have := HL4.out; have := HGA.out; show _ ≠ ga; omega) (by have := HL4.out; have := HGA.out; show _ ≠ ga; omega) (by have := HL4.out; have := HGA.out; show _ ≠ ga; omega))
    ((turned_setCell w6 ⟨ga, 1, none⟩ (.int .u8 0)).row RI6.out HIA.out) (show Row _ ga 5 (bv [0, 0]) from RA6.out.set_ 1 (.int .u8 0)) (own14_turned RO6.out (turned_setCell w6 ⟨ga, 1, none⟩ (.int .u8 0)) NE5.out)
    (OA6.out.keep fun g hg => (turned_setCell w6 ⟨ga, 1, none⟩ (.int .u8 0)).block g (by have := (HVL.out g hg).2; have := HGA.out; show g ≠ ga; omega)))
  clear c61 ca1 fa1 P6 OA6 RA6 RO6 RI6 NE5 HIA HVL HGA
  generalize hW7 : w6.setCell ⟨ga, 1, none⟩ (.int .u8 0) = w7 at *
  clear hW7
  have MD := Lib.hid (M7.out.below (Below.refl w7.heap.size w7).drew)
  clear M7
  refine wp_region_held_drew (S := fun V => MS14 w V gx gy gl x y gi ga w4.heap.size D c n (some ⟨ga, 0, none⟩) 2 2 [0, 0] w3.heap.size (.slice (some ⟨gz, 0, none⟩) 2 cz) [(⟨x.c - n, x.o, x.s⟩ : LAcc), (⟨y.c + n, y.o, y.s⟩ : LAcc)]) (by kernel_rfl) MD.out (fun _ => ?_)
  refine takeL (i := 0) (v := ?_) rfl (by kernel_rfl) (by kernel_rfl) (by kernel_rfl) (fun _ _ _ h => h) (Or.inl ⟨by rfl, ?_⟩) MD.out ?_
  rotate_left
  · intro w hw
    try dsimp only at hw
    go_simp
    try with_reducible rfl
  try simp only [Act.put, List.setIfInBounds_toArray, List.set_cons_zero, List.set_cons_succ]
  refine takeL (i := 2) (v := .agg (insC 1 (some ⟨ga, 0, none⟩) 2 2 D 12 c).toArray) rfl (by kernel_rfl) (by kernel_rfl) (by kernel_rfl) (fun _ _ _ h => h) (Or.inl ⟨by rfl, fun wz hwz => exec_load_at wz 26 (.tmp 12) rfl ⟨gi, 0, none⟩ (insC 1 (some ⟨ga, 0, none⟩) 2 2 D 12 c) _ Try.underlying26 rfl (size_ins14 _ _ _ _ _ _ _) hwz.ins (by go_simp)⟩) MD.out ?_
  try simp only [Act.put, List.setIfInBounds_toArray, List.set_cons_zero, List.set_cons_succ]
  refine readyL (i := 1) rfl (by kernel_rfl) (by kernel_rfl) fun K hK => ?_
  go_simp
  refine (both14_ _).mono ?_
  rintro e w8 ⟨rfl, hr8, hb8⟩
  have M8 := Lib.hid (MD.out.below hb8)
  have RR8 := Lib.hid hr8
  clear hr8 hb8 MD
  refine hK.out _ _ M8.out ?_
  clear hK K
  try simp only [Act.put, List.setIfInBounds_toArray, List.set_cons_zero, List.set_cons_succ]
  refine readyL (i := 3) rfl (by kernel_rfl) (by kernel_rfl) fun K hK => ?_
  go_simp
  have HDO := Lib.hid (do_two14 (two_in M8.out.p.rl HOK.out M8.out.p.rl.lt) (Nat.le_refl _) RR8.out M8.out.a M8.out.o (mv14_len n) (mv14_bytes n) rfl (two_bytes (by unfold IsByte; omega) (by unfold IsByte; omega)) HR2.out)
  refine HDO.out.mono ?_
  rintro e w9 ⟨vb, rfl, hvb, hb9⟩
  have M9 := Lib.hid (M8.out.below hb9)
  have OB9 := Lib.hid hvb
  clear hvb hb9 M8 RR8 HDO
  refine hK.out _ _ M9.out ?_
  clear hK K
  try simp only [Act.put, List.setIfInBounds_toArray, List.set_cons_zero, List.set_cons_succ]
  refine takeL (i := 4) (v := ?_) rfl (by kernel_rfl) (by kernel_rfl) (by kernel_rfl) (fun _ _ _ h => h) (Or.inl ⟨by rfl, ?_⟩) M9.out ?_
  rotate_left
  · intro w hw
    try dsimp only at hw
    go_simp
    try with_reducible rfl
  try simp only [Act.put, List.setIfInBounds_toArray, List.set_cons_zero, List.set_cons_succ]
  refine takeL (i := 5) (v := ?_) rfl (by kernel_rfl) (by kernel_rfl) (by kernel_rfl) (fun _ _ _ h => h) (Or.inl ⟨by rfl, ?_⟩) M9.out ?_
  rotate_left
  · intro w hw
    try dsimp only at hw
    go_simp
    try with_reducible rfl
  try simp only [Act.put, List.setIfInBounds_toArray, List.set_cons_zero, List.set_cons_succ]
  refine takeL (i := 6) (v := ?_) rfl (by kernel_rfl) (by kernel_rfl) (by kernel_rfl) (fun _ _ _ h => h) (Or.inl ⟨by rfl, ?_⟩) M9.out ?_
  rotate_left
  · intro w hw
    try dsimp only at hw
    go_simp
    try with_reducible rfl
  try simp only [Act.put, List.setIfInBounds_toArray, List.set_cons_zero, List.set_cons_succ]
  refine takeL (i := 7) (v := ?_) rfl (by kernel_rfl) (by kernel_rfl) (by kernel_rfl) (fun _ _ _ h => h) (Or.inl ⟨by rfl, ?_⟩) M9.out ?_
  rotate_left
  · intro w hw
    try dsimp only at hw
    go_simp
    try with_reducible rfl
  try simp only [Act.put, List.setIfInBounds_toArray, List.set_cons_zero, List.set_cons_succ]
  refine takeL (i := 8) (v := ?_) rfl (by kernel_rfl) (by kernel_rfl) (by kernel_rfl) (fun _ _ _ h => h) (Or.inl ⟨by rfl, ?_⟩) M9.out ?_
  rotate_left
  · intro w hw
    try dsimp only at hw
    go_simp
    try with_reducible rfl
  try simp only [Act.put, List.setIfInBounds_toArray, List.set_cons_zero, List.set_cons_succ]
  refine takeL (i := 9) (v := ?_) rfl (by kernel_rfl) (by kernel_rfl) (by kernel_rfl) (fun _ _ _ h => h) (Or.inl ⟨by rfl, ?_⟩) M9.out ?_
  rotate_left
  · intro w hw
    try dsimp only at hw
    go_simp
    try with_reducible rfl
  try simp only [Act.put, List.setIfInBounds_toArray, List.set_cons_zero, List.set_cons_succ]
  refine takeL (i := 10) (v := ?_) rfl (by kernel_rfl) (by kernel_rfl) (by kernel_rfl) (fun _ _ _ h => h) (Or.inl ⟨by rfl, ?_⟩) M9.out ?_
  rotate_left
  · intro w hw
    try dsimp only at hw
    go_simp
    try with_reducible rfl
  try simp only [Act.put, List.setIfInBounds_toArray, List.set_cons_zero, List.set_cons_succ]
  refine wpAnyH_done (by kernel_rfl) ?_ _
  obtain ⟨gb, cb, rb, rfl, hcb, hcm, hgb, hrb⟩ := oa_two14 OB9.out
  have HAB := Lib.hid (two_in' hrb HOK.out hrb.lt)
  clear hcb hcm hgb hrb
  go_wp2_with fail
  refine (sameAccs (some ⟨gb, 0, none⟩) (some ⟨gl, 0, none⟩) 2 cb 2 [x, y] _ _ _ HAB.out (two_in M9.out.p.rl HOK.out M9.out.p.rl.lt) (by unfold maxLen; omega)).mono ?_
  rintro e w10 ⟨rfl, k10, rfl⟩
  have M10 := Lib.hid (M9.out.below (⟨rfl, rfl, rfl, Nat.le_refl _, fun _ _ => rfl⟩ : Below w9.heap.size w9 (w9.drewN k10)))
  clear M9 HAB OB9
  generalize w9.drewN k10 = w10 at *
  have hw1 : IntKind.u64.wrap (18446744073709551615 - n) = 18446744073709551615 - n := by rw [IntKind.wrap_u64]; have := HN.out; omega
  have cyc := M10.out.p.yc
  go_upto_region 17 with fail
  clear hw1
  obtain ⟨g', c', rest, e', _, _, _, hrow⟩ := oa_two14 M10.out.l
  injection e' with e1 e2 e3
  injection e1 with e1
  injection e1 with e1
  subst e1 e3
  have HZR := Lib.hid hrow
  have cz0 : w10.cell? ⟨gz, 0, none⟩ = some (.int .u64 (x.c - n)) := hrow.cell 0
  have cz1 : w10.cell? ⟨gz, 34, none⟩ = some (.int .u64 (y.c + n)) := by
    have := hrow.cell (34 + 0)
    rw [List.getElem?_append_right (by rw [acc_len HX1.out.o.1]; omega), acc_len HX1.out.o.1] at this
    exact this
  have cz2 : w10.cell? ⟨gz, 67, none⟩ = some (.int .u64 y.s) := by
    have := hrow.cell (34 + 33)
    rw [List.getElem?_append_right (by rw [acc_len HX1.out.o.1]; omega), acc_len HX1.out.o.1, Nat.add_sub_cancel_left, List.getElem?_append_left (by rw [acc_len HY1.out.o.1]; omega)] at this
    exact this.trans (acc_s HY1.out.o.1)
  have HZO : ∀ j u, (bv y.o)[j]? = some u → w10.cell? ((⟨gz, 35, none⟩ : Addr).add j) = some u := fun j u hu => by
    rw [addr_row, hrow.cell, show 35 + j = 34 + (1 + j) by omega, List.getElem?_append_right (by rw [acc_len HX1.out.o.1]; omega), acc_len HX1.out.o.1, Nat.add_sub_cancel_left]
    have h1 := acc_o (a := (⟨y.c + n, y.o, y.s⟩ : LAcc)) hu
    rw [List.getElem?_append_left (List.getElem?_eq_some_iff.1 h1).1]
    exact h1
  have HZO := Lib.hid HZO
  clear hrow HZR
  have cxc := M10.out.p.xc
  have cys := M10.out.p.ys HY.out.o.1
  have hw2 : IntKind.u64.wrap (x.c - n) = x.c - n := by rw [IntKind.wrap_u64]; have := HX.out.c; have := HN.out; omega
  have hw3 : IntKind.u64.wrap (y.c + n) = y.c + n := by rw [IntKind.wrap_u64]; have := HY.out.c; have := HN.out; omega
  have NZ := fun w => key_neq HY.out.o.1 HY.out.o.1 w
  rw [decide_eq_true rfl] at NZ
  try go_frame
  refine wp_region_quiet_lit (by kernel_rfl) (by kernel_rfl) ?_
  try go_frame
  repeat (first
    | ((with_reducible show wpQuiet _ _ _ _ ({ dst := some 123, op := Op.load _ _, type := _, pos := _, after := _, guard := _ } :: _) _); go_must (refine quiet_load_at (by kernel_rfl) 46 (.tmp 122) rfl ⟨gz, 35, none⟩ (bv y.o) _ Try.underlying46 rfl (by rw [size_key, bv_length, HY.out.o.1]) (by rintro _ ⟨nq, rfl⟩; exact HZO) ?_ ?_; go_simp; go_simp))
    | ((with_reducible show wpQuiet _ _ _ _ ({ dst := some 125, op := Op.load _ _, type := _, pos := _, after := _, guard := _ } :: _) _); go_must (refine quiet_load_at (by kernel_rfl) 46 (.tmp 124) rfl ⟨gy, 1, none⟩ (bv y.o) _ Try.underlying46 rfl (by rw [size_key, bv_length, HY.out.o.1]) (by rintro _ ⟨nq, rfl⟩; exact M10.out.p.yo) ?_ ?_; go_simp; go_simp))
    | go_big_quiet_step (fail))
  refine wpQuiet_nil ?_
  intro nq
  clear cz0 cz1 cz2 HZO cxc cyc cys hw2 hw3 NZ
  have M11 := Lib.hid (M10.out.below (⟨rfl, rfl, rfl, Nat.le_refl _, fun _ _ => rfl⟩ : Below w10.heap.size w10 (w10.drewN nq)))
  clear M10
  generalize w10.drewN nq = w11 at *
  go_wp2_with fail
  refine (HM.out w11).mono ?_
  rintro e w12 ⟨gd, D2, c2, rfl, _, _, hoa, _, hb12⟩
  have M12 := Lib.hid (M11.out.below hb12)
  have RO12 := Lib.hid hoa
  clear hoa hb12 M11
  go_upto_region 20 with (first
    | ((with_reducible show wpList _ _ _ ({ dst := some 16, op := Op.alloc _, type := _, pos := _, after := _, guard := _ } :: _) _ _); go_must (refine wpList_alloc_zero rfl 26 rfl (insC 0 none 0 0 none 0 0) zero_ins14 ?_))
    | ((with_reducible show wpList _ _ _ ({ dst := none, op := Op.store 26 _ _, type := _, pos := _, after := _, guard := _ } :: _) _ _); go_must (refine wpList_store_new rfl 26 (.tmp 16) (.tmp 138) rfl (insC 1 (some ⟨gd, 0, none⟩) 2 2 D2 12 c2) (size_ins14 _ _ _ _ _ _ _) (ins14_one _ _ _ _ _ _ _) rfl ?_ ?_ ?_; go_simp; go_simp; intro w13 hr13 hb13 hz13)))
  obtain ⟨gj, hgj⟩ : ∃ g, g = w12.heap.size := ⟨_, rfl⟩
  rw [← hgj] at hr13 ⊢
  have P13 := Lib.hid (M12.out.p.below hb13)
  have OA13 := Lib.hid (M12.out.l.below hb13)
  have RO13 := Lib.hid (RO12.out.below hb13)
  have HGJ : Hid (w.heap.size ≤ gj ∧ gx < gj ∧ gy < gj ∧ gl < gj ∧ (∀ g, (Value.slice (some ⟨gz, 0, none⟩) 2 cz).ownBlock = some g → g < gj)) := Lib.hid (by
    rw [hgj]
    exact ⟨M12.out.p.b.size, M12.out.p.rx.lt, M12.out.p.ry.lt, M12.out.p.rl.lt, fun g hg => (M12.out.l.lt g hg).2⟩)
  have RI13 := Lib.hid hr13
  have hal := (Below.refl w13.heap.size w13).alloc (Nat.le_refl _) (.cells #[.int .u8 1, .int .u8 0] 5)
  have P14 := Lib.hid (P13.out.below hal)
  have OA14_ := Lib.hid (OA13.out.below hal)
  have RO14 := Lib.hid (RO13.out.below hal)
  have RI14 := Lib.hid (RI13.out.below hal RI13.out.lt)
  have RA14 := Lib.hid (Row.new w13 5 (bv [1, 0]))
  have RA14' : Hid (Row (w13.alloc (.cells #[.int .u8 1, .int .u8 0] 5)) w13.heap.size 5 (bv [1, 0])) := Lib.hid RA14.out
  have HJK : Hid (w13.heap.size ≠ gj) := Lib.hid (by have := RI13.out.lt; omega)
  have ci : (w13.alloc (.cells #[.int .u8 1, .int .u8 0] 5)).cell? ⟨gj, 1, none⟩ = some (.slice (some ⟨gd, 0, none⟩) 2 2) := RI14.out.cell 1
  have fi := RI14.out.frozen 1
  clear hr13 hb13 hz13 hgj hal M12 RO12 P13 OA13 RO13 RI13 RA14
  go_upto_region 21 with fail
  generalize hgk : w13.heap.size = gk at *
  clear hgk
  generalize w13.alloc (.cells #[.int .u8 1, .int .u8 0] 5) = w14 at *
  have M15 := Lib.hid (MS14.mk (w := w) (acc := [1, 0]) (P14.out.turned (turned_setCell w14 ⟨gj, 1, none⟩ (.slice (some ⟨gk, 0, none⟩) 2 2)) HGJ.out.1 (Nat.ne_of_lt HGJ.out.2.1) (Nat.ne_of_lt HGJ.out.2.2.1) (Nat.ne_of_lt HGJ.out.2.2.2.1))
    (show Row _ gj 26 (insC 1 (some ⟨gk, 0, none⟩) 2 2 D2 12 c2) from RI14.out.set_ 1 (.slice (some ⟨gk, 0, none⟩) 2 2)) ((turned_setCell w14 ⟨gj, 1, none⟩ (.slice (some ⟨gk, 0, none⟩) 2 2)).row RA14'.out HJK.out) (own14_turned RO14.out (turned_setCell w14 ⟨gj, 1, none⟩ (.slice (some ⟨gk, 0, none⟩) 2 2)) (fun k hk e => own_row_ne RO14.out RI14.out (by decide) (by rw [hk]; exact congrArg some e.symm)))
    (OA14_.out.keep fun g hg => (turned_setCell w14 ⟨gj, 1, none⟩ (.slice (some ⟨gk, 0, none⟩) 2 2)).block g (Nat.ne_of_lt (HGJ.out.2.2.2.2 g hg))))
  clear ci fi P14 OA14_ RO14 RI14 RA14' HJK
  generalize hW15 : w14.setCell ⟨gj, 1, none⟩ (.slice (some ⟨gk, 0, none⟩) 2 2) = w15 at *
  clear hW15
  have MD := Lib.hid (M15.out.below (Below.refl w15.heap.size w15).drew)
  clear M15
  refine wp_region_held_drew (S := fun V => MS14 w V gx gy gl x y gj gk w11.heap.size D2 c2 n (some ⟨gk, 0, none⟩) 2 2 [1, 0] w3.heap.size (.slice (some ⟨gz, 0, none⟩) 2 cz) [(⟨x.c - n, x.o, x.s⟩ : LAcc), (⟨y.c + n, y.o, y.s⟩ : LAcc)]) (by kernel_rfl) MD.out (fun _ => ?_)
  refine takeL (i := 0) (v := ?_) rfl (by kernel_rfl) (by kernel_rfl) (by kernel_rfl) (fun _ _ _ h => h) (Or.inl ⟨by rfl, ?_⟩) MD.out ?_
  rotate_left
  · intro w hw
    try dsimp only at hw
    go_simp
    try with_reducible rfl
  try simp only [Act.put, List.setIfInBounds_toArray, List.set_cons_zero, List.set_cons_succ]
  refine takeL (i := 2) (v := .agg (insC 1 (some ⟨gk, 0, none⟩) 2 2 D2 12 c2).toArray) rfl (by kernel_rfl) (by kernel_rfl) (by kernel_rfl) (fun _ _ _ h => h) (Or.inl ⟨by rfl, fun wz hwz => exec_load_at wz 26 (.tmp 16) rfl ⟨gj, 0, none⟩ (insC 1 (some ⟨gk, 0, none⟩) 2 2 D2 12 c2) _ Try.underlying26 rfl (size_ins14 _ _ _ _ _ _ _) hwz.ins (by go_simp)⟩) MD.out ?_
  try simp only [Act.put, List.setIfInBounds_toArray, List.set_cons_zero, List.set_cons_succ]
  refine readyL (i := 1) rfl (by kernel_rfl) (by kernel_rfl) fun K hK => ?_
  go_simp
  refine (both14_ _).mono ?_
  rintro e w16 ⟨rfl, hr16, hb16⟩
  have M16 := Lib.hid (MD.out.below hb16)
  have RR16 := Lib.hid hr16
  clear hr16 hb16 MD
  refine hK.out _ _ M16.out ?_
  clear hK K
  try simp only [Act.put, List.setIfInBounds_toArray, List.set_cons_zero, List.set_cons_succ]
  refine readyL (i := 3) rfl (by kernel_rfl) (by kernel_rfl) fun K hK => ?_
  go_simp
  have HDO := Lib.hid (do_two14 (M16.out.l.accs rfl) HCZ.out.1 RR16.out M16.out.a M16.out.o (mv14_len n) (mv14_bytes n) rfl (two_bytes (by unfold IsByte; omega) (by unfold IsByte; omega)) HR3.out)
  refine HDO.out.mono ?_
  rintro e w17 ⟨vc, rfl, hvc, hb17⟩
  have M17 := Lib.hid (M16.out.below hb17)
  have OC17 := Lib.hid hvc
  clear hvc hb17 M16 RR16 HDO
  refine hK.out _ _ M17.out ?_
  clear hK K
  try simp only [Act.put, List.setIfInBounds_toArray, List.set_cons_zero, List.set_cons_succ]
  refine takeL (i := 4) (v := ?_) rfl (by kernel_rfl) (by kernel_rfl) (by kernel_rfl) (fun _ _ _ h => h) (Or.inl ⟨by rfl, ?_⟩) M17.out ?_
  rotate_left
  · intro w hw
    try dsimp only at hw
    go_simp
    try with_reducible rfl
  try simp only [Act.put, List.setIfInBounds_toArray, List.set_cons_zero, List.set_cons_succ]
  refine takeL (i := 5) (v := ?_) rfl (by kernel_rfl) (by kernel_rfl) (by kernel_rfl) (fun _ _ _ h => h) (Or.inl ⟨by rfl, ?_⟩) M17.out ?_
  rotate_left
  · intro w hw
    try dsimp only at hw
    go_simp
    try with_reducible rfl
  try simp only [Act.put, List.setIfInBounds_toArray, List.set_cons_zero, List.set_cons_succ]
  refine takeL (i := 6) (v := ?_) rfl (by kernel_rfl) (by kernel_rfl) (by kernel_rfl) (fun _ _ _ h => h) (Or.inl ⟨by rfl, ?_⟩) M17.out ?_
  rotate_left
  · intro w hw
    try dsimp only at hw
    go_simp
    try with_reducible rfl
  try simp only [Act.put, List.setIfInBounds_toArray, List.set_cons_zero, List.set_cons_succ]
  refine takeL (i := 7) (v := ?_) rfl (by kernel_rfl) (by kernel_rfl) (by kernel_rfl) (fun _ _ _ h => h) (Or.inl ⟨by rfl, ?_⟩) M17.out ?_
  rotate_left
  · intro w hw
    try dsimp only at hw
    go_simp
    try with_reducible rfl
  try simp only [Act.put, List.setIfInBounds_toArray, List.set_cons_zero, List.set_cons_succ]
  refine takeL (i := 8) (v := ?_) rfl (by kernel_rfl) (by kernel_rfl) (by kernel_rfl) (fun _ _ _ h => h) (Or.inl ⟨by rfl, ?_⟩) M17.out ?_
  rotate_left
  · intro w hw
    try dsimp only at hw
    go_simp
    try with_reducible rfl
  try simp only [Act.put, List.setIfInBounds_toArray, List.set_cons_zero, List.set_cons_succ]
  refine takeL (i := 9) (v := ?_) rfl (by kernel_rfl) (by kernel_rfl) (by kernel_rfl) (fun _ _ _ h => h) (Or.inl ⟨by rfl, ?_⟩) M17.out ?_
  rotate_left
  · intro w hw
    try dsimp only at hw
    go_simp
    try with_reducible rfl
  try simp only [Act.put, List.setIfInBounds_toArray, List.set_cons_zero, List.set_cons_succ]
  refine takeL (i := 10) (v := ?_) rfl (by kernel_rfl) (by kernel_rfl) (by kernel_rfl) (fun _ _ _ h => h) (Or.inl ⟨by rfl, ?_⟩) M17.out ?_
  rotate_left
  · intro w hw
    try dsimp only at hw
    go_simp
    try with_reducible rfl
  try simp only [Act.put, List.setIfInBounds_toArray, List.set_cons_zero, List.set_cons_succ]
  refine wpAnyH_done (by kernel_rfl) ?_ _
  have nky := HKY.out
  go_wp2_with (first
    | ((with_reducible show wpList _ _ _ ({ dst := some 150, op := Op.load _ _, type := _, pos := _, after := _, guard := _ } :: _) _ _); go_must (refine wpList_load_at rfl 46 (.tmp 149) rfl ⟨gy, 1, none⟩ (bv y.o) _ Try.underlying46 rfl (by rw [size_key, bv_length, HY.out.o.1]) M17.out.p.yo ?_ ?_; go_simp))
    | ((with_reducible show wpList _ _ _ ({ dst := some 151, op := Op.build _ _, type := _, pos := _, after := _, guard := _ } :: _) _ _); go_must (refine wpList_plain rfl fun K hK => wp_built _ _ _ rfl (by simp only [List.map_toArray, List.map_nil]; exact built_key14) (hK _ _ ?_))))
  have M18 := Lib.hid M17.out.p
  refine (lives14_ _).mono ?_
  rintro e w19 ⟨rfl, hb10⟩
  have B10 := Lib.hid (M18.out.b.trans (hb10.mono M18.out.b.size))
  clear hb10
  go_wp2_with fail
  go_ret
  exact ⟨rfl, B10.out⟩
set_option maxHeartbeats 16000000 in
theorem mv_spaced (x y : LAcc) (n : Int) (w : World) (hx : AccOk x) (hy : AccOk y) (hn0 : 0 ≤ n) (hn1 : n < 18446744073709551616) (ho : x.o = key0) (hs : x.s = 0) (hc : ¬ x.c < n) (hv : ¬ 18446744073709551615 - n < y.c) (hy1 : y.o = key0) (hy2 : ¬ y.s = 0) : Calls Try.prog 5 #[.agg x.cells.toArray, .agg y.cells.toArray, .int .u64 n] w fun e w' => e = .returned (.bool true) ∧ Below w.heap.size w w' := by
  have HX := Lib.hid hx
  have HY := Lib.hid hy
  have HN := Lib.hid (And.intro hn0 hn1)
  have HM := Lib.hid (fun V => move14_ n V hn0 hn1)
  have HOK : Hid (∀ z ∈ [x, y], AccOk z) := Lib.hid (fun z hz => by
    simp only [List.mem_cons, List.not_mem_nil, or_false] at hz
    rcases hz with rfl | rfl
    · exact hx
    · exact hy)
  have hpl : plain14 x := ⟨ho, hs⟩
  have HR1 := Lib.hid ((do_m1 (x := x) (y := y) hn0 hn1).trans (m1_good hpl hc hv))
  have HR2 := Lib.hid ((do_m2 (x := x) (y := y) hn0 hn1).trans (m2_good hpl hc))
  have HK := Lib.hid (fun w => key_neq hx.o.1 key0_ok.1 w)
  have HR3 := Lib.hid ((do_m3 (x := (⟨x.c - n, x.o, x.s⟩ : LAcc)) (y := (⟨y.c + n, y.o, y.s⟩ : LAcc)) hn0 hn1).trans (m3_owner (fun h => hy2 h.2)))
  have HX1 : Hid (AccOk (⟨x.c - n, x.o, x.s⟩ : LAcc)) := Lib.hid ⟨by have := hx.c; constructor <;> dsimp only <;> omega, hx.o, hx.s⟩
  have HY1 : Hid (AccOk (⟨y.c + n, y.o, y.s⟩ : LAcc)) := Lib.hid ⟨by have := hy.c; constructor <;> dsimp only <;> omega, hy.o, hy.s⟩
  have HKY := Lib.hid (fun w => key_eql hy.o.1 key0_ok.1 w)
  rw [decide_eq_true ho] at HK
  clear ho hpl
  rw [decide_eq_true hy1] at HKY
  clear hy1
  clear hx hy hn0 hn1
  have RX := Lib.hid ((Row.new w 48 x.cells).alloc (.cells y.cells.toArray 48))
  have RY := Lib.hid (Row.new' (w.alloc (.cells x.cells.toArray 48)) 48 y.cells (g := w.heap.size + 1) (by simp))
  have B0 := Lib.hid (((Below.refl w.heap.size w).alloc (Nat.le_refl _) (.cells x.cells.toArray 48)).alloc (by simp) (.cells y.cells.toArray 48))
  obtain ⟨gy, hgy⟩ : ∃ g, g = w.heap.size + 1 := ⟨_, rfl⟩
  obtain ⟨gx, hgx⟩ : ∃ g, g = w.heap.size := ⟨_, rfl⟩
  have HGY : Hid (w.heap.size + 1 = gy) := Lib.hid hgy.symm
  have HGX : Hid (w.heap.size = gx) := Lib.hid hgx.symm
  rw [← hgy] at RY
  rw [← hgx] at RX
  clear hgy hgx
  generalize hW : (w.alloc (.cells x.cells.toArray 48)).alloc (.cells y.cells.toArray 48) = W at *
  have HW := Lib.hid hW
  clear hW
  go_enter Try.func5, Try.ntmps5
  go_upto_region 1 with fail
  try rw [HGY.out]
  try rw [HGX.out]
  rw [HW.out]
  clear HW
  go_upto_region 2 with (first
    | ((with_reducible show wpList _ _ _ ({ dst := some 21, op := Op.load _ _, type := _, pos := _, after := _, guard := _ } :: _) _ _); go_must (refine wpList_load_whole rfl 48 (.tmp 3) rfl gx 48 x.cells _ Try.underlying48 rfl (size_acc HX.out.o.1) RX.out ?_ ?_; go_simp))
    | ((with_reducible show wpList _ _ _ ({ dst := some 22, op := Op.load _ _, type := _, pos := _, after := _, guard := _ } :: _) _ _); go_must (refine wpList_load_whole rfl 48 (.tmp 4) rfl gy 48 y.cells _ Try.underlying48 rfl (size_acc HY.out.o.1) RY.out ?_ ?_; go_simp))
    | ((with_reducible show wpList _ _ _ ({ dst := some 23, op := Op.buildSlice _ _ _, type := _, pos := _, after := _, guard := _ } :: _) _ _); go_must (refine wpList_buildTwo rfl 22 48 (.tmp 21) (.tmp 22) rfl x.cells y.cells _ 34 48 Try.underlying22 infoAc14 zszAc14 (by omega) (by omega) (acc_len HX.out.o.1) (acc_len HY.out.o.1) ?_ ?_ ?_; go_simp; go_simp)))
  have P1 := Lib.hid (MX14.mk (B0.out.trans (((Below.refl W.heap.size W).alloc (Nat.le_refl _) (.cells (x.cells ++ y.cells).toArray 48)).mono B0.out.size)) (RX.out.alloc _) (RY.out.alloc _) (Row.new W 48 (x.cells ++ y.cells)))
  have HGL : Hid (w.heap.size ≤ W.heap.size ∧ gx < W.heap.size ∧ gy < W.heap.size) := Lib.hid ⟨B0.out.size, RX.out.lt, RY.out.lt⟩
  clear B0 RX RY
  obtain ⟨gl, hgl⟩ : ∃ g, g = W.heap.size := ⟨_, rfl⟩
  rw [← hgl] at P1 HGL ⊢
  clear hgl
  generalize W.alloc (.cells (x.cells ++ y.cells).toArray 48) = w1 at *
  go_wp2_with fail
  refine (both14_ w1).mono ?_
  rintro e w2 ⟨rfl, hr2, hb2⟩
  have P2 := Lib.hid (P1.out.below hb2)
  have RR2 := Lib.hid hr2
  clear hr2 hb2 P1
  go_wp2_with fail
  refine (HM.out w2).mono ?_
  rintro e w3 ⟨ga, D, c, rfl, _, hra, hoa, _, hb3⟩
  have P3 := Lib.hid (P2.out.below hb3)
  have HDO := Lib.hid (do_two14 (two_in P3.out.rl HOK.out P3.out.rl.lt) (Nat.le_refl _) (RR2.out.below hb3 RR2.out.lt) hra hoa (mv14_len n) (mv14_bytes n) rfl (two_bytes (by unfold IsByte; omega) (by unfold IsByte; omega)) HR1.out)
  clear hra hoa hb3 P2 RR2
  go_wp2_with fail
  refine HDO.out.mono ?_
  rintro e w4 ⟨va, rfl, hva, hb4⟩
  have P4 := Lib.hid (P3.out.below hb4)
  have OA4 := Lib.hid hva
  clear hva hb4 P3 HDO
  have cxs := P4.out.xs HX.out.o.1
  rw [hs] at cxs
  have cxc := P4.out.xc
  have nk := HK.out
  go_wp2_with (first
    | ((with_reducible show wpList _ _ _ ({ dst := some 34, op := Op.load _ _, type := _, pos := _, after := _, guard := _ } :: _) _ _); go_must (refine wpList_load_at rfl 46 (.tmp 33) rfl ⟨gx, 1, none⟩ (bv x.o) _ Try.underlying46 rfl (by rw [size_key, bv_length, HX.out.o.1]) P4.out.xo ?_ ?_; go_simp))
    | ((with_reducible show wpList _ _ _ ({ dst := some 35, op := Op.build _ _, type := _, pos := _, after := _, guard := _ } :: _) _ _); go_must (refine wpList_plain rfl fun K hK => wp_built _ _ _ rfl (by simp only [List.map_toArray, List.map_nil]; exact built_key14) (hK _ _ ?_))))
  clear cxs cxc
  obtain ⟨gz, cz, rz, rfl, hcz, hcm, hgz, _⟩ := oa_two14 OA4.out
  have HCZ := Lib.hid (And.intro hcz hcm)
  clear hcz hcm
  clear nk
  refine (HM.out w4).mono ?_
  rintro e w5 ⟨ga, D, c, rfl, hga, hra, hoa, hne, hb5⟩
  have P5 := Lib.hid (P4.out.below hb5)
  have OA5 := Lib.hid (OA4.out.below hb5)
  have RA5 := Lib.hid hra
  have RO5 := Lib.hid hoa
  have NE5 := Lib.hid hne
  have HGA := Lib.hid hga
  have HVL := Lib.hid OA4.out.lt
  have HL4 : Hid (w.heap.size ≤ w4.heap.size ∧ gx < w4.heap.size ∧ gy < w4.heap.size ∧ gl < w4.heap.size) := Lib.hid ⟨P4.out.b.size, P4.out.rx.lt, P4.out.ry.lt, P4.out.rl.lt⟩
  clear hga hra hoa hne hb5 P4 OA4
  go_upto_region 9 with (first
    | ((with_reducible show wpList _ _ _ ({ dst := some 12, op := Op.alloc _, type := _, pos := _, after := _, guard := _ } :: _) _ _); go_must (refine wpList_alloc_zero rfl 26 rfl (insC 0 none 0 0 none 0 0) zero_ins14 ?_))
    | ((with_reducible show wpList _ _ _ ({ dst := none, op := Op.store 26 _ _, type := _, pos := _, after := _, guard := _ } :: _) _ _); go_must (refine wpList_store_new rfl 26 (.tmp 12) (.tmp 47) rfl (insC 1 (some ⟨ga, 0, none⟩) 2 2 D 12 c) (size_ins14 _ _ _ _ _ _ _) (ins14_one _ _ _ _ _ _ _) rfl ?_ ?_ ?_; go_simp; go_simp; intro w6 hr6 hb6 hz6)))
  obtain ⟨gi, hgi⟩ : ∃ g, g = w5.heap.size := ⟨_, rfl⟩
  rw [← hgi] at hr6 ⊢
  have HIA : Hid (gi ≠ ga) := Lib.hid (by have := RA5.out.lt; omega)
  have P6 := Lib.hid (P5.out.below hb6)
  have OA6 := Lib.hid (OA5.out.below hb6)
  have RA6 := Lib.hid (RA5.out.below hb6 RA5.out.lt)
  have RO6 := Lib.hid (RO5.out.below hb6)
  have RI6 := Lib.hid hr6
  have c61 : w6.cell? ⟨gi, 1, none⟩ = some (.slice (some ⟨ga, 0, none⟩) 2 2) := hr6.cell 1
  have ca1 : w6.cell? ⟨ga, 1, none⟩ = some (.int .u8 1) := RA6.out.cell 1
  have fa1 := RA6.out.frozen 1
  clear hr6 hb6 hz6 hgi P5 OA5 RA5 RO5
  go_upto_region 10 with fail
  have M7 := Lib.hid (MS14.mk (w := w) (acc := [0, 0]) (P6.out.turned (turned_setCell w6 ⟨ga, 1, none⟩ (.int .u8 0)) (by have := HL4.out; have := HGA.out; show _ ≤ ga; omega) (by have := HL4.out; have := HGA.out; show _ ≠ ga; omega) (by have := HL4.out; have := HGA.out; show _ ≠ ga; omega) (by have := HL4.out; have := HGA.out; show _ ≠ ga; omega))
    ((turned_setCell w6 ⟨ga, 1, none⟩ (.int .u8 0)).row RI6.out HIA.out) (show Row _ ga 5 (bv [0, 0]) from RA6.out.set_ 1 (.int .u8 0)) (own14_turned RO6.out (turned_setCell w6 ⟨ga, 1, none⟩ (.int .u8 0)) NE5.out)
    (OA6.out.keep fun g hg => (turned_setCell w6 ⟨ga, 1, none⟩ (.int .u8 0)).block g (by have := (HVL.out g hg).2; have := HGA.out; show g ≠ ga; omega)))
  clear c61 ca1 fa1 P6 OA6 RA6 RO6 RI6 NE5 HIA HVL HGA
  generalize hW7 : w6.setCell ⟨ga, 1, none⟩ (.int .u8 0) = w7 at *
  clear hW7
  have MD := Lib.hid (M7.out.below (Below.refl w7.heap.size w7).drew)
  clear M7
  refine wp_region_held_drew (S := fun V => MS14 w V gx gy gl x y gi ga w4.heap.size D c n (some ⟨ga, 0, none⟩) 2 2 [0, 0] w3.heap.size (.slice (some ⟨gz, 0, none⟩) 2 cz) [(⟨x.c - n, x.o, x.s⟩ : LAcc), (⟨y.c + n, y.o, y.s⟩ : LAcc)]) (by kernel_rfl) MD.out (fun _ => ?_)
  refine takeL (i := 0) (v := ?_) rfl (by kernel_rfl) (by kernel_rfl) (by kernel_rfl) (fun _ _ _ h => h) (Or.inl ⟨by rfl, ?_⟩) MD.out ?_
  rotate_left
  · intro w hw
    try dsimp only at hw
    go_simp
    try with_reducible rfl
  try simp only [Act.put, List.setIfInBounds_toArray, List.set_cons_zero, List.set_cons_succ]
  refine takeL (i := 2) (v := .agg (insC 1 (some ⟨ga, 0, none⟩) 2 2 D 12 c).toArray) rfl (by kernel_rfl) (by kernel_rfl) (by kernel_rfl) (fun _ _ _ h => h) (Or.inl ⟨by rfl, fun wz hwz => exec_load_at wz 26 (.tmp 12) rfl ⟨gi, 0, none⟩ (insC 1 (some ⟨ga, 0, none⟩) 2 2 D 12 c) _ Try.underlying26 rfl (size_ins14 _ _ _ _ _ _ _) hwz.ins (by go_simp)⟩) MD.out ?_
  try simp only [Act.put, List.setIfInBounds_toArray, List.set_cons_zero, List.set_cons_succ]
  refine readyL (i := 1) rfl (by kernel_rfl) (by kernel_rfl) fun K hK => ?_
  go_simp
  refine (both14_ _).mono ?_
  rintro e w8 ⟨rfl, hr8, hb8⟩
  have M8 := Lib.hid (MD.out.below hb8)
  have RR8 := Lib.hid hr8
  clear hr8 hb8 MD
  refine hK.out _ _ M8.out ?_
  clear hK K
  try simp only [Act.put, List.setIfInBounds_toArray, List.set_cons_zero, List.set_cons_succ]
  refine readyL (i := 3) rfl (by kernel_rfl) (by kernel_rfl) fun K hK => ?_
  go_simp
  have HDO := Lib.hid (do_two14 (two_in M8.out.p.rl HOK.out M8.out.p.rl.lt) (Nat.le_refl _) RR8.out M8.out.a M8.out.o (mv14_len n) (mv14_bytes n) rfl (two_bytes (by unfold IsByte; omega) (by unfold IsByte; omega)) HR2.out)
  refine HDO.out.mono ?_
  rintro e w9 ⟨vb, rfl, hvb, hb9⟩
  have M9 := Lib.hid (M8.out.below hb9)
  have OB9 := Lib.hid hvb
  clear hvb hb9 M8 RR8 HDO
  refine hK.out _ _ M9.out ?_
  clear hK K
  try simp only [Act.put, List.setIfInBounds_toArray, List.set_cons_zero, List.set_cons_succ]
  refine takeL (i := 4) (v := ?_) rfl (by kernel_rfl) (by kernel_rfl) (by kernel_rfl) (fun _ _ _ h => h) (Or.inl ⟨by rfl, ?_⟩) M9.out ?_
  rotate_left
  · intro w hw
    try dsimp only at hw
    go_simp
    try with_reducible rfl
  try simp only [Act.put, List.setIfInBounds_toArray, List.set_cons_zero, List.set_cons_succ]
  refine takeL (i := 5) (v := ?_) rfl (by kernel_rfl) (by kernel_rfl) (by kernel_rfl) (fun _ _ _ h => h) (Or.inl ⟨by rfl, ?_⟩) M9.out ?_
  rotate_left
  · intro w hw
    try dsimp only at hw
    go_simp
    try with_reducible rfl
  try simp only [Act.put, List.setIfInBounds_toArray, List.set_cons_zero, List.set_cons_succ]
  refine takeL (i := 6) (v := ?_) rfl (by kernel_rfl) (by kernel_rfl) (by kernel_rfl) (fun _ _ _ h => h) (Or.inl ⟨by rfl, ?_⟩) M9.out ?_
  rotate_left
  · intro w hw
    try dsimp only at hw
    go_simp
    try with_reducible rfl
  try simp only [Act.put, List.setIfInBounds_toArray, List.set_cons_zero, List.set_cons_succ]
  refine takeL (i := 7) (v := ?_) rfl (by kernel_rfl) (by kernel_rfl) (by kernel_rfl) (fun _ _ _ h => h) (Or.inl ⟨by rfl, ?_⟩) M9.out ?_
  rotate_left
  · intro w hw
    try dsimp only at hw
    go_simp
    try with_reducible rfl
  try simp only [Act.put, List.setIfInBounds_toArray, List.set_cons_zero, List.set_cons_succ]
  refine takeL (i := 8) (v := ?_) rfl (by kernel_rfl) (by kernel_rfl) (by kernel_rfl) (fun _ _ _ h => h) (Or.inl ⟨by rfl, ?_⟩) M9.out ?_
  rotate_left
  · intro w hw
    try dsimp only at hw
    go_simp
    try with_reducible rfl
  try simp only [Act.put, List.setIfInBounds_toArray, List.set_cons_zero, List.set_cons_succ]
  refine takeL (i := 9) (v := ?_) rfl (by kernel_rfl) (by kernel_rfl) (by kernel_rfl) (fun _ _ _ h => h) (Or.inl ⟨by rfl, ?_⟩) M9.out ?_
  rotate_left
  · intro w hw
    try dsimp only at hw
    go_simp
    try with_reducible rfl
  try simp only [Act.put, List.setIfInBounds_toArray, List.set_cons_zero, List.set_cons_succ]
  refine takeL (i := 10) (v := ?_) rfl (by kernel_rfl) (by kernel_rfl) (by kernel_rfl) (fun _ _ _ h => h) (Or.inl ⟨by rfl, ?_⟩) M9.out ?_
  rotate_left
  · intro w hw
    try dsimp only at hw
    go_simp
    try with_reducible rfl
  try simp only [Act.put, List.setIfInBounds_toArray, List.set_cons_zero, List.set_cons_succ]
  refine wpAnyH_done (by kernel_rfl) ?_ _
  obtain ⟨gb, cb, rb, rfl, hcb, hcm, hgb, hrb⟩ := oa_two14 OB9.out
  have HAB := Lib.hid (two_in' hrb HOK.out hrb.lt)
  clear hcb hcm hgb hrb
  go_wp2_with fail
  refine (sameAccs (some ⟨gb, 0, none⟩) (some ⟨gl, 0, none⟩) 2 cb 2 [x, y] _ _ _ HAB.out (two_in M9.out.p.rl HOK.out M9.out.p.rl.lt) (by unfold maxLen; omega)).mono ?_
  rintro e w10 ⟨rfl, k10, rfl⟩
  have M10 := Lib.hid (M9.out.below (⟨rfl, rfl, rfl, Nat.le_refl _, fun _ _ => rfl⟩ : Below w9.heap.size w9 (w9.drewN k10)))
  clear M9 HAB OB9
  generalize w9.drewN k10 = w10 at *
  have hw1 : IntKind.u64.wrap (18446744073709551615 - n) = 18446744073709551615 - n := by rw [IntKind.wrap_u64]; have := HN.out; omega
  have cyc := M10.out.p.yc
  go_upto_region 17 with fail
  clear hw1
  obtain ⟨g', c', rest, e', _, _, _, hrow⟩ := oa_two14 M10.out.l
  injection e' with e1 e2 e3
  injection e1 with e1
  injection e1 with e1
  subst e1 e3
  have HZR := Lib.hid hrow
  have cz0 : w10.cell? ⟨gz, 0, none⟩ = some (.int .u64 (x.c - n)) := hrow.cell 0
  have cz1 : w10.cell? ⟨gz, 34, none⟩ = some (.int .u64 (y.c + n)) := by
    have := hrow.cell (34 + 0)
    rw [List.getElem?_append_right (by rw [acc_len HX1.out.o.1]; omega), acc_len HX1.out.o.1] at this
    exact this
  have cz2 : w10.cell? ⟨gz, 67, none⟩ = some (.int .u64 y.s) := by
    have := hrow.cell (34 + 33)
    rw [List.getElem?_append_right (by rw [acc_len HX1.out.o.1]; omega), acc_len HX1.out.o.1, Nat.add_sub_cancel_left, List.getElem?_append_left (by rw [acc_len HY1.out.o.1]; omega)] at this
    exact this.trans (acc_s HY1.out.o.1)
  have HZO : ∀ j u, (bv y.o)[j]? = some u → w10.cell? ((⟨gz, 35, none⟩ : Addr).add j) = some u := fun j u hu => by
    rw [addr_row, hrow.cell, show 35 + j = 34 + (1 + j) by omega, List.getElem?_append_right (by rw [acc_len HX1.out.o.1]; omega), acc_len HX1.out.o.1, Nat.add_sub_cancel_left]
    have h1 := acc_o (a := (⟨y.c + n, y.o, y.s⟩ : LAcc)) hu
    rw [List.getElem?_append_left (List.getElem?_eq_some_iff.1 h1).1]
    exact h1
  have HZO := Lib.hid HZO
  clear hrow HZR
  have cxc := M10.out.p.xc
  have cys := M10.out.p.ys HY.out.o.1
  have hw2 : IntKind.u64.wrap (x.c - n) = x.c - n := by rw [IntKind.wrap_u64]; have := HX.out.c; have := HN.out; omega
  have hw3 : IntKind.u64.wrap (y.c + n) = y.c + n := by rw [IntKind.wrap_u64]; have := HY.out.c; have := HN.out; omega
  have NZ := fun w => key_neq HY.out.o.1 HY.out.o.1 w
  rw [decide_eq_true rfl] at NZ
  try go_frame
  refine wp_region_quiet_lit (by kernel_rfl) (by kernel_rfl) ?_
  try go_frame
  repeat (first
    | ((with_reducible show wpQuiet _ _ _ _ ({ dst := some 123, op := Op.load _ _, type := _, pos := _, after := _, guard := _ } :: _) _); go_must (refine quiet_load_at (by kernel_rfl) 46 (.tmp 122) rfl ⟨gz, 35, none⟩ (bv y.o) _ Try.underlying46 rfl (by rw [size_key, bv_length, HY.out.o.1]) (by rintro _ ⟨nq, rfl⟩; exact HZO) ?_ ?_; go_simp; go_simp))
    | ((with_reducible show wpQuiet _ _ _ _ ({ dst := some 125, op := Op.load _ _, type := _, pos := _, after := _, guard := _ } :: _) _); go_must (refine quiet_load_at (by kernel_rfl) 46 (.tmp 124) rfl ⟨gy, 1, none⟩ (bv y.o) _ Try.underlying46 rfl (by rw [size_key, bv_length, HY.out.o.1]) (by rintro _ ⟨nq, rfl⟩; exact M10.out.p.yo) ?_ ?_; go_simp; go_simp))
    | go_big_quiet_step (fail))
  refine wpQuiet_nil ?_
  intro nq
  clear cz0 cz1 cz2 HZO cxc cyc cys hw2 hw3 NZ
  have M11 := Lib.hid (M10.out.below (⟨rfl, rfl, rfl, Nat.le_refl _, fun _ _ => rfl⟩ : Below w10.heap.size w10 (w10.drewN nq)))
  clear M10
  generalize w10.drewN nq = w11 at *
  go_wp2_with fail
  refine (HM.out w11).mono ?_
  rintro e w12 ⟨gd, D2, c2, rfl, _, _, hoa, _, hb12⟩
  have M12 := Lib.hid (M11.out.below hb12)
  have RO12 := Lib.hid hoa
  clear hoa hb12 M11
  go_upto_region 20 with (first
    | ((with_reducible show wpList _ _ _ ({ dst := some 16, op := Op.alloc _, type := _, pos := _, after := _, guard := _ } :: _) _ _); go_must (refine wpList_alloc_zero rfl 26 rfl (insC 0 none 0 0 none 0 0) zero_ins14 ?_))
    | ((with_reducible show wpList _ _ _ ({ dst := none, op := Op.store 26 _ _, type := _, pos := _, after := _, guard := _ } :: _) _ _); go_must (refine wpList_store_new rfl 26 (.tmp 16) (.tmp 138) rfl (insC 1 (some ⟨gd, 0, none⟩) 2 2 D2 12 c2) (size_ins14 _ _ _ _ _ _ _) (ins14_one _ _ _ _ _ _ _) rfl ?_ ?_ ?_; go_simp; go_simp; intro w13 hr13 hb13 hz13)))
  obtain ⟨gj, hgj⟩ : ∃ g, g = w12.heap.size := ⟨_, rfl⟩
  rw [← hgj] at hr13 ⊢
  have P13 := Lib.hid (M12.out.p.below hb13)
  have OA13 := Lib.hid (M12.out.l.below hb13)
  have RO13 := Lib.hid (RO12.out.below hb13)
  have HGJ : Hid (w.heap.size ≤ gj ∧ gx < gj ∧ gy < gj ∧ gl < gj ∧ (∀ g, (Value.slice (some ⟨gz, 0, none⟩) 2 cz).ownBlock = some g → g < gj)) := Lib.hid (by
    rw [hgj]
    exact ⟨M12.out.p.b.size, M12.out.p.rx.lt, M12.out.p.ry.lt, M12.out.p.rl.lt, fun g hg => (M12.out.l.lt g hg).2⟩)
  have RI13 := Lib.hid hr13
  have hal := (Below.refl w13.heap.size w13).alloc (Nat.le_refl _) (.cells #[.int .u8 1, .int .u8 0] 5)
  have P14 := Lib.hid (P13.out.below hal)
  have OA14_ := Lib.hid (OA13.out.below hal)
  have RO14 := Lib.hid (RO13.out.below hal)
  have RI14 := Lib.hid (RI13.out.below hal RI13.out.lt)
  have RA14 := Lib.hid (Row.new w13 5 (bv [1, 0]))
  have RA14' : Hid (Row (w13.alloc (.cells #[.int .u8 1, .int .u8 0] 5)) w13.heap.size 5 (bv [1, 0])) := Lib.hid RA14.out
  have HJK : Hid (w13.heap.size ≠ gj) := Lib.hid (by have := RI13.out.lt; omega)
  have ci : (w13.alloc (.cells #[.int .u8 1, .int .u8 0] 5)).cell? ⟨gj, 1, none⟩ = some (.slice (some ⟨gd, 0, none⟩) 2 2) := RI14.out.cell 1
  have fi := RI14.out.frozen 1
  clear hr13 hb13 hz13 hgj hal M12 RO12 P13 OA13 RO13 RI13 RA14
  go_upto_region 21 with fail
  generalize hgk : w13.heap.size = gk at *
  clear hgk
  generalize w13.alloc (.cells #[.int .u8 1, .int .u8 0] 5) = w14 at *
  have M15 := Lib.hid (MS14.mk (w := w) (acc := [1, 0]) (P14.out.turned (turned_setCell w14 ⟨gj, 1, none⟩ (.slice (some ⟨gk, 0, none⟩) 2 2)) HGJ.out.1 (Nat.ne_of_lt HGJ.out.2.1) (Nat.ne_of_lt HGJ.out.2.2.1) (Nat.ne_of_lt HGJ.out.2.2.2.1))
    (show Row _ gj 26 (insC 1 (some ⟨gk, 0, none⟩) 2 2 D2 12 c2) from RI14.out.set_ 1 (.slice (some ⟨gk, 0, none⟩) 2 2)) ((turned_setCell w14 ⟨gj, 1, none⟩ (.slice (some ⟨gk, 0, none⟩) 2 2)).row RA14'.out HJK.out) (own14_turned RO14.out (turned_setCell w14 ⟨gj, 1, none⟩ (.slice (some ⟨gk, 0, none⟩) 2 2)) (fun k hk e => own_row_ne RO14.out RI14.out (by decide) (by rw [hk]; exact congrArg some e.symm)))
    (OA14_.out.keep fun g hg => (turned_setCell w14 ⟨gj, 1, none⟩ (.slice (some ⟨gk, 0, none⟩) 2 2)).block g (Nat.ne_of_lt (HGJ.out.2.2.2.2 g hg))))
  clear ci fi P14 OA14_ RO14 RI14 RA14' HJK
  generalize hW15 : w14.setCell ⟨gj, 1, none⟩ (.slice (some ⟨gk, 0, none⟩) 2 2) = w15 at *
  clear hW15
  have MD := Lib.hid (M15.out.below (Below.refl w15.heap.size w15).drew)
  clear M15
  refine wp_region_held_drew (S := fun V => MS14 w V gx gy gl x y gj gk w11.heap.size D2 c2 n (some ⟨gk, 0, none⟩) 2 2 [1, 0] w3.heap.size (.slice (some ⟨gz, 0, none⟩) 2 cz) [(⟨x.c - n, x.o, x.s⟩ : LAcc), (⟨y.c + n, y.o, y.s⟩ : LAcc)]) (by kernel_rfl) MD.out (fun _ => ?_)
  refine takeL (i := 0) (v := ?_) rfl (by kernel_rfl) (by kernel_rfl) (by kernel_rfl) (fun _ _ _ h => h) (Or.inl ⟨by rfl, ?_⟩) MD.out ?_
  rotate_left
  · intro w hw
    try dsimp only at hw
    go_simp
    try with_reducible rfl
  try simp only [Act.put, List.setIfInBounds_toArray, List.set_cons_zero, List.set_cons_succ]
  refine takeL (i := 2) (v := .agg (insC 1 (some ⟨gk, 0, none⟩) 2 2 D2 12 c2).toArray) rfl (by kernel_rfl) (by kernel_rfl) (by kernel_rfl) (fun _ _ _ h => h) (Or.inl ⟨by rfl, fun wz hwz => exec_load_at wz 26 (.tmp 16) rfl ⟨gj, 0, none⟩ (insC 1 (some ⟨gk, 0, none⟩) 2 2 D2 12 c2) _ Try.underlying26 rfl (size_ins14 _ _ _ _ _ _ _) hwz.ins (by go_simp)⟩) MD.out ?_
  try simp only [Act.put, List.setIfInBounds_toArray, List.set_cons_zero, List.set_cons_succ]
  refine readyL (i := 1) rfl (by kernel_rfl) (by kernel_rfl) fun K hK => ?_
  go_simp
  refine (both14_ _).mono ?_
  rintro e w16 ⟨rfl, hr16, hb16⟩
  have M16 := Lib.hid (MD.out.below hb16)
  have RR16 := Lib.hid hr16
  clear hr16 hb16 MD
  refine hK.out _ _ M16.out ?_
  clear hK K
  try simp only [Act.put, List.setIfInBounds_toArray, List.set_cons_zero, List.set_cons_succ]
  refine readyL (i := 3) rfl (by kernel_rfl) (by kernel_rfl) fun K hK => ?_
  go_simp
  have HDO := Lib.hid (do_two14 (M16.out.l.accs rfl) HCZ.out.1 RR16.out M16.out.a M16.out.o (mv14_len n) (mv14_bytes n) rfl (two_bytes (by unfold IsByte; omega) (by unfold IsByte; omega)) HR3.out)
  refine HDO.out.mono ?_
  rintro e w17 ⟨vc, rfl, hvc, hb17⟩
  have M17 := Lib.hid (M16.out.below hb17)
  have OC17 := Lib.hid hvc
  clear hvc hb17 M16 RR16 HDO
  refine hK.out _ _ M17.out ?_
  clear hK K
  try simp only [Act.put, List.setIfInBounds_toArray, List.set_cons_zero, List.set_cons_succ]
  refine takeL (i := 4) (v := ?_) rfl (by kernel_rfl) (by kernel_rfl) (by kernel_rfl) (fun _ _ _ h => h) (Or.inl ⟨by rfl, ?_⟩) M17.out ?_
  rotate_left
  · intro w hw
    try dsimp only at hw
    go_simp
    try with_reducible rfl
  try simp only [Act.put, List.setIfInBounds_toArray, List.set_cons_zero, List.set_cons_succ]
  refine takeL (i := 5) (v := ?_) rfl (by kernel_rfl) (by kernel_rfl) (by kernel_rfl) (fun _ _ _ h => h) (Or.inl ⟨by rfl, ?_⟩) M17.out ?_
  rotate_left
  · intro w hw
    try dsimp only at hw
    go_simp
    try with_reducible rfl
  try simp only [Act.put, List.setIfInBounds_toArray, List.set_cons_zero, List.set_cons_succ]
  refine takeL (i := 6) (v := ?_) rfl (by kernel_rfl) (by kernel_rfl) (by kernel_rfl) (fun _ _ _ h => h) (Or.inl ⟨by rfl, ?_⟩) M17.out ?_
  rotate_left
  · intro w hw
    try dsimp only at hw
    go_simp
    try with_reducible rfl
  try simp only [Act.put, List.setIfInBounds_toArray, List.set_cons_zero, List.set_cons_succ]
  refine takeL (i := 7) (v := ?_) rfl (by kernel_rfl) (by kernel_rfl) (by kernel_rfl) (fun _ _ _ h => h) (Or.inl ⟨by rfl, ?_⟩) M17.out ?_
  rotate_left
  · intro w hw
    try dsimp only at hw
    go_simp
    try with_reducible rfl
  try simp only [Act.put, List.setIfInBounds_toArray, List.set_cons_zero, List.set_cons_succ]
  refine takeL (i := 8) (v := ?_) rfl (by kernel_rfl) (by kernel_rfl) (by kernel_rfl) (fun _ _ _ h => h) (Or.inl ⟨by rfl, ?_⟩) M17.out ?_
  rotate_left
  · intro w hw
    try dsimp only at hw
    go_simp
    try with_reducible rfl
  try simp only [Act.put, List.setIfInBounds_toArray, List.set_cons_zero, List.set_cons_succ]
  refine takeL (i := 9) (v := ?_) rfl (by kernel_rfl) (by kernel_rfl) (by kernel_rfl) (fun _ _ _ h => h) (Or.inl ⟨by rfl, ?_⟩) M17.out ?_
  rotate_left
  · intro w hw
    try dsimp only at hw
    go_simp
    try with_reducible rfl
  try simp only [Act.put, List.setIfInBounds_toArray, List.set_cons_zero, List.set_cons_succ]
  refine takeL (i := 10) (v := ?_) rfl (by kernel_rfl) (by kernel_rfl) (by kernel_rfl) (fun _ _ _ h => h) (Or.inl ⟨by rfl, ?_⟩) M17.out ?_
  rotate_left
  · intro w hw
    try dsimp only at hw
    go_simp
    try with_reducible rfl
  try simp only [Act.put, List.setIfInBounds_toArray, List.set_cons_zero, List.set_cons_succ]
  refine wpAnyH_done (by kernel_rfl) ?_ _
  have nky := HKY.out
  have cys := M17.out.p.ys HY.out.o.1
  have ys1 : (y.s == 0) = false := by simpa using hy2
  have ys2 : (y.s != 0) = true := by simpa using hy2
  go_wp2_with (first
    | ((with_reducible show wpList _ _ _ ({ dst := some 150, op := Op.load _ _, type := _, pos := _, after := _, guard := _ } :: _) _ _); go_must (refine wpList_load_at rfl 46 (.tmp 149) rfl ⟨gy, 1, none⟩ (bv y.o) _ Try.underlying46 rfl (by rw [size_key, bv_length, HY.out.o.1]) M17.out.p.yo ?_ ?_; go_simp))
    | ((with_reducible show wpList _ _ _ ({ dst := some 151, op := Op.build _ _, type := _, pos := _, after := _, guard := _ } :: _) _ _); go_must (refine wpList_plain rfl fun K hK => wp_built _ _ _ rfl (by simp only [List.map_toArray, List.map_nil]; exact built_key14) (hK _ _ ?_))))
  clear cys ys1 ys2
  have M18 := Lib.hid M17.out.p
  refine (lives14_ _).mono ?_
  rintro e w19 ⟨rfl, hb10⟩
  have B10 := Lib.hid (M18.out.b.trans (hb10.mono M18.out.b.size))
  clear hb10
  go_wp2_with fail
  go_ret
  exact ⟨rfl, B10.out⟩
theorem moveWalk14 (x y : LAcc) (n : Int) (w : World) (hx : AccOk x) (hy : AccOk y) (hn0 : 0 ≤ n) (hn1 : n < 18446744073709551616) : Calls Try.prog 5 #[.agg x.cells.toArray, .agg y.cells.toArray, .int .u64 n] w fun e w' => e = .returned (.bool true) ∧ Below w.heap.size w w' := by
  by_cases h1 : x.o = key0
  rotate_left
  · exact mv_owner x y n w hx hy hn0 hn1 h1
  by_cases h2 : x.s = 0
  rotate_left
  · exact mv_space x y n w hx hy hn0 hn1 h1 h2
  by_cases h3 : x.c < n
  · exact mv_funds x y n w hx hy hn0 hn1 h1 h2 h3
  by_cases h4 : 18446744073709551615 - n < y.c
  · exact mv_over x y n w hx hy hn0 hn1 h1 h2 h3 h4
  by_cases h5 : y.o = key0
  rotate_left
  · exact mv_other x y n w hx hy hn0 hn1 h1 h2 h3 h4 h5
  by_cases h6 : y.s = 0
  · exact mv_plain x y n w hx hy hn0 hn1 h1 h2 h3 h4 h5 h6
  · exact mv_spaced x y n w hx hy hn0 hn1 h1 h2 h3 h4 h5 h6
end Go.Proofs.Ytodoaebpkmhhmaa
