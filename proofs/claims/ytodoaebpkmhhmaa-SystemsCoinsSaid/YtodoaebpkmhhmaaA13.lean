/-
  Parts joined: RolesWalk14.
-/
import Derived.Below
import Derived.Laws.OwnMore
import Derived.Deep.AppendLies
import Derived.Deep.Draws
import Derived.Lib.Hide
import Derived.Laws.MakeOwn
import Derived.Laws.CopyOwn
import Derived.Laws.Rows
import Derived.Laws.BitsAllLaws
import Derived.WalkKit
import Derived.Test.YtodoaebpkmhhmaaRows
import Derived.WalkSpells
import Derived.WalkLawsBesides
import Derived.IntWalk
import Derived.Deep.MidRow
import Derived.Deep.WholeRow
import Derived.Maps.AppendAt
import Derived.OwnWalk
import Derived.Great.BuildSlice
import Derived.Recover
import Derived.Deep.RegionHeld
import Derived.Deep.QuietTactic
import Derived.BigQuiet
import Derived.ChangeKeysEq
import Derived.ProofKit
import Derived.OpenShut
import Derived.ShutString
import Derived.ChangeOld
import Derived.Lib.SmallJoins
import Derived.Deep.Slices
import Derived.Deep.Strs
import Derived.SizedLaws
import Derived.Deep.RegionHeld2
import Derived.Deep.CutBlock
import Derived.Laws.Tables
import Derived.Laws.StructEq
import Derived.Laws.Slices
import Derived.Deep.DeepCutAuto
import Derived.Laws.EntriesVeiled
import Derived.Deep.RegionHeld3
import Derived.Maps.OwnSet
import Derived.DeepKeys4
import Derived.WideKeyArr
import Derived.WideKeyEntry
import Derived.WalkMore
import Derived.Shelf.SlMaps.Clone
import Derived.LaidMore
import Derived.Laws.Append
import Derived.Laws.AppendOwn
import Derived.Maps.OwnOps
import Derived.Maps.RangeWalk
import Derived.Laws.BytesArg
import Derived.Laws.Strings
import Derived.Lib.Strings
import Derived.Great.Walk
import Derived.Laws.Bits64b
import Derived.Laws.Externs
import Derived.Test.YtodoaebpkmhhmaaA1
import Derived.Test.YtodoaebpkmhhmaaA2
import Derived.Test.YtodoaebpkmhhmaaA3
import Derived.Test.YtodoaebpkmhhmaaA4
import Derived.Test.YtodoaebpkmhhmaaA5
import Derived.Test.YtodoaebpkmhhmaaA6
import Derived.Test.YtodoaebpkmhhmaaA7
import Derived.Test.YtodoaebpkmhhmaaA8
import Derived.Test.YtodoaebpkmhhmaaA9
import Derived.Test.YtodoaebpkmhhmaaA10
import Derived.Test.YtodoaebpkmhhmaaA11
import Derived.Test.YtodoaebpkmhhmaaA12
/-
  Of part RolesWalk14: what is needed here.
-/
namespace Go.Proofs.Ytodoaebpkmhhmaa
open Go.RowKit
set_option linter.unusedVariables false
set_option maxRecDepth 100000
def allLt14 (l : List Int) (n : Nat) : Bool := l.all fun z => decide (z < (n : Int))
theorem allLt_snoc (l : List Int) (z : Int) (n : Nat) : allLt14 (l ++ [z]) n = (allLt14 l n && decide (z < (n : Int))) := by unfold allLt14; rw [List.all_append]; simp
theorem allLt_iff {l : List Int} {n : Nat} : allLt14 l n = true ↔ ∀ z ∈ l, z < (n : Int) := by unfold allLt14; simp
theorem take_one14 {l : List Int} {j : Nat} {z : Int} (h : l[j]? = some z) : l.take (j + 1) = l.take j ++ [z] := by rw [List.take_add_one, h]; rfl
theorem bv_at14 {l : List Int} {j : Nat} {z : Int} (h : l[j]? = some z) : (bv l)[j]? = some (.int .u8 z) := by rw [bv_getElem?, h]; rfl
/-- what lies there while accounts are put behind -/
structure RS14 (w V : World) (gq gi base : Nat) (q : QA14) (x : Q14) (MA : Option Addr) (m : Nat) (more : List Int) (A : Option Addr) (c : Nat) (l : List Int) (b1 : Nat) (va : Value) (L : List LAcc) : Prop where
  b : Below w.heap.size w V
  r : Row V gq 28 (q.cells x)
  i : Row V gi 26 (insC x.p A l.length c q.D q.dn q.dc)
  o : OwnB V base (.slice A l.length c) l
  oa : OA14 V b1 va L
  ms : Sees V w.heap.size MA m (bv more)
section
variable {w V V' : World} {gq gi base : Nat} {q : QA14} {x : Q14} {MA : Option Addr} {m : Nat} {more : List Int} {A : Option Addr} {c : Nat} {l : List Int} {b1 : Nat} {va : Value} {L : List LAcc}
theorem slot14 (h : RS14 w V gq gi base q x MA m more A c l b1 va L) : V.cell? ⟨gi, 1, none⟩ = some (.slice A l.length c) := h.i.cell 1
theorem RS14.below (h : RS14 w V gq gi base q x MA m more A c l b1 va L) (hb : Below V.heap.size V V') : RS14 w V' gq gi base q x MA m more A c l b1 va L :=
  ⟨h.b.trans (hb.mono h.b.size), h.r.below hb h.r.lt, h.i.below hb h.i.lt, h.o.below hb, h.oa.below hb, h.ms.below (hb.mono h.b.size)⟩
/-- one more is put behind, and the instruction's list is that -/
theorem RS14.push (h : RS14 w V gq gi base q x MA m more A c l b1 va L) {A' : Option Addr} {c' n' : Nat} {l' : List Int} (ho : OwnB V' base (.slice A' n' c') l') (hn : l'.length = n') (hg : Grew V V' (.slice A l.length c) (.slice A' n' c')) (hb : base ≤ V.heap.size) (hw : w.heap.size ≤ base) (h1 : gq < base) (h2 : gi < base) (h3 : ∀ g, va.ownBlock = some g → g < base) (h4 : gq ≠ gi) (h5 : w.heap.size ≤ gi) (h6 : ∀ g, va.ownBlock = some g → g ≠ gi) :
    RS14 w (V'.setCell ⟨gi, 1, none⟩ (.slice A' n' c')) gq gi base q x MA m more A' c' l' b1 va L := by
  subst hn
  have hb' := hg.below h.o hb
  have ht := turned_setCell V' ⟨gi, 1, none⟩ (.slice A' l'.length c')
  have ri := h.i.below hb' h2
  refine ⟨(h.b.trans (hb'.mono hw)).trans (ht.below h5), ht.row (h.r.below hb' h1) h4, ri.set_ 1 _, own14_turned ho ht (fun k hk e => own_row_ne ho ri (by decide) (by rw [hk]; exact congrArg some e.symm)),
    (h.oa.keep fun g hg => hb'.block g (h3 g hg)).keep fun g hg => ht.block g (h6 g hg), (h.ms.below (hb'.mono hw)).below (ht.below h5)⟩
end
set_option maxHeartbeats 16000000 in
theorem rolesWalk14 (q : QA14) (x : Q14) (MA : Option Addr) (m mc : Nat) (more : List Int) (w : World) (h : QIn14 w w.heap.size q x) (hm : Sees w w.heap.size MA m (bv more)) (hmb : AllBytes more) (hmc : m ≤ mc) :
    Calls Try.prog 7 #[.agg (q.cells x).toArray, .slice MA m mc] w fun e w' => e = .returned (.bool true) ∧ Below w.heap.size w w' := by
  have HMS := Lib.hid hm
  have HMB := Lib.hid hmb
  have HML : Hid (more.length = m) := Lib.hid (by have := hm.len; rwa [bv_length] at this)
  clear hm hmb
  have HQ := Lib.hid h
  have R0 := Lib.hid (Row.new w 28 (q.cells x))
  have B0 := Lib.hid ((Below.refl w.heap.size w).alloc (Nat.le_refl _) (.cells (q.cells x).toArray 28))
  clear h
  obtain ⟨gq, hgq⟩ : ∃ g, g = w.heap.size := ⟨_, rfl⟩
  have HG : Hid (w.heap.size = gq) := Lib.hid hgq.symm
  rw [← hgq] at R0
  clear hgq
  generalize hW : w.alloc (.cells (q.cells x).toArray 28) = W at *
  have HW := Lib.hid hW
  clear hW
  have HGR := Lib.hid (great14_ q x)
  by_cases hbig : Big14 q
  · rw [decide_eq_true hbig] at HGR
    clear hbig
    go_enter Try.func7, Try.ntmps7
    go_upto_region 1 with fail
    try rw [HG.out]
    rw [HW.out]
    clear HW
    go_wp2_with ((with_reducible show wpList _ _ _ ({ dst := some 22, op := Op.load _ _, type := _, pos := _, after := _, guard := _ } :: _) _ _); go_must (refine wpList_load_whole rfl 28 (.tmp 2) rfl gq 28 (q.cells x) _ Try.underlying28 rfl (size_asked14 _ _) R0.out ?_ ?_; go_simp))
    refine (HGR.out _).mono ?_
    rintro e w1 ⟨rfl, hb1⟩
    have B1 := Lib.hid (B0.out.trans (hb1.mono B0.out.size))
    have R1 := Lib.hid (R0.out.below hb1 R0.out.lt)
    clear hb1 B0 R0 HGR
    go_wp2_with fail
    refine (lives14_ _).mono ?_
    rintro e w9 ⟨rfl, hb9⟩
    have B9 := Lib.hid (B1.out.trans (hb9.mono B1.out.size))
    clear hb9
    go_wp2_with fail
    go_ret
    exact ⟨rfl, B9.out⟩
  rw [decide_eq_false hbig] at HGR
  have HS : Hid (q.ln ≤ 200 ∧ q.rn ≤ 200 ∧ q.n ≤ 300 ∧ q.dn ≤ 1000) := Lib.hid (by unfold Big14 at hbig; omega)
  clear hbig
  by_cases hmm : (100 : Int) < m
  · have hmm' := hmm
    go_enter Try.func7, Try.ntmps7
    go_upto_region 1 with fail
    try rw [HG.out]
    rw [HW.out]
    clear HW
    go_wp2_with ((with_reducible show wpList _ _ _ ({ dst := some 22, op := Op.load _ _, type := _, pos := _, after := _, guard := _ } :: _) _ _); go_must (refine wpList_load_whole rfl 28 (.tmp 2) rfl gq 28 (q.cells x) _ Try.underlying28 rfl (size_asked14 _ _) R0.out ?_ ?_; go_simp))
    refine (HGR.out _).mono ?_
    rintro e w1 ⟨rfl, hb1⟩
    have B1 := Lib.hid (B0.out.trans (hb1.mono B0.out.size))
    have R1 := Lib.hid (R0.out.below hb1 R0.out.lt)
    clear hb1 B0 R0 HGR
    go_wp2_with fail
    refine (lives14_ _).mono ?_
    rintro e w9 ⟨rfl, hb9⟩
    have B9 := Lib.hid (B1.out.trans (hb9.mono B1.out.size))
    clear hb9
    go_wp2_with fail
    go_ret
    exact ⟨rfl, B9.out⟩
  have HM1 : Hid (m ≤ 100) := Lib.hid (by omega)
  go_enter Try.func7, Try.ntmps7
  go_upto_region 1 with fail
  try rw [HG.out]
  rw [HW.out]
  clear HW
  go_wp2_with ((with_reducible show wpList _ _ _ ({ dst := some 22, op := Op.load _ _, type := _, pos := _, after := _, guard := _ } :: _) _ _); go_must (refine wpList_load_whole rfl 28 (.tmp 2) rfl gq 28 (q.cells x) _ Try.underlying28 rfl (size_asked14 _ _) R0.out ?_ ?_; go_simp))
  refine (HGR.out _).mono ?_
  rintro e w1 ⟨rfl, hb1⟩
  have B1 := Lib.hid (B0.out.trans (hb1.mono B0.out.size))
  have R1 := Lib.hid (R0.out.below hb1 R0.out.lt)
  clear hb1 B0 R0 HGR
  have d0 := asked_0 R1.out
  have d1 := asked_1 R1.out
  have HQ1 := Lib.hid (HQ.out.below B1.out)
  have HDO := Lib.hid (sysDo14 x.l x.r x.p q.IA q.n q.c q.D q.dn q.dc x.acc x.dat q.LA q.ln q.lc q.RA q.rn q.rc w.heap.size w1 HQ1.out.l HQ.out.lc.1 HQ1.out.r HQ1.out.i B1.out.size (by have := HS.out; omega) (by have := HS.out; omega) (by have := HS.out; omega))
  have HWT := Lib.hid (fun h => do_fine (l := x.l) (r := x.r) (acc := x.acc) (dat := x.dat) h)
  obtain ⟨R, hR⟩ : ∃ R, R = do14 x.l x.r x.acc x.dat := ⟨_, rfl⟩
  have HR := Lib.hid hR
  rw [← hR] at HDO
  clear hR
  go_wp2_with ((with_reducible show wpList _ _ _ ({ dst := some 36, op := Op.load _ _, type := _, pos := _, after := _, guard := _ } :: _) _ _); go_must (refine wpList_load_at rfl 26 (.tmp 35) rfl ⟨gq, 2, none⟩ (q.ins x) _ Try.underlying26 rfl (size_ins14 _ _ _ _ _ _ _) (asked_i R1.out) ?_ ?_; go_simp))
  clear d0 d1
  refine HDO.out.mono ?_
  rintro e w4 ⟨va, rfl, hoa, hb4⟩
  obtain ⟨Aa, ca, rfl, hca⟩ := hoa.form
  have OA4 := Lib.hid hoa
  have HLM := Lib.hid (Nat.le_trans hca.1 hca.2)
  have B4 := Lib.hid (B1.out.trans (hb4.mono B1.out.size))
  have R4 := Lib.hid (R1.out.below hb4 R1.out.lt)
  clear hoa hca hb4 B1 R1 HDO HQ1
  by_cases he : R.e = 0
  rotate_left
  · have he1 : (R.e == 0) = false := by simpa using he
    have he2 : (R.e != 0) = true := by simpa using he
    go_wp2_with fail
    refine (lives14_ _).mono ?_
    rintro e w9 ⟨rfl, hb9⟩
    have B9 := Lib.hid (B4.out.trans (hb9.mono B4.out.size))
    clear hb9
    go_wp2_with fail
    go_ret
    exact ⟨rfl, B9.out⟩
  have HE := Lib.hid he
  rw [he]
  clear he
  go_upto_region 7 with (first
    | ((with_reducible show wpList _ _ _ ({ dst := some 45, op := Op.load _ _, type := _, pos := _, after := _, guard := _ } :: _) _ _); go_must (refine wpList_load_at rfl 26 (.tmp 44) rfl ⟨gq, 2, none⟩ (q.ins x) _ Try.underlying26 rfl (size_ins14 _ _ _ _ _ _ _) (asked_i R4.out) ?_ ?_; go_simp))
    | ((with_reducible show wpList _ _ _ ({ dst := some 8, op := Op.alloc _, type := _, pos := _, after := _, guard := _ } :: _) _ _); go_must (refine wpList_alloc_zero rfl 26 rfl (insC 0 none 0 0 none 0 0) zero_ins14 ?_))
    | ((with_reducible show wpList _ _ _ ({ dst := none, op := Op.store 26 _ _, type := _, pos := _, after := _, guard := _ } :: _) _ _); go_must (refine wpList_store_new rfl 26 (.tmp 8) (.tmp 45) rfl (q.ins x) (size_ins14 _ _ _ _ _ _ _) (ins14_one _ _ _ _ _ _ _) rfl ?_ ?_ ?_; go_simp; go_simp; intro w5 hr5 hb5 hz5)))
  obtain ⟨gi, hgi⟩ : ∃ g, g = w4.heap.size := ⟨_, rfl⟩
  rw [← hgi] at hr5 ⊢
  have HGI : Hid (w.heap.size ≤ gi ∧ gq < gi) := Lib.hid ⟨by rw [hgi]; exact B4.out.size, by rw [hgi]; exact R4.out.lt⟩
  have B5 := Lib.hid (B4.out.trans (hb5.mono B4.out.size))
  have R5 := Lib.hid (R4.out.below hb5 R4.out.lt)
  have OA5 := Lib.hid (OA4.out.below hb5)
  have RI5 := Lib.hid hr5
  have HVA : Hid (∀ g, (Value.slice Aa R.l.length ca).ownBlock = some g → g < gi) := Lib.hid fun g hg => by rw [hgi]; exact (OA4.out.lt g hg).2
  clear hr5 hb5 hz5 hgi B4 R4 OA4
  have HQ5 := Lib.hid (HQ.out.below B5.out)
  have HAL := Lib.hid (show x.acc.length = q.n by have := HQ.out.i.aSees.len; rwa [bv_length] at this)
  have HN0 := Lib.hid (OwnB.nil w5 w5.heap.size)
  have HGS := Lib.hid (And.intro RI5.out.lt R5.out.lt)
  have HVB := Lib.hid (fun g hg => (OA5.out.lt g hg).2)
  have d3 := asked_3 R5.out
  go_upto_region 8 with ((with_reducible show wpList _ _ _ ({ dst := some 49, op := _, type := _, pos := _, after := _, guard := _ } :: _) _ _); go_must (refine wpList_addBg (by kernel_rfl) (.const (.slice none 0 0)) (.tmp 48) 24 rfl w5.heap.size Try.underlying24 info_u8 (.slice none 0 0) [] rfl HN0.out w.heap.size q.IA q.n q.c x.acc ?_ HQ5.out.i.aSees (Nat.le_refl _) ?_ ?_; go_simp; (rw [List.nil_append, HAL.out]; have := HS.out; omega); intro v6 w6 ho6 hg6; rw [List.nil_append] at ho6; obtain ⟨A6, c6, hv6⟩ := ho6.form; subst hv6; have hb6 := hg6.below HN0.out (Nat.le_refl _); have HZ6 := Lib.hid hb6.size; have RI6 := Lib.hid (RI5.out.below hb6 RI5.out.lt); have ci : w6.cell? ⟨gi, 1, none⟩ = some (.slice q.IA q.n q.c) := RI6.out.cell 1; have fi := RI6.out.frozen 1; have R6 := Lib.hid (R5.out.below hb6 R5.out.lt); have OA6 := Lib.hid (OA5.out.below hb6); have B6 := Lib.hid (B5.out.trans (hb6.mono B5.out.size)); have O6 := Lib.hid ho6; clear ho6 hg6 hb6))
  have M6 := Lib.hid (RS14.mk (w := w) (base := w5.heap.size) (B6.out.trans ((turned_setCell w6 ⟨gi, 1, none⟩ (.slice A6 x.acc.length c6)).below HGI.out.1)) ((turned_setCell w6 ⟨gi, 1, none⟩ (.slice A6 x.acc.length c6)).row R6.out (Nat.ne_of_lt HGI.out.2)) (RI6.out.set_ 1 (.slice A6 x.acc.length c6))
    (own14_turned O6.out (turned_setCell w6 ⟨gi, 1, none⟩ (.slice A6 x.acc.length c6)) (fun k hk e => own_row_ne O6.out RI6.out (by decide) (by rw [hk]; exact congrArg some e.symm))) (OA6.out.keep fun g hg => (turned_setCell w6 ⟨gi, 1, none⟩ (.slice A6 x.acc.length c6)).block g (Nat.ne_of_lt (HVA.out g hg))) ((HMS.out.below B6.out).below ((turned_setCell w6 ⟨gi, 1, none⟩ (.slice A6 x.acc.length c6)).below HGI.out.1)))
  have HB5 := Lib.hid B5.out.size
  have HZ7 : Hid (w5.heap.size ≤ (w6.setCell ⟨gi, 1, none⟩ (.slice A6 x.acc.length c6)).heap.size) := Lib.hid (by rw [(turned_setCell w6 ⟨gi, 1, none⟩ (.slice A6 x.acc.length c6)).size]; exact HZ6.out)
  clear ci fi d3 B6 R6 RI6 O6 OA6 HQ5 B5 R5 OA5 RI5
  generalize hW7 : w6.setCell ⟨gi, 1, none⟩ (.slice A6 x.acc.length c6) = w7 at *
  clear hW7
  go_wp2_with fail
  go_loopw [9, 10] (fun ok i wr => ∃ (j : Nat) (A : Option Addr) (c : Nat), j ≤ m ∧ ok = .bool (allLt14 (more.take j) q.ln) ∧ i = .int .i64 j ∧ w5.heap.size ≤ wr.heap.size ∧ RS14 w wr gq gi w5.heap.size q x MA m more A c (x.acc ++ more.take j) w1.heap.size (.slice Aa R.l.length ca) R.l) (fun _ i _ => m - (intOf i).toNat)
  case atStart => exact ⟨0, A6, c6, Nat.zero_le _, rfl, rfl, HZ7.out, by rw [List.take_zero, List.append_nil]; exact M6.out⟩
  case round =>
    obtain ⟨j, A, c, hj, rfl, rfl, hsz, hM⟩ := hrel
    have M := Lib.hid hM
    have HZ := Lib.hid hsz
    clear hM hsz
    by_cases hlt : j < m
    · have hlt' : (j : Int) < m := by omega
      obtain ⟨z, hz⟩ : ∃ z, more[j]? = some z := ⟨_, List.getElem?_eq_getElem (by rw [HML.out]; exact hlt)⟩
      have HTK := Lib.hid (take_one14 hz)
      have HZB := Lib.hid (HMB.out z (List.mem_of_getElem? hz))
      have HZC := Lib.hid (bv_at14 hz)
      clear hz
      obtain ⟨am, eMA, _, _⟩ := M.out.ms.cell j _ HZC.out
      have HCM : Hid (∀ V : World, Sees V w.heap.size MA m (bv more) → V.cell? (am.add j) = some (.int .u8 z)) := Lib.hid fun V hV => by
        obtain ⟨am', e', _, hc'⟩ := hV.cell j _ HZC.out
        rw [eMA] at e'
        cases e'
        exact hc'
      subst eMA
      go_upto_region 12 with fail
      have MD := Lib.hid (M.out.below (Below.refl wr.heap.size wr).drew)
      have HZD : Hid (w5.heap.size ≤ wr.drew.heap.size) := Lib.hid HZ.out
      clear M HZ
      refine wp_region_held_drew (S := fun _ => True) (by kernel_rfl) trivial (fun _ => ?_)
      generalize wr.drew = wd at *
      refine takeL (i := 0) (v := ?_) rfl (by kernel_rfl) (by kernel_rfl) (by kernel_rfl) (fun _ _ _ h => h) (Or.inl ⟨by rfl, ?_⟩) trivial ?_
      rotate_left
      · intro w hw
        try dsimp only at hw
        go_simp
        try with_reducible rfl
      try simp only [Act.put, List.setIfInBounds_toArray, List.set_cons_zero, List.set_cons_succ]
      refine takeL (i := 2) (v := ?_) rfl (by kernel_rfl) (by kernel_rfl) (by kernel_rfl) (fun _ _ _ h => h) (Or.inl ⟨by rfl, ?_⟩) trivial ?_
      rotate_left
      · intro w hw
        try dsimp only at hw
        go_simp
        try with_reducible rfl
      try simp only [Act.put, List.setIfInBounds_toArray, List.set_cons_zero, List.set_cons_succ]
      refine takeL (i := 3) (v := ?_) rfl (by kernel_rfl) (by kernel_rfl) (by kernel_rfl) (fun _ _ _ h => h) (Or.inl ⟨by rfl, ?_⟩) trivial ?_
      rotate_left
      · intro w hw
        try dsimp only at hw
        go_simp
        try with_reducible rfl
      try simp only [Act.put, List.setIfInBounds_toArray, List.set_cons_zero, List.set_cons_succ]
      refine takeL (i := 4) (v := ?_) rfl (by kernel_rfl) (by kernel_rfl) (by kernel_rfl) (fun _ _ _ h => h) (Or.inl ⟨by rfl, ?_⟩) trivial ?_
      rotate_left
      · intro w hw
        try dsimp only at hw
        go_simp
        try with_reducible rfl
      try simp only [Act.put, List.setIfInBounds_toArray, List.set_cons_zero, List.set_cons_succ]
      refine readyL2 (i := 1) (j := 5) rfl rfl (by kernel_rfl) (by kernel_rfl) (by kernel_rfl) (fun K hK => ?_) (fun K hK => ?_)
      · have c1 := slot14 MD.out
        go_simp
        clear c1
        refine hK.out _ _ trivial ?_
        clear hK K
        try simp only [Act.put, List.setIfInBounds_toArray, List.set_cons_zero, List.set_cons_succ]
        refine readyL (i := 5) rfl (by kernel_rfl) (by kernel_rfl) fun K hK => ?_
        have c5 := HCM.out _ MD.out.ms
        go_simp
        clear c5
        refine hK.out _ _ trivial ?_
        clear hK K
        try simp only [Act.put, List.setIfInBounds_toArray, List.set_cons_zero, List.set_cons_succ]
        refine readyL (i := 6) rfl (by kernel_rfl) (by kernel_rfl) fun K hK => ?_
        go_simp
        refine hK.out _ _ trivial ?_
        clear hK K
        try simp only [Act.put, List.setIfInBounds_toArray, List.set_cons_zero, List.set_cons_succ]
        have RL := Lib.hid (Row.new wd 5 (bv [z]))
        have MA1 := Lib.hid (MD.out.below ((Below.refl wd.heap.size wd).alloc (Nat.le_refl _) (.cells #[.int .u8 z] 5)))
        refine readyL (i := 7) rfl (by kernel_rfl) (by kernel_rfl) fun K hK => ?_
        obtain ⟨i0, hi0, hi1, hi2, hi3⟩ := info_parts info_u8
        refine wp_append_sees (v := .slice A (x.acc ++ more.take j).length c) (A := some ⟨wd.heap.size, 0, none⟩) (c := 1) (.tmp 58) (.tmp 63) rfl Try.underlying24 hi0 hi1 hi2 hi3 rfl (by go_simp) MA1.out.o (by go_simp) (show Sees _ _ _ 1 (bv [z]) from RL.out.sees0) (bv_one _) ?_ ?_ (Nat.le_trans HZD.out (by simp)) ?_
        · rw [List.length_append, HAL.out]; have := HS.out; have := List.length_take_le j more; have := HML.out; have := HM1.out; unfold maxLen; omega
        · rw [List.length_append, HAL.out]; have := HS.out; have := List.length_take_le j more; have := HML.out; have := HM1.out; omega
        intro v9 w9 h2 h3 h4
        have ho9 : OwnB w9 w5.heap.size v9 (x.acc ++ more.take (j + 1)) := by
          have e : (x.acc ++ more.take j ++ [z]).length = (x.acc ++ more.take j).length + 1 := by rw [List.length_append (bs := [z])]; rfl
          rw [HTK.out, ← List.append_assoc]
          unfold OwnB
          rw [e, bv_append]
          exact h2
        obtain ⟨A9, c9, hv9⟩ := ho9.form
        obtain ⟨N9, hN9⟩ : ∃ N, N = (x.acc ++ more.take (j + 1)).length := ⟨_, rfl⟩
        rw [← hN9] at hv9
        subst hv9
        have hg9 : Grew _ w9 _ _ := ⟨h3, fun k hk => by
          rcases h4 with hat | hat
          · exact .inl (hat ▸ hk)
          · rw [hat] at hk
            cases hk
            exact .inr (Nat.le_refl _)⟩
        have hb9 := hg9.below MA1.out.o (Nat.le_trans HZD.out (by simp))
        have RI9 := Lib.hid (MA1.out.i.below hb9 HGS.out.1)
        have HZ9 := Lib.hid (Nat.le_trans HZD.out (Nat.le_trans (by simp) hb9.size))
        have M9 := Lib.hid (MA1.out.push ho9 hN9.symm hg9 (Nat.le_trans HZD.out (by simp)) HB5.out HGS.out.2 HGS.out.1 HVB.out (Nat.ne_of_lt HGI.out.2) HGI.out.1 (fun g hg => Nat.ne_of_lt (HVA.out g hg)))
        have ci : w9.cell? ⟨gi, 1, none⟩ = some (.slice A (x.acc ++ more.take j).length c) := RI9.out.cell 1
        have fi := RI9.out.frozen 1
        clear ho9 hg9 hb9 hN9 h2 h3 h4 hi0 hi1 hi2 hi3 RL MA1 MD HZD
        refine hK.out _ _ trivial ?_
        clear hK K
        try simp only [Act.put, List.setIfInBounds_toArray, List.set_cons_zero, List.set_cons_succ]
        refine takeL (i := 8) (v := ?_) rfl (by kernel_rfl) (by kernel_rfl) (by kernel_rfl) (fun _ _ _ h => h) (Or.inl ⟨by rfl, ?_⟩) trivial ?_
        rotate_left
        · intro w hw
          try dsimp only at hw
          go_simp
          try with_reducible rfl
        try simp only [Act.put, List.setIfInBounds_toArray, List.set_cons_zero, List.set_cons_succ]
        refine readyL (i := 9) rfl (by kernel_rfl) (by kernel_rfl) fun K hK => ?_
        go_simp
        clear ci fi
        refine hK.out _ _ trivial ?_
        clear hK K
        try simp only [Act.put, List.setIfInBounds_toArray, List.set_cons_zero, List.set_cons_succ]
        refine wpAnyH_done (by kernel_rfl) ?_ _
        have HZ10 : Hid (w5.heap.size ≤ (w9.setCell ⟨gi, 1, none⟩ (.slice A9 N9 c9)).heap.size) := Lib.hid (by rw [(turned_setCell w9 ⟨gi, 1, none⟩ (.slice A9 N9 c9)).size]; exact HZ9.out)
        clear RI9 HZ9
        generalize w9.setCell ⟨gi, 1, none⟩ (.slice A9 N9 c9) = w10 at *
        have hbz := HZB.out
        unfold IsByte at hbz
        have hjb : j < 100 := by have := HM1.out; omega
        have HSN := Lib.hid (allLt_snoc (more.take j) z q.ln)
        rw [← HTK.out] at HSN
        cases hok : allLt14 (more.take j) q.ln
        · rw [hok, Bool.false_and] at HSN
          clear hok
          go_upto_region 13 with fail
          go_quiet (fail)
          go_wp2_with fail
          go_roundw
          case rel => exact ⟨j + 1, A9, c9, by omega, by rw [HSN.out], by go_num, HZ10.out, M9.out.below ⟨rfl, rfl, rfl, Nat.le_refl _, fun _ _ => rfl⟩⟩
          case measure => simp [intOf]; omega
        · rw [hok, Bool.true_and] at HSN
          clear hok
          go_upto_region 13 with fail
          have d0 := asked_0 M9.out.r
          have c5 := HCM.out _ M9.out.ms
          go_quiet (fail)
          clear d0 c5
          go_wp2_with fail
          go_roundw
          case rel => exact ⟨j + 1, A9, c9, by omega, by rw [HSN.out], by go_num, HZ10.out, M9.out.below ⟨rfl, rfl, rfl, Nat.le_refl _, fun _ _ => rfl⟩⟩
          case measure => simp [intOf]; omega
      · have c5 := HCM.out _ MD.out.ms
        go_simp
        clear c5
        refine hK.out _ _ trivial ?_
        clear hK K
        try simp only [Act.put, List.setIfInBounds_toArray, List.set_cons_zero, List.set_cons_succ]
        refine readyL2 (i := 1) (j := 6) rfl rfl (by kernel_rfl) (by kernel_rfl) (by kernel_rfl) (fun K hK => ?_) (fun K hK => ?_)
        · have c1 := slot14 MD.out
          go_simp
          clear c1
          refine hK.out _ _ trivial ?_
          clear hK K
          try simp only [Act.put, List.setIfInBounds_toArray, List.set_cons_zero, List.set_cons_succ]
          refine readyL (i := 6) rfl (by kernel_rfl) (by kernel_rfl) fun K hK => ?_
          go_simp
          refine hK.out _ _ trivial ?_
          clear hK K
          try simp only [Act.put, List.setIfInBounds_toArray, List.set_cons_zero, List.set_cons_succ]
          have RL := Lib.hid (Row.new wd 5 (bv [z]))
          have MA1 := Lib.hid (MD.out.below ((Below.refl wd.heap.size wd).alloc (Nat.le_refl _) (.cells #[.int .u8 z] 5)))
          refine readyL (i := 7) rfl (by kernel_rfl) (by kernel_rfl) fun K hK => ?_
          obtain ⟨i0, hi0, hi1, hi2, hi3⟩ := info_parts info_u8
          refine wp_append_sees (v := .slice A (x.acc ++ more.take j).length c) (A := some ⟨wd.heap.size, 0, none⟩) (c := 1) (.tmp 58) (.tmp 63) rfl Try.underlying24 hi0 hi1 hi2 hi3 rfl (by go_simp) MA1.out.o (by go_simp) (show Sees _ _ _ 1 (bv [z]) from RL.out.sees0) (bv_one _) ?_ ?_ (Nat.le_trans HZD.out (by simp)) ?_
          · rw [List.length_append, HAL.out]; have := HS.out; have := List.length_take_le j more; have := HML.out; have := HM1.out; unfold maxLen; omega
          · rw [List.length_append, HAL.out]; have := HS.out; have := List.length_take_le j more; have := HML.out; have := HM1.out; omega
          intro v9 w9 h2 h3 h4
          have ho9 : OwnB w9 w5.heap.size v9 (x.acc ++ more.take (j + 1)) := by
            have e : (x.acc ++ more.take j ++ [z]).length = (x.acc ++ more.take j).length + 1 := by rw [List.length_append (bs := [z])]; rfl
            rw [HTK.out, ← List.append_assoc]
            unfold OwnB
            rw [e, bv_append]
            exact h2
          obtain ⟨A9, c9, hv9⟩ := ho9.form
          obtain ⟨N9, hN9⟩ : ∃ N, N = (x.acc ++ more.take (j + 1)).length := ⟨_, rfl⟩
          rw [← hN9] at hv9
          subst hv9
          have hg9 : Grew _ w9 _ _ := ⟨h3, fun k hk => by
            rcases h4 with hat | hat
            · exact .inl (hat ▸ hk)
            · rw [hat] at hk
              cases hk
              exact .inr (Nat.le_refl _)⟩
          have hb9 := hg9.below MA1.out.o (Nat.le_trans HZD.out (by simp))
          have RI9 := Lib.hid (MA1.out.i.below hb9 HGS.out.1)
          have HZ9 := Lib.hid (Nat.le_trans HZD.out (Nat.le_trans (by simp) hb9.size))
          have M9 := Lib.hid (MA1.out.push ho9 hN9.symm hg9 (Nat.le_trans HZD.out (by simp)) HB5.out HGS.out.2 HGS.out.1 HVB.out (Nat.ne_of_lt HGI.out.2) HGI.out.1 (fun g hg => Nat.ne_of_lt (HVA.out g hg)))
          have ci : w9.cell? ⟨gi, 1, none⟩ = some (.slice A (x.acc ++ more.take j).length c) := RI9.out.cell 1
          have fi := RI9.out.frozen 1
          clear ho9 hg9 hb9 hN9 h2 h3 h4 hi0 hi1 hi2 hi3 RL MA1 MD HZD
          refine hK.out _ _ trivial ?_
          clear hK K
          try simp only [Act.put, List.setIfInBounds_toArray, List.set_cons_zero, List.set_cons_succ]
          refine takeL (i := 8) (v := ?_) rfl (by kernel_rfl) (by kernel_rfl) (by kernel_rfl) (fun _ _ _ h => h) (Or.inl ⟨by rfl, ?_⟩) trivial ?_
          rotate_left
          · intro w hw
            try dsimp only at hw
            go_simp
            try with_reducible rfl
          try simp only [Act.put, List.setIfInBounds_toArray, List.set_cons_zero, List.set_cons_succ]
          refine readyL (i := 9) rfl (by kernel_rfl) (by kernel_rfl) fun K hK => ?_
          go_simp
          clear ci fi
          refine hK.out _ _ trivial ?_
          clear hK K
          try simp only [Act.put, List.setIfInBounds_toArray, List.set_cons_zero, List.set_cons_succ]
          refine wpAnyH_done (by kernel_rfl) ?_ _
          have HZ10 : Hid (w5.heap.size ≤ (w9.setCell ⟨gi, 1, none⟩ (.slice A9 N9 c9)).heap.size) := Lib.hid (by rw [(turned_setCell w9 ⟨gi, 1, none⟩ (.slice A9 N9 c9)).size]; exact HZ9.out)
          clear RI9 HZ9
          generalize w9.setCell ⟨gi, 1, none⟩ (.slice A9 N9 c9) = w10 at *
          have hbz := HZB.out
          unfold IsByte at hbz
          have hjb : j < 100 := by have := HM1.out; omega
          have HSN := Lib.hid (allLt_snoc (more.take j) z q.ln)
          rw [← HTK.out] at HSN
          cases hok : allLt14 (more.take j) q.ln
          · rw [hok, Bool.false_and] at HSN
            clear hok
            go_upto_region 13 with fail
            go_quiet (fail)
            go_wp2_with fail
            go_roundw
            case rel => exact ⟨j + 1, A9, c9, by omega, by rw [HSN.out], by go_num, HZ10.out, M9.out.below ⟨rfl, rfl, rfl, Nat.le_refl _, fun _ _ => rfl⟩⟩
            case measure => simp [intOf]; omega
          · rw [hok, Bool.true_and] at HSN
            clear hok
            go_upto_region 13 with fail
            have d0 := asked_0 M9.out.r
            have c5 := HCM.out _ M9.out.ms
            go_quiet (fail)
            clear d0 c5
            go_wp2_with fail
            go_roundw
            case rel => exact ⟨j + 1, A9, c9, by omega, by rw [HSN.out], by go_num, HZ10.out, M9.out.below ⟨rfl, rfl, rfl, Nat.le_refl _, fun _ _ => rfl⟩⟩
            case measure => simp [intOf]; omega
        · go_simp
          refine hK.out _ _ trivial ?_
          clear hK K
          try simp only [Act.put, List.setIfInBounds_toArray, List.set_cons_zero, List.set_cons_succ]
          have RL := Lib.hid (Row.new wd 5 (bv [z]))
          have MA1 := Lib.hid (MD.out.below ((Below.refl wd.heap.size wd).alloc (Nat.le_refl _) (.cells #[.int .u8 z] 5)))
          refine readyL (i := 1) rfl (by kernel_rfl) (by kernel_rfl) fun K hK => ?_
          have c1 := slot14 MA1.out
          go_simp
          clear c1
          refine hK.out _ _ trivial ?_
          clear hK K
          try simp only [Act.put, List.setIfInBounds_toArray, List.set_cons_zero, List.set_cons_succ]
          refine readyL (i := 7) rfl (by kernel_rfl) (by kernel_rfl) fun K hK => ?_
          obtain ⟨i0, hi0, hi1, hi2, hi3⟩ := info_parts info_u8
          refine wp_append_sees (v := .slice A (x.acc ++ more.take j).length c) (A := some ⟨wd.heap.size, 0, none⟩) (c := 1) (.tmp 58) (.tmp 63) rfl Try.underlying24 hi0 hi1 hi2 hi3 rfl (by go_simp) MA1.out.o (by go_simp) (show Sees _ _ _ 1 (bv [z]) from RL.out.sees0) (bv_one _) ?_ ?_ (Nat.le_trans HZD.out (by simp)) ?_
          · rw [List.length_append, HAL.out]; have := HS.out; have := List.length_take_le j more; have := HML.out; have := HM1.out; unfold maxLen; omega
          · rw [List.length_append, HAL.out]; have := HS.out; have := List.length_take_le j more; have := HML.out; have := HM1.out; omega
          intro v9 w9 h2 h3 h4
          have ho9 : OwnB w9 w5.heap.size v9 (x.acc ++ more.take (j + 1)) := by
            have e : (x.acc ++ more.take j ++ [z]).length = (x.acc ++ more.take j).length + 1 := by rw [List.length_append (bs := [z])]; rfl
            rw [HTK.out, ← List.append_assoc]
            unfold OwnB
            rw [e, bv_append]
            exact h2
          obtain ⟨A9, c9, hv9⟩ := ho9.form
          obtain ⟨N9, hN9⟩ : ∃ N, N = (x.acc ++ more.take (j + 1)).length := ⟨_, rfl⟩
          rw [← hN9] at hv9
          subst hv9
          have hg9 : Grew _ w9 _ _ := ⟨h3, fun k hk => by
            rcases h4 with hat | hat
            · exact .inl (hat ▸ hk)
            · rw [hat] at hk
              cases hk
              exact .inr (Nat.le_refl _)⟩
          have hb9 := hg9.below MA1.out.o (Nat.le_trans HZD.out (by simp))
          have RI9 := Lib.hid (MA1.out.i.below hb9 HGS.out.1)
          have HZ9 := Lib.hid (Nat.le_trans HZD.out (Nat.le_trans (by simp) hb9.size))
          have M9 := Lib.hid (MA1.out.push ho9 hN9.symm hg9 (Nat.le_trans HZD.out (by simp)) HB5.out HGS.out.2 HGS.out.1 HVB.out (Nat.ne_of_lt HGI.out.2) HGI.out.1 (fun g hg => Nat.ne_of_lt (HVA.out g hg)))
          have ci : w9.cell? ⟨gi, 1, none⟩ = some (.slice A (x.acc ++ more.take j).length c) := RI9.out.cell 1
          have fi := RI9.out.frozen 1
          clear ho9 hg9 hb9 hN9 h2 h3 h4 hi0 hi1 hi2 hi3 RL MA1 MD HZD
          refine hK.out _ _ trivial ?_
          clear hK K
          try simp only [Act.put, List.setIfInBounds_toArray, List.set_cons_zero, List.set_cons_succ]
          refine takeL (i := 8) (v := ?_) rfl (by kernel_rfl) (by kernel_rfl) (by kernel_rfl) (fun _ _ _ h => h) (Or.inl ⟨by rfl, ?_⟩) trivial ?_
          rotate_left
          · intro w hw
            try dsimp only at hw
            go_simp
            try with_reducible rfl
          try simp only [Act.put, List.setIfInBounds_toArray, List.set_cons_zero, List.set_cons_succ]
          refine readyL (i := 9) rfl (by kernel_rfl) (by kernel_rfl) fun K hK => ?_
          go_simp
          clear ci fi
          refine hK.out _ _ trivial ?_
          clear hK K
          try simp only [Act.put, List.setIfInBounds_toArray, List.set_cons_zero, List.set_cons_succ]
          refine wpAnyH_done (by kernel_rfl) ?_ _
          have HZ10 : Hid (w5.heap.size ≤ (w9.setCell ⟨gi, 1, none⟩ (.slice A9 N9 c9)).heap.size) := Lib.hid (by rw [(turned_setCell w9 ⟨gi, 1, none⟩ (.slice A9 N9 c9)).size]; exact HZ9.out)
          clear RI9 HZ9
          generalize w9.setCell ⟨gi, 1, none⟩ (.slice A9 N9 c9) = w10 at *
          have hbz := HZB.out
          unfold IsByte at hbz
          have hjb : j < 100 := by have := HM1.out; omega
          have HSN := Lib.hid (allLt_snoc (more.take j) z q.ln)
          rw [← HTK.out] at HSN
          cases hok : allLt14 (more.take j) q.ln
          · rw [hok, Bool.false_and] at HSN
            clear hok
            go_upto_region 13 with fail
            go_quiet (fail)
            go_wp2_with fail
            go_roundw
            case rel => exact ⟨j + 1, A9, c9, by omega, by rw [HSN.out], by go_num, HZ10.out, M9.out.below ⟨rfl, rfl, rfl, Nat.le_refl _, fun _ _ => rfl⟩⟩
            case measure => simp [intOf]; omega
          · rw [hok, Bool.true_and] at HSN
            clear hok
            go_upto_region 13 with fail
            have d0 := asked_0 M9.out.r
            have c5 := HCM.out _ M9.out.ms
            go_quiet (fail)
            clear d0 c5
            go_wp2_with fail
            go_roundw
            case rel => exact ⟨j + 1, A9, c9, by omega, by rw [HSN.out], by go_num, HZ10.out, M9.out.below ⟨rfl, rfl, rfl, Nat.le_refl _, fun _ _ => rfl⟩⟩
            case measure => simp [intOf]; omega
    · have hlt' : ¬ (j : Int) < m := by omega
      have HTM : Hid (more.take j = more) := Lib.hid (List.take_of_length_le (by rw [HML.out]; omega))
      rw [HTM.out] at M
      rw [HTM.out]
      clear hlt hj
      have HLL : Hid (x.l.length = q.ln) := Lib.hid HQ.out.l.len
      have HRL : Hid (x.r.length = q.rn) := Lib.hid HQ.out.r.len
      have HE0 : Hid ((do14 x.l x.r x.acc x.dat).e = 0) := Lib.hid (by rw [← HR.out]; exact HE.out)
      have HFL : Hid (x.l.length = x.r.length) := Lib.hid (by obtain ⟨_, hf⟩ := HWT.out HE0.out; exact hf.len)
      have HLN : Hid ((x.acc ++ more).length ≤ 400) := Lib.hid (by rw [List.length_append, HAL.out, HML.out]; have := HS.out; have := HM1.out; omega)
      have HQM := Lib.hid (HQ.out.below M.out.b)
      have HBM := Lib.hid M.out.b.size
      have HI2 : Hid (InsAt14 wr wr.heap.size x.p A (x.acc ++ more).length c q.D q.dn q.dc (x.acc ++ more) x.dat) := Lib.hid (ins_own14 M.out.o (fun z hz => by rcases List.mem_append.1 hz with hz | hz; exact HQM.out.i.ab z hz; exact HMB.out z hz) HQM.out.i.dSees HQM.out.i.db HQM.out.i.dc HBM.out)
      have HD2 := Lib.hid (sysDo14 x.l x.r x.p A (x.acc ++ more).length c q.D q.dn q.dc (x.acc ++ more) x.dat q.LA q.ln q.lc q.RA q.rn q.rc wr.heap.size wr (HQM.out.l.more HBM.out) HQ.out.lc.1 (HQM.out.r.more HBM.out) HI2.out (Nat.le_refl _) (by have := HLN.out; omega) (by have := HS.out; omega) (by have := HS.out; omega))
      have HDM := Lib.hid (fun h => do_more (l := x.l) (r := x.r) (acc := x.acc) (dat := x.dat) (more := more) HE0.out h)
      have HDX := Lib.hid (fun h => do_out (l := x.l) (r := x.r) (acc := x.acc) (dat := x.dat) (more := more) HE0.out h)
      have HAI : Hid (allLt14 more q.ln = true ↔ ∀ i ∈ more, i < (x.r.length : Int)) := Lib.hid (by rw [allLt_iff, ← HFL.out, HLL.out])
      have d0 := asked_0 M.out.r
      have d1 := asked_1 M.out.r
      cases hal : allLt14 more q.ln with
      | true =>
        have HMO : Hid (do14 x.l x.r (x.acc ++ more) x.dat = R) := Lib.hid ((HDM.out (HAI.out.1 hal)).trans HR.out.symm)
        rw [HMO.out] at HD2
        clear hal
        obtain ⟨N2, hN2⟩ : ∃ N, N = (x.acc ++ more).length := ⟨_, rfl⟩
        have MI : Hid (Row wr gi 26 (insC x.p A N2 c q.D q.dn q.dc)) := Lib.hid (by rw [hN2]; exact M.out.i)
        rw [← hN2] at HD2
        clear hN2
        go_wp2_with (first
          | ((with_reducible show wpList _ _ _ ({ dst := some 83, op := Op.load _ _, type := _, pos := _, after := _, guard := _ } :: _) _ _); go_must (refine wpList_load_whole rfl 26 (.tmp 8) rfl gi 26 (insC x.p A N2 c q.D q.dn q.dc) _ Try.underlying26 rfl (size_ins14 _ _ _ _ _ _ _) MI.out ?_ ?_; go_simp)))
        refine HD2.out.mono ?_
        rintro e w11 ⟨vb, rfl, hob, hb11⟩
        obtain ⟨Ab, cb, rfl, hcb⟩ := hob.form
        rw [HE.out]
        have M11 := Lib.hid (M.out.below hb11)
        have OB := Lib.hid hob
        clear hob hb11 d0 d1 HD2 hcb
        have HSM := Lib.hid (sameAccs Aa Ab R.l.length ca cb R.l w11 _ _ (M11.out.oa.accs rfl) (OB.out.accs rfl) HLM.out)
        have hnn : (R.n != R.n) = false := by simp
        go_wp2_with fail
        refine HSM.out.mono ?_
        rintro e w12 ⟨rfl, kk, hw12⟩
        have PP := Lib.hid (show RS14 w w12 _ _ _ _ _ _ _ _ _ _ _ _ _ _ from by rw [hw12]; exact M11.out.below ⟨rfl, rfl, rfl, Nat.le_refl _, fun _ _ => rfl⟩)
        clear hw12 HSM OB M11 M
        have HB0 := Lib.hid (fun (V' : World) (hb : Below w.heap.size w V') => HQ.out.below hb)
        obtain ⟨k, hk0, hk1, hkn, hrole⟩ := do_role HQ.out.i.ab HE0.out
        have HRO := Lib.hid hrole
        have HK1 := Lib.hid hk1
        have HKN : Hid (k < q.rn) := Lib.hid (by rw [← HRL.out]; exact hkn)
        have HK0 : Hid (0 < q.n) := Lib.hid (by rw [← HAL.out]; exact hk0)
        obtain ⟨y, hy⟩ : ∃ y, x.r[k]? = some y := ⟨_, List.getElem?_eq_getElem hkn⟩
        have HY := Lib.hid hy
        have HYO := Lib.hid (HQ.out.r.ok y (List.mem_of_getElem? hy))
        have HF0 := Lib.hid (getD_first14 hk0 hk1)
        obtain ⟨ia, hia, _, _⟩ := HQ.out.i.aSees.cell 0 _ HF0.out
        have HIA := Lib.hid hia
        have HC5 : Hid (∀ V : World, Below w.heap.size w V → V.cell? ia = some (.int .u8 k)) := Lib.hid fun V hb => by
          obtain ⟨a, e, _, hc⟩ := (HQ.out.below hb).i.aSees.cell 0 _ HF0.out
          rw [HIA.out] at e
          cases e
          rwa [add0_14] at hc
        have hk256 : (k : Int) < 256 := by
          have h1 : k < x.r.length := hkn
          have hz := List.getElem_mem hk0
          have := (HQ.out.i.ab _ hz).2
          have e : x.acc.getD 0 0 = x.acc[0] := by rw [List.getD_eq_getElem?_getD, List.getElem?_eq_getElem hk0]; rfl
          rw [e] at hk1
          omega
        have hq0 : (0 : Int) < q.n := by have := HK0.out; omega
        have hq02 : 0 < q.n := HK0.out
        have hqz : ((q.n : Int) == 0) = false := by have := HK0.out; simp; omega
        have hkr : ¬ (q.rn : Int) ≤ k := by have := HKN.out; omega
        have hkr2 : ¬ q.rn ≤ k := by have := HKN.out; omega
        have hk1' : (k : Int) < q.rn := by have := HKN.out; omega
        have hk2' : k < q.rn := HKN.out
        clear hrole hk1 hkn hk0 hy hia
        have d1 := asked_1 PP.out.r
        have d3 := asked_3 PP.out.r
        rw [HIA.out] at d3
        have c5 := HC5.out _ PP.out.b
        go_upto_region 17 with fail
        go_quiet (fail)
        have PQ := Lib.hid (PP.out.below ⟨rfl, rfl, rfl, Nat.le_refl _, fun _ _ => rfl⟩ : RS14 w (w12.drewN nq) _ _ _ _ _ _ _ _ _ _ _ _ _ _)
        clear d1 d3 c5
        generalize w12.drewN nq = w13 at *
        clear PP
        have d1 := asked_1 PQ.out.r
        have d3 := asked_3 PQ.out.r
        rw [HIA.out] at d3
        have c5 := HC5.out _ PQ.out.b
        go_upto_region 20 with fail
        clear d3 c5
        have HRS := Lib.hid (HQ.out.below PQ.out.b).r.sees14
        go_upto_region 21 with (first
          | ((with_reducible show wpList _ _ _ ({ dst := some 137, op := _, type := _, pos := _, after := _, guard := _ } :: _) _ _); go_must (refine wpList_appendN rfl (.const (.slice none 0 0)) (.tmp 136) 23 50 _ 34 34 rfl Try.underlying23 infoRole14 zszRole14 (by omega) (.slice none 0 0) 0 [] w13.heap.size w.heap.size q.RA q.rn q.rc (rolC x.r) rfl (own_nilN _ _ _ _) ?_ HRS.out (rolC_one _) (by have := HS.out; unfold maxLen; omega) (by have := HS.out; omega) (Nat.le_refl _) ?_; go_simp; intro v4 w14 ho4 hg4)))
        clear d1 HRS
        rw [Nat.zero_add, List.nil_append] at ho4
        obtain ⟨gr, cap, rest, rfl, hRo, hgr, hcap⟩ := own_ro14 ho4 HRL.out (by omega) HQ.out.r.ok HY.out
        have HB14 := Lib.hid (hg4.below (own_nilN w13 w13.heap.size 50 34) (Nat.le_refl _))
        have RO := Lib.hid hRo
        have HGR := Lib.hid hgr
        have HCP := Lib.hid hcap
        clear ho4 hg4 hRo hgr hcap
        have HSZ := Lib.hid PQ.out.b.size
        have cs := RO.out.sg
        have fs := RO.out.fz (k * 34 + 32)
        go_upto_region 22 with fail
        have RO1 := Lib.hid (RO.out.set (j := 32) (u := .bool false) (z := ⟨y.key, false, y.wr⟩) HYO.out (by decide) (role_setS HYO.out.1 false))
        have HB15 := Lib.hid (HB14.out.trans ((turned_setCell w14 ⟨gr, k * 34 + 32, none⟩ (.bool false)).below HGR.out))
        clear cs fs RO HB14
        generalize w14.setCell ⟨gr, k * 34 + 32, none⟩ (.bool false) = w15 at *
        have HV := Lib.hid (PQ.out.b.trans (HB15.out.mono HSZ.out))
        have PV := Lib.hid (PQ.out.below HB15.out)
        have HQV := Lib.hid (HQ.out.below HV.out)
        have HSI : Hid (InsAt14 w15 w15.heap.size x.p q.IA q.n q.c q.D q.dn q.dc x.acc x.dat) := Lib.hid ⟨HQV.out.i.aSees.more HV.out.size, HQV.out.i.dSees.more HV.out.size, HQV.out.i.ab, HQV.out.i.db, HQV.out.i.ac, HQV.out.i.dc⟩
        have HDR := Lib.hid (sysDo14 x.l (x.r.set k ⟨y.key, false, y.wr⟩) x.p q.IA q.n q.c q.D q.dn q.dc x.acc x.dat q.LA q.ln q.lc (some ⟨gr, 0, none⟩) q.rn cap w15.heap.size w15 (HQV.out.l.more HV.out.size) HQ.out.lc.1 RO1.out.in_ HSI.out (Nat.le_refl _) (by have := HS.out; omega) (by have := HS.out; omega) (by have := HS.out; omega))
        have HER : Hid ((do14 x.l (x.r.set k ⟨y.key, false, y.wr⟩) x.acc x.dat).e = 14) := Lib.hid ((HRO.out ⟨y.key, false, y.wr⟩ (by rw [chk_nosign y.key y.wr]; decide)).trans (chk_nosign y.key y.wr))
        generalize do14 x.l (x.r.set k ⟨y.key, false, y.wr⟩) x.acc x.dat = R3 at *
        have d0 := asked_0 PV.out.r
        go_wp2_with (first
          | ((with_reducible show wpList _ _ _ ({ dst := some 147, op := Op.load _ _, type := _, pos := _, after := _, guard := _ } :: _) _ _); go_must (refine wpList_load_at rfl 26 (.tmp 146) rfl ⟨gq, 2, none⟩ (q.ins x) _ Try.underlying26 rfl (size_ins14 _ _ _ _ _ _ _) (asked_i PV.out.r) ?_ ?_; go_simp)))
        refine HDR.out.mono ?_
        rintro e w16 ⟨vR, rfl, hoR, hbR⟩
        rw [HER.out]
        clear hoR d0 HDR HSI HQV PV HV HER
        have RO2 := Lib.hid (RO1.out.below hbR)
        have HB16 := Lib.hid (HB15.out.trans (hbR.mono HB15.out.size))
        clear hbR RO1 HB15
        have cs := RO2.out.sg
        have fs := RO2.out.fz (k * 34 + 32)
        go_upto_region 24 with fail
        have RO3 := Lib.hid (RO2.out.set (j := 32) (u := .bool true) (z := ⟨y.key, true, y.wr⟩) HYO.out (by decide) (role_setS (y := ⟨y.key, false, y.wr⟩) HYO.out.1 true))
        have HB17 := Lib.hid (HB16.out.trans ((turned_setCell w16 ⟨gr, k * 34 + 32, none⟩ (.bool true)).below HGR.out))
        clear cs fs RO2 HB16
        generalize w16.setCell ⟨gr, k * 34 + 32, none⟩ (.bool true) = w17 at *
        have cw := RO3.out.wr
        have fw := RO3.out.fz (k * 34 + 33)
        go_upto_region 25 with fail
        have RO4 := Lib.hid (RO3.out.set (j := 33) (u := .bool false) (z := ⟨y.key, true, false⟩) HYO.out (by decide) (role_setW (y := ⟨y.key, true, y.wr⟩) HYO.out.1 false))
        have HB18 := Lib.hid (HB17.out.trans ((turned_setCell w17 ⟨gr, k * 34 + 33, none⟩ (.bool false)).below HGR.out))
        clear cw fw RO3 HB17
        generalize w17.setCell ⟨gr, k * 34 + 33, none⟩ (.bool false) = w18 at *
        rw [List.set_set, List.set_set] at RO4
        have HV := Lib.hid (PQ.out.b.trans (HB18.out.mono HSZ.out))
        have PV := Lib.hid (PQ.out.below HB18.out)
        have HQV := Lib.hid (HQ.out.below HV.out)
        have HSI : Hid (InsAt14 w18 w18.heap.size x.p q.IA q.n q.c q.D q.dn q.dc x.acc x.dat) := Lib.hid ⟨HQV.out.i.aSees.more HV.out.size, HQV.out.i.dSees.more HV.out.size, HQV.out.i.ab, HQV.out.i.db, HQV.out.i.ac, HQV.out.i.dc⟩
        have HDR := Lib.hid (sysDo14 x.l (x.r.set k ⟨y.key, true, false⟩) x.p q.IA q.n q.c q.D q.dn q.dc x.acc x.dat q.LA q.ln q.lc (some ⟨gr, 0, none⟩) q.rn cap w18.heap.size w18 (HQV.out.l.more HV.out.size) HQ.out.lc.1 RO4.out.in_ HSI.out (Nat.le_refl _) (by have := HS.out; omega) (by have := HS.out; omega) (by have := HS.out; omega))
        have HER : Hid ((do14 x.l (x.r.set k ⟨y.key, true, false⟩) x.acc x.dat).e = 15) := Lib.hid ((HRO.out ⟨y.key, true, false⟩ (by rw [chk_nowrite y.key]; decide)).trans (chk_nowrite y.key))
        generalize do14 x.l (x.r.set k ⟨y.key, true, false⟩) x.acc x.dat = R4 at *
        have d0 := asked_0 PV.out.r
        go_wp2_with (first
          | ((with_reducible show wpList _ _ _ ({ dst := some 165, op := Op.load _ _, type := _, pos := _, after := _, guard := _ } :: _) _ _); go_must (refine wpList_load_at rfl 26 (.tmp 164) rfl ⟨gq, 2, none⟩ (q.ins x) _ Try.underlying26 rfl (size_ins14 _ _ _ _ _ _ _) (asked_i PV.out.r) ?_ ?_; go_simp)))
        refine HDR.out.mono ?_
        rintro e w19 ⟨vR, rfl, hoR, hbR⟩
        rw [HER.out]
        clear hoR d0 HDR HSI HQV PV HV HER
        have HB19 := Lib.hid (HB18.out.trans (hbR.mono HB18.out.size))
        have BF := Lib.hid (PQ.out.b.trans (HB19.out.mono HSZ.out))
        clear hbR
        go_wp2_with fail
        refine (lives14_ _).mono ?_
        rintro e w20 ⟨rfl, hb20⟩
        have B20 := Lib.hid (BF.out.trans (hb20.mono BF.out.size))
        clear hb20
        go_wp2_with fail
        go_ret
        exact ⟨rfl, B20.out⟩
      | false =>
        have HMO : Hid ((do14 x.l x.r (x.acc ++ more) x.dat).e = 8) := Lib.hid (HDX.out (fun h => by rw [HAI.out.2 h] at hal; cases hal))
        clear hal
        obtain ⟨R2, hR2⟩ : ∃ R2, R2 = do14 x.l x.r (x.acc ++ more) x.dat := ⟨_, rfl⟩
        rw [← hR2] at HMO HD2
        clear hR2
        obtain ⟨N2, hN2⟩ : ∃ N, N = (x.acc ++ more).length := ⟨_, rfl⟩
        have MI : Hid (Row wr gi 26 (insC x.p A N2 c q.D q.dn q.dc)) := Lib.hid (by rw [hN2]; exact M.out.i)
        rw [← hN2] at HD2
        clear hN2
        go_wp2_with (first
          | ((with_reducible show wpList _ _ _ ({ dst := some 83, op := Op.load _ _, type := _, pos := _, after := _, guard := _ } :: _) _ _); go_must (refine wpList_load_whole rfl 26 (.tmp 8) rfl gi 26 (insC x.p A N2 c q.D q.dn q.dc) _ Try.underlying26 rfl (size_ins14 _ _ _ _ _ _ _) MI.out ?_ ?_; go_simp)))
        refine HD2.out.mono ?_
        rintro e w12 ⟨vb, rfl, hob, hb11⟩
        rw [HMO.out]
        have PP := Lib.hid (M.out.below hb11)
        clear hob hb11 d0 d1 HD2 M
        have HB0 := Lib.hid (fun (V' : World) (hb : Below w.heap.size w V') => HQ.out.below hb)
        obtain ⟨k, hk0, hk1, hkn, hrole⟩ := do_role HQ.out.i.ab HE0.out
        have HRO := Lib.hid hrole
        have HK1 := Lib.hid hk1
        have HKN : Hid (k < q.rn) := Lib.hid (by rw [← HRL.out]; exact hkn)
        have HK0 : Hid (0 < q.n) := Lib.hid (by rw [← HAL.out]; exact hk0)
        obtain ⟨y, hy⟩ : ∃ y, x.r[k]? = some y := ⟨_, List.getElem?_eq_getElem hkn⟩
        have HY := Lib.hid hy
        have HYO := Lib.hid (HQ.out.r.ok y (List.mem_of_getElem? hy))
        have HF0 := Lib.hid (getD_first14 hk0 hk1)
        obtain ⟨ia, hia, _, _⟩ := HQ.out.i.aSees.cell 0 _ HF0.out
        have HIA := Lib.hid hia
        have HC5 : Hid (∀ V : World, Below w.heap.size w V → V.cell? ia = some (.int .u8 k)) := Lib.hid fun V hb => by
          obtain ⟨a, e, _, hc⟩ := (HQ.out.below hb).i.aSees.cell 0 _ HF0.out
          rw [HIA.out] at e
          cases e
          rwa [add0_14] at hc
        have hk256 : (k : Int) < 256 := by
          have h1 : k < x.r.length := hkn
          have hz := List.getElem_mem hk0
          have := (HQ.out.i.ab _ hz).2
          have e : x.acc.getD 0 0 = x.acc[0] := by rw [List.getD_eq_getElem?_getD, List.getElem?_eq_getElem hk0]; rfl
          rw [e] at hk1
          omega
        have hq0 : (0 : Int) < q.n := by have := HK0.out; omega
        have hq02 : 0 < q.n := HK0.out
        have hqz : ((q.n : Int) == 0) = false := by have := HK0.out; simp; omega
        have hkr : ¬ (q.rn : Int) ≤ k := by have := HKN.out; omega
        have hkr2 : ¬ q.rn ≤ k := by have := HKN.out; omega
        have hk1' : (k : Int) < q.rn := by have := HKN.out; omega
        have hk2' : k < q.rn := HKN.out
        clear hrole hk1 hkn hk0 hy hia
        have d1 := asked_1 PP.out.r
        have d3 := asked_3 PP.out.r
        rw [HIA.out] at d3
        have c5 := HC5.out _ PP.out.b
        go_upto_region 17 with fail
        go_quiet (fail)
        have PQ := Lib.hid (PP.out.below ⟨rfl, rfl, rfl, Nat.le_refl _, fun _ _ => rfl⟩ : RS14 w (w12.drewN nq) _ _ _ _ _ _ _ _ _ _ _ _ _ _)
        clear d1 d3 c5
        generalize w12.drewN nq = w13 at *
        clear PP
        have d1 := asked_1 PQ.out.r
        have d3 := asked_3 PQ.out.r
        rw [HIA.out] at d3
        have c5 := HC5.out _ PQ.out.b
        go_upto_region 20 with fail
        clear d3 c5
        have HRS := Lib.hid (HQ.out.below PQ.out.b).r.sees14
        go_upto_region 21 with (first
          | ((with_reducible show wpList _ _ _ ({ dst := some 137, op := _, type := _, pos := _, after := _, guard := _ } :: _) _ _); go_must (refine wpList_appendN rfl (.const (.slice none 0 0)) (.tmp 136) 23 50 _ 34 34 rfl Try.underlying23 infoRole14 zszRole14 (by omega) (.slice none 0 0) 0 [] w13.heap.size w.heap.size q.RA q.rn q.rc (rolC x.r) rfl (own_nilN _ _ _ _) ?_ HRS.out (rolC_one _) (by have := HS.out; unfold maxLen; omega) (by have := HS.out; omega) (Nat.le_refl _) ?_; go_simp; intro v4 w14 ho4 hg4)))
        clear d1 HRS
        rw [Nat.zero_add, List.nil_append] at ho4
        obtain ⟨gr, cap, rest, rfl, hRo, hgr, hcap⟩ := own_ro14 ho4 HRL.out (by omega) HQ.out.r.ok HY.out
        have HB14 := Lib.hid (hg4.below (own_nilN w13 w13.heap.size 50 34) (Nat.le_refl _))
        have RO := Lib.hid hRo
        have HGR := Lib.hid hgr
        have HCP := Lib.hid hcap
        clear ho4 hg4 hRo hgr hcap
        have HSZ := Lib.hid PQ.out.b.size
        have cs := RO.out.sg
        have fs := RO.out.fz (k * 34 + 32)
        go_upto_region 22 with fail
        have RO1 := Lib.hid (RO.out.set (j := 32) (u := .bool false) (z := ⟨y.key, false, y.wr⟩) HYO.out (by decide) (role_setS HYO.out.1 false))
        have HB15 := Lib.hid (HB14.out.trans ((turned_setCell w14 ⟨gr, k * 34 + 32, none⟩ (.bool false)).below HGR.out))
        clear cs fs RO HB14
        generalize w14.setCell ⟨gr, k * 34 + 32, none⟩ (.bool false) = w15 at *
        have HV := Lib.hid (PQ.out.b.trans (HB15.out.mono HSZ.out))
        have PV := Lib.hid (PQ.out.below HB15.out)
        have HQV := Lib.hid (HQ.out.below HV.out)
        have HSI : Hid (InsAt14 w15 w15.heap.size x.p q.IA q.n q.c q.D q.dn q.dc x.acc x.dat) := Lib.hid ⟨HQV.out.i.aSees.more HV.out.size, HQV.out.i.dSees.more HV.out.size, HQV.out.i.ab, HQV.out.i.db, HQV.out.i.ac, HQV.out.i.dc⟩
        have HDR := Lib.hid (sysDo14 x.l (x.r.set k ⟨y.key, false, y.wr⟩) x.p q.IA q.n q.c q.D q.dn q.dc x.acc x.dat q.LA q.ln q.lc (some ⟨gr, 0, none⟩) q.rn cap w15.heap.size w15 (HQV.out.l.more HV.out.size) HQ.out.lc.1 RO1.out.in_ HSI.out (Nat.le_refl _) (by have := HS.out; omega) (by have := HS.out; omega) (by have := HS.out; omega))
        have HER : Hid ((do14 x.l (x.r.set k ⟨y.key, false, y.wr⟩) x.acc x.dat).e = 14) := Lib.hid ((HRO.out ⟨y.key, false, y.wr⟩ (by rw [chk_nosign y.key y.wr]; decide)).trans (chk_nosign y.key y.wr))
        generalize do14 x.l (x.r.set k ⟨y.key, false, y.wr⟩) x.acc x.dat = R3 at *
        have d0 := asked_0 PV.out.r
        go_wp2_with (first
          | ((with_reducible show wpList _ _ _ ({ dst := some 147, op := Op.load _ _, type := _, pos := _, after := _, guard := _ } :: _) _ _); go_must (refine wpList_load_at rfl 26 (.tmp 146) rfl ⟨gq, 2, none⟩ (q.ins x) _ Try.underlying26 rfl (size_ins14 _ _ _ _ _ _ _) (asked_i PV.out.r) ?_ ?_; go_simp)))
        refine HDR.out.mono ?_
        rintro e w16 ⟨vR, rfl, hoR, hbR⟩
        rw [HER.out]
        clear hoR d0 HDR HSI HQV PV HV HER
        have RO2 := Lib.hid (RO1.out.below hbR)
        have HB16 := Lib.hid (HB15.out.trans (hbR.mono HB15.out.size))
        clear hbR RO1 HB15
        have cs := RO2.out.sg
        have fs := RO2.out.fz (k * 34 + 32)
        go_upto_region 24 with fail
        have RO3 := Lib.hid (RO2.out.set (j := 32) (u := .bool true) (z := ⟨y.key, true, y.wr⟩) HYO.out (by decide) (role_setS (y := ⟨y.key, false, y.wr⟩) HYO.out.1 true))
        have HB17 := Lib.hid (HB16.out.trans ((turned_setCell w16 ⟨gr, k * 34 + 32, none⟩ (.bool true)).below HGR.out))
        clear cs fs RO2 HB16
        generalize w16.setCell ⟨gr, k * 34 + 32, none⟩ (.bool true) = w17 at *
        have cw := RO3.out.wr
        have fw := RO3.out.fz (k * 34 + 33)
        go_upto_region 25 with fail
        have RO4 := Lib.hid (RO3.out.set (j := 33) (u := .bool false) (z := ⟨y.key, true, false⟩) HYO.out (by decide) (role_setW (y := ⟨y.key, true, y.wr⟩) HYO.out.1 false))
        have HB18 := Lib.hid (HB17.out.trans ((turned_setCell w17 ⟨gr, k * 34 + 33, none⟩ (.bool false)).below HGR.out))
        clear cw fw RO3 HB17
        generalize w17.setCell ⟨gr, k * 34 + 33, none⟩ (.bool false) = w18 at *
        rw [List.set_set, List.set_set] at RO4
        have HV := Lib.hid (PQ.out.b.trans (HB18.out.mono HSZ.out))
        have PV := Lib.hid (PQ.out.below HB18.out)
        have HQV := Lib.hid (HQ.out.below HV.out)
        have HSI : Hid (InsAt14 w18 w18.heap.size x.p q.IA q.n q.c q.D q.dn q.dc x.acc x.dat) := Lib.hid ⟨HQV.out.i.aSees.more HV.out.size, HQV.out.i.dSees.more HV.out.size, HQV.out.i.ab, HQV.out.i.db, HQV.out.i.ac, HQV.out.i.dc⟩
        have HDR := Lib.hid (sysDo14 x.l (x.r.set k ⟨y.key, true, false⟩) x.p q.IA q.n q.c q.D q.dn q.dc x.acc x.dat q.LA q.ln q.lc (some ⟨gr, 0, none⟩) q.rn cap w18.heap.size w18 (HQV.out.l.more HV.out.size) HQ.out.lc.1 RO4.out.in_ HSI.out (Nat.le_refl _) (by have := HS.out; omega) (by have := HS.out; omega) (by have := HS.out; omega))
        have HER : Hid ((do14 x.l (x.r.set k ⟨y.key, true, false⟩) x.acc x.dat).e = 15) := Lib.hid ((HRO.out ⟨y.key, true, false⟩ (by rw [chk_nowrite y.key]; decide)).trans (chk_nowrite y.key))
        generalize do14 x.l (x.r.set k ⟨y.key, true, false⟩) x.acc x.dat = R4 at *
        have d0 := asked_0 PV.out.r
        go_wp2_with (first
          | ((with_reducible show wpList _ _ _ ({ dst := some 165, op := Op.load _ _, type := _, pos := _, after := _, guard := _ } :: _) _ _); go_must (refine wpList_load_at rfl 26 (.tmp 164) rfl ⟨gq, 2, none⟩ (q.ins x) _ Try.underlying26 rfl (size_ins14 _ _ _ _ _ _ _) (asked_i PV.out.r) ?_ ?_; go_simp)))
        refine HDR.out.mono ?_
        rintro e w19 ⟨vR, rfl, hoR, hbR⟩
        rw [HER.out]
        clear hoR d0 HDR HSI HQV PV HV HER
        have HB19 := Lib.hid (HB18.out.trans (hbR.mono HB18.out.size))
        have BF := Lib.hid (PQ.out.b.trans (HB19.out.mono HSZ.out))
        clear hbR
        go_wp2_with fail
        refine (lives14_ _).mono ?_
        rintro e w20 ⟨rfl, hb20⟩
        have B20 := Lib.hid (BF.out.trans (hb20.mono BF.out.size))
        clear hb20
        go_wp2_with fail
        go_ret
        exact ⟨rfl, B20.out⟩
end Go.Proofs.Ytodoaebpkmhhmaa
