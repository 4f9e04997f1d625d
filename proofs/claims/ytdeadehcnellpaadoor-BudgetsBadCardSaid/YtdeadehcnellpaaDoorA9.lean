/-
  Parts joined: Others8.
-/
import Derived.Below
import Derived.Laws.OwnMore
import Derived.Deep.AppendLies
import Derived.Deep.Draws
import Derived.Lib.Hide
import Derived.Laws.MakeOwn
import Derived.Laws.CopyOwn
import Derived.Laws.Rows
import Derived.Maps.AppendAt
import Derived.OwnWalk
import Derived.Laws.BitsAllLaws
import Derived.WalkKit
import Derived.Test.YtdeadehcnellpaaDoorRows
import Derived.WalkSpells
import Derived.WalkLawsBesides
import Derived.IntWalk
import Derived.Deep.MidRow
import Derived.Deep.WholeRow
import Derived.Great.BuildSlice
import Derived.Recover
import Derived.Deep.RegionHeld
import Derived.Deep.QuietTactic
import Derived.BigQuiet
import Derived.ChangeKeysEq
import Derived.Deep.RegionHeld2
import Derived.Deep.CutBlock
import Derived.Laws.Tables
import Derived.ProofKit
import Derived.OpenShut
import Derived.ShutString
import Derived.ChangeOld
import Derived.Lib.SmallJoins
import Derived.Deep.Slices
import Derived.Deep.Strs
import Derived.SizedLaws
import Derived.Laws.StructEq
import Derived.Deep.DeepCutAuto
import Derived.Laws.Slices
import Derived.Laws.EntriesVeiled
import Derived.Deep.RegionHeld3
import Derived.Maps.OwnSet
import Derived.DeepKeys4
import Derived.WideKeyArr
import Derived.WideKeyEntry
import Derived.Shelf.SlMaps.Clone
import Derived.LaidMore
import Derived.Laws.Append
import Derived.Laws.AppendOwn
import Derived.Test.YtdeadehcnellpaaDoorA1
import Derived.Test.YtdeadehcnellpaaDoorA2
import Derived.Test.YtdeadehcnellpaaDoorA3
import Derived.Test.YtdeadehcnellpaaDoorA4
import Derived.Test.YtdeadehcnellpaaDoorA5
import Derived.Test.YtdeadehcnellpaaDoorA6
import Derived.Test.YtdeadehcnellpaaDoorA7
import Derived.Test.YtdeadehcnellpaaDoorA8
/-
  Of part Others8: what is needed here.
-/
namespace Go.Proofs.YtdeadehcnellpaaDoor
open Go.RowKit
set_option linter.unusedVariables false
/-- what the law holds on to -/
structure OCtx (w V : World) (q : Raw) (m : LMsg) (MC : List Value) (y : LIn) (va vd : Value) (IC : List Value) : Prop where
  msg : Row V w.heap.size 30 MC
  ins : Row V (w.heap.size + 1) 45 IC
  m : MsgIn V w.heap.size q m
  a : BytesIn V w.heap.size va y.acc
  d : BytesIn V w.heap.size vd y.dat
  b : Below w.heap.size w V
section
variable {w V V' : World} {q : Raw} {m : LMsg} {MC IC : List Value} {y : LIn} {va vd : Value}
theorem OCtx.low {B : Nat} (h : OCtx w V q m MC y va vd IC) (hb : Below B V V') (hB : w.heap.size + 2 ≤ B) : OCtx w V' q m MC y va vd IC :=
  ⟨h.msg.below hb (by omega), h.ins.below hb (by omega), h.m.below (hb.mono (by omega)), h.a.below (hb.mono (by omega)), h.d.below (hb.mono (by omega)), h.b.trans (hb.mono (by omega))⟩
theorem OCtx.size (h : OCtx w V q m MC y va vd IC) : w.heap.size + 2 ≤ V.heap.size := h.ins.lt
theorem OCtx.below (h : OCtx w V q m MC y va vd IC) (hb : Below V.heap.size V V') : OCtx w V' q m MC y va vd IC := h.low hb h.size
theorem OCtx.drew (h : OCtx w V q m MC y va vd IC) : OCtx w V.drew q m MC y va vd IC := h.below (Below.refl _ _).drew
end
set_option maxRecDepth 100000 in
set_option maxHeartbeats 8000000 in
theorem others_walk (q : Raw) (m : LMsg) (y : LIn) (va vd : Value) (w : World) (hm : MsgIn w w.heap.size q m) (hs : Sized m) (hwf : m.Wf) (ha : BytesIn w w.heap.size va y.acc) (hd : BytesIn w w.heap.size vd y.dat) (hy : IsByte y.p ∧ AllBytes y.acc ∧ AllBytes y.dat) (hl : LenAt w) :
    Calls Tryd.prog 6 #[.agg (q.cells m).toArray, .agg (inCells y.p va vd).toArray] w fun e w' => e = .returned (.bool true) ∧ Below w.heap.size w w' := by
  have hb0 := ((Below.refl w.heap.size w).alloc (Nat.le_refl _) (.cells (q.cells m).toArray 30)).alloc (by simp) (.cells (inCells y.p va vd).toArray 45)
  have hc0 : OCtx w ((w.alloc (.cells (q.cells m).toArray 30)).alloc (.cells (inCells y.p va vd).toArray 45)) q m (q.cells m) y va vd (inCells y.p va vd) :=
    ⟨(Row.new w 30 (q.cells m)).alloc _, Row.new' _ 45 (inCells y.p va vd) (by simp), hm.below hb0, ha.below hb0, hd.below hb0, hb0⟩
  have HG := Lib.hid (fun (V : World) (h : MsgIn V w.heap.size q m) (hb : w.heap.size ≤ V.heap.size) => great_ q m w.heap.size V h hb hs)
  have HTS := Lib.hid (show (Tryd.prog.info? 30).map (·.size) = some (q.cells m).length by rw [size_msg, cells_len hm.recent])
  have HTO := Lib.hid (cells_one (q := q) (m := m))
  have HTL := Lib.hid (cells_len (q := q) (m := m) hm.recent)
  have HIS := Lib.hid (size_in y.p va vd)
  have HIO := Lib.hid (inCells_one (p := y.p) ha hd)
  have HI3 : Hid ((inCells y.p va vd).length = 3) := Lib.hid rfl
  have HI0 : Hid ((inCells y.p va vd)[0]? = some (.int .u8 y.p)) := Lib.hid rfl
  have HC4 : Hid ((q.cells m)[4]? = some (.slice q.KA q.kn q.kc)) := Lib.hid rfl
  have H37 := Lib.hid (fun (V : World) (g : Nat) (h : Row V g 30 (q.cells m)) => msg_c37 h hm.recent)
  have HSET := Lib.hid (fun A n c => cells_insM q m hm.recent A n c (m.ins ++ [y]))
  have HINM := Lib.hid (fun (V : World) (A : Option Addr) (n c : Nat) (h : MsgIn V V.heap.size q m) (hs : InsIn V V.heap.size A n (m.ins ++ [y])) (hc : n ≤ c ∧ c ≤ maxLen) => in_insM h hs hc)
  have HSNOC := Lib.hid (fun (V : World) (B : Nat) (news : List Value) (h : InsCells V B m.ins news) (h1 : BytesIn V B va y.acc) (h2 : BytesIn V B vd y.dat) => InsCells.snoc h hy.1 h1 h2)
  have HIB := Lib.hid (fun i (hi : i ∈ m.ins) => And.intro (hwf.ins i hi).1 (hwf.ins i hi).2.2)
  have HIB2 : Hid (∀ i ∈ m.ins ++ [y], IsByte i.p ∧ AllBytes i.dat) := Lib.hid fun i hi => by
    rcases List.mem_append.1 hi with hi | hi
    · exact ⟨(hwf.ins i hi).1, (hwf.ins i hi).2.2⟩
    · rw [List.mem_singleton.1 hi]; exact ⟨hy.1, hy.2.2⟩
  have HPZ := Lib.hid (price_in (run8_ok (keys := m.keys) (ins_bytes HIB.out) m.ins.length (Nat.le_refl _)))
  have HUZ := Lib.hid (units8_pos (run8_ok (keys := m.keys) (ins_bytes HIB.out) m.ins.length (Nat.le_refl _)))
  have HL := Lib.hid hl
  have HP := Lib.hid hl.pos
  have li := hm.ins.len
  have lk := hm.keys.len
  obtain ⟨p0, p1⟩ := hy.1
  obtain ⟨pq, hpq⟩ := Int.eq_ofNat_of_zero_le p0
  have HPQ := Lib.hid hpq
  have HKR := Lib.hid hm.recent
  obtain ⟨KA, kn, kc, IA, n, ic, LA, ln, lc⟩ := q
  dsimp only at *
  have HKN := Lib.hid hm.kn
  have HLI := Lib.hid li
  have HLK := Lib.hid lk
  have HC0 := Lib.hid hc0
  clear hb0 hm hs hwf ha hd hy hl li lk hc0
  rw [hpq] at p1
  generalize hMC : Raw.cells ⟨KA, kn, kc, IA, n, ic, LA, ln, lc⟩ m = MC at *
  generalize hIC : inCells y.p va vd = IC at *
  have HMC := Lib.hid hMC
  have HIC := Lib.hid hIC
  clear hMC hIC p0 hpq
  have hwq : IntKind.i64.wrap (pq : Int) = (pq : Int) := IntWalk.i64_in _ (by omega)
  go_enter Tryd.func6, Tryd.ntmps6
  go_upto_region 1 with fail
  obtain ⟨W, hW⟩ : ∃ W, W = (w.alloc (.cells MC.toArray 30)).alloc (.cells IC.toArray 45) := ⟨_, rfl⟩
  rw [← hW] at HC0 ⊢
  clear hW
  try simp only [Act.put]
  go_cut [28] (fun s28 wx => ∃ b : Bool, s28 = .bool b ∧ (b = false → total m < 3000 ∧ isW m.keys y.p = false) ∧ OCtx w wx ⟨KA, kn, kc, IA, n, ic, LA, ln, lc⟩ m MC y va vd IC)
  case first =>
    refine wp_region_held_drew (S := (fun V => Below W.heap.size W V)) (by kernel_rfl) (Below.refl W.heap.size W).drew (fun _ => ?_)
    have HMS : Hid (w.heap.size + 2 ≤ W.heap.size) := Lib.hid HC0.out.size
    have HM4 : Hid (W.cell? ⟨w.heap.size, 4, none⟩ = some (.slice KA kn kc)) := Lib.hid ((HC0.out.msg.cell 4).trans HC4.out)
    have HY0 : Hid (W.cell? ⟨w.heap.size + 1, 0, none⟩ = some (.int .u8 (pq : Int))) := Lib.hid ((HC0.out.ins.cell 0).trans (by rw [HI0.out, HPQ.out]))
    rcases Nat.lt_or_ge pq kn with hq | hq
    · obtain ⟨a, z, ha, hab, hx, hat⟩ := HC0.out.m.keys.get hq
      dsimp only at ha
      subst ha
      have HAB : Hid (a.block < W.heap.size) := Lib.hid (by have := HMS.out; omega)
      have HCA := Lib.hid hat.cells
      have HSY := Lib.hid (show (Tryd.prog.info? 48).map (·.size) = some (bv z).length by rw [size_key, bv_length, hat.len])
      have N3 := fun w => key_eql hat.len k3_len w
      have HK := Lib.hid (isW_at hx)
      have hlt : decide ((pq : Int) < (kn : Int)) = true := decide_eq_true (by omega)
      clear hat hx hab
      cases hyy : decide (z = k3) with
      | true =>
        rw [hyy] at N3
        clear hyy HK
        refine takeL (i := 0) (v := .agg MC.toArray) rfl (by kernel_rfl) (by kernel_rfl) (by kernel_rfl) (fun _ _ _ h => h) (Or.inl ⟨by rfl, fun wz hwz => exec_load_at wz 30 (.tmp 2) rfl ⟨w.heap.size, 0, none⟩ MC _ Tryd.underlying30 rfl HTS.out (fun j u hu => (hwz.cell (by rw [addr_row]; show w.heap.size < W.heap.size; have := HMS.out; omega)).trans (by rw [addr_row, Nat.zero_add]; exact (HC0.out.msg.cell j).trans hu)) (by go_simp)⟩) (Below.refl W.heap.size W).drew ?_
        try simp only [Act.put, List.setIfInBounds_toArray, List.set_cons_zero, List.set_cons_succ]
        refine readyL (i := 1) rfl (by kernel_rfl) (by kernel_rfl) fun K hK => ?_
        go_simp
        refine (HG.out W.drew HC0.out.drew.m (by show w.heap.size ≤ W.heap.size; have := HMS.out; omega)).mono ?_
        rintro e w1 ⟨⟨gb, rfl, hgr⟩, hb1⟩
        have B1 := Lib.hid (show Below W.heap.size W w1 from ((Below.refl W.heap.size W).drew).trans hb1)
        have HGR := Lib.hid hgr
        clear hb1 hgr
        refine hK.out _ _ B1.out ?_
        clear hK K
        try simp only [Act.put, List.setIfInBounds_toArray, List.set_cons_zero, List.set_cons_succ]
        cases gb with
        | true =>
          refine takeL (i := 2) (v := ?_) rfl (by kernel_rfl) (by kernel_rfl) (by kernel_rfl) (fun _ _ _ h => h) (Or.inl ⟨by rfl, ?_⟩) B1.out ?_
          rotate_left
          · intro wy hw
            try dsimp only at hw
            have q0 := (hw.cell (p := ⟨w.heap.size, 4, none⟩) (by show w.heap.size < W.heap.size; have := HMS.out; omega)).trans HM4.out
            have q1 := (hw.cell (p := ⟨w.heap.size + 1, 0, none⟩) (by show w.heap.size + 1 < W.heap.size; have := HMS.out; omega)).trans HY0.out
            go_simp
            try with_reducible rfl
          try simp only [Act.put, List.setIfInBounds_toArray, List.set_cons_zero, List.set_cons_succ]
          refine takeL (i := 3) (v := undef) rfl (by kernel_rfl) (by kernel_rfl) (by kernel_rfl) (fun _ _ _ h => h) (Or.inr ⟨by rfl, rfl⟩) B1.out ?_
          try simp only [Act.put, List.setIfInBounds_toArray, List.set_cons_zero, List.set_cons_succ]
          refine takeL (i := 4) (v := undef) rfl (by kernel_rfl) (by kernel_rfl) (by kernel_rfl) (fun _ _ _ h => h) (Or.inr ⟨by rfl, rfl⟩) B1.out ?_
          try simp only [Act.put, List.setIfInBounds_toArray, List.set_cons_zero, List.set_cons_succ]
          refine takeL (i := 5) (v := undef) rfl (by kernel_rfl) (by kernel_rfl) (by kernel_rfl) (fun _ _ _ h => h) (Or.inr ⟨by rfl, rfl⟩) B1.out ?_
          try simp only [Act.put, List.setIfInBounds_toArray, List.set_cons_zero, List.set_cons_succ]
          refine takeL (i := 6) (v := undef) rfl (by kernel_rfl) (by kernel_rfl) (by kernel_rfl) (fun _ _ _ h => h) (Or.inr ⟨by rfl, rfl⟩) B1.out ?_
          try simp only [Act.put, List.setIfInBounds_toArray, List.set_cons_zero, List.set_cons_succ]
          refine takeL (i := 7) (v := undef) rfl (by kernel_rfl) (by kernel_rfl) (by kernel_rfl) (fun _ _ _ h => h) (Or.inr ⟨by rfl, rfl⟩) B1.out ?_
          try simp only [Act.put, List.setIfInBounds_toArray, List.set_cons_zero, List.set_cons_succ]
          refine takeL (i := 8) (v := undef) rfl (by kernel_rfl) (by kernel_rfl) (by kernel_rfl) (fun _ _ _ h => h) (Or.inr ⟨by rfl, rfl⟩) B1.out ?_
          try simp only [Act.put, List.setIfInBounds_toArray, List.set_cons_zero, List.set_cons_succ]
          refine takeL (i := 9) (v := undef) rfl (by kernel_rfl) (by kernel_rfl) (by kernel_rfl) (fun _ _ _ h => h) (Or.inr ⟨by rfl, rfl⟩) B1.out ?_
          try simp only [Act.put, List.setIfInBounds_toArray, List.set_cons_zero, List.set_cons_succ]
          refine takeL (i := 10) (v := undef) rfl (by kernel_rfl) (by kernel_rfl) (by kernel_rfl) (fun _ _ _ h => h) (Or.inr ⟨by rfl, rfl⟩) B1.out ?_
          try simp only [Act.put, List.setIfInBounds_toArray, List.set_cons_zero, List.set_cons_succ]
          refine takeL (i := 11) (v := undef) rfl (by kernel_rfl) (by kernel_rfl) (by kernel_rfl) (fun _ _ _ h => h) (Or.inr ⟨by rfl, rfl⟩) B1.out ?_
          try simp only [Act.put, List.setIfInBounds_toArray, List.set_cons_zero, List.set_cons_succ]
          refine takeL (i := 12) (v := undef) rfl (by kernel_rfl) (by kernel_rfl) (by kernel_rfl) (fun _ _ _ h => h) (Or.inr ⟨by rfl, rfl⟩) B1.out ?_
          try simp only [Act.put, List.setIfInBounds_toArray, List.set_cons_zero, List.set_cons_succ]
          refine takeL (i := 13) (v := undef) rfl (by kernel_rfl) (by kernel_rfl) (by kernel_rfl) (fun _ _ _ h => h) (Or.inr ⟨by rfl, rfl⟩) B1.out ?_
          try simp only [Act.put, List.setIfInBounds_toArray, List.set_cons_zero, List.set_cons_succ]
          refine takeL (i := 14) (v := undef) rfl (by kernel_rfl) (by kernel_rfl) (by kernel_rfl) (fun _ _ _ h => h) (Or.inr ⟨by rfl, rfl⟩) B1.out ?_
          try simp only [Act.put, List.setIfInBounds_toArray, List.set_cons_zero, List.set_cons_succ]
          refine takeL (i := 15) (v := undef) rfl (by kernel_rfl) (by kernel_rfl) (by kernel_rfl) (fun _ _ _ h => h) (Or.inr ⟨by rfl, rfl⟩) B1.out ?_
          try simp only [Act.put, List.setIfInBounds_toArray, List.set_cons_zero, List.set_cons_succ]
          refine takeL (i := 16) (v := undef) rfl (by kernel_rfl) (by kernel_rfl) (by kernel_rfl) (fun _ _ _ h => h) (Or.inr ⟨by rfl, rfl⟩) B1.out ?_
          try simp only [Act.put, List.setIfInBounds_toArray, List.set_cons_zero, List.set_cons_succ]
          refine takeL (i := 17) (v := undef) rfl (by kernel_rfl) (by kernel_rfl) (by kernel_rfl) (fun _ _ _ h => h) (Or.inr ⟨by rfl, rfl⟩) B1.out ?_
          try simp only [Act.put, List.setIfInBounds_toArray, List.set_cons_zero, List.set_cons_succ]
          refine takeL (i := 18) (v := undef) rfl (by kernel_rfl) (by kernel_rfl) (by kernel_rfl) (fun _ _ _ h => h) (Or.inr ⟨by rfl, rfl⟩) B1.out ?_
          try simp only [Act.put, List.setIfInBounds_toArray, List.set_cons_zero, List.set_cons_succ]
          refine takeL (i := 19) (v := undef) rfl (by kernel_rfl) (by kernel_rfl) (by kernel_rfl) (fun _ _ _ h => h) (Or.inr ⟨by rfl, rfl⟩) B1.out ?_
          try simp only [Act.put, List.setIfInBounds_toArray, List.set_cons_zero, List.set_cons_succ]
          refine takeL (i := 20) (v := ?_) rfl (by kernel_rfl) (by kernel_rfl) (by kernel_rfl) (fun _ _ _ h => h) (Or.inl ⟨by rfl, ?_⟩) B1.out ?_
          rotate_left
          · intro wy hw
            try dsimp only at hw
            have q0 := (hw.cell (p := ⟨w.heap.size, 4, none⟩) (by show w.heap.size < W.heap.size; have := HMS.out; omega)).trans HM4.out
            have q1 := (hw.cell (p := ⟨w.heap.size + 1, 0, none⟩) (by show w.heap.size + 1 < W.heap.size; have := HMS.out; omega)).trans HY0.out
            go_simp
            try with_reducible rfl
          try simp only [Act.put, List.setIfInBounds_toArray, List.set_cons_zero, List.set_cons_succ]
          refine wpAnyH_done (by kernel_rfl) ?_ _
          go_wp2_with fail
          go_meet
          exact ⟨true, rfl, (fun h => by cases h), HC0.out.below B1.out⟩
        | false =>
          have HT : Hid (total m < 3000) := Lib.hid (HGR.out rfl)
          refine takeL (i := 2) (v := ?_) rfl (by kernel_rfl) (by kernel_rfl) (by kernel_rfl) (fun _ _ _ h => h) (Or.inl ⟨by rfl, ?_⟩) B1.out ?_
          rotate_left
          · intro wy hw
            try dsimp only at hw
            have q0 := (hw.cell (p := ⟨w.heap.size, 4, none⟩) (by show w.heap.size < W.heap.size; have := HMS.out; omega)).trans HM4.out
            have q1 := (hw.cell (p := ⟨w.heap.size + 1, 0, none⟩) (by show w.heap.size + 1 < W.heap.size; have := HMS.out; omega)).trans HY0.out
            go_simp
            try with_reducible rfl
          try simp only [Act.put, List.setIfInBounds_toArray, List.set_cons_zero, List.set_cons_succ]
          refine takeL (i := 3) (v := ?_) rfl (by kernel_rfl) (by kernel_rfl) (by kernel_rfl) (fun _ _ _ h => h) (Or.inl ⟨by rfl, ?_⟩) B1.out ?_
          rotate_left
          · intro wy hw
            try dsimp only at hw
            have q0 := (hw.cell (p := ⟨w.heap.size, 4, none⟩) (by show w.heap.size < W.heap.size; have := HMS.out; omega)).trans HM4.out
            have q1 := (hw.cell (p := ⟨w.heap.size + 1, 0, none⟩) (by show w.heap.size + 1 < W.heap.size; have := HMS.out; omega)).trans HY0.out
            go_simp
            try with_reducible rfl
          try simp only [Act.put, List.setIfInBounds_toArray, List.set_cons_zero, List.set_cons_succ]
          refine takeL (i := 4) (v := ?_) rfl (by kernel_rfl) (by kernel_rfl) (by kernel_rfl) (fun _ _ _ h => h) (Or.inl ⟨by rfl, ?_⟩) B1.out ?_
          rotate_left
          · intro wy hw
            try dsimp only at hw
            have q0 := (hw.cell (p := ⟨w.heap.size, 4, none⟩) (by show w.heap.size < W.heap.size; have := HMS.out; omega)).trans HM4.out
            have q1 := (hw.cell (p := ⟨w.heap.size + 1, 0, none⟩) (by show w.heap.size + 1 < W.heap.size; have := HMS.out; omega)).trans HY0.out
            go_simp
            try with_reducible rfl
          try simp only [Act.put, List.setIfInBounds_toArray, List.set_cons_zero, List.set_cons_succ]
          refine takeL (i := 5) (v := ?_) rfl (by kernel_rfl) (by kernel_rfl) (by kernel_rfl) (fun _ _ _ h => h) (Or.inl ⟨by rfl, ?_⟩) B1.out ?_
          rotate_left
          · intro wy hw
            try dsimp only at hw
            have q0 := (hw.cell (p := ⟨w.heap.size, 4, none⟩) (by show w.heap.size < W.heap.size; have := HMS.out; omega)).trans HM4.out
            have q1 := (hw.cell (p := ⟨w.heap.size + 1, 0, none⟩) (by show w.heap.size + 1 < W.heap.size; have := HMS.out; omega)).trans HY0.out
            go_simp
            try with_reducible rfl
          try simp only [Act.put, List.setIfInBounds_toArray, List.set_cons_zero, List.set_cons_succ]
          refine takeL (i := 6) (v := ?_) rfl (by kernel_rfl) (by kernel_rfl) (by kernel_rfl) (fun _ _ _ h => h) (Or.inl ⟨by rfl, ?_⟩) B1.out ?_
          rotate_left
          · intro wy hw
            try dsimp only at hw
            have q0 := (hw.cell (p := ⟨w.heap.size, 4, none⟩) (by show w.heap.size < W.heap.size; have := HMS.out; omega)).trans HM4.out
            have q1 := (hw.cell (p := ⟨w.heap.size + 1, 0, none⟩) (by show w.heap.size + 1 < W.heap.size; have := HMS.out; omega)).trans HY0.out
            go_simp
            try with_reducible rfl
          try simp only [Act.put, List.setIfInBounds_toArray, List.set_cons_zero, List.set_cons_succ]
          refine takeL (i := 7) (v := ?_) rfl (by kernel_rfl) (by kernel_rfl) (by kernel_rfl) (fun _ _ _ h => h) (Or.inl ⟨by rfl, ?_⟩) B1.out ?_
          rotate_left
          · intro wy hw
            try dsimp only at hw
            have q0 := (hw.cell (p := ⟨w.heap.size, 4, none⟩) (by show w.heap.size < W.heap.size; have := HMS.out; omega)).trans HM4.out
            have q1 := (hw.cell (p := ⟨w.heap.size + 1, 0, none⟩) (by show w.heap.size + 1 < W.heap.size; have := HMS.out; omega)).trans HY0.out
            go_simp
            try with_reducible rfl
          try simp only [Act.put, List.setIfInBounds_toArray, List.set_cons_zero, List.set_cons_succ]
          refine takeL (i := 8) (v := ?_) rfl (by kernel_rfl) (by kernel_rfl) (by kernel_rfl) (fun _ _ _ h => h) (Or.inl ⟨by rfl, ?_⟩) B1.out ?_
          rotate_left
          · intro wy hw
            try dsimp only at hw
            have q0 := (hw.cell (p := ⟨w.heap.size, 4, none⟩) (by show w.heap.size < W.heap.size; have := HMS.out; omega)).trans HM4.out
            have q1 := (hw.cell (p := ⟨w.heap.size + 1, 0, none⟩) (by show w.heap.size + 1 < W.heap.size; have := HMS.out; omega)).trans HY0.out
            go_simp
            try with_reducible rfl
          try simp only [Act.put, List.setIfInBounds_toArray, List.set_cons_zero, List.set_cons_succ]
          refine takeL (i := 9) (v := ?_) rfl (by kernel_rfl) (by kernel_rfl) (by kernel_rfl) (fun _ _ _ h => h) (Or.inl ⟨by rfl, ?_⟩) B1.out ?_
          rotate_left
          · intro wy hw
            try dsimp only at hw
            have q0 := (hw.cell (p := ⟨w.heap.size, 4, none⟩) (by show w.heap.size < W.heap.size; have := HMS.out; omega)).trans HM4.out
            have q1 := (hw.cell (p := ⟨w.heap.size + 1, 0, none⟩) (by show w.heap.size + 1 < W.heap.size; have := HMS.out; omega)).trans HY0.out
            go_simp
            try with_reducible rfl
          try simp only [Act.put, List.setIfInBounds_toArray, List.set_cons_zero, List.set_cons_succ]
          refine takeL (i := 10) (v := ?_) rfl (by kernel_rfl) (by kernel_rfl) (by kernel_rfl) (fun _ _ _ h => h) (Or.inl ⟨by rfl, ?_⟩) B1.out ?_
          rotate_left
          · intro wy hw
            try dsimp only at hw
            have q0 := (hw.cell (p := ⟨w.heap.size, 4, none⟩) (by show w.heap.size < W.heap.size; have := HMS.out; omega)).trans HM4.out
            have q1 := (hw.cell (p := ⟨w.heap.size + 1, 0, none⟩) (by show w.heap.size + 1 < W.heap.size; have := HMS.out; omega)).trans HY0.out
            go_simp
            try with_reducible rfl
          try simp only [Act.put, List.setIfInBounds_toArray, List.set_cons_zero, List.set_cons_succ]
          refine takeL (i := 11) (v := ?_) rfl (by kernel_rfl) (by kernel_rfl) (by kernel_rfl) (fun _ _ _ h => h) (Or.inl ⟨by rfl, ?_⟩) B1.out ?_
          rotate_left
          · intro wy hw
            try dsimp only at hw
            have q0 := (hw.cell (p := ⟨w.heap.size, 4, none⟩) (by show w.heap.size < W.heap.size; have := HMS.out; omega)).trans HM4.out
            have q1 := (hw.cell (p := ⟨w.heap.size + 1, 0, none⟩) (by show w.heap.size + 1 < W.heap.size; have := HMS.out; omega)).trans HY0.out
            go_simp
            try with_reducible rfl
          try simp only [Act.put, List.setIfInBounds_toArray, List.set_cons_zero, List.set_cons_succ]
          refine takeL (i := 12) (v := ?_) rfl (by kernel_rfl) (by kernel_rfl) (by kernel_rfl) (fun _ _ _ h => h) (Or.inl ⟨by rfl, ?_⟩) B1.out ?_
          rotate_left
          · intro wy hw
            try dsimp only at hw
            have q0 := (hw.cell (p := ⟨w.heap.size, 4, none⟩) (by show w.heap.size < W.heap.size; have := HMS.out; omega)).trans HM4.out
            have q1 := (hw.cell (p := ⟨w.heap.size + 1, 0, none⟩) (by show w.heap.size + 1 < W.heap.size; have := HMS.out; omega)).trans HY0.out
            go_simp
            try with_reducible rfl
          try simp only [Act.put, List.setIfInBounds_toArray, List.set_cons_zero, List.set_cons_succ]
          refine takeL (i := 13) (v := ?_) rfl (by kernel_rfl) (by kernel_rfl) (by kernel_rfl) (fun _ _ _ h => h) (Or.inl ⟨by rfl, ?_⟩) B1.out ?_
          rotate_left
          · intro wy hw
            try dsimp only at hw
            have q0 := (hw.cell (p := ⟨w.heap.size, 4, none⟩) (by show w.heap.size < W.heap.size; have := HMS.out; omega)).trans HM4.out
            have q1 := (hw.cell (p := ⟨w.heap.size + 1, 0, none⟩) (by show w.heap.size + 1 < W.heap.size; have := HMS.out; omega)).trans HY0.out
            go_simp
            try with_reducible rfl
          try simp only [Act.put, List.setIfInBounds_toArray, List.set_cons_zero, List.set_cons_succ]
          refine takeL (i := 14) (v := ?_) rfl (by kernel_rfl) (by kernel_rfl) (by kernel_rfl) (fun _ _ _ h => h) (Or.inl ⟨by rfl, ?_⟩) B1.out ?_
          rotate_left
          · intro wy hw
            try dsimp only at hw
            have q0 := (hw.cell (p := ⟨w.heap.size, 4, none⟩) (by show w.heap.size < W.heap.size; have := HMS.out; omega)).trans HM4.out
            have q1 := (hw.cell (p := ⟨w.heap.size + 1, 0, none⟩) (by show w.heap.size + 1 < W.heap.size; have := HMS.out; omega)).trans HY0.out
            go_simp
            try with_reducible rfl
          try simp only [Act.put, List.setIfInBounds_toArray, List.set_cons_zero, List.set_cons_succ]
          refine takeL (i := 15) (v := ?_) rfl (by kernel_rfl) (by kernel_rfl) (by kernel_rfl) (fun _ _ _ h => h) (Or.inl ⟨by rfl, ?_⟩) B1.out ?_
          rotate_left
          · intro wy hw
            try dsimp only at hw
            have q0 := (hw.cell (p := ⟨w.heap.size, 4, none⟩) (by show w.heap.size < W.heap.size; have := HMS.out; omega)).trans HM4.out
            have q1 := (hw.cell (p := ⟨w.heap.size + 1, 0, none⟩) (by show w.heap.size + 1 < W.heap.size; have := HMS.out; omega)).trans HY0.out
            go_simp
            try with_reducible rfl
          try simp only [Act.put, List.setIfInBounds_toArray, List.set_cons_zero, List.set_cons_succ]
          refine takeL (i := 16) (v := .agg (bv z).toArray) rfl (by kernel_rfl) (by kernel_rfl) (by kernel_rfl) (fun _ _ _ h => h) (Or.inl ⟨by rfl, fun wz hwz => exec_load_at wz 48 (.tmp 23) rfl (a.add (pq * 32)) (bv z) _ Tryd.underlying48 rfl HSY.out (fun j u hu => (hwz.cell (by rw [addr_block, addr_block]; exact HAB.out)).trans (HCA.out j u hu)) (by go_simp)⟩) B1.out ?_
          try simp only [Act.put, List.setIfInBounds_toArray, List.set_cons_zero, List.set_cons_succ]
          refine readyL (i := 17) rfl (by kernel_rfl) (by kernel_rfl) fun K hK => ?_
          go_simp
          refine (budget_ w1).mono ?_
          rintro e w2 ⟨rfl, hb2⟩
          have B2 := Lib.hid (B1.out.trans (hb2.mono B1.out.size))
          clear hb2
          refine hK.out _ _ B2.out ?_
          clear hK K
          try simp only [Act.put, List.setIfInBounds_toArray, List.set_cons_zero, List.set_cons_succ]
          refine takeL (i := 18) (v := ?_) rfl (by kernel_rfl) (by kernel_rfl) (by kernel_rfl) (fun _ _ _ h => h) (Or.inl ⟨by rfl, ?_⟩) B2.out ?_
          rotate_left
          · intro wy hw
            try dsimp only at hw
            have q0 := (hw.cell (p := ⟨w.heap.size, 4, none⟩) (by show w.heap.size < W.heap.size; have := HMS.out; omega)).trans HM4.out
            have q1 := (hw.cell (p := ⟨w.heap.size + 1, 0, none⟩) (by show w.heap.size + 1 < W.heap.size; have := HMS.out; omega)).trans HY0.out
            go_simp
            try with_reducible rfl
          try simp only [Act.put, List.setIfInBounds_toArray, List.set_cons_zero, List.set_cons_succ]
          refine takeL (i := 19) (v := ?_) rfl (by kernel_rfl) (by kernel_rfl) (by kernel_rfl) (fun _ _ _ h => h) (Or.inl ⟨by rfl, ?_⟩) B2.out ?_
          rotate_left
          · intro wy hw
            try dsimp only at hw
            have q0 := (hw.cell (p := ⟨w.heap.size, 4, none⟩) (by show w.heap.size < W.heap.size; have := HMS.out; omega)).trans HM4.out
            have q1 := (hw.cell (p := ⟨w.heap.size + 1, 0, none⟩) (by show w.heap.size + 1 < W.heap.size; have := HMS.out; omega)).trans HY0.out
            go_simp
            try with_reducible rfl
          try simp only [Act.put, List.setIfInBounds_toArray, List.set_cons_zero, List.set_cons_succ]
          refine takeL (i := 20) (v := ?_) rfl (by kernel_rfl) (by kernel_rfl) (by kernel_rfl) (fun _ _ _ h => h) (Or.inl ⟨by rfl, ?_⟩) B2.out ?_
          rotate_left
          · intro wy hw
            try dsimp only at hw
            have q0 := (hw.cell (p := ⟨w.heap.size, 4, none⟩) (by show w.heap.size < W.heap.size; have := HMS.out; omega)).trans HM4.out
            have q1 := (hw.cell (p := ⟨w.heap.size + 1, 0, none⟩) (by show w.heap.size + 1 < W.heap.size; have := HMS.out; omega)).trans HY0.out
            go_simp
            try with_reducible rfl
          try simp only [Act.put, List.setIfInBounds_toArray, List.set_cons_zero, List.set_cons_succ]
          refine wpAnyH_done (by kernel_rfl) ?_ _
          go_wp2_with fail
          go_meet
          exact ⟨true, rfl, (fun h => by cases h), HC0.out.below B2.out⟩
      | false =>
        have HQ : Hid (isW m.keys y.p = false) := Lib.hid (by rw [HPQ.out, HK.out, hyy])
        rw [hyy] at N3
        clear hyy HK
        refine takeL (i := 0) (v := .agg MC.toArray) rfl (by kernel_rfl) (by kernel_rfl) (by kernel_rfl) (fun _ _ _ h => h) (Or.inl ⟨by rfl, fun wz hwz => exec_load_at wz 30 (.tmp 2) rfl ⟨w.heap.size, 0, none⟩ MC _ Tryd.underlying30 rfl HTS.out (fun j u hu => (hwz.cell (by rw [addr_row]; show w.heap.size < W.heap.size; have := HMS.out; omega)).trans (by rw [addr_row, Nat.zero_add]; exact (HC0.out.msg.cell j).trans hu)) (by go_simp)⟩) (Below.refl W.heap.size W).drew ?_
        try simp only [Act.put, List.setIfInBounds_toArray, List.set_cons_zero, List.set_cons_succ]
        refine readyL (i := 1) rfl (by kernel_rfl) (by kernel_rfl) fun K hK => ?_
        go_simp
        refine (HG.out W.drew HC0.out.drew.m (by show w.heap.size ≤ W.heap.size; have := HMS.out; omega)).mono ?_
        rintro e w1 ⟨⟨gb, rfl, hgr⟩, hb1⟩
        have B1 := Lib.hid (show Below W.heap.size W w1 from ((Below.refl W.heap.size W).drew).trans hb1)
        have HGR := Lib.hid hgr
        clear hb1 hgr
        refine hK.out _ _ B1.out ?_
        clear hK K
        try simp only [Act.put, List.setIfInBounds_toArray, List.set_cons_zero, List.set_cons_succ]
        cases gb with
        | true =>
          refine takeL (i := 2) (v := ?_) rfl (by kernel_rfl) (by kernel_rfl) (by kernel_rfl) (fun _ _ _ h => h) (Or.inl ⟨by rfl, ?_⟩) B1.out ?_
          rotate_left
          · intro wy hw
            try dsimp only at hw
            have q0 := (hw.cell (p := ⟨w.heap.size, 4, none⟩) (by show w.heap.size < W.heap.size; have := HMS.out; omega)).trans HM4.out
            have q1 := (hw.cell (p := ⟨w.heap.size + 1, 0, none⟩) (by show w.heap.size + 1 < W.heap.size; have := HMS.out; omega)).trans HY0.out
            go_simp
            try with_reducible rfl
          try simp only [Act.put, List.setIfInBounds_toArray, List.set_cons_zero, List.set_cons_succ]
          refine takeL (i := 3) (v := undef) rfl (by kernel_rfl) (by kernel_rfl) (by kernel_rfl) (fun _ _ _ h => h) (Or.inr ⟨by rfl, rfl⟩) B1.out ?_
          try simp only [Act.put, List.setIfInBounds_toArray, List.set_cons_zero, List.set_cons_succ]
          refine takeL (i := 4) (v := undef) rfl (by kernel_rfl) (by kernel_rfl) (by kernel_rfl) (fun _ _ _ h => h) (Or.inr ⟨by rfl, rfl⟩) B1.out ?_
          try simp only [Act.put, List.setIfInBounds_toArray, List.set_cons_zero, List.set_cons_succ]
          refine takeL (i := 5) (v := undef) rfl (by kernel_rfl) (by kernel_rfl) (by kernel_rfl) (fun _ _ _ h => h) (Or.inr ⟨by rfl, rfl⟩) B1.out ?_
          try simp only [Act.put, List.setIfInBounds_toArray, List.set_cons_zero, List.set_cons_succ]
          refine takeL (i := 6) (v := undef) rfl (by kernel_rfl) (by kernel_rfl) (by kernel_rfl) (fun _ _ _ h => h) (Or.inr ⟨by rfl, rfl⟩) B1.out ?_
          try simp only [Act.put, List.setIfInBounds_toArray, List.set_cons_zero, List.set_cons_succ]
          refine takeL (i := 7) (v := undef) rfl (by kernel_rfl) (by kernel_rfl) (by kernel_rfl) (fun _ _ _ h => h) (Or.inr ⟨by rfl, rfl⟩) B1.out ?_
          try simp only [Act.put, List.setIfInBounds_toArray, List.set_cons_zero, List.set_cons_succ]
          refine takeL (i := 8) (v := undef) rfl (by kernel_rfl) (by kernel_rfl) (by kernel_rfl) (fun _ _ _ h => h) (Or.inr ⟨by rfl, rfl⟩) B1.out ?_
          try simp only [Act.put, List.setIfInBounds_toArray, List.set_cons_zero, List.set_cons_succ]
          refine takeL (i := 9) (v := undef) rfl (by kernel_rfl) (by kernel_rfl) (by kernel_rfl) (fun _ _ _ h => h) (Or.inr ⟨by rfl, rfl⟩) B1.out ?_
          try simp only [Act.put, List.setIfInBounds_toArray, List.set_cons_zero, List.set_cons_succ]
          refine takeL (i := 10) (v := undef) rfl (by kernel_rfl) (by kernel_rfl) (by kernel_rfl) (fun _ _ _ h => h) (Or.inr ⟨by rfl, rfl⟩) B1.out ?_
          try simp only [Act.put, List.setIfInBounds_toArray, List.set_cons_zero, List.set_cons_succ]
          refine takeL (i := 11) (v := undef) rfl (by kernel_rfl) (by kernel_rfl) (by kernel_rfl) (fun _ _ _ h => h) (Or.inr ⟨by rfl, rfl⟩) B1.out ?_
          try simp only [Act.put, List.setIfInBounds_toArray, List.set_cons_zero, List.set_cons_succ]
          refine takeL (i := 12) (v := undef) rfl (by kernel_rfl) (by kernel_rfl) (by kernel_rfl) (fun _ _ _ h => h) (Or.inr ⟨by rfl, rfl⟩) B1.out ?_
          try simp only [Act.put, List.setIfInBounds_toArray, List.set_cons_zero, List.set_cons_succ]
          refine takeL (i := 13) (v := undef) rfl (by kernel_rfl) (by kernel_rfl) (by kernel_rfl) (fun _ _ _ h => h) (Or.inr ⟨by rfl, rfl⟩) B1.out ?_
          try simp only [Act.put, List.setIfInBounds_toArray, List.set_cons_zero, List.set_cons_succ]
          refine takeL (i := 14) (v := undef) rfl (by kernel_rfl) (by kernel_rfl) (by kernel_rfl) (fun _ _ _ h => h) (Or.inr ⟨by rfl, rfl⟩) B1.out ?_
          try simp only [Act.put, List.setIfInBounds_toArray, List.set_cons_zero, List.set_cons_succ]
          refine takeL (i := 15) (v := undef) rfl (by kernel_rfl) (by kernel_rfl) (by kernel_rfl) (fun _ _ _ h => h) (Or.inr ⟨by rfl, rfl⟩) B1.out ?_
          try simp only [Act.put, List.setIfInBounds_toArray, List.set_cons_zero, List.set_cons_succ]
          refine takeL (i := 16) (v := undef) rfl (by kernel_rfl) (by kernel_rfl) (by kernel_rfl) (fun _ _ _ h => h) (Or.inr ⟨by rfl, rfl⟩) B1.out ?_
          try simp only [Act.put, List.setIfInBounds_toArray, List.set_cons_zero, List.set_cons_succ]
          refine takeL (i := 17) (v := undef) rfl (by kernel_rfl) (by kernel_rfl) (by kernel_rfl) (fun _ _ _ h => h) (Or.inr ⟨by rfl, rfl⟩) B1.out ?_
          try simp only [Act.put, List.setIfInBounds_toArray, List.set_cons_zero, List.set_cons_succ]
          refine takeL (i := 18) (v := undef) rfl (by kernel_rfl) (by kernel_rfl) (by kernel_rfl) (fun _ _ _ h => h) (Or.inr ⟨by rfl, rfl⟩) B1.out ?_
          try simp only [Act.put, List.setIfInBounds_toArray, List.set_cons_zero, List.set_cons_succ]
          refine takeL (i := 19) (v := undef) rfl (by kernel_rfl) (by kernel_rfl) (by kernel_rfl) (fun _ _ _ h => h) (Or.inr ⟨by rfl, rfl⟩) B1.out ?_
          try simp only [Act.put, List.setIfInBounds_toArray, List.set_cons_zero, List.set_cons_succ]
          refine takeL (i := 20) (v := ?_) rfl (by kernel_rfl) (by kernel_rfl) (by kernel_rfl) (fun _ _ _ h => h) (Or.inl ⟨by rfl, ?_⟩) B1.out ?_
          rotate_left
          · intro wy hw
            try dsimp only at hw
            have q0 := (hw.cell (p := ⟨w.heap.size, 4, none⟩) (by show w.heap.size < W.heap.size; have := HMS.out; omega)).trans HM4.out
            have q1 := (hw.cell (p := ⟨w.heap.size + 1, 0, none⟩) (by show w.heap.size + 1 < W.heap.size; have := HMS.out; omega)).trans HY0.out
            go_simp
            try with_reducible rfl
          try simp only [Act.put, List.setIfInBounds_toArray, List.set_cons_zero, List.set_cons_succ]
          refine wpAnyH_done (by kernel_rfl) ?_ _
          go_wp2_with fail
          go_meet
          exact ⟨true, rfl, (fun h => by cases h), HC0.out.below B1.out⟩
        | false =>
          have HT : Hid (total m < 3000) := Lib.hid (HGR.out rfl)
          refine takeL (i := 2) (v := ?_) rfl (by kernel_rfl) (by kernel_rfl) (by kernel_rfl) (fun _ _ _ h => h) (Or.inl ⟨by rfl, ?_⟩) B1.out ?_
          rotate_left
          · intro wy hw
            try dsimp only at hw
            have q0 := (hw.cell (p := ⟨w.heap.size, 4, none⟩) (by show w.heap.size < W.heap.size; have := HMS.out; omega)).trans HM4.out
            have q1 := (hw.cell (p := ⟨w.heap.size + 1, 0, none⟩) (by show w.heap.size + 1 < W.heap.size; have := HMS.out; omega)).trans HY0.out
            go_simp
            try with_reducible rfl
          try simp only [Act.put, List.setIfInBounds_toArray, List.set_cons_zero, List.set_cons_succ]
          refine takeL (i := 3) (v := ?_) rfl (by kernel_rfl) (by kernel_rfl) (by kernel_rfl) (fun _ _ _ h => h) (Or.inl ⟨by rfl, ?_⟩) B1.out ?_
          rotate_left
          · intro wy hw
            try dsimp only at hw
            have q0 := (hw.cell (p := ⟨w.heap.size, 4, none⟩) (by show w.heap.size < W.heap.size; have := HMS.out; omega)).trans HM4.out
            have q1 := (hw.cell (p := ⟨w.heap.size + 1, 0, none⟩) (by show w.heap.size + 1 < W.heap.size; have := HMS.out; omega)).trans HY0.out
            go_simp
            try with_reducible rfl
          try simp only [Act.put, List.setIfInBounds_toArray, List.set_cons_zero, List.set_cons_succ]
          refine takeL (i := 4) (v := ?_) rfl (by kernel_rfl) (by kernel_rfl) (by kernel_rfl) (fun _ _ _ h => h) (Or.inl ⟨by rfl, ?_⟩) B1.out ?_
          rotate_left
          · intro wy hw
            try dsimp only at hw
            have q0 := (hw.cell (p := ⟨w.heap.size, 4, none⟩) (by show w.heap.size < W.heap.size; have := HMS.out; omega)).trans HM4.out
            have q1 := (hw.cell (p := ⟨w.heap.size + 1, 0, none⟩) (by show w.heap.size + 1 < W.heap.size; have := HMS.out; omega)).trans HY0.out
            go_simp
            try with_reducible rfl
          try simp only [Act.put, List.setIfInBounds_toArray, List.set_cons_zero, List.set_cons_succ]
          refine takeL (i := 5) (v := ?_) rfl (by kernel_rfl) (by kernel_rfl) (by kernel_rfl) (fun _ _ _ h => h) (Or.inl ⟨by rfl, ?_⟩) B1.out ?_
          rotate_left
          · intro wy hw
            try dsimp only at hw
            have q0 := (hw.cell (p := ⟨w.heap.size, 4, none⟩) (by show w.heap.size < W.heap.size; have := HMS.out; omega)).trans HM4.out
            have q1 := (hw.cell (p := ⟨w.heap.size + 1, 0, none⟩) (by show w.heap.size + 1 < W.heap.size; have := HMS.out; omega)).trans HY0.out
            go_simp
            try with_reducible rfl
          try simp only [Act.put, List.setIfInBounds_toArray, List.set_cons_zero, List.set_cons_succ]
          refine takeL (i := 6) (v := ?_) rfl (by kernel_rfl) (by kernel_rfl) (by kernel_rfl) (fun _ _ _ h => h) (Or.inl ⟨by rfl, ?_⟩) B1.out ?_
          rotate_left
          · intro wy hw
            try dsimp only at hw
            have q0 := (hw.cell (p := ⟨w.heap.size, 4, none⟩) (by show w.heap.size < W.heap.size; have := HMS.out; omega)).trans HM4.out
            have q1 := (hw.cell (p := ⟨w.heap.size + 1, 0, none⟩) (by show w.heap.size + 1 < W.heap.size; have := HMS.out; omega)).trans HY0.out
            go_simp
            try with_reducible rfl
          try simp only [Act.put, List.setIfInBounds_toArray, List.set_cons_zero, List.set_cons_succ]
          refine takeL (i := 7) (v := ?_) rfl (by kernel_rfl) (by kernel_rfl) (by kernel_rfl) (fun _ _ _ h => h) (Or.inl ⟨by rfl, ?_⟩) B1.out ?_
          rotate_left
          · intro wy hw
            try dsimp only at hw
            have q0 := (hw.cell (p := ⟨w.heap.size, 4, none⟩) (by show w.heap.size < W.heap.size; have := HMS.out; omega)).trans HM4.out
            have q1 := (hw.cell (p := ⟨w.heap.size + 1, 0, none⟩) (by show w.heap.size + 1 < W.heap.size; have := HMS.out; omega)).trans HY0.out
            go_simp
            try with_reducible rfl
          try simp only [Act.put, List.setIfInBounds_toArray, List.set_cons_zero, List.set_cons_succ]
          refine takeL (i := 8) (v := ?_) rfl (by kernel_rfl) (by kernel_rfl) (by kernel_rfl) (fun _ _ _ h => h) (Or.inl ⟨by rfl, ?_⟩) B1.out ?_
          rotate_left
          · intro wy hw
            try dsimp only at hw
            have q0 := (hw.cell (p := ⟨w.heap.size, 4, none⟩) (by show w.heap.size < W.heap.size; have := HMS.out; omega)).trans HM4.out
            have q1 := (hw.cell (p := ⟨w.heap.size + 1, 0, none⟩) (by show w.heap.size + 1 < W.heap.size; have := HMS.out; omega)).trans HY0.out
            go_simp
            try with_reducible rfl
          try simp only [Act.put, List.setIfInBounds_toArray, List.set_cons_zero, List.set_cons_succ]
          refine takeL (i := 9) (v := ?_) rfl (by kernel_rfl) (by kernel_rfl) (by kernel_rfl) (fun _ _ _ h => h) (Or.inl ⟨by rfl, ?_⟩) B1.out ?_
          rotate_left
          · intro wy hw
            try dsimp only at hw
            have q0 := (hw.cell (p := ⟨w.heap.size, 4, none⟩) (by show w.heap.size < W.heap.size; have := HMS.out; omega)).trans HM4.out
            have q1 := (hw.cell (p := ⟨w.heap.size + 1, 0, none⟩) (by show w.heap.size + 1 < W.heap.size; have := HMS.out; omega)).trans HY0.out
            go_simp
            try with_reducible rfl
          try simp only [Act.put, List.setIfInBounds_toArray, List.set_cons_zero, List.set_cons_succ]
          refine takeL (i := 10) (v := ?_) rfl (by kernel_rfl) (by kernel_rfl) (by kernel_rfl) (fun _ _ _ h => h) (Or.inl ⟨by rfl, ?_⟩) B1.out ?_
          rotate_left
          · intro wy hw
            try dsimp only at hw
            have q0 := (hw.cell (p := ⟨w.heap.size, 4, none⟩) (by show w.heap.size < W.heap.size; have := HMS.out; omega)).trans HM4.out
            have q1 := (hw.cell (p := ⟨w.heap.size + 1, 0, none⟩) (by show w.heap.size + 1 < W.heap.size; have := HMS.out; omega)).trans HY0.out
            go_simp
            try with_reducible rfl
          try simp only [Act.put, List.setIfInBounds_toArray, List.set_cons_zero, List.set_cons_succ]
          refine takeL (i := 11) (v := ?_) rfl (by kernel_rfl) (by kernel_rfl) (by kernel_rfl) (fun _ _ _ h => h) (Or.inl ⟨by rfl, ?_⟩) B1.out ?_
          rotate_left
          · intro wy hw
            try dsimp only at hw
            have q0 := (hw.cell (p := ⟨w.heap.size, 4, none⟩) (by show w.heap.size < W.heap.size; have := HMS.out; omega)).trans HM4.out
            have q1 := (hw.cell (p := ⟨w.heap.size + 1, 0, none⟩) (by show w.heap.size + 1 < W.heap.size; have := HMS.out; omega)).trans HY0.out
            go_simp
            try with_reducible rfl
          try simp only [Act.put, List.setIfInBounds_toArray, List.set_cons_zero, List.set_cons_succ]
          refine takeL (i := 12) (v := ?_) rfl (by kernel_rfl) (by kernel_rfl) (by kernel_rfl) (fun _ _ _ h => h) (Or.inl ⟨by rfl, ?_⟩) B1.out ?_
          rotate_left
          · intro wy hw
            try dsimp only at hw
            have q0 := (hw.cell (p := ⟨w.heap.size, 4, none⟩) (by show w.heap.size < W.heap.size; have := HMS.out; omega)).trans HM4.out
            have q1 := (hw.cell (p := ⟨w.heap.size + 1, 0, none⟩) (by show w.heap.size + 1 < W.heap.size; have := HMS.out; omega)).trans HY0.out
            go_simp
            try with_reducible rfl
          try simp only [Act.put, List.setIfInBounds_toArray, List.set_cons_zero, List.set_cons_succ]
          refine takeL (i := 13) (v := ?_) rfl (by kernel_rfl) (by kernel_rfl) (by kernel_rfl) (fun _ _ _ h => h) (Or.inl ⟨by rfl, ?_⟩) B1.out ?_
          rotate_left
          · intro wy hw
            try dsimp only at hw
            have q0 := (hw.cell (p := ⟨w.heap.size, 4, none⟩) (by show w.heap.size < W.heap.size; have := HMS.out; omega)).trans HM4.out
            have q1 := (hw.cell (p := ⟨w.heap.size + 1, 0, none⟩) (by show w.heap.size + 1 < W.heap.size; have := HMS.out; omega)).trans HY0.out
            go_simp
            try with_reducible rfl
          try simp only [Act.put, List.setIfInBounds_toArray, List.set_cons_zero, List.set_cons_succ]
          refine takeL (i := 14) (v := ?_) rfl (by kernel_rfl) (by kernel_rfl) (by kernel_rfl) (fun _ _ _ h => h) (Or.inl ⟨by rfl, ?_⟩) B1.out ?_
          rotate_left
          · intro wy hw
            try dsimp only at hw
            have q0 := (hw.cell (p := ⟨w.heap.size, 4, none⟩) (by show w.heap.size < W.heap.size; have := HMS.out; omega)).trans HM4.out
            have q1 := (hw.cell (p := ⟨w.heap.size + 1, 0, none⟩) (by show w.heap.size + 1 < W.heap.size; have := HMS.out; omega)).trans HY0.out
            go_simp
            try with_reducible rfl
          try simp only [Act.put, List.setIfInBounds_toArray, List.set_cons_zero, List.set_cons_succ]
          refine takeL (i := 15) (v := ?_) rfl (by kernel_rfl) (by kernel_rfl) (by kernel_rfl) (fun _ _ _ h => h) (Or.inl ⟨by rfl, ?_⟩) B1.out ?_
          rotate_left
          · intro wy hw
            try dsimp only at hw
            have q0 := (hw.cell (p := ⟨w.heap.size, 4, none⟩) (by show w.heap.size < W.heap.size; have := HMS.out; omega)).trans HM4.out
            have q1 := (hw.cell (p := ⟨w.heap.size + 1, 0, none⟩) (by show w.heap.size + 1 < W.heap.size; have := HMS.out; omega)).trans HY0.out
            go_simp
            try with_reducible rfl
          try simp only [Act.put, List.setIfInBounds_toArray, List.set_cons_zero, List.set_cons_succ]
          refine takeL (i := 16) (v := .agg (bv z).toArray) rfl (by kernel_rfl) (by kernel_rfl) (by kernel_rfl) (fun _ _ _ h => h) (Or.inl ⟨by rfl, fun wz hwz => exec_load_at wz 48 (.tmp 23) rfl (a.add (pq * 32)) (bv z) _ Tryd.underlying48 rfl HSY.out (fun j u hu => (hwz.cell (by rw [addr_block, addr_block]; exact HAB.out)).trans (HCA.out j u hu)) (by go_simp)⟩) B1.out ?_
          try simp only [Act.put, List.setIfInBounds_toArray, List.set_cons_zero, List.set_cons_succ]
          refine readyL (i := 17) rfl (by kernel_rfl) (by kernel_rfl) fun K hK => ?_
          go_simp
          refine (budget_ w1).mono ?_
          rintro e w2 ⟨rfl, hb2⟩
          have B2 := Lib.hid (B1.out.trans (hb2.mono B1.out.size))
          clear hb2
          refine hK.out _ _ B2.out ?_
          clear hK K
          try simp only [Act.put, List.setIfInBounds_toArray, List.set_cons_zero, List.set_cons_succ]
          refine takeL (i := 18) (v := ?_) rfl (by kernel_rfl) (by kernel_rfl) (by kernel_rfl) (fun _ _ _ h => h) (Or.inl ⟨by rfl, ?_⟩) B2.out ?_
          rotate_left
          · intro wy hw
            try dsimp only at hw
            have q0 := (hw.cell (p := ⟨w.heap.size, 4, none⟩) (by show w.heap.size < W.heap.size; have := HMS.out; omega)).trans HM4.out
            have q1 := (hw.cell (p := ⟨w.heap.size + 1, 0, none⟩) (by show w.heap.size + 1 < W.heap.size; have := HMS.out; omega)).trans HY0.out
            go_simp
            try with_reducible rfl
          try simp only [Act.put, List.setIfInBounds_toArray, List.set_cons_zero, List.set_cons_succ]
          refine takeL (i := 19) (v := ?_) rfl (by kernel_rfl) (by kernel_rfl) (by kernel_rfl) (fun _ _ _ h => h) (Or.inl ⟨by rfl, ?_⟩) B2.out ?_
          rotate_left
          · intro wy hw
            try dsimp only at hw
            have q0 := (hw.cell (p := ⟨w.heap.size, 4, none⟩) (by show w.heap.size < W.heap.size; have := HMS.out; omega)).trans HM4.out
            have q1 := (hw.cell (p := ⟨w.heap.size + 1, 0, none⟩) (by show w.heap.size + 1 < W.heap.size; have := HMS.out; omega)).trans HY0.out
            go_simp
            try with_reducible rfl
          try simp only [Act.put, List.setIfInBounds_toArray, List.set_cons_zero, List.set_cons_succ]
          refine takeL (i := 20) (v := ?_) rfl (by kernel_rfl) (by kernel_rfl) (by kernel_rfl) (fun _ _ _ h => h) (Or.inl ⟨by rfl, ?_⟩) B2.out ?_
          rotate_left
          · intro wy hw
            try dsimp only at hw
            have q0 := (hw.cell (p := ⟨w.heap.size, 4, none⟩) (by show w.heap.size < W.heap.size; have := HMS.out; omega)).trans HM4.out
            have q1 := (hw.cell (p := ⟨w.heap.size + 1, 0, none⟩) (by show w.heap.size + 1 < W.heap.size; have := HMS.out; omega)).trans HY0.out
            go_simp
            try with_reducible rfl
          try simp only [Act.put, List.setIfInBounds_toArray, List.set_cons_zero, List.set_cons_succ]
          refine wpAnyH_done (by kernel_rfl) ?_ _
          go_wp2_with fail
          go_meet
          exact ⟨false, rfl, (fun _ => ⟨HT.out, HQ.out⟩), HC0.out.below B2.out⟩
    · have HQ : Hid (isW m.keys y.p = false) := Lib.hid (by rw [HPQ.out]; exact isW_no (by rw [HLK.out]; omega))
      have hlt : decide ((pq : Int) < (kn : Int)) = false := decide_eq_false (by omega)
      have hlt2 : decide (pq < kn) = false := decide_eq_false (by omega)
      have hlt3 : ¬ (pq : Int) < (kn : Int) := by omega
      refine takeL (i := 0) (v := .agg MC.toArray) rfl (by kernel_rfl) (by kernel_rfl) (by kernel_rfl) (fun _ _ _ h => h) (Or.inl ⟨by rfl, fun wz hwz => exec_load_at wz 30 (.tmp 2) rfl ⟨w.heap.size, 0, none⟩ MC _ Tryd.underlying30 rfl HTS.out (fun j u hu => (hwz.cell (by rw [addr_row]; show w.heap.size < W.heap.size; have := HMS.out; omega)).trans (by rw [addr_row, Nat.zero_add]; exact (HC0.out.msg.cell j).trans hu)) (by go_simp)⟩) (Below.refl W.heap.size W).drew ?_
      try simp only [Act.put, List.setIfInBounds_toArray, List.set_cons_zero, List.set_cons_succ]
      refine readyL (i := 1) rfl (by kernel_rfl) (by kernel_rfl) fun K hK => ?_
      go_simp
      refine (HG.out W.drew HC0.out.drew.m (by show w.heap.size ≤ W.heap.size; have := HMS.out; omega)).mono ?_
      rintro e w1 ⟨⟨gb, rfl, hgr⟩, hb1⟩
      have B1 := Lib.hid (show Below W.heap.size W w1 from ((Below.refl W.heap.size W).drew).trans hb1)
      have HGR := Lib.hid hgr
      clear hb1 hgr
      refine hK.out _ _ B1.out ?_
      clear hK K
      try simp only [Act.put, List.setIfInBounds_toArray, List.set_cons_zero, List.set_cons_succ]
      cases gb with
      | true =>
        refine takeL (i := 2) (v := ?_) rfl (by kernel_rfl) (by kernel_rfl) (by kernel_rfl) (fun _ _ _ h => h) (Or.inl ⟨by rfl, ?_⟩) B1.out ?_
        rotate_left
        · intro wy hw
          try dsimp only at hw
          have q0 := (hw.cell (p := ⟨w.heap.size, 4, none⟩) (by show w.heap.size < W.heap.size; have := HMS.out; omega)).trans HM4.out
          have q1 := (hw.cell (p := ⟨w.heap.size + 1, 0, none⟩) (by show w.heap.size + 1 < W.heap.size; have := HMS.out; omega)).trans HY0.out
          go_simp
          try with_reducible rfl
        try simp only [Act.put, List.setIfInBounds_toArray, List.set_cons_zero, List.set_cons_succ]
        refine takeL (i := 3) (v := undef) rfl (by kernel_rfl) (by kernel_rfl) (by kernel_rfl) (fun _ _ _ h => h) (Or.inr ⟨by rfl, rfl⟩) B1.out ?_
        try simp only [Act.put, List.setIfInBounds_toArray, List.set_cons_zero, List.set_cons_succ]
        refine takeL (i := 4) (v := undef) rfl (by kernel_rfl) (by kernel_rfl) (by kernel_rfl) (fun _ _ _ h => h) (Or.inr ⟨by rfl, rfl⟩) B1.out ?_
        try simp only [Act.put, List.setIfInBounds_toArray, List.set_cons_zero, List.set_cons_succ]
        refine takeL (i := 5) (v := undef) rfl (by kernel_rfl) (by kernel_rfl) (by kernel_rfl) (fun _ _ _ h => h) (Or.inr ⟨by rfl, rfl⟩) B1.out ?_
        try simp only [Act.put, List.setIfInBounds_toArray, List.set_cons_zero, List.set_cons_succ]
        refine takeL (i := 6) (v := undef) rfl (by kernel_rfl) (by kernel_rfl) (by kernel_rfl) (fun _ _ _ h => h) (Or.inr ⟨by rfl, rfl⟩) B1.out ?_
        try simp only [Act.put, List.setIfInBounds_toArray, List.set_cons_zero, List.set_cons_succ]
        refine takeL (i := 7) (v := undef) rfl (by kernel_rfl) (by kernel_rfl) (by kernel_rfl) (fun _ _ _ h => h) (Or.inr ⟨by rfl, rfl⟩) B1.out ?_
        try simp only [Act.put, List.setIfInBounds_toArray, List.set_cons_zero, List.set_cons_succ]
        refine takeL (i := 8) (v := undef) rfl (by kernel_rfl) (by kernel_rfl) (by kernel_rfl) (fun _ _ _ h => h) (Or.inr ⟨by rfl, rfl⟩) B1.out ?_
        try simp only [Act.put, List.setIfInBounds_toArray, List.set_cons_zero, List.set_cons_succ]
        refine takeL (i := 9) (v := undef) rfl (by kernel_rfl) (by kernel_rfl) (by kernel_rfl) (fun _ _ _ h => h) (Or.inr ⟨by rfl, rfl⟩) B1.out ?_
        try simp only [Act.put, List.setIfInBounds_toArray, List.set_cons_zero, List.set_cons_succ]
        refine takeL (i := 10) (v := undef) rfl (by kernel_rfl) (by kernel_rfl) (by kernel_rfl) (fun _ _ _ h => h) (Or.inr ⟨by rfl, rfl⟩) B1.out ?_
        try simp only [Act.put, List.setIfInBounds_toArray, List.set_cons_zero, List.set_cons_succ]
        refine takeL (i := 11) (v := undef) rfl (by kernel_rfl) (by kernel_rfl) (by kernel_rfl) (fun _ _ _ h => h) (Or.inr ⟨by rfl, rfl⟩) B1.out ?_
        try simp only [Act.put, List.setIfInBounds_toArray, List.set_cons_zero, List.set_cons_succ]
        refine takeL (i := 12) (v := undef) rfl (by kernel_rfl) (by kernel_rfl) (by kernel_rfl) (fun _ _ _ h => h) (Or.inr ⟨by rfl, rfl⟩) B1.out ?_
        try simp only [Act.put, List.setIfInBounds_toArray, List.set_cons_zero, List.set_cons_succ]
        refine takeL (i := 13) (v := undef) rfl (by kernel_rfl) (by kernel_rfl) (by kernel_rfl) (fun _ _ _ h => h) (Or.inr ⟨by rfl, rfl⟩) B1.out ?_
        try simp only [Act.put, List.setIfInBounds_toArray, List.set_cons_zero, List.set_cons_succ]
        refine takeL (i := 14) (v := undef) rfl (by kernel_rfl) (by kernel_rfl) (by kernel_rfl) (fun _ _ _ h => h) (Or.inr ⟨by rfl, rfl⟩) B1.out ?_
        try simp only [Act.put, List.setIfInBounds_toArray, List.set_cons_zero, List.set_cons_succ]
        refine takeL (i := 15) (v := undef) rfl (by kernel_rfl) (by kernel_rfl) (by kernel_rfl) (fun _ _ _ h => h) (Or.inr ⟨by rfl, rfl⟩) B1.out ?_
        try simp only [Act.put, List.setIfInBounds_toArray, List.set_cons_zero, List.set_cons_succ]
        refine takeL (i := 16) (v := undef) rfl (by kernel_rfl) (by kernel_rfl) (by kernel_rfl) (fun _ _ _ h => h) (Or.inr ⟨by rfl, rfl⟩) B1.out ?_
        try simp only [Act.put, List.setIfInBounds_toArray, List.set_cons_zero, List.set_cons_succ]
        refine takeL (i := 17) (v := undef) rfl (by kernel_rfl) (by kernel_rfl) (by kernel_rfl) (fun _ _ _ h => h) (Or.inr ⟨by rfl, rfl⟩) B1.out ?_
        try simp only [Act.put, List.setIfInBounds_toArray, List.set_cons_zero, List.set_cons_succ]
        refine takeL (i := 18) (v := undef) rfl (by kernel_rfl) (by kernel_rfl) (by kernel_rfl) (fun _ _ _ h => h) (Or.inr ⟨by rfl, rfl⟩) B1.out ?_
        try simp only [Act.put, List.setIfInBounds_toArray, List.set_cons_zero, List.set_cons_succ]
        refine takeL (i := 19) (v := undef) rfl (by kernel_rfl) (by kernel_rfl) (by kernel_rfl) (fun _ _ _ h => h) (Or.inr ⟨by rfl, rfl⟩) B1.out ?_
        try simp only [Act.put, List.setIfInBounds_toArray, List.set_cons_zero, List.set_cons_succ]
        refine takeL (i := 20) (v := ?_) rfl (by kernel_rfl) (by kernel_rfl) (by kernel_rfl) (fun _ _ _ h => h) (Or.inl ⟨by rfl, ?_⟩) B1.out ?_
        rotate_left
        · intro wy hw
          try dsimp only at hw
          have q0 := (hw.cell (p := ⟨w.heap.size, 4, none⟩) (by show w.heap.size < W.heap.size; have := HMS.out; omega)).trans HM4.out
          have q1 := (hw.cell (p := ⟨w.heap.size + 1, 0, none⟩) (by show w.heap.size + 1 < W.heap.size; have := HMS.out; omega)).trans HY0.out
          go_simp
          try with_reducible rfl
        try simp only [Act.put, List.setIfInBounds_toArray, List.set_cons_zero, List.set_cons_succ]
        refine wpAnyH_done (by kernel_rfl) ?_ _
        go_wp2_with fail
        go_meet
        exact ⟨true, rfl, (fun h => by cases h), HC0.out.below B1.out⟩
      | false =>
        have HT : Hid (total m < 3000) := Lib.hid (HGR.out rfl)
        refine takeL (i := 2) (v := ?_) rfl (by kernel_rfl) (by kernel_rfl) (by kernel_rfl) (fun _ _ _ h => h) (Or.inl ⟨by rfl, ?_⟩) B1.out ?_
        rotate_left
        · intro wy hw
          try dsimp only at hw
          have q0 := (hw.cell (p := ⟨w.heap.size, 4, none⟩) (by show w.heap.size < W.heap.size; have := HMS.out; omega)).trans HM4.out
          have q1 := (hw.cell (p := ⟨w.heap.size + 1, 0, none⟩) (by show w.heap.size + 1 < W.heap.size; have := HMS.out; omega)).trans HY0.out
          go_simp
          try with_reducible rfl
        try simp only [Act.put, List.setIfInBounds_toArray, List.set_cons_zero, List.set_cons_succ]
        refine takeL (i := 3) (v := ?_) rfl (by kernel_rfl) (by kernel_rfl) (by kernel_rfl) (fun _ _ _ h => h) (Or.inl ⟨by rfl, ?_⟩) B1.out ?_
        rotate_left
        · intro wy hw
          try dsimp only at hw
          have q0 := (hw.cell (p := ⟨w.heap.size, 4, none⟩) (by show w.heap.size < W.heap.size; have := HMS.out; omega)).trans HM4.out
          have q1 := (hw.cell (p := ⟨w.heap.size + 1, 0, none⟩) (by show w.heap.size + 1 < W.heap.size; have := HMS.out; omega)).trans HY0.out
          go_simp
          try with_reducible rfl
        try simp only [Act.put, List.setIfInBounds_toArray, List.set_cons_zero, List.set_cons_succ]
        refine takeL (i := 4) (v := ?_) rfl (by kernel_rfl) (by kernel_rfl) (by kernel_rfl) (fun _ _ _ h => h) (Or.inl ⟨by rfl, ?_⟩) B1.out ?_
        rotate_left
        · intro wy hw
          try dsimp only at hw
          have q0 := (hw.cell (p := ⟨w.heap.size, 4, none⟩) (by show w.heap.size < W.heap.size; have := HMS.out; omega)).trans HM4.out
          have q1 := (hw.cell (p := ⟨w.heap.size + 1, 0, none⟩) (by show w.heap.size + 1 < W.heap.size; have := HMS.out; omega)).trans HY0.out
          go_simp
          try with_reducible rfl
        try simp only [Act.put, List.setIfInBounds_toArray, List.set_cons_zero, List.set_cons_succ]
        refine takeL (i := 5) (v := ?_) rfl (by kernel_rfl) (by kernel_rfl) (by kernel_rfl) (fun _ _ _ h => h) (Or.inl ⟨by rfl, ?_⟩) B1.out ?_
        rotate_left
        · intro wy hw
          try dsimp only at hw
          have q0 := (hw.cell (p := ⟨w.heap.size, 4, none⟩) (by show w.heap.size < W.heap.size; have := HMS.out; omega)).trans HM4.out
          have q1 := (hw.cell (p := ⟨w.heap.size + 1, 0, none⟩) (by show w.heap.size + 1 < W.heap.size; have := HMS.out; omega)).trans HY0.out
          go_simp
          try with_reducible rfl
        try simp only [Act.put, List.setIfInBounds_toArray, List.set_cons_zero, List.set_cons_succ]
        refine takeL (i := 6) (v := ?_) rfl (by kernel_rfl) (by kernel_rfl) (by kernel_rfl) (fun _ _ _ h => h) (Or.inl ⟨by rfl, ?_⟩) B1.out ?_
        rotate_left
        · intro wy hw
          try dsimp only at hw
          have q0 := (hw.cell (p := ⟨w.heap.size, 4, none⟩) (by show w.heap.size < W.heap.size; have := HMS.out; omega)).trans HM4.out
          have q1 := (hw.cell (p := ⟨w.heap.size + 1, 0, none⟩) (by show w.heap.size + 1 < W.heap.size; have := HMS.out; omega)).trans HY0.out
          go_simp
          try with_reducible rfl
        try simp only [Act.put, List.setIfInBounds_toArray, List.set_cons_zero, List.set_cons_succ]
        refine takeL (i := 7) (v := ?_) rfl (by kernel_rfl) (by kernel_rfl) (by kernel_rfl) (fun _ _ _ h => h) (Or.inl ⟨by rfl, ?_⟩) B1.out ?_
        rotate_left
        · intro wy hw
          try dsimp only at hw
          have q0 := (hw.cell (p := ⟨w.heap.size, 4, none⟩) (by show w.heap.size < W.heap.size; have := HMS.out; omega)).trans HM4.out
          have q1 := (hw.cell (p := ⟨w.heap.size + 1, 0, none⟩) (by show w.heap.size + 1 < W.heap.size; have := HMS.out; omega)).trans HY0.out
          go_simp
          try with_reducible rfl
        try simp only [Act.put, List.setIfInBounds_toArray, List.set_cons_zero, List.set_cons_succ]
        refine takeL (i := 8) (v := ?_) rfl (by kernel_rfl) (by kernel_rfl) (by kernel_rfl) (fun _ _ _ h => h) (Or.inl ⟨by rfl, ?_⟩) B1.out ?_
        rotate_left
        · intro wy hw
          try dsimp only at hw
          have q0 := (hw.cell (p := ⟨w.heap.size, 4, none⟩) (by show w.heap.size < W.heap.size; have := HMS.out; omega)).trans HM4.out
          have q1 := (hw.cell (p := ⟨w.heap.size + 1, 0, none⟩) (by show w.heap.size + 1 < W.heap.size; have := HMS.out; omega)).trans HY0.out
          go_simp
          try with_reducible rfl
        try simp only [Act.put, List.setIfInBounds_toArray, List.set_cons_zero, List.set_cons_succ]
        refine takeL (i := 9) (v := ?_) rfl (by kernel_rfl) (by kernel_rfl) (by kernel_rfl) (fun _ _ _ h => h) (Or.inl ⟨by rfl, ?_⟩) B1.out ?_
        rotate_left
        · intro wy hw
          try dsimp only at hw
          have q0 := (hw.cell (p := ⟨w.heap.size, 4, none⟩) (by show w.heap.size < W.heap.size; have := HMS.out; omega)).trans HM4.out
          have q1 := (hw.cell (p := ⟨w.heap.size + 1, 0, none⟩) (by show w.heap.size + 1 < W.heap.size; have := HMS.out; omega)).trans HY0.out
          go_simp
          try with_reducible rfl
        try simp only [Act.put, List.setIfInBounds_toArray, List.set_cons_zero, List.set_cons_succ]
        refine takeL (i := 10) (v := ?_) rfl (by kernel_rfl) (by kernel_rfl) (by kernel_rfl) (fun _ _ _ h => h) (Or.inl ⟨by rfl, ?_⟩) B1.out ?_
        rotate_left
        · intro wy hw
          try dsimp only at hw
          have q0 := (hw.cell (p := ⟨w.heap.size, 4, none⟩) (by show w.heap.size < W.heap.size; have := HMS.out; omega)).trans HM4.out
          have q1 := (hw.cell (p := ⟨w.heap.size + 1, 0, none⟩) (by show w.heap.size + 1 < W.heap.size; have := HMS.out; omega)).trans HY0.out
          go_simp
          try with_reducible rfl
        try simp only [Act.put, List.setIfInBounds_toArray, List.set_cons_zero, List.set_cons_succ]
        refine takeL (i := 11) (v := undef) rfl (by kernel_rfl) (by kernel_rfl) (by kernel_rfl) (fun _ _ _ h => h) (Or.inr ⟨by rfl, rfl⟩) B1.out ?_
        try simp only [Act.put, List.setIfInBounds_toArray, List.set_cons_zero, List.set_cons_succ]
        refine takeL (i := 12) (v := undef) rfl (by kernel_rfl) (by kernel_rfl) (by kernel_rfl) (fun _ _ _ h => h) (Or.inr ⟨by rfl, rfl⟩) B1.out ?_
        try simp only [Act.put, List.setIfInBounds_toArray, List.set_cons_zero, List.set_cons_succ]
        refine takeL (i := 13) (v := undef) rfl (by kernel_rfl) (by kernel_rfl) (by kernel_rfl) (fun _ _ _ h => h) (Or.inr ⟨by rfl, rfl⟩) B1.out ?_
        try simp only [Act.put, List.setIfInBounds_toArray, List.set_cons_zero, List.set_cons_succ]
        refine takeL (i := 14) (v := undef) rfl (by kernel_rfl) (by kernel_rfl) (by kernel_rfl) (fun _ _ _ h => h) (Or.inr ⟨by rfl, rfl⟩) B1.out ?_
        try simp only [Act.put, List.setIfInBounds_toArray, List.set_cons_zero, List.set_cons_succ]
        refine takeL (i := 15) (v := undef) rfl (by kernel_rfl) (by kernel_rfl) (by kernel_rfl) (fun _ _ _ h => h) (Or.inr ⟨by rfl, rfl⟩) B1.out ?_
        try simp only [Act.put, List.setIfInBounds_toArray, List.set_cons_zero, List.set_cons_succ]
        refine takeL (i := 16) (v := undef) rfl (by kernel_rfl) (by kernel_rfl) (by kernel_rfl) (fun _ _ _ h => h) (Or.inr ⟨by rfl, rfl⟩) B1.out ?_
        try simp only [Act.put, List.setIfInBounds_toArray, List.set_cons_zero, List.set_cons_succ]
        refine takeL (i := 17) (v := undef) rfl (by kernel_rfl) (by kernel_rfl) (by kernel_rfl) (fun _ _ _ h => h) (Or.inr ⟨by rfl, rfl⟩) B1.out ?_
        try simp only [Act.put, List.setIfInBounds_toArray, List.set_cons_zero, List.set_cons_succ]
        refine takeL (i := 18) (v := undef) rfl (by kernel_rfl) (by kernel_rfl) (by kernel_rfl) (fun _ _ _ h => h) (Or.inr ⟨by rfl, rfl⟩) B1.out ?_
        try simp only [Act.put, List.setIfInBounds_toArray, List.set_cons_zero, List.set_cons_succ]
        refine takeL (i := 19) (v := ?_) rfl (by kernel_rfl) (by kernel_rfl) (by kernel_rfl) (fun _ _ _ h => h) (Or.inl ⟨by rfl, ?_⟩) B1.out ?_
        rotate_left
        · intro wy hw
          try dsimp only at hw
          have q0 := (hw.cell (p := ⟨w.heap.size, 4, none⟩) (by show w.heap.size < W.heap.size; have := HMS.out; omega)).trans HM4.out
          have q1 := (hw.cell (p := ⟨w.heap.size + 1, 0, none⟩) (by show w.heap.size + 1 < W.heap.size; have := HMS.out; omega)).trans HY0.out
          go_simp
          try with_reducible rfl
        try simp only [Act.put, List.setIfInBounds_toArray, List.set_cons_zero, List.set_cons_succ]
        refine takeL (i := 20) (v := ?_) rfl (by kernel_rfl) (by kernel_rfl) (by kernel_rfl) (fun _ _ _ h => h) (Or.inl ⟨by rfl, ?_⟩) B1.out ?_
        rotate_left
        · intro wy hw
          try dsimp only at hw
          have q0 := (hw.cell (p := ⟨w.heap.size, 4, none⟩) (by show w.heap.size < W.heap.size; have := HMS.out; omega)).trans HM4.out
          have q1 := (hw.cell (p := ⟨w.heap.size + 1, 0, none⟩) (by show w.heap.size + 1 < W.heap.size; have := HMS.out; omega)).trans HY0.out
          go_simp
          try with_reducible rfl
        try simp only [Act.put, List.setIfInBounds_toArray, List.set_cons_zero, List.set_cons_succ]
        refine wpAnyH_done (by kernel_rfl) ?_ _
        go_wp2_with fail
        go_meet
        exact ⟨false, rfl, (fun _ => ⟨HT.out, HQ.out⟩), HC0.out.below B1.out⟩
  case rest =>
    obtain ⟨b, rfl, hcond, hctx⟩ := hcut
    have HCX := Lib.hid hctx
    clear hctx
    cases b with
    | true =>
      clear hcond
      go_wp2_with fail
      refine (lives8 _ (HL.out.below HCX.out.b HP.out)).mono ?_
      rintro e w2 ⟨rfl, hb2⟩
      go_wp2_with fail
      go_ret
      exact ⟨rfl, HCX.out.b.trans (hb2.mono HCX.out.b.size)⟩
    | false =>
      obtain ⟨ht, hw0⟩ := hcond rfl
      have HIN : Hid (n ≤ 3000) := Lib.hid (by have := HLI.out; unfold total at ht; omega)
      have HOT := Lib.hid (all8_other (l := m.ins) hw0)
      have HO1 : Hid (∀ V : World, MsgIn V w.heap.size ⟨KA, kn, kc, IA, n, ic, LA, ln, lc⟩ m → w.heap.size ≤ V.heap.size → LenAt V → Calls Tryd.prog 10 #[.agg MC.toArray] V fun e w' => e = .returned (.agg (bud8 (all8 m.keys m.ins)).toArray) ∧ Below V.heap.size V w') := Lib.hid fun V h hb hl => by
        have := ofB_ ⟨KA, kn, kc, IA, n, ic, LA, ln, lc⟩ m w.heap.size V h hb HIB.out (by have := HIN.out; show n ≤ 4000; omega) hl
        rw [HMC.out] at this
        exact this
      have HO2 : Hid (∀ (V : World) (A : Option Addr) (c : Nat), MsgIn V V.heap.size (rawM ⟨KA, kn, kc, IA, n, ic, LA, ln, lc⟩ A (n + 1) c) (insM m (m.ins ++ [y])) → LenAt V → Calls Tryd.prog 10 #[.agg ((rawM ⟨KA, kn, kc, IA, n, ic, LA, ln, lc⟩ A (n + 1) c).cells (insM m (m.ins ++ [y]))).toArray] V fun e w' => e = .returned (.agg (bud8 (all8 m.keys (m.ins ++ [y]))).toArray) ∧ Below V.heap.size V w') := Lib.hid fun V A c h hl => ofB_ _ _ V.heap.size V h (Nat.le_refl _) HIB2.out (by have := HIN.out; show n + 1 ≤ 4000; omega) hl
      have hu1 := HUZ.out
      have hu2 := units8_le (all8 m.keys m.ins)
      unfold all8 at HOT HO1 HO2 hu2
      unfold bud8 at HO1 HO2
      obtain ⟨e1, e2, e3⟩ := HOT.out
      rw [e1, e2] at HO2
      clear e1 e2 HOT hw0 hcond ht HUZ HPZ
      generalize hx1 : units8 (run8 m.keys m.ins m.ins.length) = ux at *
      generalize hx2 : units8 (run8 m.keys (m.ins ++ [y]) (m.ins ++ [y]).length) = uy at *
      generalize hx3 : (run8 m.keys m.ins m.ins.length).p.getD 0 = px at *
      generalize hx4 : (run8 m.keys m.ins m.ins.length).bad = bx at *
      clear hx1 hx2 hx3 hx4
      have HE3 := Lib.hid e3
      have HU12 := Lib.hid (And.intro hu1 hu2)
      clear e3 hu1 hu2
      go_wp2_with ((with_reducible show wpList _ _ _ ({ dst := some 30, op := Op.load _ _, type := _, pos := _, after := _, guard := _ } :: _) _ _); go_must (refine wpList_load_whole rfl 30 (.tmp 2) rfl w.heap.size 30 MC _ Tryd.underlying30 rfl HTS.out HCX.out.msg ?_ ?_; go_simp))
      refine (HO1.out wc HCX.out.m HCX.out.b.size (HL.out.below HCX.out.b HP.out)).mono ?_
      rintro e w2 ⟨rfl, hb2⟩
      have C2 := Lib.hid (HCX.out.below hb2)
      clear hb2 HO1
      go_upto_region 5 with (first
        | ((with_reducible show wpList _ _ _ ({ dst := none, op := Op.store 36 _ _, type := _, pos := _, after := _, guard := _ } :: _) _ _); go_must (refine wpList_store_new rfl 36 (.tmp 5) (.tmp 31) rfl [.int .u64 ux, .int .u64 px, .int .i64 bx] (size_bud _ _ _) (bud_one _ _ _) rfl ?_ ?_ ?_; go_simp; go_simp; intro w3 hr3 hb3 hz3; have R3 := Lib.hid hr3; have C3 := Lib.hid (C2.out.below hb3); clear hr3 hb3 hz3))
        | ((with_reducible show wpList _ _ _ ({ dst := some 32, op := Op.load _ _, type := _, pos := _, after := _, guard := _ } :: _) _ _); go_must (refine wpList_load_whole rfl 30 (.tmp 2) rfl w.heap.size 30 MC _ Tryd.underlying30 rfl HTS.out C3.out.msg ?_ ?_; go_simp))
        | ((with_reducible show wpList _ _ _ ({ dst := none, op := Op.store 30 _ _, type := _, pos := _, after := _, guard := _ } :: _) _ _); go_must (refine wpList_store_new rfl 30 (.tmp 6) (.tmp 32) rfl MC HTS.out HTO.out (by rw [HTL.out]; rfl) ?_ ?_ ?_; go_simp; go_simp; intro w4 hr4 hb4 hz4; have RY := Lib.hid hr4; have B4 := Lib.hid hb4; clear hr4 hb4 hz4)))
      have C4 := Lib.hid (C3.out.below B4.out)
      have RB4 := Lib.hid (R3.out.below B4.out R3.out.lt)
      have HG5 : Hid (w.heap.size + 2 ≤ w2.heap.size) := Lib.hid C2.out.size
      have HG6 : Hid (w2.heap.size < w3.heap.size) := Lib.hid R3.out.lt
      obtain ⟨gb, hgb⟩ : ∃ g, g = w2.heap.size := ⟨_, rfl⟩
      rw [← hgb] at RB4 HG5 HG6 ⊢
      obtain ⟨gy, hgy⟩ : ∃ g, g = w3.heap.size := ⟨_, rfl⟩
      rw [← hgy] at RY HG6 ⊢
      clear hgb hgy R3 C3 C2 HCX B4
      try simp only [Act.put]
      go_cut [39] (fun _ wx => ∃ (A2 : Option Addr) (c2 : Nat), Row wx gy 30 ((rawM ⟨KA, kn, kc, IA, n, ic, LA, ln, lc⟩ A2 (n + 1) c2).cells (insM m (m.ins ++ [y]))) ∧ MsgIn wx wx.heap.size (rawM ⟨KA, kn, kc, IA, n, ic, LA, ln, lc⟩ A2 (n + 1) c2) (insM m (m.ins ++ [y])) ∧ Below gy w4.drew wx)
      case first =>
        have C0 : Hid (OCtx w w4.drew ⟨KA, kn, kc, IA, n, ic, LA, ln, lc⟩ m MC y va vd IC) := Lib.hid C4.out.drew
        have Y0 := Lib.hid RY.out.drew
        have H3 := Lib.hid (fun (V : World) (h : OCtx w V ⟨KA, kn, kc, IA, n, ic, LA, ln, lc⟩ m MC y va vd IC) => H37.out V w.heap.size h.msg)
        have HSS : Hid (∀ V : World, OCtx w V ⟨KA, kn, kc, IA, n, ic, LA, ln, lc⟩ m MC y va vd IC → V.cell? ⟨w.heap.size, 37, none⟩ = some (.slice IA n ic) ∧ V.rangeAt (w.heap.size + 1) 0 IC) := Lib.hid fun V h => ⟨H3.out V h, fun j u hu => by rw [h.ins.cell, Nat.zero_add]; exact hu⟩
        have S0 := Lib.hid (HSS.out _ C0.out)
        refine wp_region_held_drew (S := fun V => V.cell? ⟨w.heap.size, 37, none⟩ = some (.slice IA n ic) ∧ V.rangeAt (w.heap.size + 1) 0 IC) (by kernel_rfl) S0.out (fun _ => ?_)
        have E0 : Hid (Below gy w4.drew w4.drew) := Lib.hid (Below.refl _ _)
        have HGY : Hid (gy < w4.drew.heap.size) := Lib.hid Y0.out.lt
        obtain ⟨news, hic, hsee⟩ := C0.out.m.ins.cells
        have HN := Lib.hid hic
        have HSE := Lib.hid hsee
        have HNL : Hid (n ≤ 3000) := HIN
        clear hic hsee
        generalize w4.drew = V0 at *
        refine takeL (i := 0) (v := ?_) rfl (by kernel_rfl) (by kernel_rfl) (by kernel_rfl) (fun _ _ _ h => h) (Or.inl ⟨by rfl, ?_⟩) S0.out ?_
        rotate_left
        · intro w hw
          try dsimp only at hw
          obtain ⟨q0, q1⟩ := hw
          go_simp
          try with_reducible rfl
        try simp only [Act.put, List.setIfInBounds_toArray, List.set_cons_zero, List.set_cons_succ]
        refine takeL (i := 1) (v := ?_) rfl (by kernel_rfl) (by kernel_rfl) (by kernel_rfl) (fun _ _ _ h => h) (Or.inl ⟨by rfl, ?_⟩) S0.out ?_
        rotate_left
        · intro w hw
          try dsimp only at hw
          obtain ⟨q0, q1⟩ := hw
          go_simp
          try with_reducible rfl
        try simp only [Act.put, List.setIfInBounds_toArray, List.set_cons_zero, List.set_cons_succ]
        refine takeL (i := 3) (v := .agg IC.toArray) rfl (by kernel_rfl) (by kernel_rfl) (by kernel_rfl) (fun _ _ _ h => h) (yieldsIf_load_mid (by kernel_rfl) 45 (.tmp 3) rfl (w.heap.size + 1) 0 (by go_simp) IC _ (fun w hw => hw.2) Tryd.underlying45 rfl HIS.out) S0.out ?_
        try simp only [Act.put, List.setIfInBounds_toArray, List.set_cons_zero, List.set_cons_succ]
        refine readyL2 (i := 2) (j := 4) rfl rfl (by kernel_rfl) (by kernel_rfl) (by kernel_rfl) (fun K hK => ?_) (fun K hK => ?_)
        · refine wp_appendN (.const (.slice none 0 0)) (.tmp 34) 27 45 _ 3 56 rfl Tryd.underlying27 info_ins5 (by kernel_rfl) (by omega) (.slice none 0 0) 0 [] gy w.heap.size IA n ic news rfl (own_nilN _ _ _ _) (by go_simp) (HSE.out) HN.out.one (by have := HNL.out; unfold maxLen; omega) (by have := HNL.out; omega) (Nat.le_of_lt Y0.out.lt) ?_
          intro v1 V1 ho1 hg1
          rw [Nat.zero_add, List.nil_append] at ho1
          obtain ⟨A1, c1, rfl, _, _, _, hlt1⟩ := own_form2 ho1
          have hb1 : Below V0.heap.size V0 V1 := (Below.refl _ _).grown hg1.grown (Nat.le_refl _) (fun k hk => by cases hk)
          have C1 := Lib.hid (C0.out.below hb1)
          have E1 := Lib.hid (E0.out.trans (hb1.mono (Nat.le_of_lt HGY.out)))
          have Y1 := Lib.hid (Y0.out.below hb1 Y0.out.lt)
          have S1 := Lib.hid (HSS.out _ C1.out)
          have O1 := Lib.hid ho1
          clear hg1 ho1 hb1 hlt1
          refine hK.out _ _ S1.out ?_
          clear hK K
          try simp only [Act.put, List.setIfInBounds_toArray, List.set_cons_zero, List.set_cons_succ]
          refine readyL (i := 4) rfl (by kernel_rfl) (by kernel_rfl) fun K hK => ?_
          refine wp_buildOne 27 45 (.tmp 36) rfl IC _ 3 56 Tryd.underlying27 info_ins5 (by kernel_rfl) (by omega) (by omega) HI3.out (by go_simp) ?_
          have hb2 := (Below.refl V1.heap.size V1).alloc (Nat.le_refl _) (.cells IC.toArray 45)
          have C2 := Lib.hid (C1.out.below hb2)
          have E2 := Lib.hid (E1.out.trans (hb2.mono (Nat.le_of_lt Y1.out.lt)))
          have Y2 := Lib.hid (Y1.out.below hb2 Y1.out.lt)
          have S2 := Lib.hid (HSS.out _ C2.out)
          have O2 := Lib.hid (own_below O1.out hb2)
          have R2 := Lib.hid (Row.new V1 45 IC)
          clear hb2
          obtain ⟨gl, hgl⟩ : ∃ g, g = V1.heap.size := ⟨_, rfl⟩
          rw [← hgl] at R2 ⊢
          clear hgl
          generalize V1.alloc (.cells IC.toArray 45) = V2 at *
          refine hK.out _ _ S2.out ?_
          clear hK K
          try simp only [Act.put, List.setIfInBounds_toArray, List.set_cons_zero, List.set_cons_succ]
          refine readyL (i := 5) rfl (by kernel_rfl) (by kernel_rfl) fun K hK => ?_
          refine wp_appendN (.tmp 35) (.tmp 37) 27 45 _ 3 56 rfl Tryd.underlying27 info_ins5 (by kernel_rfl) (by omega) (.slice A1 n c1) n news gy V2.heap.size (some ⟨gl, 0, none⟩) 1 1 IC (by go_simp) O2.out (by go_simp) (by have := R2.out.sees0; rwa [HI3.out] at this) HIO.out (by have := HNL.out; unfold maxLen; omega) (by have := HNL.out; omega) (Nat.le_of_lt Y2.out.lt) ?_
          intro v2 V3 ho3 hg3
          obtain ⟨A2, c2, rfl, hs3, hc1, hc2, hlt3⟩ := own_form2 ho3
          have hb3 : Below gy V2 V3 := (Below.refl _ _).grown hg3.grown (Nat.le_of_lt Y2.out.lt) (fun k hk => (O2.out.lt k hk).1)
          have Y3 := Lib.hid (Y2.out.grown hg3.grown (own_apart O2.out Y2.out (by decide)))
          have C3 := Lib.hid (C2.out.low hb3 (by have := HG5.out; have := HG6.out; omega))
          have E3 := Lib.hid (E2.out.trans hb3)
          have S3 := Lib.hid (HSS.out _ C3.out)
          have O3 := Lib.hid ho3
          have CC := Lib.hid (And.intro hc1 hc2)
          have N3 : Hid (InsCells V3 w.heap.size (m.ins ++ [y]) (news ++ IC)) := Lib.hid (by
            have h := HSNOC.out V3 w.heap.size news (HN.out.below (E3.out.mono (by have := HG5.out; have := HG6.out; omega))) C3.out.a C3.out.d
            exact h)
          clear ho3 hg3 hs3 hlt3 hb3 hc1 hc2
          refine hK.out _ _ S3.out ?_
          clear hK K
          try simp only [Act.put, List.setIfInBounds_toArray, List.set_cons_zero, List.set_cons_succ]
          refine takeL (i := 6) (v := ?_) rfl (by kernel_rfl) (by kernel_rfl) (by kernel_rfl) (fun _ _ _ h => h) (Or.inl ⟨by rfl, ?_⟩) S3.out ?_
          rotate_left
          · intro w hw
            try dsimp only at hw
            obtain ⟨q0, q1⟩ := hw
            go_simp
            try with_reducible rfl
          try simp only [Act.put, List.setIfInBounds_toArray, List.set_cons_zero, List.set_cons_succ]
          have c37 : V3.cell? ⟨gy, 37, none⟩ = some (.slice IA n ic) := H37.out V3 gy Y3.out
          have f37 := Y3.out.frozen 37
          refine readyL (i := 7) rfl (by kernel_rfl) (by kernel_rfl) fun K hK => ?_
          go_simp
          have hset := HSET.out A2 (n + 1) c2
          have C4 := Lib.hid (C3.out.low ((Below.refl gy V3).setCell (p := ⟨gy, 37, none⟩) (Nat.le_refl gy) (.slice A2 (n + 1) c2)) (by have := HG5.out; have := HG6.out; omega))
          have S4 := Lib.hid (HSS.out _ C4.out)
          refine hK.out _ _ S4.out ?_
          clear hK K
          try simp only [Act.put, List.setIfInBounds_toArray, List.set_cons_zero, List.set_cons_succ]
          refine wpAnyH_done (by kernel_rfl) ?_ _
          go_wp2_with fail
          go_meet
          have hb4 := (Below.refl gy V3).setCell (p := ⟨gy, 37, none⟩) (Nat.le_refl gy) (.slice A2 (n + 1) c2)
          have hY4 := Y3.out.set_ 37 (.slice A2 (n + 1) c2)
          have hO4 := own_turned O3.out Y3.out (by decide) (turned_setCell V3 ⟨gy, 37, none⟩ (.slice A2 (n + 1) c2))
          obtain ⟨A2', c2', he, hs4, _, _, _⟩ := own_form2 hO4
          injection he with e1 e2 e3
          subst e1 e3
          have hN4 := N3.out.below (hb4.mono (by have := HG5.out; have := HG6.out; omega))
          have hz4 : w.heap.size ≤ (V3.setCell ⟨gy, 37, none⟩ (.slice A2 (n + 1) c2)).heap.size := Nat.le_trans (by omega) C4.out.size
          exact ⟨A2, c2, hset ▸ hY4, HINM.out _ A2 (n + 1) c2 (C4.out.m.more hz4) ((hN4.more hz4).in_ hs4 (by rw [List.length_append, HLI.out]; rfl)) CC.out, E3.out.trans hb4⟩
        · refine wp_buildOne 27 45 (.tmp 36) rfl IC _ 3 56 Tryd.underlying27 info_ins5 (by kernel_rfl) (by omega) (by omega) HI3.out (by go_simp) ?_
          have hb1 := (Below.refl V0.heap.size V0).alloc (Nat.le_refl _) (.cells IC.toArray 45)
          have C1 := Lib.hid (C0.out.below hb1)
          have E1 := Lib.hid (E0.out.trans (hb1.mono (Nat.le_of_lt HGY.out)))
          have Y1 := Lib.hid (Y0.out.below hb1 Y0.out.lt)
          have S1 := Lib.hid (HSS.out _ C1.out)
          have R1 := Lib.hid (Row.new V0 45 IC)
          clear hb1
          obtain ⟨gl, hgl⟩ : ∃ g, g = V0.heap.size := ⟨_, rfl⟩
          rw [← hgl] at R1 ⊢
          clear hgl
          generalize V0.alloc (.cells IC.toArray 45) = V1 at *
          refine hK.out _ _ S1.out ?_
          clear hK K
          try simp only [Act.put, List.setIfInBounds_toArray, List.set_cons_zero, List.set_cons_succ]
          refine readyL (i := 2) rfl (by kernel_rfl) (by kernel_rfl) fun K hK => ?_
          refine wp_appendN (.const (.slice none 0 0)) (.tmp 34) 27 45 _ 3 56 rfl Tryd.underlying27 info_ins5 (by kernel_rfl) (by omega) (.slice none 0 0) 0 [] gy w.heap.size IA n ic news rfl (own_nilN _ _ _ _) (by go_simp) (HSE.out.below (E1.out.mono (by have := HG5.out; have := HG6.out; omega))) HN.out.one (by have := HNL.out; unfold maxLen; omega) (by have := HNL.out; omega) (Nat.le_of_lt Y1.out.lt) ?_
          intro v1 V2 ho1 hg1
          rw [Nat.zero_add, List.nil_append] at ho1
          obtain ⟨A1, c1, rfl, _, _, _, hlt1⟩ := own_form2 ho1
          have hb1 : Below V1.heap.size V1 V2 := (Below.refl _ _).grown hg1.grown (Nat.le_refl _) (fun k hk => by cases hk)
          have C2 := Lib.hid (C1.out.below hb1)
          have E2 := Lib.hid (E1.out.trans (hb1.mono (Nat.le_of_lt Y1.out.lt)))
          have Y2 := Lib.hid (Y1.out.below hb1 Y1.out.lt)
          have S2 := Lib.hid (HSS.out _ C2.out)
          have O2 := Lib.hid ho1
          have R2 := Lib.hid (R1.out.below hb1 R1.out.lt)
          clear hg1 ho1 hb1 hlt1
          refine hK.out _ _ S2.out ?_
          clear hK K
          try simp only [Act.put, List.setIfInBounds_toArray, List.set_cons_zero, List.set_cons_succ]
          refine readyL (i := 5) rfl (by kernel_rfl) (by kernel_rfl) fun K hK => ?_
          refine wp_appendN (.tmp 35) (.tmp 37) 27 45 _ 3 56 rfl Tryd.underlying27 info_ins5 (by kernel_rfl) (by omega) (.slice A1 n c1) n news gy V2.heap.size (some ⟨gl, 0, none⟩) 1 1 IC (by go_simp) O2.out (by go_simp) (by have := R2.out.sees0; rwa [HI3.out] at this) HIO.out (by have := HNL.out; unfold maxLen; omega) (by have := HNL.out; omega) (Nat.le_of_lt Y2.out.lt) ?_
          intro v2 V3 ho3 hg3
          obtain ⟨A2, c2, rfl, hs3, hc1, hc2, hlt3⟩ := own_form2 ho3
          have hb3 : Below gy V2 V3 := (Below.refl _ _).grown hg3.grown (Nat.le_of_lt Y2.out.lt) (fun k hk => (O2.out.lt k hk).1)
          have Y3 := Lib.hid (Y2.out.grown hg3.grown (own_apart O2.out Y2.out (by decide)))
          have C3 := Lib.hid (C2.out.low hb3 (by have := HG5.out; have := HG6.out; omega))
          have E3 := Lib.hid (E2.out.trans hb3)
          have S3 := Lib.hid (HSS.out _ C3.out)
          have O3 := Lib.hid ho3
          have CC := Lib.hid (And.intro hc1 hc2)
          have N3 : Hid (InsCells V3 w.heap.size (m.ins ++ [y]) (news ++ IC)) := Lib.hid (by
            have h := HSNOC.out V3 w.heap.size news (HN.out.below (E3.out.mono (by have := HG5.out; have := HG6.out; omega))) C3.out.a C3.out.d
            exact h)
          clear ho3 hg3 hs3 hlt3 hb3 hc1 hc2
          refine hK.out _ _ S3.out ?_
          clear hK K
          try simp only [Act.put, List.setIfInBounds_toArray, List.set_cons_zero, List.set_cons_succ]
          refine takeL (i := 6) (v := ?_) rfl (by kernel_rfl) (by kernel_rfl) (by kernel_rfl) (fun _ _ _ h => h) (Or.inl ⟨by rfl, ?_⟩) S3.out ?_
          rotate_left
          · intro w hw
            try dsimp only at hw
            obtain ⟨q0, q1⟩ := hw
            go_simp
            try with_reducible rfl
          try simp only [Act.put, List.setIfInBounds_toArray, List.set_cons_zero, List.set_cons_succ]
          have c37 : V3.cell? ⟨gy, 37, none⟩ = some (.slice IA n ic) := H37.out V3 gy Y3.out
          have f37 := Y3.out.frozen 37
          refine readyL (i := 7) rfl (by kernel_rfl) (by kernel_rfl) fun K hK => ?_
          go_simp
          have hset := HSET.out A2 (n + 1) c2
          have C4 := Lib.hid (C3.out.low ((Below.refl gy V3).setCell (p := ⟨gy, 37, none⟩) (Nat.le_refl gy) (.slice A2 (n + 1) c2)) (by have := HG5.out; have := HG6.out; omega))
          have S4 := Lib.hid (HSS.out _ C4.out)
          refine hK.out _ _ S4.out ?_
          clear hK K
          try simp only [Act.put, List.setIfInBounds_toArray, List.set_cons_zero, List.set_cons_succ]
          refine wpAnyH_done (by kernel_rfl) ?_ _
          go_wp2_with fail
          go_meet
          have hb4 := (Below.refl gy V3).setCell (p := ⟨gy, 37, none⟩) (Nat.le_refl gy) (.slice A2 (n + 1) c2)
          have hY4 := Y3.out.set_ 37 (.slice A2 (n + 1) c2)
          have hO4 := own_turned O3.out Y3.out (by decide) (turned_setCell V3 ⟨gy, 37, none⟩ (.slice A2 (n + 1) c2))
          obtain ⟨A2', c2', he, hs4, _, _, _⟩ := own_form2 hO4
          injection he with e1 e2 e3
          subst e1 e3
          have hN4 := N3.out.below (hb4.mono (by have := HG5.out; have := HG6.out; omega))
          have hz4 : w.heap.size ≤ (V3.setCell ⟨gy, 37, none⟩ (.slice A2 (n + 1) c2)).heap.size := Nat.le_trans (by omega) C4.out.size
          exact ⟨A2, c2, hset ▸ hY4, HINM.out _ A2 (n + 1) c2 (C4.out.m.more hz4) ((hN4.more hz4).in_ hs4 (by rw [List.length_append, HLI.out]; rfl)) CC.out, E3.out.trans hb4⟩
      case rest =>
        obtain ⟨A2, c2, hrow, hmi, hbel⟩ := hcut
        have C5 := Lib.hid (C4.out.drew.low hbel (by have := HG5.out; have := HG6.out; omega))
        have RB5 := Lib.hid (RB4.out.drew.below hbel HG6.out)
        have HRW := Lib.hid hrow
        have HMI := Lib.hid hmi
        have HSM : Hid ((Tryd.prog.info? 30).map (·.size) = some ((rawM ⟨KA, kn, kc, IA, n, ic, LA, ln, lc⟩ A2 (n + 1) c2).cells (insM m (m.ins ++ [y]))).length) := Lib.hid (by rw [size_msg, cells_len (by exact HKR.out)])
        have HOF := Lib.hid (HO2.out wc A2 c2 hmi (HL.out.below C5.out.b HP.out))
        clear hrow hmi hbel HO2 C4 RB4 RY HSET HINM HSNOC
        generalize (rawM ⟨KA, kn, kc, IA, n, ic, LA, ln, lc⟩ A2 (n + 1) c2).cells (insM m (m.ins ++ [y])) = MX at *
        go_wp2_with ((with_reducible show wpList _ _ _ ({ dst := some 40, op := Op.load _ _, type := _, pos := _, after := _, guard := _ } :: _) _ _); go_must (refine wpList_load_whole rfl 30 (.tmp 6) rfl gy 30 MX _ Tryd.underlying30 rfl HSM.out HRW.out ?_ ?_; go_simp))
        refine HOF.out.mono ?_
        rintro e w6 ⟨rfl, hb6⟩
        have C6 := Lib.hid (C5.out.below hb6)
        have RB6 := Lib.hid (RB5.out.below hb6 RB5.out.lt)
        clear hb6 HOF C5 RB5 HRW HMI
        go_upto_region 7 with ((with_reducible show wpList _ _ _ ({ dst := none, op := Op.store 36 _ _, type := _, pos := _, after := _, guard := _ } :: _) _ _); go_must (refine wpList_store_new rfl 36 (.tmp 7) (.tmp 41) rfl [.int .u64 uy, .int .u64 px, .int .i64 bx] (size_bud _ _ _) (bud_one _ _ _) rfl ?_ ?_ ?_; go_simp; go_simp; intro w7 hr7 hb7 hz7; have R7 := Lib.hid hr7; have B7 := Lib.hid hb7; clear hr7 hb7 hz7))
        have C7 := Lib.hid (C6.out.below B7.out)
        have RB7 := Lib.hid (RB6.out.below B7.out RB6.out.lt)
        have x0 : w7.cell? ⟨gb, 0, none⟩ = some (.int .u64 ux) := RB7.out.cell 0
        have x1 : w7.cell? ⟨gb, 1, none⟩ = some (.int .u64 px) := RB7.out.cell 1
        have x2 : w7.cell? ⟨gb, 2, none⟩ = some (.int .i64 bx) := RB7.out.cell 2
        have y0 : w7.cell? ⟨w6.heap.size, 0, none⟩ = some (.int .u64 uy) := R7.out.cell 0
        have y1 : w7.cell? ⟨w6.heap.size, 1, none⟩ = some (.int .u64 px) := R7.out.cell 1
        have y2 : w7.cell? ⟨w6.heap.size, 2, none⟩ = some (.int .i64 bx) := R7.out.cell 2
        have hu1 := HU12.out.1
        have hu2 := HU12.out.2
        have hwr : IntKind.u64.wrap (ux + 200000) = ux + 200000 := u64_in _ (by omega) (by omega)
        have HLV := Lib.hid (lives8 w7 (HL.out.below C7.out.b HP.out))
        clear C6 RB6 B7
        by_cases hee : uy = ux
        · subst hee
          clear HE3
          go_wp2_with fail
          refine HLV.out.mono ?_
          rintro e w8 ⟨rfl, hb8⟩
          go_wp2_with fail
          go_ret
          exact ⟨rfl, C7.out.b.trans (hb8.mono C7.out.b.size)⟩
        · have hz := HE3.out.resolve_left hee
          clear HE3
          rcases (show ux + 200000 < 1400000 ∨ 1400000 ≤ ux + 200000 by omega) with hc | hc
          · rw [if_pos hc] at hz
            have hee' : (uy == ux) = false := by simp [hee]
            subst hz
            go_wp2_with fail
            refine HLV.out.mono ?_
            rintro e w8 ⟨rfl, hb8⟩
            go_wp2_with fail
            go_ret
            exact ⟨rfl, C7.out.b.trans (hb8.mono C7.out.b.size)⟩
          · have hc' : ¬ ux + 200000 < 1400000 := by omega
            rw [if_neg hc'] at hz
            subst hz
            go_wp2_with fail
            refine HLV.out.mono ?_
            rintro e w8 ⟨rfl, hb8⟩
            go_wp2_with fail
            go_ret
            exact ⟨rfl, C7.out.b.trans (hb8.mono C7.out.b.size)⟩
end Go.Proofs.YtdeadehcnellpaaDoor
