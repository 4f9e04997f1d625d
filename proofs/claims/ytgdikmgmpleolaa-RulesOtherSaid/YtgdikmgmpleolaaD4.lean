/-
  Parts joined: MoreWalk OtherMem.
-/
import Derived.Below
import Derived.Laws.OwnMore
import Derived.Deep.AppendLies
import Derived.Deep.Draws
import Derived.Lib.Hide
import Derived.Laws.MakeOwn
import Derived.Laws.CopyOwn
import Derived.Laws.Rows
import Derived.Laws.BitsAllLaws
import Derived.WalkKit
import Derived.Test.YtgdikmgmpleolaaRows
import Derived.WalkSpells
import Derived.WalkLawsBesides
import Derived.IntWalk
import Derived.Deep.MidRow
import Derived.Deep.WholeRow
import Derived.Maps.AppendAt
import Derived.OwnWalk
import Derived.Great.BuildSlice
import Derived.Recover
import Derived.Deep.RegionHeld
import Derived.Deep.QuietTactic
import Derived.BigQuiet
import Derived.ChangeKeysEq
import Derived.Deep.RegionHeld2
import Derived.Deep.CutBlock
import Derived.Laws.Tables
import Derived.ProofKit
import Derived.OpenShut
import Derived.ShutString
import Derived.ChangeOld
import Derived.Lib.SmallJoins
import Derived.Laws.Slices
import Derived.Deep.DeepCutAuto
import Derived.Deep.Slices
import Derived.Deep.Strs
import Derived.SizedLaws
import Derived.Laws.EntriesVeiled
import Derived.Deep.RegionHeld3
import Derived.Maps.OwnSet
import Derived.DeepKeys4
import Derived.WideKeyArr
import Derived.WideKeyEntry
import Derived.Test.YtgdikmgmpleolaaD1
import Derived.Test.YtgdikmgmpleolaaD2
import Derived.Test.YtgdikmgmpleolaaD3
/-
  Of part MoreWalk: what is needed here.
-/
namespace Go.Proofs.Ytgdikmgmpleolaa
open Go.RowKit
set_option linter.unusedVariables false
theorem Sees.far {w : World} {B n : Nat} {A : Option Addr} {xs : List Value} (h : Sees w B A n xs) {p : Addr} (hp : ∀ a, A = some a → a.block ≠ p.block) (u : Value) : Sees (w.setCell p u) B A n xs :=
  ⟨h.len, fun i v hv => by
    obtain ⟨a, ha, hb, hc⟩ := h.cell i v hv
    exact ⟨a, ha, hb, (World.cell?_setCell_other w p _ u (fun e => hp a ha (by rw [e, addr_block]))).trans hc⟩⟩
theorem Held.drew {w : World} {b : Nat} {cs : List Value} {x : LTx} (h : Held w b cs x) : Held w.drew b cs x := by
  obtain ⟨s, h1, h2⟩ := h.tx
  exact ⟨h.row.drew, s, h1, h2.keep fun p hp => rfl⟩
/-- what the law holds on to: the transaction that came in, a key, in boxes of their own -/
structure MCtx (w V : World) (cs : List Value) (s : TRaw) (x : LTx) (kc : List Value) : Prop where
  tx : Row V w.heap.size 33 cs
  key : Row V (w.heap.size + 1) 41 kc
  m : TxIn V w.heap.size s x
  b : Below w.heap.size w V
theorem MCtx.low {w V V' : World} {B : Nat} {cs kc : List Value} {s : TRaw} {x : LTx} (h : MCtx w V cs s x kc) (hb : Below B V V') (hB : w.heap.size + 2 ≤ B) : MCtx w V' cs s x kc :=
  ⟨h.tx.below hb (by omega), h.key.below hb (by omega), h.m.below (hb.mono (by omega)), h.b.trans (hb.mono (by omega))⟩
theorem MCtx.size {w V : World} {cs kc : List Value} {s : TRaw} {x : LTx} (h : MCtx w V cs s x kc) : w.heap.size + 2 ≤ V.heap.size := h.key.lt
theorem MCtx.below {w V V' : World} {cs kc : List Value} {s : TRaw} {x : LTx} (h : MCtx w V cs s x kc) (hb : Below V.heap.size V V') : MCtx w V' cs s x kc := h.low hb h.size
theorem MCtx.drew {w V : World} {cs kc : List Value} {s : TRaw} {x : LTx} (h : MCtx w V cs s x kc) : MCtx w V.drew cs s x kc := h.below (Below.refl _ _).drew
theorem MCtx.drewN {w V : World} {cs kc : List Value} {s : TRaw} {x : LTx} (h : MCtx w V cs s x kc) (n : Nat) : MCtx w (V.drewN n) cs s x kc := h.below (below_drewN (Below.refl _ _) n)
theorem MCtx.far {w V : World} {cs kc : List Value} {s : TRaw} {x : LTx} (h : MCtx w V cs s x kc) {p : Addr} (hp : w.heap.size + 2 ≤ p.block) (u : Value) : MCtx w (V.setCell p u) cs s x kc :=
  h.low ((Below.refl (w.heap.size + 2) V).setCell hp u) (Nat.le_refl _)
theorem MCtx.wide {w V : World} {cs kc : List Value} {s : TRaw} {x : LTx} (h : MCtx w V cs s x kc) : TxIn V V.heap.size s x := h.m.more h.b.size
theorem bytes_nil (w : World) (B : Nat) : BytesIn w B (.slice none 0 0) [] := ⟨⟨none, 0, rfl, Sees.nil _ _ _, Nat.le_refl _, by simp [maxLen]⟩⟩
theorem nil_one (p : Int) : ∀ u ∈ inCells p (.slice none 0 0) (.slice none 0 0), u.oneCell' = true := by
  intro u hu
  simp only [inCells, List.mem_cons, List.not_mem_nil, or_false] at hu
  rcases hu with rfl | rfl | rfl <;> rfl
theorem info_ins5 : (Try.prog.info? 47).map (fun i => (i.zero, i.size, i.bytes)) = some (some (.agg #[.int .u8 0, .slice none 0 0, .slice none 0 0]), 3, 56) := by kernel_rfl
set_option maxRecDepth 100000 in
set_option maxHeartbeats 8000000 in
theorem more_walk (s : TRaw) (x : LTx) (k : List Int) (pr : Int) (w : World) (hm : TxIn w w.heap.size s x) (hs : Sized x.m) (hwf : x.m.Wf) (hk : k.length = 32 ∧ AllBytes k) (hp : IsByte pr) :
    Calls Try.prog 6 #[.agg (s.cells x).toArray, .agg (bv k).toArray, .int .u8 pr] w fun e w' => e = .returned (.bool true) ∧ Below w.heap.size w w' := by
  have hb0 := ((Below.refl w.heap.size w).alloc (Nat.le_refl _) (.cells (s.cells x).toArray 33)).alloc (by simp) (.cells (bv k).toArray 41)
  have hc0 : MCtx w ((w.alloc (.cells (s.cells x).toArray 33)).alloc (.cells (bv k).toArray 41)) (s.cells x) s x (bv k) :=
    ⟨(Row.new w 33 (s.cells x)).alloc _, Row.new' _ 41 (bv k) (by simp), hm.below hb0, hb0⟩
  have HG := Lib.hid (great5 s x w.heap.size _ hc0.m hb0.size hs)
  have HTS := Lib.hid (show (Try.prog.info? 33).map (·.size) = some (s.cells x).length by rw [size_tx, tcells_len hm.m.recent])
  have HTO := Lib.hid (tcells_one (s := s) (x := x))
  have HTL := Lib.hid (show (s.cells x).length = 40 from tcells_len hm.m.recent)
  have HTRG := Lib.hid (fun (V : World) (g : Nat) (h : Row V g 33 (s.cells x)) => TxRow.of h hm.m.recent)
  have HTR := Lib.hid (fun (V : World) (h : Row V w.heap.size 33 (s.cells x)) => TxRow.of h hm.m.recent)
  have HCK := Lib.hid (fun (V : World) (h : TxIn V w.heap.size s x) (hz : w.heap.size ≤ V.heap.size) (hsm : Small x.m) => check_ s x w.heap.size V h hz hsm hwf)
  have HTT := Lib.hid (fun (V : World) (h : TxIn V w.heap.size s x) (hz : w.heap.size ≤ V.heap.size) (hsm : Small x.m) => total_ s x w.heap.size V h hz hsm)
  have HKS := Lib.hid (show (Try.prog.info? 41).map (·.size) = some (bv k).length by rw [bv_length, hk.1]; exact size_key)
  have HK32 := Lib.hid (show (bv k).length = 32 by rw [bv_length, hk.1])
  have HKO := Lib.hid (bv_one k)
  have HSET := Lib.hid (fun A n c => cells_keys s x A n c (x.m.keys ++ [k]))
  have HSETI := Lib.hid (fun A n c => cells_ins s x hm.m.recent A n c (x.m.ins ++ [⟨pr, [], []⟩]))
  have hk2 : ∀ y ∈ x.m.keys ++ [k], y.length = 32 := fun y hy => by
    rcases List.mem_append.1 hy with hy | hy
    · exact (hwf.keys y hy).1
    · rw [List.mem_singleton.1 hy]; exact hk.1
  have HINK := Lib.hid (fun (V : World) A n c (h : TxIn V V.heap.size s x) (hs : Sees V V.heap.size A (n * 32) (bv (x.m.keys ++ [k]).flatten)) (hc : n ≤ c ∧ c ≤ maxLen) (hn : (x.m.keys ++ [k]).length = n) => in_keys (g := 0) h hk2 hs hn hc)
  have HFL : Hid (bv x.m.keys.flatten ++ bv k = bv (x.m.keys ++ [k]).flatten) := Lib.hid (by rw [← bv_append, List.flatten_append]; simp)
  have HXC := Lib.hid (fun (V : World) (h : MCtx w V (s.cells x) s x (bv k)) => show Held V w.heap.size (s.cells x) x from ⟨h.tx, s, rfl, h.wide⟩)
  have lk := hm.m.keys.len
  have li := hm.m.ins.len
  have hpr := hp
  obtain ⟨p0, p1⟩ := hp
  generalize s.cells x = cs at *
  have HKK := Lib.hid hk
  obtain ⟨kc32, hkc⟩ : ∃ kc, kc = bv k := ⟨_, rfl⟩
  rw [← hkc] at HKS HK32 HKO HFL HXC HG hc0 ⊢
  have HKC := Lib.hid hkc
  clear hkc
  obtain ⟨SA, sn, sc, KA, kn, kc, IA, n, ic, LA, ln, lc⟩ := s
  dsimp only at lk li
  have HLK := Lib.hid lk
  have HLI := Lib.hid li
  have HC0 := Lib.hid hc0
  have HW := Lib.hid hwf
  have HPR := Lib.hid hpr
  clear hb0 hm hs hwf lk li hc0 hk hk2 hpr
  go_enter Try.func6, Try.ntmps6
  go_wp2_with ((with_reducible show wpList _ _ _ ({ dst := some 12, op := Op.load _ _, type := _, pos := _, after := _, guard := _ } :: _) _ _); go_must (refine wpList_load_whole rfl 33 (.tmp 3) rfl w.heap.size 33 cs _ Try.underlying33 rfl HTS.out HC0.out.tx ?_ ?_; go_simp))
  refine HG.out.mono ?_
  rintro e w1 ⟨⟨b, rfl, hgr⟩, hb1⟩
  have C1 := Lib.hid (HC0.out.below hb1)
  clear hb1 HG HC0
  cases b
  rotate_left
  · clear hgr
    go_wp2_with fail
    refine (lives5 _).mono ?_
    rintro e w2 ⟨rfl, hb2⟩
    go_wp2_with fail
    go_ret
    exact ⟨rfl, C1.out.b.trans (hb2.mono C1.out.b.size)⟩
  obtain ⟨hsg, ht⟩ := hgr rfl
  have HSM := Lib.hid (Small.of ht)
  have hkn : kn ≤ 3000 := by have := HLK.out; unfold total at ht; omega
  have hin : n ≤ 3000 := by have := HLI.out; unfold total at ht; omega
  have HCC := Lib.hid (HCK.out w1 C1.out.m C1.out.b.size HSM.out)
  clear hgr hsg ht HCK
  go_wp2_with ((with_reducible show wpList _ _ _ ({ dst := some 15, op := Op.load _ _, type := _, pos := _, after := _, guard := _ } :: _) _ _); go_must (refine wpList_load_atg (by kernel_rfl) 33 (.tmp 3) rfl ⟨w.heap.size, 0, none⟩ cs _ Try.underlying33 rfl HTS.out (fun j v hv => by rw [addr_row, C1.out.tx.cell, Nat.zero_add]; exact hv) ?_ ?_; go_simp))
  refine HCC.out.mono ?_
  rintro e w2 ⟨rfl, hb2⟩
  have C2 := Lib.hid (C1.out.below hb2)
  clear hb2 C1 HCC
  by_cases hck : chk x = 0
  rotate_left
  · have hcb : (chk x != 0) = true := by simp [hck]
    generalize chk x = cx at *
    clear hck
    go_wp2_with fail
    refine (lives5 _).mono ?_
    rintro e w3 ⟨rfl, hb3⟩
    go_wp2_with fail
    go_ret
    exact ⟨rfl, C2.out.b.trans (hb3.mono C2.out.b.size)⟩
  have HH := Lib.hid (holds_of hck)
  have hcb : (chk x != 0) = false := by simp [hck]
  clear hck
  generalize chk x = cx at *
  go_wp2_with fail
  have d5 : w2.cell? ⟨w.heap.size, 5, none⟩ = some (.slice KA kn kc) := (HTR.out _ C2.out.tx).c5
  go_loopw [7] (fun i wr => ∃ (q j : Nat), q ≤ kn ∧ i = .int .i64 q ∧ k ∉ x.m.keys.take q ∧ wr = w2.drewN j) (fun i _ => kn - (intOf i).toNat)
  case atStart => exact ⟨0, 0, Nat.zero_le _, rfl, by simp, rfl⟩
  case round =>
    obtain ⟨q, j, hq, rfl, hnot, rfl⟩ := hrel
    have HN := Lib.hid hnot
    clear hnot
    by_cases hql : q < kn
    · obtain ⟨a, y, ha, hab, hx, hat⟩ := C2.out.m.m.keys.get hql
      obtain rfl : KA = some a := ha
      have CA := Lib.hid hat.cells
      have HX := Lib.hid hx
      have HSX := Lib.hid (show (Try.prog.info? 41).map (·.size) = some (bv y).length by rw [size_key, bv_length, hat.len])
      have NQ : ∀ w, (binOp .eql 41 (.agg (bv y).toArray) (.agg kc32.toArray)).run Try.prog w = .ok (.bool (decide (y = k))) w := fun w => by rw [HKC.out]; exact key_eql hat.len HKK.out.1 w
      generalize bv y = X at *
      clear hx hat
      by_cases hyy : y = k
      · rw [decide_eq_true hyy] at NQ
        clear hyy
        go_wp2_with fail
        refine wp_region_quiet_lit (by kernel_rfl) (by kernel_rfl) ?_
        repeat (first
          | ((with_reducible show wpQuiet _ _ _ _ ({ dst := some 33, op := Op.load _ _, type := _, pos := _, after := _, guard := _ } :: _) _); go_must (refine quiet_load_at (by kernel_rfl) 41 (.tmp 32) rfl (a.add (q * 32)) X _ Try.underlying41 rfl HSX.out (by rintro _ ⟨nq, rfl⟩; exact CA.out) ?_ ?_; go_simp; go_simp))
          | ((with_reducible show wpQuiet _ _ _ _ ({ dst := some 34, op := Op.load _ _, type := _, pos := _, after := _, guard := _ } :: _) _); go_must (refine quiet_load_at (by kernel_rfl) 41 (.tmp 4) rfl ⟨w.heap.size + 1, 0, none⟩ kc32 _ Try.underlying41 rfl HKS.out (by rintro _ ⟨nq, rfl⟩; exact fun j v hv => by rw [addr_row, (C2.out.drewN _).key.cell, Nat.zero_add]; exact hv) ?_ ?_; go_simp; go_simp))
          | go_big_quiet_step (fail))
        refine wpQuiet_nil ?_
        intro nq
        go_wp2_with fail
        refine (lives5 _).mono ?_
        rintro e w3 ⟨rfl, hb3⟩
        go_wp2_with fail
        go_ret
        try rw [World.drewN_drewN] at hb3
        have h := (C2.out.drewN (j + nq)).b
        exact ⟨rfl, h.trans (hb3.mono h.size)⟩
      · rw [decide_eq_false hyy] at NQ
        have HP : Hid (k ∉ x.m.keys.take (q + 1)) := Lib.hid (by
          rw [List.take_add_one, HX.out, Option.toList_some, List.mem_append, List.mem_singleton]
          exact fun h => h.elim HN.out (fun e => hyy e.symm))
        clear hyy
        go_wp2_with fail
        refine wp_region_quiet_lit (by kernel_rfl) (by kernel_rfl) ?_
        repeat (first
          | ((with_reducible show wpQuiet _ _ _ _ ({ dst := some 33, op := Op.load _ _, type := _, pos := _, after := _, guard := _ } :: _) _); go_must (refine quiet_load_at (by kernel_rfl) 41 (.tmp 32) rfl (a.add (q * 32)) X _ Try.underlying41 rfl HSX.out (by rintro _ ⟨nq, rfl⟩; exact CA.out) ?_ ?_; go_simp; go_simp))
          | ((with_reducible show wpQuiet _ _ _ _ ({ dst := some 34, op := Op.load _ _, type := _, pos := _, after := _, guard := _ } :: _) _); go_must (refine quiet_load_at (by kernel_rfl) 41 (.tmp 4) rfl ⟨w.heap.size + 1, 0, none⟩ kc32 _ Try.underlying41 rfl HKS.out (by rintro _ ⟨nq, rfl⟩; exact fun j v hv => by rw [addr_row, (C2.out.drewN _).key.cell, Nat.zero_add]; exact hv) ?_ ?_; go_simp; go_simp))
          | go_big_quiet_step (fail))
        refine wpQuiet_nil ?_
        intro nq
        go_wp2_with fail
        go_roundw
        case rel => exact ⟨q + 1, j + nq, by omega, by go_num, HP.out, by simp⟩
        case measure => simp [intOf]; omega
    have hqn : q = kn := by omega
    have HNK : Hid (k ∉ x.m.keys) := Lib.hid (by
      have h1 := HN.out
      rwa [hqn, List.take_of_length_le (by rw [HLK.out]; exact Nat.le_refl _)] at h1)
    have C5 := Lib.hid (C2.out.drewN j)
    clear hqn HN C2
    go_upto_region 8 with fail
    clear d5 hql
    generalize w2.drewN j = V1 at *
    go_upto_region 9 with (first
      | ((with_reducible show wpList _ _ _ ({ dst := some 37, op := Op.load _ _, type := _, pos := _, after := _, guard := _ } :: _) _ _); go_must (refine wpList_load_whole rfl 33 (.tmp 3) rfl w.heap.size 33 cs _ Try.underlying33 rfl HTS.out C5.out.tx ?_ ?_; go_simp))
      | ((with_reducible show wpList _ _ _ ({ dst := none, op := Op.store 33 _ _, type := _, pos := _, after := _, guard := _ } :: _) _ _); go_must (refine wpList_store_new rfl 33 (.tmp 8) (.tmp 37) rfl cs HTS.out HTO.out (by rw [HTL.out]; rfl) ?_ ?_ ?_; go_simp; go_simp; intro w6 hr6 hb6 hz6; have RY := Lib.hid hr6; have B6 := Lib.hid hb6; clear hr6 hb6 hz6)))
    have C6 := Lib.hid (C5.out.below B6.out)
    have HGY : Hid (w.heap.size + 2 ≤ V1.heap.size) := Lib.hid C5.out.size
    obtain ⟨gy, hgy⟩ : ∃ g, g = V1.heap.size := ⟨_, rfl⟩
    rw [← hgy] at RY HGY ⊢
    have HGV : Hid (V1.heap.size ≤ gy) := Lib.hid (Nat.le_of_eq hgy.symm)
    clear hgy
    have HL0 : Hid (w.heap.size + 2 ≤ w6.drew.heap.size) := Lib.hid C6.out.size
    have HLN : Hid ((x.m.keys ++ [k]).length = kn + 1) := Lib.hid (by rw [List.length_append, HLK.out]; rfl)
    simp only [Act.put]
    go_cut [46] (fun _ wx => ∃ cy, Held wx gy cy (withKeys x (x.m.keys ++ [k])) ∧ Below V1.heap.size V1 wx)
    case first =>
      have HSS : Hid (∀ V : World, V.cell? ⟨w.heap.size, 5, none⟩ = some (.slice KA kn kc) → Row V (w.heap.size + 1) 41 kc32 → V.cell? ⟨w.heap.size, 5, none⟩ = some (.slice KA kn kc) ∧ V.rangeAt (w.heap.size + 1) 0 kc32) := Lib.hid fun V h h' => ⟨h, fun j u hu => by rw [h'.cell, Nat.zero_add]; exact hu⟩
      have Y0 := Lib.hid RY.out.drew
      have C0 : Hid (MCtx w w6.drew cs ⟨SA, sn, sc, ⟨KA, kn, kc, IA, n, ic, LA, ln, lc⟩⟩ x kc32) := Lib.hid C6.out.drew
      have E0 : Hid (Below V1.heap.size V1 w6.drew) := Lib.hid B6.out.drew
      have HD5 : Hid (∀ V : World, MCtx w V cs ⟨SA, sn, sc, ⟨KA, kn, kc, IA, n, ic, LA, ln, lc⟩⟩ x kc32 → V.cell? ⟨w.heap.size, 5, none⟩ = some (.slice KA kn kc)) := Lib.hid fun V h => (HTR.out V h.tx).c5
      have S0 := Lib.hid (HSS.out _ (HD5.out _ C0.out) C0.out.key)
      refine wp_region_held_drew (S := fun V => V.cell? ⟨w.heap.size, 5, none⟩ = some (.slice KA kn kc) ∧ V.rangeAt (w.heap.size + 1) 0 kc32) (by kernel_rfl) S0.out (fun _ => ?_)
      have HG0 : Hid (gy < w6.drew.heap.size ∧ V1.heap.size ≤ w6.drew.heap.size) := Lib.hid ⟨Y0.out.lt, E0.out.size⟩
      generalize w6.drew = V0 at *
      refine takeL (i := 0) (v := ?_) rfl (by kernel_rfl) (by kernel_rfl) (by kernel_rfl) (fun _ _ _ h => h) (Or.inl ⟨by rfl, ?_⟩) S0.out ?_
      rotate_left
      · intro w hw
        try dsimp only at hw
        obtain ⟨q0, q1⟩ := hw
        go_simp
        try with_reducible rfl
      try simp only [Act.put, List.setIfInBounds_toArray, List.set_cons_zero, List.set_cons_succ]
      refine takeL (i := 1) (v := ?_) rfl (by kernel_rfl) (by kernel_rfl) (by kernel_rfl) (fun _ _ _ h => h) (Or.inl ⟨by rfl, ?_⟩) S0.out ?_
      rotate_left
      · intro w hw
        try dsimp only at hw
        obtain ⟨q0, q1⟩ := hw
        go_simp
        try with_reducible rfl
      try simp only [Act.put, List.setIfInBounds_toArray, List.set_cons_zero, List.set_cons_succ]
      refine takeL (i := 2) (v := ?_) rfl (by kernel_rfl) (by kernel_rfl) (by kernel_rfl) (fun _ _ _ h => h) (Or.inl ⟨by rfl, ?_⟩) S0.out ?_
      rotate_left
      · intro w hw
        try dsimp only at hw
        obtain ⟨q0, q1⟩ := hw
        go_simp
        try with_reducible rfl
      try simp only [Act.put, List.setIfInBounds_toArray, List.set_cons_zero, List.set_cons_succ]
      refine takeL (i := 4) (v := .agg kc32.toArray) rfl (by kernel_rfl) (by kernel_rfl) (by kernel_rfl) (fun _ _ _ h => h) (yieldsIf_load_mid (by kernel_rfl) 41 (.tmp 4) rfl (w.heap.size + 1) 0 (by go_simp) kc32 _ (fun w hw => hw.2) Try.underlying41 rfl HKS.out) S0.out ?_
      try simp only [Act.put, List.setIfInBounds_toArray, List.set_cons_zero, List.set_cons_succ]
      have HZ0 : Hid (V0.heap.size ≤ V0.heap.size) := Lib.hid (Nat.le_refl _)
      refine readyL2 (i := 3) (j := 5) rfl rfl (by kernel_rfl) (by kernel_rfl) (by kernel_rfl) (fun K hK => ?_) (fun K hK => ?_)
      · refine wp_appendN (.const (.slice none 0 0)) (.tmp 40) 25 41 _ 32 32 rfl Try.underlying25 info_key (by kernel_rfl) (by omega) (.slice none 0 0) 0 [] V0.heap.size w.heap.size KA kn kc (bv x.m.keys.flatten) rfl (own_nilN _ _ _ _) (by go_simp) C0.out.m.m.keys.sees (bv_one _) (by unfold maxLen; omega) (by omega) HZ0.out ?_
        intro v1 V1a ho1 hg1
        rw [Nat.zero_add, List.nil_append] at ho1
        obtain ⟨A1, c1, rfl, _, _, _, hlt1⟩ := own_form2 ho1
        have hb1 : Below V0.heap.size V0 V1a := (Below.refl V0.heap.size V0).grown hg1.grown (Nat.le_refl _) (fun k hk => by cases hk)
        have C1 := Lib.hid (C0.out.below hb1)
        have E1 := Lib.hid (E0.out.trans (hb1.mono (Nat.le_trans HG0.out.2 HZ0.out)))
        have Y1 := Lib.hid (Y0.out.below hb1 Y0.out.lt)
        have HZ1 := Lib.hid (Nat.le_trans HZ0.out hb1.size)
        have S1 := Lib.hid (HSS.out _ (HD5.out _ C1.out) C1.out.key)
        have O1 := Lib.hid ho1
        clear hg1 ho1 hb1
        refine hK.out _ _ S1.out ?_
        clear hK K
        try simp only [Act.put, List.setIfInBounds_toArray, List.set_cons_zero, List.set_cons_succ]
        refine readyL (i := 5) rfl (by kernel_rfl) (by kernel_rfl) fun K hK => ?_
        refine wp_buildOne 25 41 (.tmp 42) rfl kc32 _ 32 32 Try.underlying25 info_key (by kernel_rfl) (by omega) (by omega) HK32.out (by go_simp) ?_
        have hb2 := (Below.refl V1a.heap.size V1a).alloc (Nat.le_refl _) (.cells kc32.toArray 41)
        have C2 := Lib.hid (C1.out.below hb2)
        have E2 := Lib.hid (E1.out.trans (hb2.mono (Nat.le_trans HG0.out.2 HZ1.out)))
        have Y2 := Lib.hid (Y1.out.below hb2 Y1.out.lt)
        have HZ2 := Lib.hid (Nat.le_trans HZ1.out hb2.size)
        have S2 := Lib.hid (HSS.out _ (HD5.out _ C2.out) C2.out.key)
        have O2 := Lib.hid (O1.out.alloc (.cells kc32.toArray 41))
        have GB2 := Lib.hid (Row.new V1a 41 kc32)
        clear hb2
        generalize V1a.alloc (.cells kc32.toArray 41) = V2 at *
        generalize V1a.heap.size = gb at *
        refine hK.out _ _ S2.out ?_
        clear hK K
        try simp only [Act.put, List.setIfInBounds_toArray, List.set_cons_zero, List.set_cons_succ]
        refine readyL (i := 6) rfl (by kernel_rfl) (by kernel_rfl) fun K hK => ?_
        refine wp_appendN (.tmp 41) (.tmp 43) 25 41 _ 32 32 rfl Try.underlying25 info_key (by kernel_rfl) (by omega) (.slice A1 kn c1) kn (bv x.m.keys.flatten) V0.heap.size V2.heap.size (some ⟨gb, 0, none⟩) 1 1 kc32 (by go_simp) O2.out (by go_simp) (by have := GB2.out.sees0; rwa [HK32.out] at this) HKO.out (by unfold maxLen; omega) (by omega) HZ2.out ?_
        intro v2 V3 ho3 hg3
        obtain ⟨A2, c2, rfl, hs3, hc1, hc2, hlt3⟩ := own_form2 ho3
        have hne : ∀ g, (Value.slice A1 kn c1).ownBlock = some g → V0.heap.size ≤ g := fun g hg => (O2.out.lt g hg).1
        have hb3 : Below V0.heap.size V2 V3 := (Below.refl V0.heap.size V2).grown hg3.grown HZ2.out (fun k hk => hne k hk)
        have C3 := Lib.hid (C2.out.low hb3 HL0.out)
        have E3 := Lib.hid (E2.out.trans (hb3.mono HG0.out.2))
        have Y3 := Lib.hid (Y2.out.below hb3 HG0.out.1)
        have S3 := Lib.hid (HSS.out _ (HD5.out _ C3.out) C3.out.key)
        have A3 := Lib.hid hs3
        have CC := Lib.hid (And.intro hc1 hc2)
        have LT3 := Lib.hid hlt3
        clear ho3 hg3 hs3 hlt3 hne hb3 hc1 hc2
        refine hK.out _ _ S3.out ?_
        clear hK K
        try simp only [Act.put, List.setIfInBounds_toArray, List.set_cons_zero, List.set_cons_succ]
        refine takeL (i := 7) (v := ?_) rfl (by kernel_rfl) (by kernel_rfl) (by kernel_rfl) (fun _ _ _ h => h) (Or.inl ⟨by rfl, ?_⟩) S3.out ?_
        rotate_left
        · intro w hw
          try dsimp only at hw
          obtain ⟨q0, q1⟩ := hw
          go_simp
          try with_reducible rfl
        try simp only [Act.put, List.setIfInBounds_toArray, List.set_cons_zero, List.set_cons_succ]
        refine takeL (i := 8) (v := ?_) rfl (by kernel_rfl) (by kernel_rfl) (by kernel_rfl) (fun _ _ _ h => h) (Or.inl ⟨by rfl, ?_⟩) S3.out ?_
        rotate_left
        · intro w hw
          try dsimp only at hw
          obtain ⟨q0, q1⟩ := hw
          go_simp
          try with_reducible rfl
        try simp only [Act.put, List.setIfInBounds_toArray, List.set_cons_zero, List.set_cons_succ]
        have c5 : V3.cell? ⟨gy, 5, none⟩ = some (.slice KA kn kc) := (HTRG.out V3 gy Y3.out).c5
        have f5 := Y3.out.frozen 5
        refine readyL (i := 9) rfl (by kernel_rfl) (by kernel_rfl) fun K hK => ?_
        go_simp
        have hcy := HSET.out A2 (kn + 1) c2
        have C4 := Lib.hid (C3.out.far (p := ⟨gy, 5, none⟩) HGY.out (.slice A2 (kn + 1) c2))
        have S4 := Lib.hid (HSS.out _ (HD5.out _ C4.out) C4.out.key)
        refine hK.out _ _ S4.out ?_
        clear hK K
        try simp only [Act.put, List.setIfInBounds_toArray, List.set_cons_zero, List.set_cons_succ]
        refine wpAnyH_done (by kernel_rfl) ?_ _
        go_wp2_with fail
        go_meet
        refine ⟨cs.set 5 (.slice A2 (kn + 1) c2), ⟨Y3.out.set_ 5 _, _, hcy, HINK.out _ A2 (kn + 1) c2 C4.out.wide ?_ CC.out HLN.out⟩, E3.out.setCell HGV.out _⟩
        have h := A3.out.far (p := ⟨gy, 5, none⟩) (fun a ha => by have := (LT3.out a.block (by rw [ha]; rfl)).1; have := HG0.out.1; intro e; have e : a.block = gy := e; omega) (.slice A2 (kn + 1) c2)
        exact (HFL.out ▸ h).more (by simp)
      · refine wp_buildOne 25 41 (.tmp 42) rfl kc32 _ 32 32 Try.underlying25 info_key (by kernel_rfl) (by omega) (by omega) HK32.out (by go_simp) ?_
        have hb1 := (Below.refl V0.heap.size V0).alloc (Nat.le_refl _) (.cells kc32.toArray 41)
        have C1 := Lib.hid (C0.out.below hb1)
        have E1 := Lib.hid (E0.out.trans (hb1.mono (Nat.le_trans HG0.out.2 HZ0.out)))
        have Y1 := Lib.hid (Y0.out.below hb1 Y0.out.lt)
        have HZ1 := Lib.hid (Nat.le_trans HZ0.out hb1.size)
        have S1 := Lib.hid (HSS.out _ (HD5.out _ C1.out) C1.out.key)
        have GB1 := Lib.hid (Row.new V0 41 kc32)
        clear hb1
        generalize hgb : V0.heap.size = gb at *
        generalize V0.alloc (.cells kc32.toArray 41) = V1a at *
        refine hK.out _ _ S1.out ?_
        clear hK K
        try simp only [Act.put, List.setIfInBounds_toArray, List.set_cons_zero, List.set_cons_succ]
        refine readyL (i := 3) rfl (by kernel_rfl) (by kernel_rfl) fun K hK => ?_
        refine wp_appendN (.const (.slice none 0 0)) (.tmp 40) 25 41 _ 32 32 rfl Try.underlying25 info_key (by kernel_rfl) (by omega) (.slice none 0 0) 0 [] gb w.heap.size KA kn kc (bv x.m.keys.flatten) rfl (own_nilN _ _ _ _) (by go_simp) C1.out.m.m.keys.sees (bv_one _) (by unfold maxLen; omega) (by omega) HZ1.out ?_
        intro v1 V2 ho1 hg1
        rw [Nat.zero_add, List.nil_append] at ho1
        obtain ⟨A1, c1, rfl, _, _, _, hlt1⟩ := own_form2 ho1
        have hb2 : Below V1a.heap.size V1a V2 := (Below.refl V1a.heap.size V1a).grown hg1.grown (Nat.le_refl _) (fun k hk => by cases hk)
        have C2 := Lib.hid (C1.out.below hb2)
        have E2 := Lib.hid (E1.out.trans (hb2.mono (Nat.le_trans HG0.out.2 HZ1.out)))
        have Y2 := Lib.hid (Y1.out.below hb2 Y1.out.lt)
        have HZ2 := Lib.hid (Nat.le_trans HZ1.out hb2.size)
        have S2 := Lib.hid (HSS.out _ (HD5.out _ C2.out) C2.out.key)
        have O2 := Lib.hid ho1
        have GB2 := Lib.hid (GB1.out.below hb2 GB1.out.lt)
        clear hg1 ho1 hb2
        refine hK.out _ _ S2.out ?_
        clear hK K
        try simp only [Act.put, List.setIfInBounds_toArray, List.set_cons_zero, List.set_cons_succ]
        refine readyL (i := 6) rfl (by kernel_rfl) (by kernel_rfl) fun K hK => ?_
        refine wp_appendN (.tmp 41) (.tmp 43) 25 41 _ 32 32 rfl Try.underlying25 info_key (by kernel_rfl) (by omega) (.slice A1 kn c1) kn (bv x.m.keys.flatten) gb V2.heap.size (some ⟨gb, 0, none⟩) 1 1 kc32 (by go_simp) O2.out (by go_simp) (by have := GB2.out.sees0; rwa [HK32.out] at this) HKO.out (by unfold maxLen; omega) (by omega) HZ2.out ?_
        intro v2 V3 ho3 hg3
        obtain ⟨A2, c2, rfl, hs3, hc1, hc2, hlt3⟩ := own_form2 ho3
        have hne : ∀ g, (Value.slice A1 kn c1).ownBlock = some g → gb ≤ g := fun g hg => (O2.out.lt g hg).1
        have hb3 : Below gb V2 V3 := (Below.refl gb V2).grown hg3.grown HZ2.out (fun k hk => hne k hk)
        have C3 := Lib.hid (C2.out.low hb3 HL0.out)
        have E3 := Lib.hid (E2.out.trans (hb3.mono HG0.out.2))
        have Y3 := Lib.hid (Y2.out.below hb3 HG0.out.1)
        have S3 := Lib.hid (HSS.out _ (HD5.out _ C3.out) C3.out.key)
        have A3 := Lib.hid hs3
        have CC := Lib.hid (And.intro hc1 hc2)
        have LT3 := Lib.hid hlt3
        clear ho3 hg3 hs3 hlt3 hne hb3 hc1 hc2
        refine hK.out _ _ S3.out ?_
        clear hK K
        try simp only [Act.put, List.setIfInBounds_toArray, List.set_cons_zero, List.set_cons_succ]
        refine takeL (i := 7) (v := ?_) rfl (by kernel_rfl) (by kernel_rfl) (by kernel_rfl) (fun _ _ _ h => h) (Or.inl ⟨by rfl, ?_⟩) S3.out ?_
        rotate_left
        · intro w hw
          try dsimp only at hw
          obtain ⟨q0, q1⟩ := hw
          go_simp
          try with_reducible rfl
        try simp only [Act.put, List.setIfInBounds_toArray, List.set_cons_zero, List.set_cons_succ]
        refine takeL (i := 8) (v := ?_) rfl (by kernel_rfl) (by kernel_rfl) (by kernel_rfl) (fun _ _ _ h => h) (Or.inl ⟨by rfl, ?_⟩) S3.out ?_
        rotate_left
        · intro w hw
          try dsimp only at hw
          obtain ⟨q0, q1⟩ := hw
          go_simp
          try with_reducible rfl
        try simp only [Act.put, List.setIfInBounds_toArray, List.set_cons_zero, List.set_cons_succ]
        have c5 : V3.cell? ⟨gy, 5, none⟩ = some (.slice KA kn kc) := (HTRG.out V3 gy Y3.out).c5
        have f5 := Y3.out.frozen 5
        refine readyL (i := 9) rfl (by kernel_rfl) (by kernel_rfl) fun K hK => ?_
        go_simp
        have hcy := HSET.out A2 (kn + 1) c2
        have C4 := Lib.hid (C3.out.far (p := ⟨gy, 5, none⟩) HGY.out (.slice A2 (kn + 1) c2))
        have S4 := Lib.hid (HSS.out _ (HD5.out _ C4.out) C4.out.key)
        refine hK.out _ _ S4.out ?_
        clear hK K
        try simp only [Act.put, List.setIfInBounds_toArray, List.set_cons_zero, List.set_cons_succ]
        refine wpAnyH_done (by kernel_rfl) ?_ _
        go_wp2_with fail
        go_meet
        refine ⟨cs.set 5 (.slice A2 (kn + 1) c2), ⟨Y3.out.set_ 5 _, _, hcy, HINK.out _ A2 (kn + 1) c2 C4.out.wide ?_ CC.out HLN.out⟩, E3.out.setCell HGV.out _⟩
        have h := A3.out.far (p := ⟨gy, 5, none⟩) (fun a ha => by have := (LT3.out a.block (by rw [ha]; rfl)).1; have := HG0.out.1; intro e; have e : a.block = gy := e; omega) (.slice A2 (kn + 1) c2)
        exact (HFL.out ▸ h).more (by simp)
    case rest =>
      obtain ⟨cy, hhy, hby⟩ := hcut
      have HY1 := Lib.hid hhy
      have C6 := Lib.hid (C5.out.below hby)
      clear hhy hby C5 HSET HINK RY B6 HGY HGV HL0
      go_wp2_with ((with_reducible show wpList _ _ _ ({ dst := some 47, op := Op.load _ _, type := _, pos := _, after := _, guard := _ } :: _) _ _); go_must (refine wpList_load_whole rfl 33 (.tmp 3) rfl w.heap.size 33 cs _ Try.underlying33 rfl HTS.out C6.out.tx ?_ ?_; go_simp))
      refine (HTT.out wc C6.out.m C6.out.b.size HSM.out).mono ?_
      rintro e w7 ⟨rfl, hb7⟩
      have C7 := Lib.hid (C6.out.below hb7)
      have HY7 := Lib.hid (HY1.out.below hb7)
      have HT64 := Lib.hid HH.out.t
      have HTY := Lib.hid (fun (V : World) (h : Held V gy cy (withKeys x (x.m.keys ++ [k]))) => held_total h (small_keys HSM.out (by rw [List.length_append, HLK.out, List.length_singleton]; omega)) (tot_more x k))
      have HTX := Lib.hid (fun (V : World) (h : Held V w.heap.size cs x) => held_total h HSM.out rfl)
      obtain ⟨wn, hwn⟩ : ∃ wn : Int, wn = if tot x.m = 64 then 3 else 0 := ⟨_, rfl⟩
      have HCY := Lib.hid (fun (V : World) (h : Held V gy cy (withKeys x (x.m.keys ++ [k]))) => held_check h (small_keys HSM.out (by rw [List.length_append, HLK.out, List.length_singleton]; omega)) (wf_keys HW.out (fun y hy => by
        rcases List.mem_append.1 hy with hy | hy
        · exact HW.out.keys y hy
        · rw [List.mem_singleton.1 hy]; exact HKK.out)) (show chk (withKeys x (x.m.keys ++ [k])) = wn by rw [chk_key HH.out k, if_neg HNK.out, hwn]))
      have HWN := Lib.hid hwn
      clear hb7 C6 HY1 hwn
      generalize tot x.m = tt at *
      generalize withKeys x (x.m.keys ++ [k]) = y at *
      go_upto_if 49 with fail
      go_cut [9] (fun s9 wx => s9 = .int .i64 wn ∧ MCtx w wx cs ⟨SA, sn, sc, ⟨KA, kn, kc, IA, n, ic, LA, ln, lc⟩⟩ x kc32 ∧ Held wx gy cy y)
      case first =>
        by_cases h64 : tt = 64
        · have q1 : ((tt : Int) == 64) = true := by simp [h64]
          have HW3 : Hid (wn = 3) := Lib.hid (by rw [HWN.out, if_pos h64])
          clear h64
          go_wp2_with fail
          go_meet
          exact ⟨by rw [HW3.out], C7.out, HY7.out⟩
        · have q1 : ((tt : Int) == 64) = false := by simp; omega
          have HW3 : Hid (wn = 0) := Lib.hid (by rw [HWN.out, if_neg h64])
          clear h64
          go_wp2_with fail
          go_meet
          exact ⟨by rw [HW3.out], C7.out, HY7.out⟩
      case rest =>
        obtain ⟨rfl, hc, hhy⟩ := hcut
        have C7 := Lib.hid hc
        have HY7 := Lib.hid hhy
        clear hc hhy
        go_upto_region 14 with (first
          | ((with_reducible show wpList _ _ _ ({ dst := some 50, op := Op.load _ _, type := _, pos := _, after := _, guard := _ } :: _) _ _); go_must (refine wpList_load_whole rfl 33 (.tmp 3) rfl w.heap.size 33 cs _ Try.underlying33 rfl HTS.out C7.out.tx ?_ ?_; go_simp))
          | ((with_reducible show wpList _ _ _ ({ dst := none, op := Op.store 33 _ _, type := _, pos := _, after := _, guard := _ } :: _) _ _); go_must (refine wpList_store_new rfl 33 (.tmp 10) (.tmp 50) rfl cs HTS.out HTO.out (by rw [HTL.out]; rfl) ?_ ?_ ?_; go_simp; go_simp; intro w8 hr8 hb8 hz8; have RZ := Lib.hid hr8; have B8 := Lib.hid hb8; clear hr8 hb8 hz8)))
        have C8 := Lib.hid (C7.out.below B8.out)
        have d38 : w8.cell? ⟨w.heap.size, 38, none⟩ = some (.slice IA n ic) := (HTR.out _ C8.out.tx).c38
        obtain ⟨news, hic, hsees⟩ := C8.out.m.m.ins.cells
        have HIC := Lib.hid hic
        have HSEE := Lib.hid hsees
        obtain ⟨gz, hgz⟩ : ∃ g, g = wc.heap.size := ⟨_, rfl⟩
        have HGZ := Lib.hid hgz
        rw [← hgz] at RZ ⊢
        have HGZ2 : Hid (w.heap.size + 2 ≤ gz) := Lib.hid (by rw [hgz]; exact C7.out.size)
        have HGZ3 : Hid (gz < w8.heap.size) := Lib.hid RZ.out.lt
        have HZR : Hid (w.heap.size ≤ w8.heap.size) := Lib.hid C8.out.b.size
        clear hic hsees hgz
        go_upto_region 15 with (first
          | ((with_reducible show wpList _ _ _ ({ dst := some 54, op := _, type := _, pos := _, after := _, guard := _ } :: _) _ _); go_must (refine wpList_appendN rfl (.const (.slice none 0 0)) (.tmp 53) 28 47 _ 3 56 rfl Try.underlying28 info_ins5 (by kernel_rfl) (by omega) (.slice none 0 0) 0 [] w8.heap.size w.heap.size IA n ic news rfl (own_nilN _ _ _ _) ?_ HSEE.out HIC.out.one (by unfold maxLen; omega) (by omega) (Nat.le_refl _) ?_; go_simp; intro v1 u1 ho1 hg1; rw [Nat.zero_add, List.nil_append] at ho1; obtain ⟨A1, c1, rfl, _, _, _, hlt1⟩ := own_form2 ho1; have hb1 : Below w8.heap.size w8 u1 := (Below.refl w8.heap.size w8).grown hg1.grown (Nat.le_refl _) (fun k hk => by cases hk); have BU1 := Lib.hid hb1; have O1 := Lib.hid ho1; have RB := Lib.hid (Row.new u1 47 (inCells pr (.slice none 0 0) (.slice none 0 0))); have OA := Lib.hid (ho1.alloc (.cells (inCells pr (.slice none 0 0) (.slice none 0 0)).toArray 47)); have ZA : Hid (w8.heap.size ≤ (u1.alloc (.cells (inCells pr (.slice none 0 0) (.slice none 0 0)).toArray 47)).heap.size) := Lib.hid (Nat.le_trans hb1.size (by simp)); have BUA : Hid (Below w8.heap.size w8 (u1.alloc (.cells (inCells pr (.slice none 0 0) (.slice none 0 0)).toArray 47))) := Lib.hid (hb1.alloc hb1.size _); clear ho1 hg1 hlt1 hb1))
          | ((with_reducible show wpList _ _ _ ({ dst := some 58, op := _, type := _, pos := _, after := _, guard := _ } :: _) _ _); go_must (refine wpList_appendN rfl (.tmp 54) (.tmp 57) 28 47 _ 3 56 rfl Try.underlying28 info_ins5 (by kernel_rfl) (by omega) (.slice A1 n c1) n news w8.heap.size _ (some ⟨u1.heap.size, 0, none⟩) 1 1 (inCells pr (.slice none 0 0) (.slice none 0 0)) ?_ OA.out ?_ RB.out.sees0 (nil_one _) (by unfold maxLen; omega) (by omega) ZA.out ?_; go_simp; go_simp; intro v2 u3 ho3 hg3; obtain ⟨A2, c2, rfl, hs3, hc1, hc2, hlt3⟩ := own_form2 ho3; have hne : ∀ g, (Value.slice A1 n c1).ownBlock = some g → w8.heap.size ≤ g := fun g hg => (OA.out.lt g hg).1; have hb3 : Below w8.heap.size w8 u3 := BUA.out.grown hg3.grown ZA.out (fun k hk => hne k hk); have BU3 := Lib.hid hb3; have SE3 := Lib.hid hs3; have CC := Lib.hid (And.intro hc1 hc2); have LT3 := Lib.hid hlt3; have RZ3 := Lib.hid (RZ.out.below hb3 HGZ3.out); have c38 : u3.cell? ⟨gz, 38, none⟩ = some (.slice IA n ic) := (HTRG.out u3 gz RZ3.out).c38; have f38 := RZ3.out.frozen 38; clear ho3 hg3 hs3 hlt3 hne hb3 hc1 hc2)))
        clear d38 c38 f38
        have C9 := Lib.hid ((C8.out.low BU3.out C8.out.size).far (p := ⟨gz, 38, none⟩) HGZ2.out (.slice A2 (n + 1) c2))
        have HY9 := Lib.hid (HY7.out.below ((B8.out.trans (BU3.out.mono B8.out.size)).setCell (p := ⟨gz, 38, none⟩) (show wc.heap.size ≤ gz by rw [HGZ.out]; exact Nat.le_refl _) (.slice A2 (n + 1) c2)))
        have HZ9 : Hid (Held (u3.setCell ⟨gz, 38, none⟩ (.slice A2 (n + 1) c2)) gz (cs.set 38 (.slice A2 (n + 1) c2)) (withIns x (x.m.ins ++ [⟨pr, [], []⟩]))) := Lib.hid (by
          refine ⟨RZ3.out.set_ 38 _, _, HSETI.out A2 (n + 1) c2, in_ins C9.out.wide ?_ CC.out⟩
          have h := SE3.out.far (p := ⟨gz, 38, none⟩) (fun a ha => by have := (LT3.out a.block (by rw [ha]; rfl)).1; have := HGZ3.out; intro e; have e : a.block = gz := e; omega) (.slice A2 (n + 1) c2)
          have hic2 : InsCells (u3.setCell ⟨gz, 38, none⟩ (.slice A2 (n + 1) c2)) w.heap.size x.m.ins news := (HIC.out.below (BU3.out.mono HZR.out)).below ((Below.refl w.heap.size u3).setCell (p := ⟨gz, 38, none⟩) (show w.heap.size ≤ gz by have := HGZ2.out; omega) _)
          have hic3 := (hic2.more C9.out.b.size).snoc (y := ⟨pr, [], []⟩) HPR.out (bytes_nil _ _) (bytes_nil _ _)
          exact hic3.in_ (h.more (by simp)) (by rw [List.length_append, HLI.out]; rfl))
        have HCZ := Lib.hid (fun (V : World) (h : Held V gz (cs.set 38 (.slice A2 (n + 1) c2)) (withIns x (x.m.ins ++ [⟨pr, [], []⟩]))) => held_check h (small_ins HSM.out (by rw [List.length_append, HLI.out, List.length_singleton]; omega) (fun i hi => by
          rcases List.mem_append.1 hi with hi | hi
          · exact HSM.out.acc i hi
          · rw [List.mem_singleton.1 hi]; simp)) (wf_ins HW.out (fun i hi => by
          rcases List.mem_append.1 hi with hi | hi
          · exact HW.out.ins i hi
          · rw [List.mem_singleton.1 hi]; exact ⟨HPR.out, fun z hz => by simp at hz, fun z hz => by simp at hz⟩)) (chk_ins HH.out pr HPR.out))
        have HSZ := Lib.hid (show (Try.prog.info? 33).map (·.size) = some (cs.set 38 (.slice A2 (n + 1) c2)).length by rw [List.length_set]; exact HTS.out)
        have HSY : Hid ((Try.prog.info? 33).map (·.size) = some cy.length) := Lib.hid (by
          obtain ⟨s', e, h⟩ := HY9.out.tx
          rw [e, size_tx, tcells_len h.m.recent])
        generalize u3.setCell ⟨gz, 38, none⟩ (.slice A2 (n + 1) c2) = W9 at *
        generalize cs.set 38 (.slice A2 (n + 1) c2) = cz at *
        clear C7 C8 HY7 RZ RZ3 B8 HIC HSEE HGZ HGZ2 HGZ3 HZR O1 OA ZA RB BU1 BUA BU3 SE3 LT3 CC HSETI
        obtain ⟨mb, hmb⟩ : ∃ mb, mb = decide (0 < pr ∧ pr < (x.m.keys.length : Int)) := ⟨_, rfl⟩
        obtain ⟨zc, hzc⟩ : ∃ zc : Int, zc = if 0 < pr ∧ pr < (x.m.keys.length : Int) then 0 else 8 := ⟨_, rfl⟩
        rw [← hzc] at HCZ
        have HMB : Hid ((zc == 0) = mb) := Lib.hid (by
          rw [hzc, hmb]
          by_cases h : 0 < pr ∧ pr < (x.m.keys.length : Int)
          · rw [if_pos h, decide_eq_true h]; rfl
          · rw [if_neg h, decide_eq_false h]; rfl)
        have HMD : Hid (mb = decide (0 < pr ∧ pr < (kn : Int))) := Lib.hid (by rw [hmb, HLK.out])
        clear hmb hzc
        generalize withIns x (x.m.ins ++ [⟨pr, [], []⟩]) = zz at *
        have d5 : W9.cell? ⟨w.heap.size, 5, none⟩ = some (.slice KA kn kc) := (HTR.out _ C9.out.tx).c5
        go_cut [11] (fun s11 wx => s11 = .bool mb ∧ MCtx w wx cs ⟨SA, sn, sc, ⟨KA, kn, kc, IA, n, ic, LA, ln, lc⟩⟩ x kc32 ∧ Held wx gy cy y ∧ Held wx gz cz zz)
        case first =>
          by_cases hz0 : 0 < pr
          · by_cases hz1 : pr < (kn : Int)
            · have HM2 : Hid (mb = true) := Lib.hid (by rw [HMD.out]; simp [hz0, hz1])
              go_wp2_with fail
              go_meet
              exact ⟨by rw [HM2.out], C9.out, HY9.out, HZ9.out⟩
            · have HM2 : Hid (mb = false) := Lib.hid (by rw [HMD.out]; simp [hz1])
              go_wp2_with fail
              go_meet
              exact ⟨by rw [HM2.out], C9.out, HY9.out, HZ9.out⟩
          · have HM2 : Hid (mb = false) := Lib.hid (by rw [HMD.out]; simp [hz0])
            go_wp2_with fail
            go_meet
            exact ⟨by rw [HM2.out], C9.out, HY9.out, HZ9.out⟩
        case rest =>
          obtain ⟨rfl, hc, hhy, hhz⟩ := hcut
          have B8 := Lib.hid hc.b
          have HX8 := Lib.hid (HXC.out _ hc)
          have HY8 := Lib.hid hhy
          have HZ8 := Lib.hid hhz
          have htt := HT64.out
          have WR1 : Hid (IntKind.i64.wrap ((tt : Int) + 1) = (tt : Int) + 1) := Lib.hid (IntWalk.i64_in _ (by omega))
          have HTY2 : Hid (∀ V : World, Held V gy cy y → Calls Try.prog 10 #[.agg cy.toArray] V fun e w' => e = .returned (.int .i64 ((tt : Int) + 1)) ∧ Below V.heap.size V w') := Lib.hid fun V h => by
            have := HTY.out V h
            rwa [show ((tt + 1 : Nat) : Int) = (tt : Int) + 1 by omega] at this
          have HTY := HTY2
          clear hc hhy hhz d5 C9 HY9 HZ9 HTY2
          go_upto_region 16 with fail
          obtain ⟨W8, hW8⟩ : ∃ u : World, u = wc := ⟨_, rfl⟩
          subst hW8
          have HS3 : Hid (∀ V : World, Row V w.heap.size 33 cs → Row V gy 33 cy → Row V gz 33 cz → V.rangeAt w.heap.size 0 cs ∧ V.rangeAt gy 0 cy ∧ V.rangeAt gz 0 cz) := Lib.hid fun V h h' h'' => ⟨fun j u hu => by rw [h.cell, Nat.zero_add]; exact hu, fun j u hu => by rw [h'.cell, Nat.zero_add]; exact hu, fun j u hu => by rw [h''.cell, Nat.zero_add]; exact hu⟩
          have X0 := Lib.hid HX8.out.drew
          have Y0 := Lib.hid HY8.out.drew
          have Z0 := Lib.hid HZ8.out.drew
          have BB0 := Lib.hid B8.out.drew
          have T0 := Lib.hid (HS3.out _ X0.out.row Y0.out.row Z0.out.row)
          refine wp_region_held_drew (S := fun V => V.rangeAt w.heap.size 0 cs ∧ V.rangeAt gy 0 cy ∧ V.rangeAt gz 0 cz) (by kernel_rfl) T0.out (fun _ => ?_)
          generalize W8.drew = V0 at *
          refine takeL (i := 0) (v := .agg (cy).toArray) rfl (by kernel_rfl) (by kernel_rfl) (by kernel_rfl) (fun _ _ _ h => h) (yieldsIf_load_mid (by kernel_rfl) 33 (.tmp 8) rfl gy 0 (by go_simp) (cy) _ (fun w hw => hw.2.1) Try.underlying33 rfl HSY.out) T0.out ?_
          try simp only [Act.put, List.setIfInBounds_toArray, List.set_cons_zero, List.set_cons_succ]
          refine takeL (i := 2) (v := ?_) rfl (by kernel_rfl) (by kernel_rfl) (by kernel_rfl) (fun _ _ _ h => h) (Or.inl ⟨by rfl, ?_⟩) T0.out ?_
          rotate_left
          · intro w hw
            try dsimp only at hw
            go_simp
            try with_reducible rfl
          try simp only [Act.put, List.setIfInBounds_toArray, List.set_cons_zero, List.set_cons_succ]
          refine readyL (i := 1) rfl (by kernel_rfl) (by kernel_rfl) fun K hK => ?_
          go_simp
          refine (HCY.out V0 Y0.out).mono ?_
          rintro e V1 ⟨rfl, hb⟩
          simp only []
          have X1 := Lib.hid (X0.out.below hb)
          have Y1 := Lib.hid (Y0.out.below hb)
          have Z1 := Lib.hid (Z0.out.below hb)
          have BB1 := Lib.hid (BB0.out.trans (hb.mono BB0.out.size))
          have T1 := Lib.hid (HS3.out _ X1.out.row Y1.out.row Z1.out.row)
          clear hb
          refine hK.out _ _ T1.out ?_
          clear hK K
          try simp only [Act.put, List.setIfInBounds_toArray, List.set_cons_zero, List.set_cons_succ]
          refine takeL (i := 3) (v := .bool true) rfl (by kernel_rfl) (by kernel_rfl) (by kernel_rfl) (fun _ _ _ h => h) (Or.inl ⟨by kernel_rfl, fun w hw => by go_simp⟩) T1.out ?_
          try simp only [Act.put, List.setIfInBounds_toArray, List.set_cons_zero, List.set_cons_succ]
          refine takeL (i := 4) (v := ?_) rfl (by kernel_rfl) (by kernel_rfl) (by kernel_rfl) (fun _ _ _ h => h) (Or.inl ⟨by rfl, ?_⟩) T1.out ?_
          rotate_left
          · intro w hw
            try dsimp only at hw
            go_simp
            try with_reducible rfl
          try simp only [Act.put, List.setIfInBounds_toArray, List.set_cons_zero, List.set_cons_succ]
          refine takeL (i := 5) (v := .agg (cy).toArray) rfl (by kernel_rfl) (by kernel_rfl) (by kernel_rfl) (fun _ _ _ h => h) (yieldsIf_load_mid (by kernel_rfl) 33 (.tmp 8) rfl gy 0 (by go_simp) (cy) _ (fun w hw => hw.2.1) Try.underlying33 rfl HSY.out) T1.out ?_
          try simp only [Act.put, List.setIfInBounds_toArray, List.set_cons_zero, List.set_cons_succ]
          refine takeL (i := 7) (v := .agg (cs).toArray) rfl (by kernel_rfl) (by kernel_rfl) (by kernel_rfl) (fun _ _ _ h => h) (yieldsIf_load_mid (by kernel_rfl) 33 (.tmp 3) rfl w.heap.size 0 (by go_simp) (cs) _ (fun w hw => hw.1) Try.underlying33 rfl HTS.out) T1.out ?_
          try simp only [Act.put, List.setIfInBounds_toArray, List.set_cons_zero, List.set_cons_succ]
          refine readyL (i := 6) rfl (by kernel_rfl) (by kernel_rfl) fun K hK => ?_
          go_simp
          refine (HTY.out V1 Y1.out).mono ?_
          rintro e V2 ⟨rfl, hb⟩
          simp only []
          have X2 := Lib.hid (X1.out.below hb)
          have Y2 := Lib.hid (Y1.out.below hb)
          have Z2 := Lib.hid (Z1.out.below hb)
          have BB2 := Lib.hid (BB1.out.trans (hb.mono BB1.out.size))
          have T2 := Lib.hid (HS3.out _ X2.out.row Y2.out.row Z2.out.row)
          clear hb
          refine hK.out _ _ T2.out ?_
          clear hK K
          try simp only [Act.put, List.setIfInBounds_toArray, List.set_cons_zero, List.set_cons_succ]
          refine readyL (i := 8) rfl (by kernel_rfl) (by kernel_rfl) fun K hK => ?_
          go_simp
          refine (HTX.out V2 X2.out).mono ?_
          rintro e V3 ⟨rfl, hb⟩
          simp only []
          have X3 := Lib.hid (X2.out.below hb)
          have Y3 := Lib.hid (Y2.out.below hb)
          have Z3 := Lib.hid (Z2.out.below hb)
          have BB3 := Lib.hid (BB2.out.trans (hb.mono BB2.out.size))
          have T3 := Lib.hid (HS3.out _ X3.out.row Y3.out.row Z3.out.row)
          clear hb
          refine hK.out _ _ T3.out ?_
          clear hK K
          try simp only [Act.put, List.setIfInBounds_toArray, List.set_cons_zero, List.set_cons_succ]
          refine takeL (i := 9) (v := .int .i64 ((tt : Int) + 1)) rfl (by kernel_rfl) (by kernel_rfl) (by kernel_rfl) (fun _ _ _ h => h) (Or.inl ⟨by kernel_rfl, fun w hw => by (go_simp; try rw [WR1.out])⟩) T3.out ?_
          try simp only [Act.put, List.setIfInBounds_toArray, List.set_cons_zero, List.set_cons_succ]
          refine takeL (i := 10) (v := .bool true) rfl (by kernel_rfl) (by kernel_rfl) (by kernel_rfl) (fun _ _ _ h => h) (Or.inl ⟨by kernel_rfl, fun w hw => by go_simp⟩) T3.out ?_
          try simp only [Act.put, List.setIfInBounds_toArray, List.set_cons_zero, List.set_cons_succ]
          refine takeL (i := 11) (v := .bool true) rfl (by kernel_rfl) (by kernel_rfl) (by kernel_rfl) (fun _ _ _ h => h) (Or.inl ⟨by kernel_rfl, fun w hw => by go_simp⟩) T3.out ?_
          try simp only [Act.put, List.setIfInBounds_toArray, List.set_cons_zero, List.set_cons_succ]
          refine takeL (i := 12) (v := ?_) rfl (by kernel_rfl) (by kernel_rfl) (by kernel_rfl) (fun _ _ _ h => h) (Or.inl ⟨by rfl, ?_⟩) T3.out ?_
          rotate_left
          · intro w hw
            try dsimp only at hw
            go_simp
            try with_reducible rfl
          try simp only [Act.put, List.setIfInBounds_toArray, List.set_cons_zero, List.set_cons_succ]
          refine takeL (i := 13) (v := .agg (cz).toArray) rfl (by kernel_rfl) (by kernel_rfl) (by kernel_rfl) (fun _ _ _ h => h) (yieldsIf_load_mid (by kernel_rfl) 33 (.tmp 10) rfl gz 0 (by go_simp) (cz) _ (fun w hw => hw.2.2) Try.underlying33 rfl HSZ.out) T3.out ?_
          try simp only [Act.put, List.setIfInBounds_toArray, List.set_cons_zero, List.set_cons_succ]
          refine takeL (i := 16) (v := ?_) rfl (by kernel_rfl) (by kernel_rfl) (by kernel_rfl) (fun _ _ _ h => h) (Or.inl ⟨by rfl, ?_⟩) T3.out ?_
          rotate_left
          · intro w hw
            try dsimp only at hw
            go_simp
            try with_reducible rfl
          try simp only [Act.put, List.setIfInBounds_toArray, List.set_cons_zero, List.set_cons_succ]
          refine readyL (i := 14) rfl (by kernel_rfl) (by kernel_rfl) fun K hK => ?_
          go_simp
          refine (HCZ.out V3 Z3.out).mono ?_
          rintro e V4 ⟨rfl, hb⟩
          simp only []
          have X4 := Lib.hid (X3.out.below hb)
          have Y4 := Lib.hid (Y3.out.below hb)
          have Z4 := Lib.hid (Z3.out.below hb)
          have BB4 := Lib.hid (BB3.out.trans (hb.mono BB3.out.size))
          have T4 := Lib.hid (HS3.out _ X4.out.row Y4.out.row Z4.out.row)
          clear hb
          refine hK.out _ _ T4.out ?_
          clear hK K
          try simp only [Act.put, List.setIfInBounds_toArray, List.set_cons_zero, List.set_cons_succ]
          refine takeL (i := 15) (v := .bool mb) rfl (by kernel_rfl) (by kernel_rfl) (by kernel_rfl) (fun _ _ _ h => h) (Or.inl ⟨by kernel_rfl, fun w hw => by (go_simp; try rw [HMB.out])⟩) T4.out ?_
          try simp only [Act.put, List.setIfInBounds_toArray, List.set_cons_zero, List.set_cons_succ]
          refine takeL (i := 17) (v := .bool true) rfl (by kernel_rfl) (by kernel_rfl) (by kernel_rfl) (fun _ _ _ h => h) (Or.inl ⟨by kernel_rfl, fun w hw => by go_simp⟩) T4.out ?_
          try simp only [Act.put, List.setIfInBounds_toArray, List.set_cons_zero, List.set_cons_succ]
          refine takeL (i := 18) (v := .bool true) rfl (by kernel_rfl) (by kernel_rfl) (by kernel_rfl) (fun _ _ _ h => h) (Or.inl ⟨by kernel_rfl, fun w hw => by go_simp⟩) T4.out ?_
          try simp only [Act.put, List.setIfInBounds_toArray, List.set_cons_zero, List.set_cons_succ]
          refine takeL (i := 19) (v := ?_) rfl (by kernel_rfl) (by kernel_rfl) (by kernel_rfl) (fun _ _ _ h => h) (Or.inl ⟨by rfl, ?_⟩) T4.out ?_
          rotate_left
          · intro w hw
            try dsimp only at hw
            go_simp
            try with_reducible rfl
          try simp only [Act.put, List.setIfInBounds_toArray, List.set_cons_zero, List.set_cons_succ]
          refine readyL (i := 20) rfl (by kernel_rfl) (by kernel_rfl) fun K hK => ?_
          go_simp
          refine (lives5 V4).mono ?_
          rintro e V5 ⟨rfl, hb⟩
          simp only []
          have X5 := Lib.hid (X4.out.below hb)
          have Y5 := Lib.hid (Y4.out.below hb)
          have Z5 := Lib.hid (Z4.out.below hb)
          have BB5 := Lib.hid (BB4.out.trans (hb.mono BB4.out.size))
          have T5 := Lib.hid (HS3.out _ X5.out.row Y5.out.row Z5.out.row)
          clear hb
          refine hK.out _ _ T5.out ?_
          clear hK K
          try simp only [Act.put, List.setIfInBounds_toArray, List.set_cons_zero, List.set_cons_succ]
          refine takeL (i := 21) (v := .bool true) rfl (by kernel_rfl) (by kernel_rfl) (by kernel_rfl) (fun _ _ _ h => h) (Or.inl ⟨by kernel_rfl, fun w hw => by go_simp⟩) T5.out ?_
          try simp only [Act.put, List.setIfInBounds_toArray, List.set_cons_zero, List.set_cons_succ]
          refine takeL (i := 22) (v := ?_) rfl (by kernel_rfl) (by kernel_rfl) (by kernel_rfl) (fun _ _ _ h => h) (Or.inl ⟨by rfl, ?_⟩) T5.out ?_
          rotate_left
          · intro w hw
            try dsimp only at hw
            go_simp
            try with_reducible rfl
          try simp only [Act.put, List.setIfInBounds_toArray, List.set_cons_zero, List.set_cons_succ]
          refine wpAnyH_done (by kernel_rfl) ?_ _
          go_wp2_with fail
          go_ret
          exact ⟨rfl, BB5.out⟩
end Go.Proofs.Ytgdikmgmpleolaa

/-
  Of part OtherMem: what is needed here.
-/
namespace Go.Proofs.Ytgdikmgmpleolaa
open Go.RowKit
set_option linter.unusedVariables false
theorem own_rows2 {w : World} {base : Nat} {e : TypeId} {size n : Nat} {v : Value} {xs : List Value} (h : w.ownsRow base e size v n xs) (hx : 0 < xs.length) (hn : 0 < n) :
    ∃ g c rest, v = .slice (some ⟨g, 0, none⟩) n c ∧ Row w g e (xs ++ rest) ∧ n ≤ c ∧ c ≤ maxLen ∧ base ≤ g ∧ (xs ++ rest).length = c * size := by
  rcases h.2 with ⟨hv, he⟩ | ⟨g, cap, cur, hv, hg, hh, h1, h2, h3, h4⟩
  · omega
  · have h5 : xs = cur.toList.take xs.length := by
      rw [← h4, List.length_take]
      exact List.take_eq_take_min
    have h6 : xs ++ cur.toList.drop xs.length = cur.toList := by
      conv => lhs; lhs; rw [h5]
      exact List.take_append_drop _ _
    refine ⟨g, cap, cur.toList.drop xs.length, hv, ⟨?_⟩, h1, h2, hg, ?_⟩
    · rw [hh, h6]
    · rw [h6]
      simpa using h3
theorem own_of_row {w : World} {base g c : Nat} {e : TypeId} {size n : Nat} {xs rest : List Value} (h : Row w g e (xs ++ rest)) (hl : xs.length = n * size) (hc : (xs ++ rest).length = c * size) (h1 : n ≤ c) (h2 : c ≤ maxLen) (hb : base ≤ g) :
    w.ownsRow base e size (.slice (some ⟨g, 0, none⟩) n c) n xs :=
  ⟨hl, .inr ⟨g, c, (xs ++ rest).toArray, rfl, hb, h.is, h1, h2, by simpa using hc, by rw [← hl]; simp⟩⟩
theorem own_keep {w w' : World} {base : Nat} {e : TypeId} {size n : Nat} {v : Value} {xs : List Value} (h : w.ownsRow base e size v n xs) (hk : ∀ g, v.ownBlock = some g → w'.heap[g]? = w.heap[g]?) : w'.ownsRow base e size v n xs := by
  refine ⟨h.1, ?_⟩
  rcases h.2 with h2 | ⟨g, cap, cur, hv, hg, hh, r⟩
  · exact .inl h2
  · exact .inr ⟨g, cap, cur, hv, hg, (hk g (by rw [hv]; rfl)).trans hh, r⟩
theorem own_is {w : World} {base : Nat} {e : TypeId} {size n g : Nat} {v : Value} {xs : List Value} (h : w.ownsRow base e size v n xs) (hg : v.ownBlock = some g) : ∃ cur, w.heap[g]? = some (.cells cur e (0, 0)) := by
  rcases h.2 with ⟨rfl, _⟩ | ⟨g', cap, cur, rfl, _, hh, _⟩
  · cases hg
  · cases hg
    exact ⟨cur, hh⟩
theorem own_turned {w w' : World} {base g : Nat} {e t : TypeId} {size n : Nat} {v : Value} {xs ys : List Value} (h : w.ownsRow base e size v n xs) (hr : Row w g t ys) (hne : e ≠ t) (ht : Turned w w' g) : w'.ownsRow base e size v n xs :=
  own_keep h fun k hk => ht.block k (fun e1 => by
    obtain ⟨cur, hc⟩ := own_is h hk
    rw [e1, hr.is] at hc
    injection (Option.some.inj hc) with _ h3 _
    exact hne h3.symm)
theorem own_grew {w w' : World} {base base' : Nat} {e t : TypeId} {size size' n n' : Nat} {v u u' : Value} {xs ys : List Value} (h : w.ownsRow base e size v n xs) (hu : w.ownsRow base' t size' u n' ys) (hne : e ≠ t) (hg : Grew w w' u u') : w'.ownsRow base e size v n xs :=
  own_keep h fun k hk => by
    obtain ⟨cur, hc⟩ := own_is h hk
    refine hg.grown.block k (Array.getElem?_eq_some_iff.1 hc).1 (fun e1 => ?_)
    obtain ⟨cur', hc'⟩ := own_is hu e1.symm
    rw [hc] at hc'
    injection (Option.some.inj hc') with _ h3 _
    exact hne h3
theorem own_below2 {w w' : World} {base n size : Nat} {e : TypeId} {v : Value} {xs : List Value} (h : w.ownsRow base e size v n xs) (hb : Below w.heap.size w w') : w'.ownsRow base e size v n xs := own_below h hb
theorem flatten_set64 {l : List (List Int)} {s : List Int} (h : ∀ y ∈ l, y.length = 64) (hs : s.length = 64) {i : Nat} (hi : i < l.length) (rest : List Value) :
    (bv l.flatten ++ rest).take (i * 64) ++ bv s ++ (bv l.flatten ++ rest).drop (i * 64 + 64) = bv (l.set i s).flatten ++ rest := by
  have e1 : l = l.take i ++ l[i] :: l.drop (i + 1) := by rw [List.getElem_cons_drop, List.take_append_drop]
  have ht : (l.take i).flatten.length = i * 64 := by
    rw [flat64_len _ (fun y hy => h y (List.mem_of_mem_take hy)), List.length_take, Nat.min_eq_left (by omega)]
  have hx : (l[i]).length = 64 := h _ (List.getElem_mem _)
  have e2 : bv l.flatten ++ rest = bv (l.take i).flatten ++ (bv l[i] ++ (bv (l.drop (i + 1)).flatten ++ rest)) := by
    conv => lhs; rw [e1]
    rw [List.flatten_append, List.flatten_cons, bv_append, bv_append]
    simp only [List.append_assoc]
  have e3 : (l.set i s).flatten = (l.take i).flatten ++ (s ++ (l.drop (i + 1)).flatten) := by
    rw [List.set_eq_take_append_cons_drop, if_pos hi, List.flatten_append, List.flatten_cons]
  rw [e2, e3, bv_append, bv_append, List.take_left' (by rw [bv_length, ht])]
  have e4 : (bv (l.take i).flatten ++ (bv l[i] ++ (bv (l.drop (i + 1)).flatten ++ rest))).drop (i * 64 + 64) = bv (l.drop (i + 1)).flatten ++ rest := by
    rw [← List.append_assoc, List.drop_left' (by rw [List.length_append, bv_length, bv_length, ht, hx])]
  rw [e4]
  simp only [List.append_assoc]
theorem InsCells.setDat {w : World} {B : Nat} {l : List LIn} {news : List Value} (h : InsCells w B l news) {i : Nat} {x : LIn} (hx : l[i]? = some x) {vd : Value} {dat : List Int} (hd : BytesIn w B vd dat) : InsCells w B (l.set i { x with dat := dat }) (news.set (i * 3 + 2) vd) := by
  have hi := (List.getElem?_eq_some_iff.1 hx).1
  refine ⟨by rw [List.length_set, List.length_set, h.len], fun k y hy => ?_, fun u hu => ?_⟩
  · by_cases e : i = k
    · subst e
      rw [List.getElem?_set_self hi] at hy
      obtain rfl := Option.some.inj hy
      obtain ⟨va, vd', e1, e2, e3, e4, e5⟩ := h.at_ i x hx
      exact ⟨va, vd, by rw [List.getElem?_set_ne (by omega)]; exact e1, by rw [List.getElem?_set_ne (by omega)]; exact e2, by rw [List.getElem?_set_self (by rw [h.len]; omega)], e4, hd⟩
    · rw [List.getElem?_set_ne e] at hy
      obtain ⟨va, vd', e1, e2, e3, e4, e5⟩ := h.at_ k y hy
      exact ⟨va, vd', by rw [List.getElem?_set_ne (by omega)]; exact e1, by rw [List.getElem?_set_ne (by omega)]; exact e2, by rw [List.getElem?_set_ne (by omega)]; exact e3, e4, e5⟩
  · rcases List.mem_or_eq_of_mem_set hu with hu | rfl
    · exact h.one u hu
    · exact hd.one
/-- what the rules see of an instruction -/
def pa (i : LIn) : Int × List Int := (i.p, i.acc)
theorem map_set_pa {l : List LIn} {i : Nat} {x : LIn} (h : l[i]? = some x) (d : List Int) : (l.set i { x with dat := d }).map pa = l.map pa := by
  rw [List.map_set]
  refine List.ext_getElem? fun k => ?_
  by_cases e : i = k
  · subst e
    rw [List.getElem?_set_self (by rw [List.length_map]; exact (List.getElem?_eq_some_iff.1 h).1), List.getElem?_map, h]
    rfl
  · rw [List.getElem?_set_ne e]
theorem any_pa {own tt : Nat} : ∀ {l l' : List LIn}, l.map pa = l'.map pa → l.any (stray own tt) = l'.any (stray own tt)
  | [], [], _ => rfl
  | [], _ :: _, h => by simp at h
  | _ :: _, [], h => by simp at h
  | a :: r, b :: r', h => by
    rw [List.map_cons, List.map_cons] at h
    injection h with h1 h2
    have e1 : a.p = b.p := congrArg Prod.fst h1
    have e2 : a.acc = b.acc := congrArg Prod.snd h1
    rw [List.any_cons, List.any_cons, any_pa h2]
    unfold stray
    rw [e1, e2]
/-- other signatures, as many; other data, another recent hash, kind -/
def other (x : LTx) (l1 : List (List Int)) (rc : List Int) (l2 : List LIn) : LTx := ⟨l1, ⟨!x.m.v0, x.m.s, x.m.r, x.m.o, x.m.keys, rc, l2, x.m.looks⟩⟩
theorem chk_other {x : LTx} {l1 : List (List Int)} {rc : List Int} {l2 : List LIn} (h1 : l1.length = x.sigs.length) (h2 : l2.map pa = x.m.ins.map pa) : chk (other x l1 rc l2) = chk x := by
  refine chk_same ?_ rfl rfl rfl ?_ rfl
  · unfold b1 other
    dsimp only
    rw [h1]
  · exact any_pa h2
theorem small_other {x : LTx} (h : Small x.m) {l1 : List (List Int)} {rc : List Int} {l2 : List LIn} (h2 : l2.map pa = x.m.ins.map pa) : Small (other x l1 rc l2).m := by
  refine ⟨h.keys, ?_, h.looks, h.sum, fun i hi => ?_⟩
  · have := congrArg List.length h2
    rw [List.length_map, List.length_map] at this
    show l2.length ≤ 4000
    rw [this]
    exact h.ins
  · have hi : i ∈ l2 := hi
    have hm : pa i ∈ x.m.ins.map pa := h2 ▸ List.mem_map_of_mem hi
    obtain ⟨j, hj, e⟩ := List.mem_map.1 hm
    have e2 : j.acc = i.acc := congrArg Prod.snd e
    rw [← e2]
    exact h.acc j hj
theorem wf_other {x : LTx} (h : x.m.Wf) {l1 : List (List Int)} {rc : List Int} {l2 : List LIn} (hr : rc.length = 32 ∧ AllBytes rc) (h2 : ∀ i ∈ l2, IsByte i.p ∧ AllBytes i.acc ∧ AllBytes i.dat) : (other x l1 rc l2).m.Wf := ⟨h.s, h.r, h.o, h.keys, hr, h2, h.looks⟩
def rawOther (s : TRaw) (A1 : Option Addr) (n1 c1 : Nat) (A2 : Option Addr) (n2 c2 : Nat) : TRaw := ⟨A1, n1, c1, { s.q with IA := A2, n := n2, ic := c2 }⟩
/-- its cells, written one behind the other -/
theorem cells_other (s : TRaw) (x : LTx) (h : x.m.recent.length = 32) (A1 : Option Addr) (n1 c1 : Nat) (A2 : Option Addr) (n2 c2 : Nat) (l1 : List (List Int)) (rc : List Int) (hr : rc.length = 32) (l2 : List LIn) :
    (((((TRaw.cells s x).set 0 (.slice A1 n1 c1)).set 38 (.slice A2 n2 c2)).take 6 ++ bv rc ++ (((TRaw.cells s x).set 0 (.slice A1 n1 c1)).set 38 (.slice A2 n2 c2)).drop 38).set 1 (.bool (!x.m.v0))) = TRaw.cells (rawOther s A1 n1 c1 A2 n2 c2) (other x l1 rc l2) := by
  have e : ((TRaw.cells s x).set 0 (.slice A1 n1 c1)).set 38 (.slice A2 n2 c2) = [.slice A1 n1 c1, .bool x.m.v0, .int .u8 x.m.s, .int .u8 x.m.r, .int .u8 x.m.o, .slice s.q.KA s.q.kn s.q.kc] ++ (bv x.m.recent ++ [.slice A2 n2 c2, .slice s.q.LA s.q.ln s.q.lc]) := by
    unfold TRaw.cells Raw.cells
    rw [List.set_cons_zero, show (38 : Nat) = 37 + 1 from rfl, List.set_cons_succ, List.set_append_right _ _ (by simp), List.set_append_right _ _ (by rw [bv_length, h]; simp), bv_length, h]
    rfl
  have e3 : ([.slice A1 n1 c1, .bool x.m.v0, .int .u8 x.m.s, .int .u8 x.m.r, .int .u8 x.m.o, .slice s.q.KA s.q.kn s.q.kc] ++ (bv x.m.recent ++ [.slice A2 n2 c2, .slice s.q.LA s.q.ln s.q.lc]) : List Value).take 6 = [.slice A1 n1 c1, .bool x.m.v0, .int .u8 x.m.s, .int .u8 x.m.r, .int .u8 x.m.o, .slice s.q.KA s.q.kn s.q.kc] := rfl
  rw [e, e3]
  have e2 : ([.slice A1 n1 c1, .bool x.m.v0, .int .u8 x.m.s, .int .u8 x.m.r, .int .u8 x.m.o, .slice s.q.KA s.q.kn s.q.kc] ++ (bv x.m.recent ++ [.slice A2 n2 c2, .slice s.q.LA s.q.ln s.q.lc]) : List Value).drop 38 = [.slice A2 n2 c2, .slice s.q.LA s.q.ln s.q.lc] := by
    rw [← List.append_assoc, List.drop_left' (by rw [List.length_append, bv_length, h]; rfl)]
  rw [e2]
  unfold TRaw.cells Raw.cells rawOther other
  simp [List.append_assoc]
theorem in_other {w : World} {B c1 c2 : Nat} {s : TRaw} {x : LTx} (h : TxIn w B s x) {l1 : List (List Int)} {rc : List Int} {l2 : List LIn} {A1 A2 : Option Addr} {n1 n2 : Nat} (hr : rc.length = 32) (h1 : SigsIn w B A1 n1 l1) (hc1 : n1 ≤ c1 ∧ c1 ≤ maxLen) (h2 : InsIn w B A2 n2 l2) (hc2 : n2 ≤ c2 ∧ c2 ≤ maxLen) :
    TxIn w B (rawOther s A1 n1 c1 A2 n2 c2) (other x l1 rc l2) := ⟨h1, hc1, ⟨hr, h.m.keys, h2, h.m.looks, h.m.kn, hc2, h.m.ln⟩⟩
/-- 'copy' into the midst of a block that is known whole, as one step -/
theorem wp_copy_row {P : Program} {o : Oper} {a : Act} {w : World} {K : Act → World → Prop} {Q : Exit → Act → World → Prop} (d s : Operand) (dT sT elem : TypeId)
    (ho : o.op = .call { callee := .builtin .copy, args := #[d, s], argTypes := #[dT, sT] }) (hu : P.underlying dT = some (.slice elem)) (hsz : (P.info? elem).map (·.size) = some 1)
    (g off dLen dCap : Nat) (ad : Addr) (sLen sCap : Nat) (hd : a.eval d = .slice (some ⟨g, off, none⟩) dLen dCap) (hs : a.eval s = .slice (some ad) sLen sCap)
    (cur : List Value) (t : TypeId) (hg : Row w g t cur) (cs : List Value) (hn : cs.length = Nat.min sLen dLen)
    (hsrc : ∀ j v, cs[j]? = some v → w.cell? (ad.add j) = some v) (hfit : off + cs.length ≤ cur.length) (h1 : ∀ v ∈ cs, v.oneCell' = true)
    (h : ∀ w', Row w' g t (cur.take off ++ cs ++ cur.drop (off + cs.length)) → Turned w w' g → K (a.put o.dst (goInt cs.length)) w') : o.wp P a w K Q := by
  have hrun := run_copy_row (P := P) w dT sT o.type elem g off dLen dCap ad sLen sCap cur.toArray t cs hu hsz hg.is hn hsrc (by simpa using hfit) h1
  unfold Oper.wp execOp
  simp only [ho, resolve, invoke, builtin, Sem.run_bind, Sem.run_pure, Result.andThen_ok, List.map_toArray, List.map_cons, List.map_nil, hd, hs, hrun]
  exact h _ (by simpa using row_setRow hg (cur.take off ++ cs ++ cur.drop (off + cs.length))) (by simpa using turned_setRow w g _)
end Go.Proofs.Ytgdikmgmpleolaa
