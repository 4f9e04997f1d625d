/-
  Parts joined: KeysWalk16.
-/
import Derived.Below
import Derived.Laws.OwnMore
import Derived.Deep.AppendLies
import Derived.Deep.Draws
import Derived.Lib.Hide
import Derived.Laws.MakeOwn
import Derived.Laws.CopyOwn
import Derived.Laws.Rows
import Derived.Maps.AppendAt
import Derived.OwnWalk
import Derived.Laws.BitsAllLaws
import Derived.WalkKit
import Derived.Test.YtfaefpniiiandaaDoorRows
import Derived.WalkSpells
import Derived.WalkLawsBesides
import Derived.IntWalk
import Derived.Deep.MidRow
import Derived.Deep.WholeRow
import Derived.Great.BuildSlice
import Derived.Recover
import Derived.Deep.RegionHeld
import Derived.Deep.QuietTactic
import Derived.BigQuiet
import Derived.ChangeKeysEq
import Derived.Deep.RegionHeld2
import Derived.Deep.CutBlock
import Derived.Laws.Tables
import Derived.ProofKit
import Derived.OpenShut
import Derived.ShutString
import Derived.ChangeOld
import Derived.Lib.SmallJoins
import Derived.Deep.Slices
import Derived.Deep.Strs
import Derived.SizedLaws
import Derived.Laws.StructEq
import Derived.Laws.Slices
import Derived.Deep.DeepCutAuto
import Derived.Maps.OwnSet
import Derived.DeepKeys4
import Derived.WideKeyArr
import Derived.Laws.EntriesVeiled
import Derived.Deep.RegionHeld3
import Derived.WideKeyEntry
import Derived.WalkMore
import Derived.Maps.RangeWalk
import Derived.Shelf.SlMaps.Clone
import Derived.Laws.Append
import Derived.Laws.AppendOwn
import Derived.LaidMore
import Derived.Maps.OwnOps
import Derived.Laws.BytesArg
import Derived.Laws.Strings
import Derived.Lib.Strings
import Derived.Great.Walk
import Derived.Laws.Bits64b
import Derived.Laws.Externs
import Derived.LaidHandle
import Derived.LaidLaws
import Derived.RangeFuncOwn
import Derived.LaidEql
import Derived.Stop.Asserts
import Derived.RowKitTokens
import Derived.RangeFuncNested
import Derived.RangeFuncBound
import Derived.RangeFuncCalls
import Derived.RangeFuncLeaves
import Derived.Shelf.Abstract
import Derived.Shelf.RegionOpen
import Derived.OwnWalkIn
import Derived.TacticsInMore
import Derived.LoopNIn
import Derived.LoopIn
import Derived.Lib.Mul64
import Derived.Lib.BitFns
import Derived.Laws.NewBlocks
import Derived.Shelf.Small.Bits
import Derived.Scope
import Derived.Test.YtfaefpniiiandaaDoorK1
import Derived.Test.YtfaefpniiiandaaDoorK2
import Derived.Test.YtfaefpniiiandaaDoorK3
import Derived.Test.YtfaefpniiiandaaDoorK4
import Derived.Test.YtfaefpniiiandaaDoorK5
import Derived.Test.YtfaefpniiiandaaDoorK6
import Derived.Test.YtfaefpniiiandaaDoorK7
import Derived.Test.YtfaefpniiiandaaDoorK8
import Derived.Test.YtfaefpniiiandaaDoorK9
import Derived.Test.YtfaefpniiiandaaDoorK10
import Derived.Test.YtfaefpniiiandaaDoorK11
import Derived.Test.YtfaefpniiiandaaDoorK12
import Derived.Test.YtfaefpniiiandaaDoorK13
/-
  Of part KeysWalk16: what is needed here.
-/
namespace Go.Proofs.YtfaefpniiiandaaDoor
open Go.RowKit
set_option linter.unusedVariables false
set_option maxRecDepth 100000
/-- what lies there while the law asks -/
structure KX16 (W V : World) (g5 sb mb sc mc : Nat) (L L' : List LHold) (k : List Int) (A : Option Addr) (ws : List (List Int)) : Prop where
  b : Below W.heap.size W V
  r5 : Row V g5 57 (bv k)
  s : StIn V sb mb L'
  t : StIn V sc mc L
  ks : KeysIn V V.heap.size A ws.length ws
theorem KX16.below {W V V' : World} {g5 sb mb sc mc : Nat} {L L' : List LHold} {k : List Int} {A : Option Addr} {ws : List (List Int)} (h : KX16 W V g5 sb mb sc mc L L' k A ws) (hb : Below V.heap.size V V') : KX16 W V' g5 sb mb sc mc L L' k A ws :=
  ⟨h.b.trans (hb.mono h.b.size), h.r5.below hb h.r5.lt, h.s.below hb, h.t.below hb, (h.ks.below hb).more hb.size⟩
theorem KX16.drewN {W V : World} {g5 sb mb sc mc : Nat} {L L' : List LHold} {k : List Int} {A : Option Addr} {ws : List (List Int)} (h : KX16 W V g5 sb mb sc mc L L' k A ws) (j : Nat) : KX16 W (V.drewN j) g5 sb mb sc mc L L' k A ws := h.below (below_dn15 (Below.refl _ _) j)
theorem keys_get16 {w : World} {B n : Nat} {A : Option Addr} {l : List (List Int)} (h : KeysIn w B A n l) {k : Nat} (hk : k < n) : ∃ a y, A = some a ∧ a.block < B ∧ l[k]? = some y ∧ y.length = 32 ∧ ∀ j u, (bv y)[j]? = some u → w.cell? ((a.add (k * 32)).add j) = some u := by
  obtain ⟨a, y, e, hb, hy, hc⟩ := h.get hk
  exact ⟨a, y, e, hb, hy, hc.len, hc.cells⟩
theorem exec_bin16 {o : Oper} {a : Act} (w : World) (b : BinOp) (t : TypeId) {u : TypeId} (x y : Operand) {X Y : Array Value} {v : Value} (hm : Tryd.prog.eqGuardType Tryd.prog.depth t = false) (ho : o.op = .binOp b t x y u) (hx : a.eval x = .agg X) (hy : a.eval y = .agg Y) (h : (binOp b t (.agg X) (.agg Y)).run Tryd.prog w = .ok v w) : (execOp a.eval o).run Tryd.prog w = .ok (.value v) w := by
  unfold execOp
  rw [ho]
  simp only [hx, hy]
  rw [Sem.run_bind, Sem.run_bind, run_eqGuard_agg (hm := hm), Result.andThen_ok, h]
  rfl
theorem mem_take16 {ws : List (List Int)} {i : Nat} {x y : List Int} (h : ws[i]? = some y) : decide (x ∈ ws.take (i + 1)) = (decide (x ∈ ws.take i) || decide (y = x)) := by
  rw [List.take_add_one, h, Option.toList_some]
  by_cases h1 : x ∈ ws.take i
  · rw [decide_eq_true h1, decide_eq_true (List.mem_append.2 (.inl h1))]; rfl
  · rw [decide_eq_false h1]
    by_cases h2 : y = x
    · rw [decide_eq_true h2, decide_eq_true (List.mem_append.2 (.inr (by simp [h2])))]; rfl
    · rw [decide_eq_false h2, decide_eq_false (fun h => by
        rcases List.mem_append.1 h with h | h
        · exact h1 h
        · exact h2 (List.mem_singleton.1 h).symm)]; rfl
set_option maxHeartbeats 16000000 in
theorem keysWalk16 (A : Option Addr) (n c : Nat) (l : List LHold) (q : YRaw) (x : LReady) (k : List Int) (w : World) (hl : HolsIn16 w w.heap.size A n l) (hnc : n ≤ c ∧ c ≤ maxLen) (h : ReadyIn w w.heap.size q x) (hok : RdOk x) (hk : k.length = 32 ∧ AllBytes k) (htw : TypAt w) :
    Calls Tryd.prog 7 #[.slice A n c, .agg (q.cells x).toArray, .agg (bv k).toArray] w fun e w' => e = .returned (.bool true) ∧ Below w.heap.size w w' := by
  have HL := Lib.hid hl
  have HR := Lib.hid h
  have HOK := Lib.hid hok
  have HK := Lib.hid hk
  have HT := Lib.hid htw
  have H32 := Lib.hid h.tx.m.recent
  have hbw := ((Below.refl w.heap.size w).alloc (Nat.le_refl _) (.cells (q.cells x).toArray 41)).alloc (by simp) (.cells (bv k).toArray 57)
  have R4 := Lib.hid ((Row.new w 41 (q.cells x)).alloc (.cells (bv k).toArray 57))
  have R5 := Lib.hid (Row.new' (w.alloc (.cells (q.cells x).toArray 41)) 57 (bv k) (g := w.heap.size + 1) (by simp))
  have B0 := Lib.hid hbw
  clear hbw hl h hok hk htw
  obtain ⟨g5, hg5⟩ : ∃ g, g = w.heap.size + 1 := ⟨_, rfl⟩
  obtain ⟨g4, hg4⟩ : ∃ g, g = w.heap.size := ⟨_, rfl⟩
  have HG5 : Hid (w.heap.size + 1 = g5) := Lib.hid hg5.symm
  have HG4 : Hid (w.heap.size = g4) := Lib.hid hg4.symm
  rw [← hg5] at R5
  rw [← hg4] at R4
  have R5' : Hid (Row ((w.alloc (.cells (q.cells x).toArray 41)).alloc (.cells (bv k).toArray 57)) g5 57 (bv k)) := Lib.hid R5.out
  clear hg5 hg4 R5
  generalize hW : (w.alloc (.cells (q.cells x).toArray 41)).alloc (.cells (bv k).toArray 57) = W at *
  have HW := Lib.hid hW
  clear hW
  go_enter Tryd.func7, Tryd.ntmps7
  go_upto_region 1 with fail
  try rw [HG5.out]
  try rw [HG4.out]
  rw [HW.out]
  clear HG5 HG4 HW
  go_wp2_with (first
    | ((with_reducible show wpList _ _ _ ({ dst := some 20, op := Op.load _ _, type := _, pos := _, after := _, guard := _ } :: _) _ _); go_must (refine wpList_load_whole rfl 41 (.tmp 4) rfl g4 _ (q.cells x) _ Tryd.underlying41 rfl (rd_size16 H32.out) R4.out ?_ ?_; go_simp))
    | ((with_reducible show wpList _ _ _ ({ dst := some 21, op := Op.buildSlice _ _ _, type := _, pos := _, after := _, guard := _ } :: _) _ _); go_must (refine wpList_buildOne rfl 72 41 (.tmp 20) rfl (q.cells x) _ 48 232 Tryd.underlying72 info_rd16 zsz_rd16 (by omega) (by omega) (ycells_len H32.out) ?_ ?_; go_simp)))
  have hb1 := (Below.refl W.heap.size W).alloc (Nat.le_refl _) (.cells (q.cells x).toArray 41)
  have hrow := Row.new W 41 (q.cells x)
  have RD1 := ((HR.out.below B0.out).below (hb1.mono B0.out.size)).more (Nat.le_trans B0.out.size hb1.size)
  have hone : ∀ (i : Nat) (p : YRaw × LReady), ([(q, x)] : List (YRaw × LReady))[i]? = some p → p = (q, x) := fun i p hp => by
    have := List.mem_of_getElem? hp
    simpa using this
  have HGR := Lib.hid (great16 A (some ⟨W.heap.size, 0, none⟩) n c 1 1 _ [(q, x)] _ (rds_of16 (csIn_row (ys := []) (t := 41) (by simpa using hrow) rfl (fun k hk => by
    simp only [List.map_cons, List.map_nil, List.mem_cons, List.not_mem_nil, or_false] at hk
    rw [hk]
    exact ycells_len H32.out) (by simp)) (fun i p hp => by rw [hone i p hp]; exact RD1)) (Nat.le_refl _) (fun p hp => by
    rw [List.mem_singleton.1 hp]
    exact rd_wide15 HOK.out) hnc ⟨Nat.le_refl _, by unfold maxLen; omega⟩)
  have B1 := Lib.hid (B0.out.trans (hb1.mono B0.out.size))
  have R41 := Lib.hid (R4.out.below hb1 R4.out.lt)
  have R51 := Lib.hid (R5'.out.below hb1 R5'.out.lt)
  clear hrow RD1 hone hb1 R4 R5' B0
  generalize W.alloc (.cells (q.cells x).toArray 41) = W1 at *
  refine HGR.out.mono ?_
  rintro e w2 ⟨⟨b, rfl, hfew⟩, hb2⟩
  have B2 := Lib.hid (B1.out.trans (hb2.mono B1.out.size))
  have R42 := Lib.hid (R41.out.below hb2 R41.out.lt)
  have R52 := Lib.hid (R51.out.below hb2 R51.out.lt)
  have HFW := Lib.hid hfew
  clear hb2 hfew B1 R41 R51 HGR
  cases b with
  | true =>
    go_wp2_with fail
    refine (lives16 _ (HT.out.below B2.out HT.out.pos)).mono ?_
    rintro e w3 ⟨rfl, hb3⟩
    have B3 := Lib.hid (B2.out.trans (hb3.mono B2.out.size))
    clear hb3
    go_wp2_with fail
    go_ret
    exact ⟨rfl, B3.out⟩
  | false =>
  have hfw := HFW.out rfl
  have HN : Hid (n ≤ 200) := Lib.hid hfw.hn
  have HP : Hid (RdP16 q x) := Lib.hid (rd_p16 HOK.out HR.out (hfw.f (q, x) (by simp)))
  clear hfw HFW
  go_wp2_with fail
  refine (stores16 A n c w.heap.size l w2 ⟨HL.out.cs.below B2.out, HL.out.ok⟩ B2.out.size HN.out).mono ?_
  rintro e w3 ⟨sb, mb, pb, rfl, hs3, hsl, hml, hb3⟩
  have HLL : Hid ((commit16 [] l).length ≤ 200) := Lib.hid (by have h1 := puts_len16 l; have h2 := HL.out.len; have h3 := HN.out; omega)
  generalize commit16 [] l = L at *
  have S3 := Lib.hid hs3
  have B3 := Lib.hid (B2.out.trans (hb3.mono B2.out.size))
  have R43 := Lib.hid (R42.out.below hb3 R42.out.lt)
  have R53 := Lib.hid (R52.out.below hb3 R52.out.lt)
  have HMB : Hid (w.heap.size ≤ mb) := Lib.hid (Nat.le_trans B2.out.size hml)
  clear hs3 hsl hml hb3 B2 R42 R52
  go_wp2_with fail
  refine (copy13 sb mb L w3 S3.out (by have := HLL.out; omega)).mono ?_
  rintro e w4 ⟨sc, mc, rfl, hs4, hsl, hml, hb4⟩
  have S4 := Lib.hid (S3.out.below hb4)
  have C4 := Lib.hid hs4
  have HNE : Hid (sc ≠ mb ∧ mc ≠ mb) := Lib.hid (by have := S3.out.lt; omega)
  have B4 := Lib.hid (B3.out.trans (hb4.mono B3.out.size))
  have R44 := Lib.hid (R43.out.below hb4 R43.out.lt)
  have R54 := Lib.hid (R53.out.below hb4 R53.out.lt)
  clear hs4 hsl hml hb4 B3 R43 R53 S3
  have HSO0 := Lib.hid S4.out.sto
  go_wp2_with (first
    | ((with_reducible show wpList _ _ _ ({ dst := some 33, op := Op.load _ _, type := _, pos := _, after := _, guard := _ } :: _) _ _); go_must (refine wpList_load_whole rfl 41 (.tmp 4) rfl g4 _ (q.cells x) _ Tryd.underlying41 rfl (rd_size16 H32.out) R44.out ?_ ?_; go_simp))
    | fail)
  refine (applyC sb mb L q x w.heap.size w4 S4.out (HR.out.below B4.out) HP.out B4.out.size (by have h1 := HLL.out; have h2 := HP.out.rn; omega) (HT.out.below B4.out HT.out.pos)).mono ?_
  rintro e w5 ⟨A5, c5, rfl, _, hs5, hg5⟩
  have HAP := Lib.hid (apply_sto16 HSO0.out HP.out.f)
  have HKS : Hid (∀ y, (∀ r ∈ x.roles, r.wr = true → r.key ≠ y) → getH (apply16 L x).2 y = getH L y) := Lib.hid fun y hy => keys16 HSO0.out HP.out.f hy
  have HBAD : Hid ((apply16 L x).1.2 ≠ 0 → (apply16 L x).2 = L) := Lib.hid fun h0 => (apply_bad16 h0).1
  generalize apply16 L x = R at *
  obtain ⟨⟨o, er⟩, L'⟩ := R
  have S5 := Lib.hid hs5
  have C5 := Lib.hid (C4.out.keep (hg5.block _ C4.out.lt.1 (fun e => HNE.out.1 (Option.some.inj e))) (hg5.block _ C4.out.lt.2 (fun e => HNE.out.2 (Option.some.inj e))))
  have B5 := Lib.hid (B4.out.trans (gb_below16 (B := w.heap.size) hg5 HMB.out B4.out.size))
  have R45 := Lib.hid (R44.out.grown hg5 (fun e => S4.out.row_ne R44.out (Option.some.inj e)))
  have R55 := Lib.hid (R54.out.grown hg5 (fun e => S4.out.row_ne R54.out (Option.some.inj e)))
  clear hs5 hg5 B4 R44 R54 S4 C4
  go_upto_region 6 with (first
    | ((with_reducible show wpList _ _ _ ({ dst := some 10, op := Op.alloc _, type := _, pos := _, after := _, guard := _ } :: _) _ _); go_must (refine wpList_alloc_zero rfl 54 rfl (out0.cells (.slice none 0 0)) zero_out15 ?_))
    | ((with_reducible show wpList _ _ _ ({ dst := none, op := Op.store 54 (.tmp 10) _, type := _, pos := _, after := _, guard := _ } :: _) _ _); go_must (refine wpList_store_new rfl 54 (.tmp 10) (.tmp 35) rfl (o.cells (.slice A5 o.ch.length o.ch.length)) (size_out15 _ _) (out_one15 _ rfl) rfl ?_ ?_ ?_; go_simp; go_simp; intro w6 hr6 hb6 hz6)))
  have S6 := Lib.hid (S5.out.below hb6)
  have C6 := Lib.hid (C5.out.below hb6)
  have B6 := Lib.hid (B5.out.trans (hb6.mono B5.out.size))
  have R46 := Lib.hid (R45.out.below hb6 R45.out.lt)
  have R56 := Lib.hid (R55.out.below hb6 R55.out.lt)
  obtain ⟨g10, hg10⟩ : ∃ v, v = w5.heap.size := ⟨_, rfl⟩
  rw [← hg10]
  clear hr6 hb6 hz6 hg10 B5 R45 R55 S5 C5
  replace HKS : Hid (∀ y, (∀ r ∈ x.roles, r.wr = true → r.key ≠ y) → getH L' y = getH L y) := HKS
  replace HBAD : Hid (er ≠ 0 → L' = L) := HBAD
  replace HAP : Hid (Sto L' ∧ L'.length ≤ L.length + x.roles.length) := HAP
  by_cases her : er = 0
  rotate_left
  · have her1 : decide (er = 0) = false := decide_eq_false her
    have hLL := HBAD.out her
    rw [hLL] at S6
    clear hLL HKS HBAD HAP
    go_wp2_with fail
    refine (same13 sb mb sc mc L L w6 S6.out C6.out (by have := HLL.out; omega) (by have := HLL.out; omega)).mono ?_
    rintro e w7 ⟨rfl, hb7⟩
    rw [decide_eq_true (rfl : L = L)]
    have B7 := Lib.hid (B6.out.trans (hb7.mono B6.out.size))
    clear hb7
    go_wp2_with fail
    refine (lives16 _ (HT.out.below B7.out HT.out.pos)).mono ?_
    rintro e w8 ⟨rfl, hb8⟩
    have B8 := Lib.hid (B7.out.trans (hb8.mono B7.out.size))
    clear hb8
    go_wp2_with fail
    go_ret
    exact ⟨rfl, B8.out⟩
  subst her
  have c41 : w6.cell? ⟨g4, 41, none⟩ = some (.slice q.RA q.rn q.rc) := (R46.out.cell 41).trans (ycells_41 H32.out 0)
  go_wp2_with fail
  refine (written_ q.RA q.rn q.rc w.heap.size x.roles w6 (HR.out.rs.below B6.out) B6.out.size (by have := HP.out.rn; omega)).mono ?_
  rintro e w7 ⟨hb7, A7, c7, rfl, ho7⟩
  have HWO : Hid (∀ r ∈ x.roles, RoleOk r) := Lib.hid HR.out.rs.ok
  have HWS : Hid (∀ y, y ∉ wrK x.roles → getH L' y = getH L y) := Lib.hid fun y hy => HKS.out y (fun r hr hw e => hy (by
    unfold wrK
    exact List.mem_map.2 ⟨r, List.mem_filter.2 ⟨hr, hw⟩, e⟩))
  have KX7 : Hid (KX16 w w7 g5 sb mb sc mc L L' k A7 (wrK x.roles)) := Lib.hid ⟨B6.out.trans (hb7.mono B6.out.size), R56.out.below hb7 R56.out.lt, S6.out.below hb7, C6.out.below hb7, by
      obtain ⟨A0, c0, e0, h2, _⟩ := own_form2 ho7
      injection e0 with e0 _ _
      subst e0
      exact ⟨rfl, fun y hy => (wrK_ok HWO.out y hy).1, h2⟩⟩
  have HWL : Hid ((wrK x.roles).length ≤ 300) := Lib.hid (by have h1 := wrK_len x.roles; have h2 := HP.out.rn; have h3 := HR.out.rs.len; omega)
  obtain ⟨ws, hws⟩ : ∃ ws, ws = wrK x.roles := ⟨_, rfl⟩
  rw [← hws] at KX7 HWS HWL ⊢
  obtain ⟨wn, hwn⟩ : ∃ wn, wn = ws.length := ⟨_, rfl⟩
  have HWN : Hid (ws.length = wn) := Lib.hid hwn.symm
  rw [← hwn]
  clear hb7 ho7 hws hwn c41 R46 R56 S6 C6 B6 HKS HBAD HAP HWO
  go_wp2_with fail
  obtain ⟨VL, hVL⟩ : ∃ V, V = w7 := ⟨_, rfl⟩
  rw [← hVL] at KX7 ⊢
  have KL := Lib.hid KX7.out
  have HKO : Hid (k.length = 32) := Lib.hid HK.out.1
  clear hVL KX7
  go_loopw [13, 14] (fun bb ii wr => ∃ (i : Nat), i ≤ wn ∧ ii = .int .i64 i ∧ bb = .bool (decide (k ∈ ws.take i)) ∧ KX16 w wr g5 sb mb sc mc L L' k A7 ws ∧ True) (fun _ ii _ => wn - (intOf ii).toNat)
  case atStart => exact ⟨0, Nat.zero_le _, rfl, by simp, KL.out, trivial⟩
  case round =>
    obtain ⟨i, hi, rfl, rfl, hkw, hex⟩ := hrel
    have KW := Lib.hid hkw
    have hwb : wn ≤ 300 := by have h1 := HWL.out; have h2 := HWN.out; omega
    clear hkw hex KL
    rename World => wr
    by_cases hlt : i < wn
    · have hlt' : (i : Int) < wn := by omega
      obtain ⟨aw, y, eA, hab, hy, hyl, hcy⟩ := keys_get16 KW.out.ks (by rw [HWN.out]; exact hlt)
      have HYI := Lib.hid (mem_take16 (x := k) hy)
      have HSO := Lib.hid (show (Tryd.prog.info? 57).map (·.size) = some (bv k).length by rw [size_key, bv_length, HKO.out])
      have HSY : Hid ((Tryd.prog.info? 57).map (·.size) = some (bv y).length) := Lib.hid (by rw [size_key, bv_length, hyl])
      have HAY := Lib.hid hab
      have HCY := Lib.hid hcy
      have HEQ := Lib.hid (fun w => key_eql hyl HKO.out w)
      subst eA
      clear hab hy hyl hcy
      cases hb : decide (k ∈ ws.take i) with
      | true =>
        rw [hb] at HYI
        clear hb HEQ HCY HSY
        go_upto_region 13 with fail
        have SB := Lib.hid (show Below wr.heap.size wr wr.drew from (Below.refl _ _).drew)
        refine wp_region_held_drew (S := fun X => Below wr.heap.size wr X) (by kernel_rfl) SB.out (fun _ => ?_)
        try dsimp only [List.append]
        refine takeL (i := 0) (v := ?_) rfl (by kernel_rfl) (by kernel_rfl) (by kernel_rfl) (fun _ _ _ h => h) (Or.inl ⟨by rfl, ?_⟩) SB.out ?_
        rotate_left
        · intro w hw
          try dsimp only at hw
          go_simp
          try with_reducible rfl
        try simp only [Act.put, List.setIfInBounds_toArray, List.set_cons_zero, List.set_cons_succ]
        refine takeL (i := 1) (v := ?_) rfl (by kernel_rfl) (by kernel_rfl) (by kernel_rfl) (fun _ _ _ h => h) (Or.inl ⟨by rfl, ?_⟩) SB.out ?_
        rotate_left
        · intro w hw
          try dsimp only at hw
          go_simp
          try with_reducible rfl
        try simp only [Act.put, List.setIfInBounds_toArray, List.set_cons_zero, List.set_cons_succ]
        refine takeL (i := 2) (v := undef) rfl (by kernel_rfl) (by kernel_rfl) (by kernel_rfl) (fun _ _ _ h => h) (Or.inr ⟨by rfl, rfl⟩) SB.out ?_
        try simp only [Act.put, List.setIfInBounds_toArray, List.set_cons_zero, List.set_cons_succ]
        refine takeL (i := 3) (v := undef) rfl (by kernel_rfl) (by kernel_rfl) (by kernel_rfl) (fun _ _ _ h => h) (Or.inr ⟨by rfl, rfl⟩) SB.out ?_
        try simp only [Act.put, List.setIfInBounds_toArray, List.set_cons_zero, List.set_cons_succ]
        refine takeL (i := 4) (v := undef) rfl (by kernel_rfl) (by kernel_rfl) (by kernel_rfl) (fun _ _ _ h => h) (Or.inr ⟨by rfl, rfl⟩) SB.out ?_
        try simp only [Act.put, List.setIfInBounds_toArray, List.set_cons_zero, List.set_cons_succ]
        refine takeL (i := 5) (v := undef) rfl (by kernel_rfl) (by kernel_rfl) (by kernel_rfl) (fun _ _ _ h => h) (Or.inr ⟨by rfl, rfl⟩) SB.out ?_
        try simp only [Act.put, List.setIfInBounds_toArray, List.set_cons_zero, List.set_cons_succ]
        refine takeL (i := 6) (v := undef) rfl (by kernel_rfl) (by kernel_rfl) (by kernel_rfl) (fun _ _ _ h => h) (Or.inr ⟨by rfl, rfl⟩) SB.out ?_
        try simp only [Act.put, List.setIfInBounds_toArray, List.set_cons_zero, List.set_cons_succ]
        refine takeL (i := 7) (v := undef) rfl (by kernel_rfl) (by kernel_rfl) (by kernel_rfl) (fun _ _ _ h => h) (Or.inr ⟨by rfl, rfl⟩) SB.out ?_
        try simp only [Act.put, List.setIfInBounds_toArray, List.set_cons_zero, List.set_cons_succ]
        refine takeL (i := 8) (v := ?_) rfl (by kernel_rfl) (by kernel_rfl) (by kernel_rfl) (fun _ _ _ h => h) (Or.inl ⟨by rfl, ?_⟩) SB.out ?_
        rotate_left
        · intro w hw
          try dsimp only at hw
          go_simp
          try with_reducible rfl
        try simp only [Act.put, List.setIfInBounds_toArray, List.set_cons_zero, List.set_cons_succ]
        refine takeL (i := 9) (v := ?_) rfl (by kernel_rfl) (by kernel_rfl) (by kernel_rfl) (fun _ _ _ h => h) (Or.inl ⟨by rfl, ?_⟩) SB.out ?_
        rotate_left
        · intro w hw
          try dsimp only at hw
          go_simp
          try with_reducible rfl
        try simp only [Act.put, List.setIfInBounds_toArray, List.set_cons_zero, List.set_cons_succ]
        refine wpAnyH_done (by kernel_rfl) ?_ _
        go_wp2_with fail
        go_roundw
        case rel => exact ⟨i + 1, by omega, by go_num, by rw [HYI.out]; rfl, KW.out.drewN 1, trivial⟩
        case measure => simp [intOf]; omega
      | false =>
        rw [hb] at HYI
        clear hb
        generalize decide (y = k) = dd at *
        go_upto_region 13 with fail
        have SB := Lib.hid (show Below wr.heap.size wr wr.drew from (Below.refl _ _).drew)
        refine wp_region_held_drew (S := fun X => Below wr.heap.size wr X) (by kernel_rfl) SB.out (fun _ => ?_)
        try dsimp only [List.append]
        refine takeL (i := 0) (v := ?_) rfl (by kernel_rfl) (by kernel_rfl) (by kernel_rfl) (fun _ _ _ h => h) (Or.inl ⟨by rfl, ?_⟩) SB.out ?_
        rotate_left
        · intro w hw
          try dsimp only at hw
          go_simp
          try with_reducible rfl
        try simp only [Act.put, List.setIfInBounds_toArray, List.set_cons_zero, List.set_cons_succ]
        refine takeL (i := 1) (v := ?_) rfl (by kernel_rfl) (by kernel_rfl) (by kernel_rfl) (fun _ _ _ h => h) (Or.inl ⟨by rfl, ?_⟩) SB.out ?_
        rotate_left
        · intro w hw
          try dsimp only at hw
          go_simp
          try with_reducible rfl
        try simp only [Act.put, List.setIfInBounds_toArray, List.set_cons_zero, List.set_cons_succ]
        refine takeL (i := 2) (v := ?_) rfl (by kernel_rfl) (by kernel_rfl) (by kernel_rfl) (fun _ _ _ h => h) (Or.inl ⟨by rfl, ?_⟩) SB.out ?_
        rotate_left
        · intro w hw
          try dsimp only at hw
          go_simp
          try with_reducible rfl
        try simp only [Act.put, List.setIfInBounds_toArray, List.set_cons_zero, List.set_cons_succ]
        refine takeL (i := 3) (v := ?_) rfl (by kernel_rfl) (by kernel_rfl) (by kernel_rfl) (fun _ _ _ h => h) (Or.inl ⟨by rfl, ?_⟩) SB.out ?_
        rotate_left
        · intro w hw
          try dsimp only at hw
          go_simp
          try with_reducible rfl
        try simp only [Act.put, List.setIfInBounds_toArray, List.set_cons_zero, List.set_cons_succ]
        refine takeL (i := 4) (v := ?_) rfl (by kernel_rfl) (by kernel_rfl) (by kernel_rfl) (fun _ _ _ h => h) (Or.inl ⟨by rfl, ?_⟩) SB.out ?_
        rotate_left
        · intro w hw
          try dsimp only at hw
          go_simp
          try with_reducible rfl
        try simp only [Act.put, List.setIfInBounds_toArray, List.set_cons_zero, List.set_cons_succ]
        refine takeL (i := 5) (v := .agg (bv y).toArray) rfl (by kernel_rfl) (by kernel_rfl) (by kernel_rfl) (fun _ _ _ h => h) (Or.inl ⟨by rfl, fun wz hwz => exec_load_at wz 57 (.tmp 58) rfl (aw.add (i * 32)) (bv y) _ Tryd.underlying57 rfl HSY.out (fun j u hu => (hwz.cell (by rw [addr_block, addr_block]; exact HAY.out)).trans (HCY.out j u hu)) (by go_simp)⟩) SB.out ?_
        try simp only [Act.put, List.setIfInBounds_toArray, List.set_cons_zero, List.set_cons_succ]
        refine takeL (i := 6) (v := .agg (bv k).toArray) rfl (by kernel_rfl) (by kernel_rfl) (by kernel_rfl) (fun _ _ _ h => h) (Or.inl ⟨by rfl, fun wz hwz => exec_load_at wz 57 (.tmp 5) rfl ⟨g5, 0, none⟩ (bv k) _ Tryd.underlying57 rfl HSO.out (fun j u hu => by rw [addr_row, Nat.zero_add]; exact (hwz.cell (p := ⟨g5, j, none⟩) KW.out.r5.lt).trans ((KW.out.r5.cell j).trans hu)) (by go_simp)⟩) SB.out ?_
        try simp only [Act.put, List.setIfInBounds_toArray, List.set_cons_zero, List.set_cons_succ]
        refine takeL (i := 7) (v := .bool dd) rfl (by kernel_rfl) (by kernel_rfl) (by kernel_rfl) (fun _ _ _ h => h) (Or.inl ⟨by rfl, fun wz hwz => exec_bin16 wz .eql 57 (.tmp 59) (.tmp 60) (by kernel_rfl) rfl (by go_simp) (by go_simp) (HEQ.out wz)⟩) SB.out ?_
        try simp only [Act.put, List.setIfInBounds_toArray, List.set_cons_zero, List.set_cons_succ]
        refine takeL (i := 8) (v := ?_) rfl (by kernel_rfl) (by kernel_rfl) (by kernel_rfl) (fun _ _ _ h => h) (Or.inl ⟨by rfl, ?_⟩) SB.out ?_
        rotate_left
        · intro w hw
          try dsimp only at hw
          go_simp
          try with_reducible rfl
        try simp only [Act.put, List.setIfInBounds_toArray, List.set_cons_zero, List.set_cons_succ]
        refine takeL (i := 9) (v := ?_) rfl (by kernel_rfl) (by kernel_rfl) (by kernel_rfl) (fun _ _ _ h => h) (Or.inl ⟨by rfl, ?_⟩) SB.out ?_
        rotate_left
        · intro w hw
          try dsimp only at hw
          go_simp
          try with_reducible rfl
        try simp only [Act.put, List.setIfInBounds_toArray, List.set_cons_zero, List.set_cons_succ]
        refine wpAnyH_done (by kernel_rfl) ?_ _
        go_wp2_with fail
        go_roundw
        case rel => exact ⟨i + 1, by omega, by go_num, by rw [HYI.out]; rfl, KW.out.drewN 1, trivial⟩
        case measure => simp [intOf]; omega
    · have hie : i = wn := by omega
      have hlt' : ¬ (i : Int) < wn := by omega
      have HTA : Hid (ws.take i = ws) := Lib.hid (by rw [hie, ← HWN.out]; exact List.take_length)
      rw [HTA.out]
      clear HTA
      go_wp2_with fail
      have KX0 := Lib.hid KW.out
      have HKK := Lib.hid HK.out
      clear KW
      try clear KL
      go_loopw [15] (fun ii wr => ∃ i2 : Nat, i2 ≤ n ∧ ii = .int .i64 i2 ∧ KX16 w wr g5 sb mb sc mc L L' k A7 ws) (fun ii _ => n - (intOf ii).toNat)
      case atStart => exact ⟨0, Nat.zero_le _, rfl, KX0.out⟩
      case round =>
        clear KX0
        obtain ⟨i2, hi2, rfl, hkx⟩ := hrel
        have KX2 := Lib.hid hkx
        have hn200 := HN.out
        clear hkx
        rename World => wr
        by_cases hl2 : i2 < n
        · have hl2' : (i2 : Int) < n := by omega
          obtain ⟨al, xs, ea, hab, hxs, hxl, hcs⟩ := (HL.out.cs.below KX2.out.b).get hl2 (by omega)
          obtain ⟨h, hh, rfl⟩ : ∃ h, l[i2]? = some h ∧ h.cells = xs := by
            rw [List.getElem?_map] at hxs
            obtain ⟨h, h1, h2⟩ := Option.map_eq_some_iff.1 hxs
            exact ⟨h, h1, h2⟩
          have HHK := Lib.hid (HL.out.ok h (List.mem_of_getElem? hh))
          have HKO : Hid (h.k.length = 32) := Lib.hid HHK.out.k.1
          have HSZ : Hid ((Tryd.prog.info? 57).map (·.size) = some (bv h.k).length) := Lib.hid (by rw [size_key, bv_length, HKO.out])
          have HCX : Hid (∀ j u, (bv h.k)[j]? = some u → wr.cell? ((al.add (i2 * 66)).add j) = some u) := Lib.hid fun j u hu => hcs _ _ (hold_k hu)
          subst ea
          clear hab hxs hxl hcs hh
          go_upto_region 18 with (first
              | ((with_reducible show wpList _ _ _ ({ dst := some 73, op := Op.load _ _, type := _, pos := _, after := _, guard := _ } :: _) _ _); go_must (refine wpList_load_at rfl 57 (.tmp 72) rfl (al.add (i2 * 66)) (bv h.k) _ Tryd.underlying57 rfl HSZ.out HCX.out ?_ ?_; go_simp))
              | ((with_reducible show wpList _ _ _ ({ dst := none, op := Op.store 57 (.tmp 16) _, type := _, pos := _, after := _, guard := _ } :: _) _ _); go_must (refine wpList_store_new rfl 57 (.tmp 16) (.tmp 73) rfl (bv h.k) HSZ.out (bv_one _) (by rw [bv_length, HKO.out]; rfl) ?_ ?_ ?_; go_simp; go_simp; intro w8 hr8 hb8 hz8)))
          have R16 := Lib.hid hr8
          have KL := Lib.hid (KX2.out.below hb8)
          obtain ⟨g16, hg16⟩ : ∃ v, v = wr.heap.size := ⟨_, rfl⟩
          rw [← hg16] at R16 ⊢
          clear hr8 hb8 hz8 hg16 KX2 HCX
          rename World => VL
          go_wp2_with fail
          go_loopw [17, 18] (fun bb ii wr => ∃ (i : Nat), i ≤ wn ∧ ii = .int .i64 i ∧ bb = .bool (decide (h.k ∈ ws.take i)) ∧ KX16 w wr g5 sb mb sc mc L L' k A7 ws ∧ Row wr g16 57 (bv h.k)) (fun _ ii _ => wn - (intOf ii).toNat)
          case atStart => exact ⟨0, Nat.zero_le _, rfl, by simp, KL.out, R16.out⟩
          case round =>
            obtain ⟨i, hi, rfl, rfl, hkw, hex⟩ := hrel
            have KW := Lib.hid hkw
            have RW16 := Lib.hid hex
            clear R16
            have hwb : wn ≤ 300 := by have h1 := HWL.out; have h2 := HWN.out; omega
            clear hkw hex KL
            rename World => wr
            by_cases hlt : i < wn
            · have hlt' : (i : Int) < wn := by omega
              obtain ⟨aw, y, eA, hab, hy, hyl, hcy⟩ := keys_get16 KW.out.ks (by rw [HWN.out]; exact hlt)
              have HYI := Lib.hid (mem_take16 (x := h.k) hy)
              have HSO := Lib.hid (show (Tryd.prog.info? 57).map (·.size) = some (bv h.k).length by rw [size_key, bv_length, HKO.out])
              have HSY : Hid ((Tryd.prog.info? 57).map (·.size) = some (bv y).length) := Lib.hid (by rw [size_key, bv_length, hyl])
              have HAY := Lib.hid hab
              have HCY := Lib.hid hcy
              have HEQ := Lib.hid (fun w => key_eql hyl HKO.out w)
              subst eA
              clear hab hy hyl hcy
              cases hb : decide (h.k ∈ ws.take i) with
              | true =>
                rw [hb] at HYI
                clear hb HEQ HCY HSY
                go_upto_region 22 with fail
                have SB := Lib.hid (show Below wr.heap.size wr wr.drew from (Below.refl _ _).drew)
                refine wp_region_held_drew (S := fun X => Below wr.heap.size wr X) (by kernel_rfl) SB.out (fun _ => ?_)
                try dsimp only [List.append]
                refine takeL (i := 0) (v := ?_) rfl (by kernel_rfl) (by kernel_rfl) (by kernel_rfl) (fun _ _ _ h => h) (Or.inl ⟨by rfl, ?_⟩) SB.out ?_
                rotate_left
                · intro w hw
                  try dsimp only at hw
                  go_simp
                  try with_reducible rfl
                try simp only [Act.put, List.setIfInBounds_toArray, List.set_cons_zero, List.set_cons_succ]
                refine takeL (i := 1) (v := ?_) rfl (by kernel_rfl) (by kernel_rfl) (by kernel_rfl) (fun _ _ _ h => h) (Or.inl ⟨by rfl, ?_⟩) SB.out ?_
                rotate_left
                · intro w hw
                  try dsimp only at hw
                  go_simp
                  try with_reducible rfl
                try simp only [Act.put, List.setIfInBounds_toArray, List.set_cons_zero, List.set_cons_succ]
                refine takeL (i := 2) (v := undef) rfl (by kernel_rfl) (by kernel_rfl) (by kernel_rfl) (fun _ _ _ h => h) (Or.inr ⟨by rfl, rfl⟩) SB.out ?_
                try simp only [Act.put, List.setIfInBounds_toArray, List.set_cons_zero, List.set_cons_succ]
                refine takeL (i := 3) (v := undef) rfl (by kernel_rfl) (by kernel_rfl) (by kernel_rfl) (fun _ _ _ h => h) (Or.inr ⟨by rfl, rfl⟩) SB.out ?_
                try simp only [Act.put, List.setIfInBounds_toArray, List.set_cons_zero, List.set_cons_succ]
                refine takeL (i := 4) (v := undef) rfl (by kernel_rfl) (by kernel_rfl) (by kernel_rfl) (fun _ _ _ h => h) (Or.inr ⟨by rfl, rfl⟩) SB.out ?_
                try simp only [Act.put, List.setIfInBounds_toArray, List.set_cons_zero, List.set_cons_succ]
                refine takeL (i := 5) (v := undef) rfl (by kernel_rfl) (by kernel_rfl) (by kernel_rfl) (fun _ _ _ h => h) (Or.inr ⟨by rfl, rfl⟩) SB.out ?_
                try simp only [Act.put, List.setIfInBounds_toArray, List.set_cons_zero, List.set_cons_succ]
                refine takeL (i := 6) (v := undef) rfl (by kernel_rfl) (by kernel_rfl) (by kernel_rfl) (fun _ _ _ h => h) (Or.inr ⟨by rfl, rfl⟩) SB.out ?_
                try simp only [Act.put, List.setIfInBounds_toArray, List.set_cons_zero, List.set_cons_succ]
                refine takeL (i := 7) (v := undef) rfl (by kernel_rfl) (by kernel_rfl) (by kernel_rfl) (fun _ _ _ h => h) (Or.inr ⟨by rfl, rfl⟩) SB.out ?_
                try simp only [Act.put, List.setIfInBounds_toArray, List.set_cons_zero, List.set_cons_succ]
                refine takeL (i := 8) (v := ?_) rfl (by kernel_rfl) (by kernel_rfl) (by kernel_rfl) (fun _ _ _ h => h) (Or.inl ⟨by rfl, ?_⟩) SB.out ?_
                rotate_left
                · intro w hw
                  try dsimp only at hw
                  go_simp
                  try with_reducible rfl
                try simp only [Act.put, List.setIfInBounds_toArray, List.set_cons_zero, List.set_cons_succ]
                refine takeL (i := 9) (v := ?_) rfl (by kernel_rfl) (by kernel_rfl) (by kernel_rfl) (fun _ _ _ h => h) (Or.inl ⟨by rfl, ?_⟩) SB.out ?_
                rotate_left
                · intro w hw
                  try dsimp only at hw
                  go_simp
                  try with_reducible rfl
                try simp only [Act.put, List.setIfInBounds_toArray, List.set_cons_zero, List.set_cons_succ]
                refine wpAnyH_done (by kernel_rfl) ?_ _
                go_wp2_with fail
                go_roundw
                case rel => exact ⟨i + 1, by omega, by go_num, by rw [HYI.out]; rfl, KW.out.drewN 1, RW16.out.drew⟩
                case measure => simp [intOf]; omega
              | false =>
                rw [hb] at HYI
                clear hb
                generalize decide (y = h.k) = dd at *
                go_upto_region 22 with fail
                have SB := Lib.hid (show Below wr.heap.size wr wr.drew from (Below.refl _ _).drew)
                refine wp_region_held_drew (S := fun X => Below wr.heap.size wr X) (by kernel_rfl) SB.out (fun _ => ?_)
                try dsimp only [List.append]
                refine takeL (i := 0) (v := ?_) rfl (by kernel_rfl) (by kernel_rfl) (by kernel_rfl) (fun _ _ _ h => h) (Or.inl ⟨by rfl, ?_⟩) SB.out ?_
                rotate_left
                · intro w hw
                  try dsimp only at hw
                  go_simp
                  try with_reducible rfl
                try simp only [Act.put, List.setIfInBounds_toArray, List.set_cons_zero, List.set_cons_succ]
                refine takeL (i := 1) (v := ?_) rfl (by kernel_rfl) (by kernel_rfl) (by kernel_rfl) (fun _ _ _ h => h) (Or.inl ⟨by rfl, ?_⟩) SB.out ?_
                rotate_left
                · intro w hw
                  try dsimp only at hw
                  go_simp
                  try with_reducible rfl
                try simp only [Act.put, List.setIfInBounds_toArray, List.set_cons_zero, List.set_cons_succ]
                refine takeL (i := 2) (v := ?_) rfl (by kernel_rfl) (by kernel_rfl) (by kernel_rfl) (fun _ _ _ h => h) (Or.inl ⟨by rfl, ?_⟩) SB.out ?_
                rotate_left
                · intro w hw
                  try dsimp only at hw
                  go_simp
                  try with_reducible rfl
                try simp only [Act.put, List.setIfInBounds_toArray, List.set_cons_zero, List.set_cons_succ]
                refine takeL (i := 3) (v := ?_) rfl (by kernel_rfl) (by kernel_rfl) (by kernel_rfl) (fun _ _ _ h => h) (Or.inl ⟨by rfl, ?_⟩) SB.out ?_
                rotate_left
                · intro w hw
                  try dsimp only at hw
                  go_simp
                  try with_reducible rfl
                try simp only [Act.put, List.setIfInBounds_toArray, List.set_cons_zero, List.set_cons_succ]
                refine takeL (i := 4) (v := ?_) rfl (by kernel_rfl) (by kernel_rfl) (by kernel_rfl) (fun _ _ _ h => h) (Or.inl ⟨by rfl, ?_⟩) SB.out ?_
                rotate_left
                · intro w hw
                  try dsimp only at hw
                  go_simp
                  try with_reducible rfl
                try simp only [Act.put, List.setIfInBounds_toArray, List.set_cons_zero, List.set_cons_succ]
                refine takeL (i := 5) (v := .agg (bv y).toArray) rfl (by kernel_rfl) (by kernel_rfl) (by kernel_rfl) (fun _ _ _ h => h) (Or.inl ⟨by rfl, fun wz hwz => exec_load_at wz 57 (.tmp 84) rfl (aw.add (i * 32)) (bv y) _ Tryd.underlying57 rfl HSY.out (fun j u hu => (hwz.cell (by rw [addr_block, addr_block]; exact HAY.out)).trans (HCY.out j u hu)) (by go_simp)⟩) SB.out ?_
                try simp only [Act.put, List.setIfInBounds_toArray, List.set_cons_zero, List.set_cons_succ]
                refine takeL (i := 6) (v := .agg (bv h.k).toArray) rfl (by kernel_rfl) (by kernel_rfl) (by kernel_rfl) (fun _ _ _ h => h) (Or.inl ⟨by rfl, fun wz hwz => exec_load_at wz 57 (.tmp 16) rfl ⟨g16, 0, none⟩ (bv h.k) _ Tryd.underlying57 rfl HSO.out (fun j u hu => by rw [addr_row, Nat.zero_add]; exact (hwz.cell (p := ⟨g16, j, none⟩) RW16.out.lt).trans ((RW16.out.cell j).trans hu)) (by go_simp)⟩) SB.out ?_
                try simp only [Act.put, List.setIfInBounds_toArray, List.set_cons_zero, List.set_cons_succ]
                refine takeL (i := 7) (v := .bool dd) rfl (by kernel_rfl) (by kernel_rfl) (by kernel_rfl) (fun _ _ _ h => h) (Or.inl ⟨by rfl, fun wz hwz => exec_bin16 wz .eql 57 (.tmp 85) (.tmp 86) (by kernel_rfl) rfl (by go_simp) (by go_simp) (HEQ.out wz)⟩) SB.out ?_
                try simp only [Act.put, List.setIfInBounds_toArray, List.set_cons_zero, List.set_cons_succ]
                refine takeL (i := 8) (v := ?_) rfl (by kernel_rfl) (by kernel_rfl) (by kernel_rfl) (fun _ _ _ h => h) (Or.inl ⟨by rfl, ?_⟩) SB.out ?_
                rotate_left
                · intro w hw
                  try dsimp only at hw
                  go_simp
                  try with_reducible rfl
                try simp only [Act.put, List.setIfInBounds_toArray, List.set_cons_zero, List.set_cons_succ]
                refine takeL (i := 9) (v := ?_) rfl (by kernel_rfl) (by kernel_rfl) (by kernel_rfl) (fun _ _ _ h => h) (Or.inl ⟨by rfl, ?_⟩) SB.out ?_
                rotate_left
                · intro w hw
                  try dsimp only at hw
                  go_simp
                  try with_reducible rfl
                try simp only [Act.put, List.setIfInBounds_toArray, List.set_cons_zero, List.set_cons_succ]
                refine wpAnyH_done (by kernel_rfl) ?_ _
                go_wp2_with fail
                go_roundw
                case rel => exact ⟨i + 1, by omega, by go_num, by rw [HYI.out]; rfl, KW.out.drewN 1, RW16.out.drew⟩
                case measure => simp [intOf]; omega
            · have hie : i = wn := by omega
              have hlt' : ¬ (i : Int) < wn := by omega
              have HTA : Hid (ws.take i = ws) := Lib.hid (by rw [hie, ← HWN.out]; exact List.take_length)
              rw [HTA.out]
              clear HTA
              have HKA : Hid (h.k.length = 32 ∧ AllBytes h.k) := Lib.hid HHK.out.k
              have HSO := Lib.hid (show (Tryd.prog.info? 57).map (·.size) = some (bv h.k).length by rw [size_key, bv_length, HKO.out])
              by_cases hm : h.k ∈ ws
              · rw [decide_eq_true hm]
                clear hm
                go_upto_region 23 with fail
                have KD := Lib.hid (KW.out.drewN 1)
                have SR := Lib.hid (RW16.out.drew)
                refine wp_region_held_drew (S := fun X => Row X g16 57 (bv h.k)) (by kernel_rfl) SR.out (fun _ => ?_)
                try dsimp only [List.append]
                have KD : Hid (KX16 w wr.drew g5 sb mb sc mc L L' k A7 ws) := KD
                clear KW RW16
                generalize wr.drew = wd at *
                refine takeL (i := 0) (v := ?_) rfl (by kernel_rfl) (by kernel_rfl) (by kernel_rfl) (fun _ _ _ h => h) (Or.inl ⟨by rfl, ?_⟩) SR.out ?_
                rotate_left
                · intro w hw
                  try dsimp only at hw
                  go_simp
                  try with_reducible rfl
                try simp only [Act.put, List.setIfInBounds_toArray, List.set_cons_zero, List.set_cons_succ]
                refine takeL (i := 1) (v := ?_) rfl (by kernel_rfl) (by kernel_rfl) (by kernel_rfl) (fun _ _ _ h => h) (Or.inl ⟨by rfl, ?_⟩) SR.out ?_
                rotate_left
                · intro w hw
                  try dsimp only at hw
                  go_simp
                  try with_reducible rfl
                try simp only [Act.put, List.setIfInBounds_toArray, List.set_cons_zero, List.set_cons_succ]
                refine takeL (i := 2) (v := ?_) rfl (by kernel_rfl) (by kernel_rfl) (by kernel_rfl) (fun _ _ _ h => h) (Or.inl ⟨by rfl, ?_⟩) SR.out ?_
                rotate_left
                · intro w hw
                  try dsimp only at hw
                  go_simp
                  try with_reducible rfl
                try simp only [Act.put, List.setIfInBounds_toArray, List.set_cons_zero, List.set_cons_succ]
                refine takeL (i := 3) (v := undef) rfl (by kernel_rfl) (by kernel_rfl) (by kernel_rfl) (fun _ _ _ h => h) (Or.inr ⟨by rfl, rfl⟩) SR.out ?_
                try simp only [Act.put, List.setIfInBounds_toArray, List.set_cons_zero, List.set_cons_succ]
                refine takeL (i := 4) (v := undef) rfl (by kernel_rfl) (by kernel_rfl) (by kernel_rfl) (fun _ _ _ h => h) (Or.inr ⟨by rfl, rfl⟩) SR.out ?_
                try simp only [Act.put, List.setIfInBounds_toArray, List.set_cons_zero, List.set_cons_succ]
                refine takeL (i := 5) (v := undef) rfl (by kernel_rfl) (by kernel_rfl) (by kernel_rfl) (fun _ _ _ h => h) (Or.inr ⟨by rfl, rfl⟩) SR.out ?_
                try simp only [Act.put, List.setIfInBounds_toArray, List.set_cons_zero, List.set_cons_succ]
                refine takeL (i := 6) (v := undef) rfl (by kernel_rfl) (by kernel_rfl) (by kernel_rfl) (fun _ _ _ h => h) (Or.inr ⟨by rfl, rfl⟩) SR.out ?_
                try simp only [Act.put, List.setIfInBounds_toArray, List.set_cons_zero, List.set_cons_succ]
                refine takeL (i := 7) (v := undef) rfl (by kernel_rfl) (by kernel_rfl) (by kernel_rfl) (fun _ _ _ h => h) (Or.inr ⟨by rfl, rfl⟩) SR.out ?_
                try simp only [Act.put, List.setIfInBounds_toArray, List.set_cons_zero, List.set_cons_succ]
                refine takeL (i := 8) (v := undef) rfl (by kernel_rfl) (by kernel_rfl) (by kernel_rfl) (fun _ _ _ h => h) (Or.inr ⟨by rfl, rfl⟩) SR.out ?_
                try simp only [Act.put, List.setIfInBounds_toArray, List.set_cons_zero, List.set_cons_succ]
                refine takeL (i := 9) (v := undef) rfl (by kernel_rfl) (by kernel_rfl) (by kernel_rfl) (fun _ _ _ h => h) (Or.inr ⟨by rfl, rfl⟩) SR.out ?_
                try simp only [Act.put, List.setIfInBounds_toArray, List.set_cons_zero, List.set_cons_succ]
                refine takeL (i := 10) (v := ?_) rfl (by kernel_rfl) (by kernel_rfl) (by kernel_rfl) (fun _ _ _ h => h) (Or.inl ⟨by rfl, ?_⟩) SR.out ?_
                rotate_left
                · intro w hw
                  try dsimp only at hw
                  go_simp
                  try with_reducible rfl
                try simp only [Act.put, List.setIfInBounds_toArray, List.set_cons_zero, List.set_cons_succ]
                refine wpAnyH_done (by kernel_rfl) ?_ _
                go_wp2_with fail
                go_roundw
                case rel => exact ⟨i2 + 1, by omega, by go_num, KD.out⟩
                case measure => simp [intOf]; omega
              · have HEA := Lib.hid (HWS.out _ hm)
                have hyo := (KW.out.t.sto.get_ok h.k).o.1
                have HNQ : Hid (∀ w, (binOp .neq 59 (.agg (getH L h.k).cells.toArray) (.agg (getH L h.k).cells.toArray)).run Tryd.prog w = .ok (.bool false) w) := Lib.hid (fun w => by rw [acc_neq hyo hyo]; simp)
                rw [decide_eq_false hm]
                clear hm hyo
                go_upto_region 23 with fail
                have KD := Lib.hid (KW.out.drewN 1)
                have SR := Lib.hid (RW16.out.drew)
                refine wp_region_held_drew (S := fun X => Row X g16 57 (bv h.k)) (by kernel_rfl) SR.out (fun _ => ?_)
                try dsimp only [List.append]
                have KD : Hid (KX16 w wr.drew g5 sb mb sc mc L L' k A7 ws) := KD
                clear KW RW16
                generalize wr.drew = wd at *
                refine takeL (i := 0) (v := ?_) rfl (by kernel_rfl) (by kernel_rfl) (by kernel_rfl) (fun _ _ _ h => h) (Or.inl ⟨by rfl, ?_⟩) SR.out ?_
                rotate_left
                · intro w hw
                  try dsimp only at hw
                  go_simp
                  try with_reducible rfl
                try simp only [Act.put, List.setIfInBounds_toArray, List.set_cons_zero, List.set_cons_succ]
                refine takeL (i := 1) (v := ?_) rfl (by kernel_rfl) (by kernel_rfl) (by kernel_rfl) (fun _ _ _ h => h) (Or.inl ⟨by rfl, ?_⟩) SR.out ?_
                rotate_left
                · intro w hw
                  try dsimp only at hw
                  go_simp
                  try with_reducible rfl
                try simp only [Act.put, List.setIfInBounds_toArray, List.set_cons_zero, List.set_cons_succ]
                refine takeL (i := 2) (v := ?_) rfl (by kernel_rfl) (by kernel_rfl) (by kernel_rfl) (fun _ _ _ h => h) (Or.inl ⟨by rfl, ?_⟩) SR.out ?_
                rotate_left
                · intro w hw
                  try dsimp only at hw
                  go_simp
                  try with_reducible rfl
                try simp only [Act.put, List.setIfInBounds_toArray, List.set_cons_zero, List.set_cons_succ]
                refine takeL (i := 3) (v := ?_) rfl (by kernel_rfl) (by kernel_rfl) (by kernel_rfl) (fun _ _ _ h => h) (Or.inl ⟨by rfl, ?_⟩) SR.out ?_
                rotate_left
                · intro w hw
                  try dsimp only at hw
                  go_simp
                  try with_reducible rfl
                try simp only [Act.put, List.setIfInBounds_toArray, List.set_cons_zero, List.set_cons_succ]
                refine takeL (i := 4) (v := .agg (bv h.k).toArray) rfl (by kernel_rfl) (by kernel_rfl) (by kernel_rfl) (fun _ _ _ h => h) (Or.inl ⟨by rfl, fun wz hwz => exec_load_at wz 57 (.tmp 16) rfl ⟨g16, 0, none⟩ (bv h.k) _ Tryd.underlying57 rfl HSO.out (fun j u hu => by rw [addr_row, Nat.zero_add]; exact (hwz.cell j).trans hu) (by go_simp)⟩) SR.out ?_
                try simp only [Act.put, List.setIfInBounds_toArray, List.set_cons_zero, List.set_cons_succ]
                refine takeL (i := 6) (v := ?_) rfl (by kernel_rfl) (by kernel_rfl) (by kernel_rfl) (fun _ _ _ h => h) (Or.inl ⟨by rfl, ?_⟩) SR.out ?_
                rotate_left
                · intro w hw
                  try dsimp only at hw
                  go_simp
                  try with_reducible rfl
                try simp only [Act.put, List.setIfInBounds_toArray, List.set_cons_zero, List.set_cons_succ]
                refine takeL (i := 7) (v := .agg (bv h.k).toArray) rfl (by kernel_rfl) (by kernel_rfl) (by kernel_rfl) (fun _ _ _ h => h) (Or.inl ⟨by rfl, fun wz hwz => exec_load_at wz 57 (.tmp 16) rfl ⟨g16, 0, none⟩ (bv h.k) _ Tryd.underlying57 rfl HSO.out (fun j u hu => by rw [addr_row, Nat.zero_add]; exact (hwz.cell j).trans hu) (by go_simp)⟩) SR.out ?_
                try simp only [Act.put, List.setIfInBounds_toArray, List.set_cons_zero, List.set_cons_succ]
                refine readyL (i := 5) rfl (by kernel_rfl) (by kernel_rfl) fun K hK => ?_
                go_simp
                refine (get13 sb mb L' h.k _ KD.out.s HKA.out).mono ?_
                rintro e va ⟨rfl, hba⟩
                rw [HEA.out]
                have KD := Lib.hid (KD.out.below hba)
                have SR := Lib.hid (SR.out.below hba SR.out.lt)
                clear hba
                refine hK.out _ _ SR.out ?_
                clear hK K
                try simp only [Act.put, List.setIfInBounds_toArray, List.set_cons_zero, List.set_cons_succ]
                refine readyL (i := 8) rfl (by kernel_rfl) (by kernel_rfl) fun K hK => ?_
                go_simp
                refine (get13 sc mc L h.k _ KD.out.t HKA.out).mono ?_
                rintro e vb ⟨rfl, hbb⟩
                have KD := Lib.hid (KD.out.below hbb)
                have SR := Lib.hid (SR.out.below hbb SR.out.lt)
                clear hbb
                refine hK.out _ _ SR.out ?_
                clear hK K
                try simp only [Act.put, List.setIfInBounds_toArray, List.set_cons_zero, List.set_cons_succ]
                refine takeL (i := 9) (v := .bool false) rfl (by kernel_rfl) (by kernel_rfl) (by kernel_rfl) (fun _ _ _ h => h) (Or.inl ⟨by rfl, fun wz hwz => exec_bin16 wz .neq 59 (.tmp 94) (.tmp 97) (by kernel_rfl) rfl (by go_simp) (by go_simp) (HNQ.out wz)⟩) SR.out ?_
                try simp only [Act.put, List.setIfInBounds_toArray, List.set_cons_zero, List.set_cons_succ]
                refine takeL (i := 10) (v := ?_) rfl (by kernel_rfl) (by kernel_rfl) (by kernel_rfl) (fun _ _ _ h => h) (Or.inl ⟨by rfl, ?_⟩) SR.out ?_
                rotate_left
                · intro w hw
                  try dsimp only at hw
                  go_simp
                  try with_reducible rfl
                try simp only [Act.put, List.setIfInBounds_toArray, List.set_cons_zero, List.set_cons_succ]
                refine wpAnyH_done (by kernel_rfl) ?_ _
                go_wp2_with fail
                go_roundw
                case rel => exact ⟨i2 + 1, by omega, by go_num, KD.out⟩
                case measure => simp [intOf]; omega
        · have hl2' : ¬ (i2 : Int) < n := by omega
          have HKA : Hid (k.length = 32 ∧ AllBytes k) := Lib.hid HKK.out
          have HSO := Lib.hid (show (Tryd.prog.info? 57).map (·.size) = some (bv k).length by rw [size_key, bv_length, HKA.out.1])
          by_cases hm : k ∈ ws
          · rw [decide_eq_true hm]
            clear hm
            go_upto_region 25 with fail
            have KD : Hid (KX16 w wr.drew g5 sb mb sc mc L L' k A7 ws) := Lib.hid (KX2.out.drewN 1)
            have SR := Lib.hid KD.out.r5
            refine wp_region_held_drew (S := fun X => Row X g5 57 (bv k)) (by kernel_rfl) SR.out (fun _ => ?_)
            try dsimp only [List.append]
            clear KX2
            generalize wr.drew = wd at *
            refine takeL (i := 0) (v := ?_) rfl (by kernel_rfl) (by kernel_rfl) (by kernel_rfl) (fun _ _ _ h => h) (Or.inl ⟨by rfl, ?_⟩) SR.out ?_
            rotate_left
            · intro w hw
              try dsimp only at hw
              go_simp
              try with_reducible rfl
            try simp only [Act.put, List.setIfInBounds_toArray, List.set_cons_zero, List.set_cons_succ]
            refine takeL (i := 1) (v := ?_) rfl (by kernel_rfl) (by kernel_rfl) (by kernel_rfl) (fun _ _ _ h => h) (Or.inl ⟨by rfl, ?_⟩) SR.out ?_
            rotate_left
            · intro w hw
              try dsimp only at hw
              go_simp
              try with_reducible rfl
            try simp only [Act.put, List.setIfInBounds_toArray, List.set_cons_zero, List.set_cons_succ]
            refine takeL (i := 2) (v := undef) rfl (by kernel_rfl) (by kernel_rfl) (by kernel_rfl) (fun _ _ _ h => h) (Or.inr ⟨by rfl, rfl⟩) SR.out ?_
            try simp only [Act.put, List.setIfInBounds_toArray, List.set_cons_zero, List.set_cons_succ]
            refine takeL (i := 3) (v := undef) rfl (by kernel_rfl) (by kernel_rfl) (by kernel_rfl) (fun _ _ _ h => h) (Or.inr ⟨by rfl, rfl⟩) SR.out ?_
            try simp only [Act.put, List.setIfInBounds_toArray, List.set_cons_zero, List.set_cons_succ]
            refine takeL (i := 4) (v := undef) rfl (by kernel_rfl) (by kernel_rfl) (by kernel_rfl) (fun _ _ _ h => h) (Or.inr ⟨by rfl, rfl⟩) SR.out ?_
            try simp only [Act.put, List.setIfInBounds_toArray, List.set_cons_zero, List.set_cons_succ]
            refine takeL (i := 5) (v := undef) rfl (by kernel_rfl) (by kernel_rfl) (by kernel_rfl) (fun _ _ _ h => h) (Or.inr ⟨by rfl, rfl⟩) SR.out ?_
            try simp only [Act.put, List.setIfInBounds_toArray, List.set_cons_zero, List.set_cons_succ]
            refine takeL (i := 6) (v := undef) rfl (by kernel_rfl) (by kernel_rfl) (by kernel_rfl) (fun _ _ _ h => h) (Or.inr ⟨by rfl, rfl⟩) SR.out ?_
            try simp only [Act.put, List.setIfInBounds_toArray, List.set_cons_zero, List.set_cons_succ]
            refine takeL (i := 7) (v := undef) rfl (by kernel_rfl) (by kernel_rfl) (by kernel_rfl) (fun _ _ _ h => h) (Or.inr ⟨by rfl, rfl⟩) SR.out ?_
            try simp only [Act.put, List.setIfInBounds_toArray, List.set_cons_zero, List.set_cons_succ]
            refine takeL (i := 8) (v := undef) rfl (by kernel_rfl) (by kernel_rfl) (by kernel_rfl) (fun _ _ _ h => h) (Or.inr ⟨by rfl, rfl⟩) SR.out ?_
            try simp only [Act.put, List.setIfInBounds_toArray, List.set_cons_zero, List.set_cons_succ]
            refine takeL (i := 9) (v := ?_) rfl (by kernel_rfl) (by kernel_rfl) (by kernel_rfl) (fun _ _ _ h => h) (Or.inl ⟨by rfl, ?_⟩) SR.out ?_
            rotate_left
            · intro w hw
              try dsimp only at hw
              go_simp
              try with_reducible rfl
            try simp only [Act.put, List.setIfInBounds_toArray, List.set_cons_zero, List.set_cons_succ]
            refine takeL (i := 10) (v := ?_) rfl (by kernel_rfl) (by kernel_rfl) (by kernel_rfl) (fun _ _ _ h => h) (Or.inl ⟨by rfl, ?_⟩) SR.out ?_
            rotate_left
            · intro w hw
              try dsimp only at hw
              go_simp
              try with_reducible rfl
            try simp only [Act.put, List.setIfInBounds_toArray, List.set_cons_zero, List.set_cons_succ]
            refine readyL (i := 11) rfl (by kernel_rfl) (by kernel_rfl) fun K hK => ?_
            go_simp
            refine (lives16 _ (HT.out.below KD.out.b HT.out.pos)).mono ?_
            rintro e vl ⟨rfl, hbl⟩
            have KD := Lib.hid (KD.out.below hbl)
            have SR := Lib.hid (SR.out.below hbl SR.out.lt)
            clear hbl
            refine hK.out _ _ SR.out ?_
            clear hK K
            try simp only [Act.put, List.setIfInBounds_toArray, List.set_cons_zero, List.set_cons_succ]
            refine takeL (i := 12) (v := ?_) rfl (by kernel_rfl) (by kernel_rfl) (by kernel_rfl) (fun _ _ _ h => h) (Or.inl ⟨by rfl, ?_⟩) SR.out ?_
            rotate_left
            · intro w hw
              try dsimp only at hw
              go_simp
              try with_reducible rfl
            try simp only [Act.put, List.setIfInBounds_toArray, List.set_cons_zero, List.set_cons_succ]
            refine takeL (i := 13) (v := ?_) rfl (by kernel_rfl) (by kernel_rfl) (by kernel_rfl) (fun _ _ _ h => h) (Or.inl ⟨by rfl, ?_⟩) SR.out ?_
            rotate_left
            · intro w hw
              try dsimp only at hw
              go_simp
              try with_reducible rfl
            try simp only [Act.put, List.setIfInBounds_toArray, List.set_cons_zero, List.set_cons_succ]
            refine wpAnyH_done (by kernel_rfl) ?_ _
            go_wp2_with fail
            go_ret
            exact ⟨rfl, KD.out.b⟩
          · have HEA := Lib.hid (HWS.out _ hm)
            have hyo := (KX2.out.t.sto.get_ok k).o.1
            have HNQ : Hid (∀ w, (binOp .eql 59 (.agg (getH L k).cells.toArray) (.agg (getH L k).cells.toArray)).run Tryd.prog w = .ok (.bool true) w) := Lib.hid (fun w => by rw [acc_eql hyo hyo]; simp)
            rw [decide_eq_false hm]
            clear hm hyo
            go_upto_region 25 with fail
            have KD : Hid (KX16 w wr.drew g5 sb mb sc mc L L' k A7 ws) := Lib.hid (KX2.out.drewN 1)
            have SR := Lib.hid KD.out.r5
            refine wp_region_held_drew (S := fun X => Row X g5 57 (bv k)) (by kernel_rfl) SR.out (fun _ => ?_)
            try dsimp only [List.append]
            clear KX2
            generalize wr.drew = wd at *
            refine takeL (i := 0) (v := ?_) rfl (by kernel_rfl) (by kernel_rfl) (by kernel_rfl) (fun _ _ _ h => h) (Or.inl ⟨by rfl, ?_⟩) SR.out ?_
            rotate_left
            · intro w hw
              try dsimp only at hw
              go_simp
              try with_reducible rfl
            try simp only [Act.put, List.setIfInBounds_toArray, List.set_cons_zero, List.set_cons_succ]
            refine takeL (i := 1) (v := ?_) rfl (by kernel_rfl) (by kernel_rfl) (by kernel_rfl) (fun _ _ _ h => h) (Or.inl ⟨by rfl, ?_⟩) SR.out ?_
            rotate_left
            · intro w hw
              try dsimp only at hw
              go_simp
              try with_reducible rfl
            try simp only [Act.put, List.setIfInBounds_toArray, List.set_cons_zero, List.set_cons_succ]
            refine takeL (i := 2) (v := ?_) rfl (by kernel_rfl) (by kernel_rfl) (by kernel_rfl) (fun _ _ _ h => h) (Or.inl ⟨by rfl, ?_⟩) SR.out ?_
            rotate_left
            · intro w hw
              try dsimp only at hw
              go_simp
              try with_reducible rfl
            try simp only [Act.put, List.setIfInBounds_toArray, List.set_cons_zero, List.set_cons_succ]
            refine takeL (i := 3) (v := .agg (bv k).toArray) rfl (by kernel_rfl) (by kernel_rfl) (by kernel_rfl) (fun _ _ _ h => h) (Or.inl ⟨by rfl, fun wz hwz => exec_load_at wz 57 (.tmp 5) rfl ⟨g5, 0, none⟩ (bv k) _ Tryd.underlying57 rfl HSO.out (fun j u hu => by rw [addr_row, Nat.zero_add]; exact (hwz.cell j).trans hu) (by go_simp)⟩) SR.out ?_
            try simp only [Act.put, List.setIfInBounds_toArray, List.set_cons_zero, List.set_cons_succ]
            refine takeL (i := 5) (v := ?_) rfl (by kernel_rfl) (by kernel_rfl) (by kernel_rfl) (fun _ _ _ h => h) (Or.inl ⟨by rfl, ?_⟩) SR.out ?_
            rotate_left
            · intro w hw
              try dsimp only at hw
              go_simp
              try with_reducible rfl
            try simp only [Act.put, List.setIfInBounds_toArray, List.set_cons_zero, List.set_cons_succ]
            refine takeL (i := 6) (v := .agg (bv k).toArray) rfl (by kernel_rfl) (by kernel_rfl) (by kernel_rfl) (fun _ _ _ h => h) (Or.inl ⟨by rfl, fun wz hwz => exec_load_at wz 57 (.tmp 5) rfl ⟨g5, 0, none⟩ (bv k) _ Tryd.underlying57 rfl HSO.out (fun j u hu => by rw [addr_row, Nat.zero_add]; exact (hwz.cell j).trans hu) (by go_simp)⟩) SR.out ?_
            try simp only [Act.put, List.setIfInBounds_toArray, List.set_cons_zero, List.set_cons_succ]
            refine readyL (i := 4) rfl (by kernel_rfl) (by kernel_rfl) fun K hK => ?_
            go_simp
            refine (get13 sb mb L' k _ KD.out.s HKA.out).mono ?_
            rintro e va ⟨rfl, hba⟩
            rw [HEA.out]
            have KD := Lib.hid (KD.out.below hba)
            have SR := Lib.hid (SR.out.below hba SR.out.lt)
            clear hba
            refine hK.out _ _ SR.out ?_
            clear hK K
            try simp only [Act.put, List.setIfInBounds_toArray, List.set_cons_zero, List.set_cons_succ]
            refine readyL (i := 7) rfl (by kernel_rfl) (by kernel_rfl) fun K hK => ?_
            go_simp
            refine (get13 sc mc L k _ KD.out.t HKA.out).mono ?_
            rintro e vb ⟨rfl, hbb⟩
            have KD := Lib.hid (KD.out.below hbb)
            have SR := Lib.hid (SR.out.below hbb SR.out.lt)
            clear hbb
            refine hK.out _ _ SR.out ?_
            clear hK K
            try simp only [Act.put, List.setIfInBounds_toArray, List.set_cons_zero, List.set_cons_succ]
            refine takeL (i := 8) (v := .bool true) rfl (by kernel_rfl) (by kernel_rfl) (by kernel_rfl) (fun _ _ _ h => h) (Or.inl ⟨by rfl, fun wz hwz => exec_bin16 wz .eql 59 (.tmp 104) (.tmp 107) (by kernel_rfl) rfl (by go_simp) (by go_simp) (HNQ.out wz)⟩) SR.out ?_
            try simp only [Act.put, List.setIfInBounds_toArray, List.set_cons_zero, List.set_cons_succ]
            refine takeL (i := 9) (v := ?_) rfl (by kernel_rfl) (by kernel_rfl) (by kernel_rfl) (fun _ _ _ h => h) (Or.inl ⟨by rfl, ?_⟩) SR.out ?_
            rotate_left
            · intro w hw
              try dsimp only at hw
              go_simp
              try with_reducible rfl
            try simp only [Act.put, List.setIfInBounds_toArray, List.set_cons_zero, List.set_cons_succ]
            refine takeL (i := 10) (v := ?_) rfl (by kernel_rfl) (by kernel_rfl) (by kernel_rfl) (fun _ _ _ h => h) (Or.inl ⟨by rfl, ?_⟩) SR.out ?_
            rotate_left
            · intro w hw
              try dsimp only at hw
              go_simp
              try with_reducible rfl
            try simp only [Act.put, List.setIfInBounds_toArray, List.set_cons_zero, List.set_cons_succ]
            refine readyL (i := 11) rfl (by kernel_rfl) (by kernel_rfl) fun K hK => ?_
            go_simp
            refine (lives16 _ (HT.out.below KD.out.b HT.out.pos)).mono ?_
            rintro e vl ⟨rfl, hbl⟩
            have KD := Lib.hid (KD.out.below hbl)
            have SR := Lib.hid (SR.out.below hbl SR.out.lt)
            clear hbl
            refine hK.out _ _ SR.out ?_
            clear hK K
            try simp only [Act.put, List.setIfInBounds_toArray, List.set_cons_zero, List.set_cons_succ]
            refine takeL (i := 12) (v := ?_) rfl (by kernel_rfl) (by kernel_rfl) (by kernel_rfl) (fun _ _ _ h => h) (Or.inl ⟨by rfl, ?_⟩) SR.out ?_
            rotate_left
            · intro w hw
              try dsimp only at hw
              go_simp
              try with_reducible rfl
            try simp only [Act.put, List.setIfInBounds_toArray, List.set_cons_zero, List.set_cons_succ]
            refine takeL (i := 13) (v := ?_) rfl (by kernel_rfl) (by kernel_rfl) (by kernel_rfl) (fun _ _ _ h => h) (Or.inl ⟨by rfl, ?_⟩) SR.out ?_
            rotate_left
            · intro w hw
              try dsimp only at hw
              go_simp
              try with_reducible rfl
            try simp only [Act.put, List.setIfInBounds_toArray, List.set_cons_zero, List.set_cons_succ]
            refine wpAnyH_done (by kernel_rfl) ?_ _
            go_wp2_with fail
            go_ret
            exact ⟨rfl, KD.out.b⟩
end Go.Proofs.YtfaefpniiiandaaDoor
