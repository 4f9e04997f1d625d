/-
  Parts joined: Resolve Lives6 Elems StayWalk Known Own7.
-/
import Derived.Test.YtdgbodljmdcagaaGreatDoorChecked
import Derived.WalkKit
import Derived.LaidEql
import Derived.Stop.Asserts
import Derived.RowKitTokens
import Derived.Lib.IfaceEq
import Derived.Lib.Hide
import Derived.Below
import Derived.Laws.OwnMore
import Derived.Deep.AppendLies
import Derived.Deep.Draws
import Derived.Laws.MakeOwn
import Derived.Laws.CopyOwn
import Derived.Laws.Rows
import Derived.Maps.AppendAt
import Derived.OwnWalk
import Derived.Laws.BitsAllLaws
import Derived.Test.YtdgbodljmdcagaaGreatDoorRows
import Derived.WalkSpells
import Derived.WalkLawsBesides
import Derived.IntWalk
import Derived.Deep.QuietTactic
import Derived.BigQuiet
import Derived.Deep.MidRow
import Derived.Deep.WholeRow
import Derived.Great.BuildSlice
import Derived.Recover
import Derived.Deep.RegionHeld
import Derived.ChangeKeysEq
import Derived.Deep.RegionHeld2
import Derived.Deep.CutBlock
import Derived.Laws.Tables
import Derived.ProofKit
import Derived.OpenShut
import Derived.ShutString
import Derived.ChangeOld
import Derived.Lib.SmallJoins
import Derived.Deep.Slices
import Derived.Deep.Strs
import Derived.SizedLaws
import Derived.Laws.StructEq
import Derived.Laws.Slices
import Derived.Defers
import Derived.Deep.DeepCutAuto
import Derived.Laws.EntriesVeiled
import Derived.Deep.RegionHeld3
import Derived.Maps.OwnSet
import Derived.DeepKeys4
import Derived.WideKeyArr
import Derived.WideKeyEntry
import Derived.Shelf.SlMaps.Clone
import Derived.Test.YtdgbodljmdcagaaGreatDoorA1
import Derived.Test.YtdgbodljmdcagaaGreatDoorA2
import Derived.Test.YtdgbodljmdcagaaGreatDoorA3
import Derived.Test.YtdgbodljmdcagaaGreatDoorA4
import Derived.Test.YtdgbodljmdcagaaGreatDoorA5
import Derived.Test.YtdgbodljmdcagaaGreatDoorA6
import Derived.Test.YtdgbodljmdcagaaGreatDoorA7
import Derived.Test.YtdgbodljmdcagaaGreatDoorA8
/-
  Of part Resolve: what is needed here.
-/
set_option linter.unusedSimpArgs false
namespace Go.Proofs.YtdgbodljmdcagaaGreatDoor
open Go.RowKit Go.Maps
set_option linter.unusedVariables false
set_option maxRecDepth 100000
/-- lookups whose numbers are bytes -/
def LkOk (x : LLook) : Prop := KeyOk x.tab ∧ AllBytes x.wr ∧ AllBytes x.rd
/-- what is wrong with a lookup -/
def errL (ts : List LTab) (x : LLook) : Int := match findT ts x.tab with | none => 11 | some l => if x.wr.any (out6 l.length) || x.rd.any (out6 l.length) then 8 else 0
def wrL (ts : List LTab) (x : LLook) : List (List Int) := pickK (fKeys ts x.tab) x.wr
def rdL (ts : List LTab) (x : LLook) : List (List Int) := pickK (fKeys ts x.tab) x.rd
def resErr (ts : List LTab) : List LLook → Int
  | [] => 0
  | x :: r => if errL ts x = 0 then resErr ts r else errL ts x
def resW (ts : List LTab) (ls : List LLook) : List (List Int) := if resErr ts ls = 0 then ls.flatMap (wrL ts) else []
def resR (ts : List LTab) (ls : List LLook) : List (List Int) := if resErr ts ls = 0 then ls.flatMap (rdL ts) else []
theorem resErr_append (ts : List LTab) : ∀ (a b : List LLook), resErr ts (a ++ b) = if resErr ts a = 0 then resErr ts b else resErr ts a
  | [], b => by simp [resErr]
  | x :: r, b => by
    show (if errL ts x = 0 then resErr ts (r ++ b) else errL ts x) = if (if errL ts x = 0 then resErr ts r else errL ts x) = 0 then resErr ts b else if errL ts x = 0 then resErr ts r else errL ts x
    by_cases e : errL ts x = 0
    · simp only [if_pos e]; exact resErr_append ts r b
    · simp only [if_neg e]
theorem resErr_one (ts : List LTab) (x : LLook) : resErr ts [x] = errL ts x := by
  unfold resErr
  split
  · rename_i h; rw [h]; rfl
  · rfl
theorem resErr_succ {ts : List LTab} {ls : List LLook} {k : Nat} {x : LLook} (h : ls[k]? = some x) (h0 : resErr ts (ls.take k) = 0) : resErr ts (ls.take (k + 1)) = errL ts x := by
  rw [List.take_add_one, h, resErr_append, if_pos h0]
  exact resErr_one ts x
theorem resErr_hit {ts : List LTab} {ls : List LLook} {k : Nat} {x : LLook} (h : ls[k]? = some x) (h0 : resErr ts (ls.take k) = 0) {c : Int} (hc : errL ts x = c) (h1 : c ≠ 0) : resErr ts ls = c := by
  have := resErr_append ts (ls.take (k + 1)) (ls.drop (k + 1))
  rw [List.take_append_drop, resErr_succ h h0, hc, if_neg h1] at this
  exact this
theorem pickK_length (l : List (List Int)) (ix : List Int) : (pickK l ix).length = ix.length := by simp [pickK]
theorem wrs_le (ts : List LTab) : ∀ ls : List LLook, (ls.flatMap (wrL ts)).length ≤ lookSize ls ∧ (ls.flatMap (rdL ts)).length ≤ lookSize ls
  | [] => ⟨Nat.zero_le _, Nat.zero_le _⟩
  | x :: r => by
    obtain ⟨a, b⟩ := wrs_le ts r
    have e : lookSize (x :: r) = (x.wr.length + x.rd.length) + lookSize r := by simp [lookSize]
    rw [e, List.flatMap_cons, List.flatMap_cons, List.length_append, List.length_append, wrL, rdL, pickK_length, pickK_length]
    omega
theorem flatMap_succ {α : Type} (f : LLook → List α) {ls : List LLook} {k : Nat} {x : LLook} (h : ls[k]? = some x) : (ls.take (k + 1)).flatMap f = (ls.take k).flatMap f ++ f x := by
  rw [List.take_add_one, h, List.flatMap_append]
  simp
/-- two lists of keys of the call's own, apart -/
structure Two (w0 : World) (u v : Value) (a b : List (List Int)) (V : World) : Prop where
  ou : V.ownsRow w0.heap.size 78 32 u a.length (bv a.flatten)
  ov : V.ownsRow w0.heap.size 78 32 v b.length (bv b.flatten)
  d : ∀ g, u.ownBlock = some g → v.ownBlock ≠ some g
  b : Below w0.heap.size w0 V
section
variable {w0 V V' : World} {u v u' v' : Value} {a b a' : List (List Int)}
theorem own_row_neN {w : World} {base size n g t : Nat} {e : TypeId} {v : Value} {xs ys : List Value} (h : w.ownsRow base e size v n xs) (hr : Row w g t ys) (hne : e ≠ t) : some g ≠ v.ownBlock := by
  intro hg
  obtain ⟨cur, hc⟩ := own_is h hg.symm
  rw [hr.is] at hc
  injection hc with hc
  injection hc with _ hc
  exact hne hc.symm
theorem Two.below (h : Two w0 u v a b V) (hb : Below V.heap.size V V') : Two w0 u v a b V' := ⟨own_below h.ou hb, own_below h.ov hb, h.d, h.b.trans (hb.mono h.b.size)⟩
theorem Two.pickU (h : Two w0 u v a b V) (hg : Grew V V' u u') (ho : V'.ownsRow w0.heap.size 78 32 u' a'.length (bv a'.flatten)) : Two w0 u' v a' b V' := by
  have hlt := h.ov.lt
  refine ⟨ho, own_keep h.ov (fun g e => hg.grown.block g (hlt g e).2 (fun e' => h.d g e'.symm e)), fun g e e' => ?_, h.b.trans (hg.below h.ou h.b.size)⟩
  rcases hg.fresh g e with h1 | h1
  · exact h.d g h1 e'
  · have := (hlt g e').2
    omega
theorem Two.pickV (h : Two w0 u v a b V) (hg : Grew V V' v v') (ho : V'.ownsRow w0.heap.size 78 32 v' a'.length (bv a'.flatten)) : Two w0 u v' a a' V' := by
  have hlt := h.ou.lt
  refine ⟨own_keep h.ou (fun g e => hg.grown.block g (hlt g e).2 (fun e' => h.d g e e'.symm)), ho, fun g e e' => ?_, h.b.trans (hg.below h.ov h.b.size)⟩
  rcases hg.fresh g e' with h1 | h1
  · exact h.d g e h1
  · have := (hlt g e).2
    omega
end
/-- a list of the call's own, clipped -/
theorem clip_out {w w0 : World} {u : Value} {a : List (List Int)} (ho : w.ownsRow w0.heap.size 78 32 u a.length (bv a.flatten)) (h32 : ∀ y ∈ a, y.length = 32) :
    ∃ S : Sl, u = S.val ∧ S.n = a.length ∧ S.n ≤ S.c ∧ S.c ≤ maxLen ∧ KOut w w0.heap.size w.heap.size ⟨S.A, S.n, S.n⟩ a ∧ ∀ g, S.A = some g → u.ownBlock = some g := by
  obtain ⟨x, hv, hn, hx0, hx1⟩ := own_sl ho
  obtain ⟨A, c, hu, hs, hnc, hcm, _⟩ := own_form2 ho
  obtain ⟨A', n, c'⟩ := x
  have hvv : Value.slice (A'.map fun g => ⟨g, 0, none⟩) n c' = .slice A a.length c := hv.symm.trans hu
  injection hvv with e1 e2 e3
  subst e1 e2 e3
  refine ⟨⟨A', a.length, c'⟩, hv, rfl, hnc, hcm, ⟨?_, ⟨rfl, h32, hs⟩, ⟨Nat.le_refl _, Nat.le_trans hnc hcm⟩, ?_⟩, ?_⟩
  · cases A' with
    | none =>
      have := (hx0 rfl).1
      exact ⟨this, this⟩
    | some g =>
      obtain ⟨b1, b2, _, b4, b5, cur, b6, b7⟩ := hx1 g rfl
      refine ⟨Nat.le_refl _, Nat.le_trans b4 b5, cur, b6, ?_, fun h => absurd h (by show ¬ (34 : Nat) < 32; omega)⟩
      show a.length * 32 ≤ cur.length
      have b4' : a.length ≤ c' := b4
      have b7' : cur.length = c' * 32 := b7
      omega
  · intro g e
    have e' : A' = some g := e
    subst e'
    obtain ⟨b1, b2, _⟩ := hx1 g rfl
    exact ⟨b1, b2⟩
  · intro g e
    have e' : A' = some g := e
    subst e'
    exact (hx1 g rfl).2.2.1
theorem all32 {ts : List LTab} (hg : TsOk ts) : ∀ (ls : List LLook), (∀ x ∈ ls, LkOk x) → resErr ts ls = 0 → (∀ y ∈ ls.flatMap (wrL ts), y.length = 32) ∧ ∀ y ∈ ls.flatMap (rdL ts), y.length = 32
  | [], _, _ => ⟨fun y hy => (by cases hy), fun y hy => (by cases hy)⟩
  | x :: r, hok, h0 => by
    obtain ⟨h1, h2⟩ : errL ts x = 0 ∧ resErr ts r = 0 := by
      unfold resErr at h0
      split at h0
      · exact ⟨‹_›, h0⟩
      · exact absurd h0 ‹_›
    obtain ⟨a, b⟩ := all32 hg r (fun y hy => hok y (List.mem_cons_of_mem _ hy)) h2
    obtain ⟨k0, k1, k2⟩ := hok x (by simp)
    unfold errL at h1
    cases hf : findT ts x.tab with
    | none => rw [hf] at h1; simp at h1
    | some l =>
      rw [hf] at h1
      obtain ⟨h32, _, _⟩ := hg.find hf
      have hx : x.wr.any (out6 l.length) = false ∧ x.rd.any (out6 l.length) = false := by
        simp only [] at h1
        split at h1
        · cases h1
        · rename_i hn
          simpa using hn
      have e : fKeys ts x.tab = l := by unfold fKeys; rw [hf]; rfl
      rw [List.flatMap_cons, List.flatMap_cons]
      unfold wrL rdL
      rw [e]
      refine ⟨fun y hy => ?_, fun y hy => ?_⟩
      · rcases List.mem_append.1 hy with hy | hy
        · exact pickK_len h32 hx.1 k1 y hy
        · exact a y hy
      · rcases List.mem_append.1 hy with hy | hy
        · exact pickK_len h32 hx.2 k2 y hy
        · exact b y hy
/-- what Resolve answers -/
def ResDone (w : World) (ts : List LTab) (ls : List LLook) (e : Ending) (w' : World) : Prop :=
  ∃ S T : Sl, e = .returned (.tuple #[S.val, T.val, .int .i64 (resErr ts ls)]) ∧ KOut w' w.heap.size w'.heap.size S (resW ts ls) ∧ KOut w' w.heap.size w'.heap.size T (resR ts ls) ∧ ((∀ g, S.A = some g → T.A ≠ some g) ∧ S.c = S.n ∧ T.c = T.n) ∧ Below w.heap.size w w'
theorem ResDone.not {w w' : World} {ts : List LTab} {ls : List LLook} {c : Int} (hc : resErr ts ls = c) (h0 : c ≠ 0) (hb : Below w.heap.size w w') : ResDone w ts ls (.returned (.tuple #[nilK, nilK, .int .i64 c])) w' := by
  have h1 : resErr ts ls ≠ 0 := by rw [hc]; exact h0
  refine ⟨⟨none, 0, 0⟩, ⟨none, 0, 0⟩, by rw [hc]; rfl, ?_, ?_, ⟨fun g e => (by cases e), rfl, rfl⟩, hb⟩
  · rw [resW, if_neg h1]; exact KOut.nil _ _ _
  · rw [resR, if_neg h1]; exact KOut.nil _ _ _
set_option maxHeartbeats 400000 in
theorem resolveNo (v u : Value) (w : World) (h : NoReg w v) :
    Calls Tryz.prog 83 #[v, u] w fun e w' => e = .returned (.tuple #[nilK, nilK, .int .i64 2]) ∧ w = w' := by
  have HT := Lib.hid (there_no v _ h)
  clear h
  go_enter Tryz.func83, Tryz.ntmps83
  go_wp2_with (go_at_call 80; refine HT.out.mono ?_; rintro e w' ⟨rfl, rfl⟩)
  go_ret3
  exact ⟨rfl, rfl⟩
set_option maxRecDepth 100000 in
set_option maxHeartbeats 8000000 in
theorem resolveReg (rb mb hi n : Nat) (ts : List LTab) (A : Option Addr) (m c B : Nat) (ls : List LLook) (w : World) (h : Reg w rb mb hi n ts) (hl : LooksIn w B A m ls) (hB : B ≤ w.heap.size) (hok : ∀ x ∈ ls, LkOk x) (hm : m ≤ 4000) (hs : lookSize ls ≤ 4000) :
    Calls Tryz.prog 83 #[.pointer (some ⟨rb, 0, none⟩), .slice A m c] w (ResDone w ts ls) := by
  have HT := Lib.hid (there_yes rb mb _ h.row)
  have HREG := Lib.hid h
  have HHI := Lib.hid h.lt.2.2
  have HL := Lib.hid hl
  have HLN := Lib.hid hl.len
  have HOK := Lib.hid hok
  have HS := Lib.hid hs
  clear h hl hok hs
  go_enter Tryz.func83, Tryz.ntmps83
  go_wp2_with (go_at_call 80; refine HT.out.mono ?_; rintro e w' ⟨rfl, rfl⟩)
  go_loopw [4, 5, 16] (fun u v i wr => ∃ k : Nat, k ≤ m ∧ i = .int .i64 k ∧ resErr ts (ls.take k) = 0 ∧ Two w u v ((ls.take k).flatMap (wrL ts)) ((ls.take k).flatMap (rdL ts)) wr) (fun u v i _ => m - (intOf i).toNat)
  case atStart => exact ⟨0, Nat.zero_le _, rfl, rfl, ⟨World.ownsRow_nil _ _ _ _, World.ownsRow_nil _ _ _ _, fun g e => (by cases e), Below.refl _ _⟩⟩
  case round =>
    obtain ⟨k, hk, rfl, hr0, htwo⟩ := hrel
    have HR0 := Lib.hid hr0
    have H2 := Lib.hid htwo
    have HREGR := Lib.hid (HREG.out.below (htwo.b.mono HHI.out))
    have c0 : wr.cell? ⟨rb, 0, none⟩ = some (.map (some mb)) := HREGR.out.row.cell 0
    have HRB : Hid (rb < wr.heap.size) := Lib.hid HREGR.out.row.lt
    have HSZW : Hid (w.heap.size ≤ wr.heap.size) := Lib.hid htwo.b.size
    clear hr0 htwo
    by_cases hlt : k < m
    · obtain ⟨a, x, va, vd, rfl, hab, hx, hat⟩ := (HL.out.below (H2.out.b.mono hB)).get hlt
      obtain ⟨⟨hkey, hwb, hrb⟩, hmem⟩ := And.intro (HOK.out x (List.mem_of_getElem? hx)) (List.mem_of_getElem? hx)
      have hsz := lsize_mem hmem
      obtain ⟨A1, c1, rfl, hs1, hn1, hc1⟩ := hat.wr.is
      obtain ⟨A2, c2, rfl, hs2, hn2, hc2⟩ := hat.rd.is
      have HX := Lib.hid hx
      have HKEY := Lib.hid hkey
      have HWB := Lib.hid (And.intro hwb hrb)
      have HSN := Lib.hid (show x.wr.length ≤ 4000 ∧ x.rd.length ≤ 4000 by have := HS.out; omega)
      have HS1 := Lib.hid (And.intro hs1 hs2)
      have HON := Lib.hid (lookCells_one (tab := x.tab) hat.wr hat.rd)
      have HCE := Lib.hid hat.cells
      have HSZL := Lib.hid (size_lk hat.len (.slice A1 x.wr.length c1) (.slice A2 x.rd.length c2))
      have HLL : Hid (34 = (bv x.tab ++ [Value.slice A1 x.wr.length c1, .slice A2 x.rd.length c2]).length) := Lib.hid (by simp [bv_length, hat.len])
      have HXL : Hid ((bv x.tab).length = 32) := Lib.hid (by rw [bv_length, hat.len])
      have HSX := Lib.hid (show (Tryz.prog.info? 78).map (·.size) = some (bv x.tab).length by rw [bv_length, hat.len]; exact size_key)
      have HC32 : Hid (∀ V : World, Row V wr.heap.size 124 (bv x.tab ++ [Value.slice A1 x.wr.length c1, .slice A2 x.rd.length c2]) → V.cell? ⟨wr.heap.size, 32, none⟩ = some (.slice A1 x.wr.length c1) ∧ V.cell? ⟨wr.heap.size, 33, none⟩ = some (.slice A2 x.rd.length c2)) := Lib.hid fun V hr => look_cells hr hat.len
      obtain ⟨g, hlk, hg⟩ := HREGR.out.look_any hkey
      have hmb : mb < wr.heap.size := Nat.lt_of_lt_of_le HREGR.out.lt.2.1 HREGR.out.lt.2.2
      have HLK : Hid (∀ V : World, Below wr.heap.size wr V → ∀ q, (Instr.lookup 64 (.map (some mb)) (.agg (bv x.tab).toArray) true).run Tryz.prog (V.drewN q) = .ok (.tuple #[seen ts x.tab g, .bool (findT ts x.tab).isSome]) (V.drewN q)) := Lib.hid fun V hV q => hlk _ (hV.block mb hmb)
      clear hmb
      clear hkey hwb hrb hmem hsz hs1 hs2 hn1 hn2 hc1 hc2 hat hx hlk
      generalize hXX : bv x.tab = X at *
      generalize hLL : X ++ [Value.slice A1 x.wr.length c1, .slice A2 x.rd.length c2] = L at *
      have HXI : Hid (∀ j u, X[j]? = some u → L[j]? = some u) := Lib.hid fun j u hu => by
        rw [← hLL, List.getElem?_append_left (List.getElem?_eq_some_iff.1 hu).1]
        exact hu
      clear hXX hLL
      cases hf : findT ts x.tab with
      | none =>
        have hv : seen ts x.tab g = nilK := by unfold seen; rw [hf]
        rw [hv, hf] at HLK
        unfold nilK at HLK
        have HE : Hid (resErr ts ls = 11) := Lib.hid (resErr_hit HX.out HR0.out (by unfold errL; rw [hf]) (by omega))
        clear hv hf hg
        go_wp2_with (first
          | ((with_reducible show wpList _ _ _ ({ dst := some 19, op := Op.load _ _, type := _, pos := _, after := _, guard := _ } :: _) _ _); go_must (refine wpList_load_at rfl 124 (.tmp 18) rfl (a.add (k * 34)) L _ Tryz.underlying124 rfl HSZL.out HCE.out ?_ ?_; go_simp))
          | (with_reducible show wpList _ _ _ ({ dst := none, op := Op.store 124 _ _, type := _, pos := _, after := _, guard := _ } :: _) _ _; go_must (refine wpList_store_new rfl 124 (.tmp 8) (.tmp 19) rfl L HSZL.out HON.out (by rw [← HLL.out]; kernel_rfl) ?_ ?_ ?_; go_simp; go_simp; intro W hr2 hb2 hz2; have RL := Lib.hid hr2; have BW := Lib.hid hb2; have hlw := HLK.out W hb2; have cW : W.cell? ⟨rb, 0, none⟩ = some (.map (some mb)) := (hb2.cell HRB.out).trans c0; clear hr2 hb2 hz2)))
        try simp only [Act.put]
        refine wp_region_quiet_lit (by kernel_rfl) (by kernel_rfl) ?_
        repeat (first
          | ((with_reducible show wpQuiet _ _ _ _ ({ dst := some 26, op := Op.load _ _, type := _, pos := _, after := _, guard := _ } :: _) _); go_must (refine quiet_load_at (by kernel_rfl) 78 (.tmp 25) rfl ⟨wr.heap.size, 0, none⟩ X _ Tryz.underlying78 rfl HSX.out (by rintro _ ⟨nq, rfl⟩ j v hv; exact (by rw [addr_row, Nat.zero_add]; exact (RL.out.cell j).trans (HXI.out j v hv))) ?_ ?_; go_simp; go_simp))
          | go_big_quiet_step (fail))
        refine wpQuiet_nil ?_
        intro nq
        go_wp2_with fail
        go_ret3
        exact ResDone.not HE.out (by omega) (H2.out.b.trans ((show Below wr.heap.size wr (W.drewN nq) from ⟨BW.out.os, BW.out.tape, BW.out.output, BW.out.size, BW.out.block⟩).mono H2.out.b.size))
      | some l =>
        have hv : seen ts x.tab g = .slice (some ⟨g, 0, none⟩) l.length l.length := by unfold seen; rw [hf]
        rw [hv, hf] at HLK
        obtain ⟨hgr, hgi⟩ := hg l hf
        obtain ⟨h32, hl1, hl2⟩ := HREG.out.good.find hf
        have HF := Lib.hid hf
        have HG32 := Lib.hid h32
        have HGK : Hid (∀ V : World, Below wr.heap.size wr V → KeysIn V w.heap.size (some ⟨g, 0, none⟩) l.length l) := Lib.hid fun V hV => keys_row (ys := []) (by rw [List.append_nil]; exact hgr.below hV hgr.lt) rfl h32 (Nat.lt_of_lt_of_le hgi HHI.out)
        clear hv hf hg hgr h32
        have HLE := Lib.hid hl2
        obtain ⟨tt, htt⟩ : ∃ tt, tt = l.length := ⟨_, rfl⟩
        have HTT := Lib.hid htt
        rw [← htt] at HLK hl1 hl2
        obtain ⟨n1, hn1⟩ : ∃ n1, n1 = x.wr.length := ⟨_, rfl⟩
        obtain ⟨n2, hn2⟩ : ∃ n2, n2 = x.rd.length := ⟨_, rfl⟩
        have HN1 := Lib.hid hn1
        have HN2 := Lib.hid hn2
        rw [← hn1, ← hn2] at HC32 HS1
        rw [← hn1, ← hn2] at HSN
        clear hn1 hn2 htt
        go_wp2_with (first
          | ((with_reducible show wpList _ _ _ ({ dst := some 19, op := Op.load _ _, type := _, pos := _, after := _, guard := _ } :: _) _ _); go_must (refine wpList_load_at rfl 124 (.tmp 18) rfl (a.add (k * 34)) L _ Tryz.underlying124 rfl HSZL.out HCE.out ?_ ?_; go_simp))
          | (with_reducible show wpList _ _ _ ({ dst := none, op := Op.store 124 _ _, type := _, pos := _, after := _, guard := _ } :: _) _ _; go_must (refine wpList_store_new rfl 124 (.tmp 8) (.tmp 19) rfl L HSZL.out HON.out (by rw [← HLL.out]; kernel_rfl) ?_ ?_ ?_; go_simp; go_simp; intro W hr2 hb2 hz2; have RL := Lib.hid hr2; have BW := Lib.hid hb2; have hlw := HLK.out W hb2; have cW : W.cell? ⟨rb, 0, none⟩ = some (.map (some mb)) := (hb2.cell HRB.out).trans c0; clear hr2 hb2 hz2)))
        try simp only [Act.put]
        refine wp_region_quiet_lit (by kernel_rfl) (by kernel_rfl) ?_
        repeat (first
          | ((with_reducible show wpQuiet _ _ _ _ ({ dst := some 26, op := Op.load _ _, type := _, pos := _, after := _, guard := _ } :: _) _); go_must (refine quiet_load_at (by kernel_rfl) 78 (.tmp 25) rfl ⟨wr.heap.size, 0, none⟩ X _ Tryz.underlying78 rfl HSX.out (by rintro _ ⟨nq, rfl⟩ j v hv; exact (by rw [addr_row, Nat.zero_add]; exact (RL.out.cell j).trans (HXI.out j v hv))) ?_ ?_; go_simp; go_simp))
          | go_big_quiet_step (fail))
        refine wpQuiet_nil ?_
        intro nq
        have HBV : Hid (Below wr.heap.size wr (W.drewN nq)) := Lib.hid ⟨BW.out.os, BW.out.tape, BW.out.output, BW.out.size, BW.out.block⟩
        have RV : Hid (Row (W.drewN nq) wr.heap.size 124 L) := Lib.hid ⟨RL.out.is⟩
        have H2V := Lib.hid (H2.out.below HBV.out)
        have cV : (W.drewN nq).cell? ⟨rb, 0, none⟩ = some (.map (some mb)) := cW
        clear RL BW hlw cW
        generalize W.drewN nq = V at *
        obtain ⟨e1, e2⟩ := HC32.out V RV.out
        have C1 := Lib.hid (strays6 A1 (some ⟨g, 0, none⟩) n1 c1 tt tt B x.wr V (HS1.out.1.below (HBV.out.mono (Nat.le_trans hB HSZW.out))) (Nat.le_trans (Nat.le_trans hB HSZW.out) HBV.out.size) HWB.out.1 HSN.out.1 (by omega))
        by_cases hp1 : x.wr.any (out6 tt) = true
        · have HE : Hid (resErr ts ls = 8) := Lib.hid (resErr_hit HX.out HR0.out (by unfold errL; rw [HF.out]; dsimp only; rw [← HTT.out]; simp [hp1]) (by omega))
          rw [hp1] at C1
          clear hp1
          go_wp2_with fail
          refine C1.out.mono ?_
          rintro e w2 ⟨rfl, hb2⟩
          have B2 := Lib.hid hb2
          clear hb2
          go_wp2_with fail
          go_ret3
          exact ResDone.not HE.out (by omega) ((H2V.out.below B2.out).b)
        have hp1 : x.wr.any (out6 tt) = false := by simpa using hp1
        have HP1 := Lib.hid hp1
        rw [hp1] at C1
        clear hp1
        go_wp2_with fail
        refine C1.out.mono ?_
        rintro e w2 ⟨rfl, hb2⟩
        have hb2r : Below wr.heap.size wr w2 := HBV.out.trans (hb2.mono HBV.out.size)
        have HB2 := Lib.hid hb2r
        have H22 := Lib.hid (H2V.out.below hb2)
        have R2 := Lib.hid (RV.out.below hb2 RV.out.lt)
        have hz2 : w.heap.size ≤ w2.heap.size := Nat.le_trans HSZW.out hb2r.size
        have HZ2 := Lib.hid hz2
        obtain ⟨f1, f2⟩ := HC32.out w2 R2.out
        have C2 := Lib.hid (strays6 A2 (some ⟨g, 0, none⟩) n2 c2 tt tt B x.rd w2 (HS1.out.2.below (hb2r.mono (Nat.le_trans hB HSZW.out))) (Nat.le_trans hB hz2) HWB.out.2 HSN.out.2 (by omega))
        clear e1 e2 hb2 hb2r C1 cV H2V RV HBV hz2
        by_cases hp2 : x.rd.any (out6 tt) = true
        · have HE : Hid (resErr ts ls = 8) := Lib.hid (resErr_hit HX.out HR0.out (by unfold errL; rw [HF.out]; dsimp only; rw [← HTT.out]; simp [hp2]) (by omega))
          rw [hp2] at C2
          clear hp2
          go_wp2_with fail
          refine C2.out.mono ?_
          rintro e w3 ⟨rfl, hb3⟩
          have B3 := Lib.hid hb3
          clear hb3
          go_wp2_with fail
          go_ret3
          exact ResDone.not HE.out (by omega) ((H22.out.below B3.out).b)
        have hp2 : x.rd.any (out6 tt) = false := by simpa using hp2
        have HP2 := Lib.hid hp2
        rw [hp2] at C2
        clear hp2
        go_wp2_with fail
        refine C2.out.mono ?_
        rintro e w3 ⟨rfl, hb3⟩
        have hb3r : Below wr.heap.size wr w3 := HB2.out.trans (hb3.mono HB2.out.size)
        have HB3 := Lib.hid hb3r
        have H23 := Lib.hid (H22.out.below hb3)
        have R3 := Lib.hid (R2.out.below hb3 R2.out.lt)
        obtain ⟨g1, g2⟩ := HC32.out w3 R3.out
        have hlen := wrs_le ts (ls.take k)
        have hlk2 := lookSize_take (l := ls) k
        have HSUM : Hid (((ls.take k).flatMap (wrL ts)).length + n1 ≤ 1000000 ∧ ((ls.take k).flatMap (rdL ts)).length + n2 ≤ 1000000) := Lib.hid (by have := HS.out; have := HSN.out; omega)
        have C3 := Lib.hid (pick_ w.heap.size w.heap.size _ _ _ (some ⟨g, 0, none⟩) A1 tt tt n1 c1 l x.wr w3 H23.out.ou H23.out.b.size (by rw [HTT.out]; exact HGK.out w3 hb3r) (((HS1.out.1.below (hb3r.mono (Nat.le_trans hB HSZW.out)))).more hB) (Nat.le_refl _) HWB.out.1 (by rw [← HTT.out]; exact HP1.out) HSUM.out.1 hl2)
        clear f1 f2 hb3 hb3r C2 R2 H22 HB2 hlen hlk2
        go_wp2_with fail
        refine C3.out.mono ?_
        rintro e w4 ⟨u4, rfl, ho4, hg4⟩
        have ho4' : w4.ownsRow w.heap.size 78 32 u4 ((ls.take k).flatMap (wrL ts) ++ pickK l x.wr).length (bv ((ls.take k).flatMap (wrL ts) ++ pickK l x.wr).flatten) := by
          rw [List.length_append, pickK_length, List.flatten_append, bv_append, ← HN1.out]
          exact ho4
        have H24 := Lib.hid (H23.out.pickU hg4 ho4')
        have R4 := Lib.hid (hg4.row R3.out (own_row_neN H23.out.ou R3.out (by decide)))
        have hz4 : w.heap.size ≤ w4.heap.size := H24.out.b.size
        have hb4r : Below w.heap.size wr w4 := (HB3.out.mono HSZW.out).trans (hg4.below H23.out.ou H23.out.b.size)
        have hgk4 : KeysIn w4 w.heap.size (some ⟨g, 0, none⟩) l.length l := (HGK.out w3 HB3.out).below (hg4.below H23.out.ou H23.out.b.size)
        obtain ⟨i1, i2⟩ := HC32.out w4 R4.out
        have C4 := Lib.hid (pick_ w.heap.size w.heap.size _ _ _ (some ⟨g, 0, none⟩) A2 tt tt n2 c2 l x.rd w4 H24.out.ov H24.out.b.size (by rw [HTT.out]; exact hgk4) (((HS1.out.2.below (hb4r.mono hB))).more hB) (Nat.le_refl _) HWB.out.2 (by rw [← HTT.out]; exact HP2.out) HSUM.out.2 hl2)
        clear g1 g2 ho4 ho4' hg4 C3 R3 H23 hz4 hb4r hgk4 HB3
        go_wp2_with fail
        refine C4.out.mono ?_
        rintro e w5 ⟨v5, rfl, ho5, hg5⟩
        have ho5' : w5.ownsRow w.heap.size 78 32 v5 ((ls.take k).flatMap (rdL ts) ++ pickK l x.rd).length (bv ((ls.take k).flatMap (rdL ts) ++ pickK l x.rd).flatten) := by
          rw [List.length_append, pickK_length, List.flatten_append, bv_append, ← HN2.out]
          exact ho5
        have H25 := Lib.hid (H24.out.pickV hg5 ho5')
        clear i1 i2 ho5 ho5' hg5 C4 R4 H24
        have HNX : Hid (resErr ts (ls.take (k + 1)) = 0) := Lib.hid (by
          rw [resErr_succ HX.out HR0.out]
          unfold errL
          rw [HF.out]
          simp only []
          rw [← HTT.out, HP1.out, HP2.out]
          rfl)
        have HNW : Hid ((ls.take (k + 1)).flatMap (wrL ts) = (ls.take k).flatMap (wrL ts) ++ pickK l x.wr ∧ (ls.take (k + 1)).flatMap (rdL ts) = (ls.take k).flatMap (rdL ts) ++ pickK l x.rd) := Lib.hid (by
          rw [flatMap_succ _ HX.out, flatMap_succ _ HX.out]
          unfold wrL rdL fKeys
          rw [HF.out]
          exact ⟨rfl, rfl⟩)
        go_wp2_with fail
        go_roundw
        case rel =>
          refine ⟨k + 1, by omega, by go_num, HNX.out, ?_⟩
          rw [HNW.out.1, HNW.out.2]
          exact H25.out
        case measure => simp [intOf]; omega
    · have hkm : k = m := by omega
      have HTK : Hid (ls.take k = ls) := Lib.hid (List.take_of_length_le (by rw [HLN.out]; omega))
      have HE : Hid (resErr ts ls = 0) := Lib.hid (by have := HR0.out; rwa [HTK.out] at this)
      have HF : Hid (Two w _ _ (ls.flatMap (wrL ts)) (ls.flatMap (rdL ts)) wr) := Lib.hid (by have := H2.out; rw [HTK.out] at this; exact this)
      have h32 : (∀ y ∈ ls.flatMap (wrL ts), y.length = 32) ∧ ∀ y ∈ ls.flatMap (rdL ts), y.length = 32 := by
        have := all32 HREG.out.good ls HOK.out HE.out
        exact this
      obtain ⟨S, rfl, hS1, hS2, hS3, hS4, hS5⟩ := clip_out HF.out.ou h32.1
      obtain ⟨T, rfl, hT1, hT2, hT3, hT4, hT5⟩ := clip_out HF.out.ov h32.2
      have HDONE : Hid (ResDone w ts ls (.returned (.tuple #[.slice (S.A.map fun g => ⟨g, 0, none⟩) S.n S.n, .slice (T.A.map fun g => ⟨g, 0, none⟩) T.n T.n, .int .i64 0])) wr) := Lib.hid
        ⟨⟨S.A, S.n, S.n⟩, ⟨T.A, T.n, T.n⟩, by rw [HE.out]; rfl, by rw [resW, if_pos HE.out]; exact hS4, by rw [resR, if_pos HE.out]; exact hT4, ⟨fun g e e' => HF.out.d g (hS5 g e) (hT5 g e'), rfl, rfl⟩, HF.out.b⟩
      have CS := Lib.hid (clipK (S.A.map fun g => ⟨g, 0, none⟩) S.n S.c wr hS2 hS3)
      have CT := Lib.hid (clipK (T.A.map fun g => ⟨g, 0, none⟩) T.n T.c wr hT2 hT3)
      clear hS1 hS2 hS3 hS4 hS5 hT1 hT2 hT3 hT4 hT5 h32 hkm
      unfold Sl.val
      go_wp2_with fail
      refine CS.out.mono ?_
      rintro e w' ⟨rfl, rfl⟩
      go_wp2_with fail
      refine CT.out.mono ?_
      rintro e w' ⟨rfl, rfl⟩
      go_wp2_with fail
      go_ret3
      exact HDONE.out
end Go.Proofs.YtdgbodljmdcagaaGreatDoor

/-
  Of part Lives6: what is needed here.
-/
namespace Go.Proofs.YtdgbodljmdcagaaGreatDoor
open Go.RowKit
set_option linter.unusedVariables false
set_option maxRecDepth 100000
def y1 : List LLook := [⟨xk 9, [2], [0, 1]⟩]
def y2 : List LLook := [⟨xk 9, [], [3]⟩]
end Go.Proofs.YtdgbodljmdcagaaGreatDoor

/-
  Of part Elems: what is needed here.
-/
namespace Go.Proofs.YtdgbodljmdcagaaGreatDoor
open Go.RowKit
set_option linter.unusedVariables false
set_option maxRecDepth 100000
/-- elements as cells, each of them size cells long -/
structure Elems {α : Type} (size : Nat) (E : World → Nat → List Value → α → Prop) (w : World) (B : Nat) (l : List α) (css : List (List Value)) : Prop where
  len : css.length = l.length
  at_ : ∀ (i : Nat) (x : α) (cs : List Value), l[i]? = some x → css[i]? = some cs → E w B cs x ∧ cs.length = size ∧ ∀ u ∈ cs, u.oneCell' = true
section
variable {α : Type} {size : Nat} {E : World → Nat → List Value → α → Prop} {w w' : World} {B B' : Nat} {l l' : List α} {css css' : List (List Value)}
theorem Elems.nil : Elems size E w B ([] : List α) [] := ⟨rfl, fun i x cs h => by simp at h⟩
theorem Elems.size_ (h : Elems size E w B l css) : ∀ (i : Nat) y, css[i]? = some y → y.length = size := fun i y hy => by
  have hi := (List.getElem?_eq_some_iff.1 hy).1
  exact (h.at_ i _ y (List.getElem?_eq_getElem (by rw [← h.len]; exact hi)) hy).2.1
theorem flatten_length {size : Nat} : ∀ (css : List (List Value)), (∀ y ∈ css, y.length = size) → css.flatten.length = css.length * size
  | [], _ => by simp
  | y :: r, h => by
    rw [List.flatten_cons, List.length_append, flatten_length r (fun z hz => h z (List.mem_cons_of_mem _ hz)), h y (by simp), List.length_cons, Nat.add_mul]
    omega
theorem Elems.flat (h : Elems size E w B l css) : css.flatten.length = l.length * size := by
  rw [flatten_length css (fun y hy => by obtain ⟨i, hi, rfl⟩ := List.getElem_of_mem hy; exact h.size_ i _ (List.getElem?_eq_getElem hi)), h.len]
theorem Elems.one (h : Elems size E w B l css) : ∀ u ∈ css.flatten, u.oneCell' = true := fun u hu => by
  obtain ⟨cs, hcs, hu⟩ := List.mem_flatten.1 hu
  obtain ⟨i, hi, rfl⟩ := List.getElem_of_mem hcs
  exact (h.at_ i _ _ (List.getElem?_eq_getElem (by rw [← h.len]; exact hi)) (List.getElem?_eq_getElem hi)).2.2 u hu
theorem Elems.app (h : Elems size E w B l css) (h' : Elems size E w B l' css') : Elems size E w B (l ++ l') (css ++ css') :=
  ⟨by rw [List.length_append, List.length_append, h.len, h'.len], fun i x cs hx hcs => by
    by_cases hi : i < l.length
    · rw [List.getElem?_append_left hi] at hx
      rw [List.getElem?_append_left (by rw [h.len]; exact hi)] at hcs
      exact h.at_ i x cs hx hcs
    · rw [List.getElem?_append_right (by omega)] at hx
      rw [List.getElem?_append_right (by rw [h.len]; omega), h.len] at hcs
      exact h'.at_ _ x cs hx hcs⟩
theorem Elems.map (h : Elems size E w B l css) (hm : ∀ cs x, E w B cs x → E w' B' cs x) : Elems size E w' B' l css :=
  ⟨h.len, fun i x cs hx hcs => by
    obtain ⟨a, b⟩ := h.at_ i x cs hx hcs
    exact ⟨hm _ _ a, b⟩⟩
theorem Elems.get (h : Elems size E w B l css) {A : Option Addr} {C : Nat} (hs : Sees w C A (l.length * size) css.flatten) {k : Nat} (hk : k < l.length) (h0 : 0 < size) :
    ∃ a x cs, A = some a ∧ a.block < C ∧ l[k]? = some x ∧ css[k]? = some cs ∧ E w B cs x ∧ cs.length = size ∧ (∀ j u, cs[j]? = some u → w.cell? ((a.add (k * size)).add j) = some u) ∧ ∀ u ∈ cs, u.oneCell' = true := by
  have hx := List.getElem?_eq_getElem (l := l) (i := k) hk
  have hcs := List.getElem?_eq_getElem (l := css) (i := k) (by rw [h.len]; exact hk)
  obtain ⟨e1, e2, e3⟩ := h.at_ k _ _ hx hcs
  have hat := flatten_at size css k _ h.size_ hcs
  obtain ⟨u0, hu0⟩ : ∃ u, (css[k]'(by rw [h.len]; exact hk))[0]? = some u := ⟨_, List.getElem?_eq_getElem (show 0 < (css[k]'(by rw [h.len]; exact hk)).length by rw [e2]; exact h0)⟩
  obtain ⟨a, rfl, hab, _⟩ := hs.cell _ _ (hat 0 u0 hu0)
  refine ⟨a, _, _, rfl, hab, hx, hcs, e1, e2, fun j u hu => ?_, e3⟩
  obtain ⟨a', e, _, hc⟩ := hs.cell _ _ (hat j u hu)
  cases e
  rw [addr_add]
  exact hc
/-- elements that stand in memory, as cells -/
theorem Elems.of {A : Option Addr} {n C : Nat} (hl : l.length = n) (h0 : 0 < size) (h : ∀ i x, l[i]? = some x → ∃ a cs, A = some a ∧ a.block < C ∧ (∀ j u, cs[j]? = some u → w.cell? (a.add (i * size + j)) = some u) ∧ E w B cs x ∧ cs.length = size ∧ ∀ u ∈ cs, u.oneCell' = true) :
    ∃ css, Elems size E w B l css ∧ Sees w C A (n * size) css.flatten := by
  obtain ⟨css, h1, h2⟩ := list_of (α := List Value) (p := fun i cs => ∀ x, l[i]? = some x → ∃ a, A = some a ∧ a.block < C ∧ (∀ j u, cs[j]? = some u → w.cell? (a.add (i * size + j)) = some u) ∧ E w B cs x ∧ cs.length = size ∧ ∀ u ∈ cs, u.oneCell' = true) n fun i hi => by
    obtain ⟨a, cs, e⟩ := h i _ (List.getElem?_eq_getElem (by rw [hl]; exact hi))
    refine ⟨cs, fun x hx => ?_⟩
    rw [List.getElem?_eq_getElem (by rw [hl]; exact hi)] at hx
    obtain rfl := Option.some.inj hx
    exact ⟨a, e⟩
  have he : Elems size E w B l css := ⟨by rw [h1, hl], fun i x cs hx hcs => by
    obtain ⟨a, _, _, _, e4, e5, e6⟩ := h2 i cs hcs x hx
    exact ⟨e4, e5, e6⟩⟩
  refine ⟨css, he, by rw [he.flat, hl], fun m u hu => ?_⟩
  have hm := (List.getElem?_eq_some_iff.1 hu).1
  rw [he.flat] at hm
  have hi : m / size < l.length := (Nat.div_lt_iff_lt_mul h0).2 hm
  have hcs := List.getElem?_eq_getElem (l := css) (i := m / size) (by rw [he.len]; exact hi)
  obtain ⟨a, rfl, hab, hc, _, e5, _⟩ := h2 _ _ hcs _ (List.getElem?_eq_getElem hi)
  have hj : m % size < size := Nat.mod_lt _ h0
  obtain ⟨v, hv⟩ : ∃ v, (css[m / size]'(by rw [he.len]; exact hi))[m % size]? = some v := ⟨_, List.getElem?_eq_getElem (by rw [e5]; exact hj)⟩
  have hf := flatten_at size css _ _ he.size_ hcs _ _ hv
  have hmm : m / size * size + m % size = m := by rw [Nat.mul_comm]; exact Nat.div_add_mod m size
  rw [hmm, hu] at hf
  obtain rfl := Option.some.inj hf
  have := hc _ _ hv
  rw [hmm] at this
  exact ⟨a, rfl, hab, this⟩
end
/-- a lookup's cells -/
def EL (w : World) (B : Nat) (cs : List Value) (x : LLook) : Prop := ∃ va vd, cs = bv x.tab ++ [va, vd] ∧ x.tab.length = 32 ∧ BytesIn w B va x.wr ∧ BytesIn w B vd x.rd
theorem EL.keep {w w' : World} {B B' : Nat} {cs : List Value} {x : LLook} (h : EL w B cs x) (hb : Below B w w') (hB : B ≤ B') : EL w' B' cs x := by
  obtain ⟨va, vd, h1, h2, h3, h4⟩ := h
  exact ⟨va, vd, h1, h2, (h3.below hb).more hB, (h4.below hb).more hB⟩
theorem Elems.looks {w : World} {B n : Nat} {A : Option Addr} {l : List LLook} {css : List (List Value)} (h : Elems 34 EL w B l css) (hs : Sees w B A (n * 34) css.flatten) (hn : l.length = n) : LooksIn w B A n l := by
  subst hn
  refine ⟨rfl, fun i x hx => ?_⟩
  obtain ⟨a, y, cs, e1, e2, e3, _, ⟨va, vd, rfl, f2, f3, f4⟩, _, e5, _⟩ := h.get hs (k := i) (List.getElem?_eq_some_iff.1 hx).1 (by omega)
  rw [hx] at e3
  obtain rfl := Option.some.inj e3
  exact ⟨a, va, vd, e1, e2, fun j u hu => by rw [← addr_add]; exact e5 j u hu, f2, f3, f4⟩
end Go.Proofs.YtdgbodljmdcagaaGreatDoor

/-
  Of part StayWalk: what is needed here.
-/
namespace Go.Proofs.YtdgbodljmdcagaaGreatDoor
open Go.RowKit
set_option linter.unusedVariables false
set_option maxRecDepth 100000
/-- a map that is older is written -/
theorem KOut.put {w w' : World} {lo hi mb : Nat} {S : Sl} {l : List (List Int)} (h : KOut w lo hi S l) (hh : hi ≤ w.heap.size) (hm : mb < lo) (hg : w.grownBy w' (some mb)) : KOut w' lo w'.heap.size S l := by
  have hk : ∀ g, S.A = some g → w'.heap[g]? = w.heap[g]? := fun g e => by
    have := h.low g e
    exact hg.block g (by omega) (fun e' => by cases e'; omega)
  refine ⟨h.fit.keep hk, ⟨h.keys.len, h.keys.each, h.keys.sees.len, fun i u hu => ?_⟩, h.cap, fun g e => ⟨(h.low g e).1, Nat.lt_of_lt_of_le (h.low g e).2 (Nat.le_trans hh hg.size)⟩⟩
  obtain ⟨a, e, hab, hc⟩ := h.keys.sees.cell i u hu
  refine ⟨a, e, Nat.lt_of_lt_of_le hab (Nat.le_trans hh hg.size), ?_⟩
  obtain ⟨g, hg', rfl⟩ := Option.map_eq_some_iff.1 e
  rw [← hc]
  exact World.cell?_of_block (w := w) (by rw [addr_block]; exact hk g hg')
/-- what is found stays found -/
theorem findT_put {ts : List LTab} {k y : List Int} {l m : List (List Int)} (h : findT ts y = some m) : findT (putT ts k l) y = some m := by
  unfold putT
  split
  · rw [findT_snoc, h]
  · exact h
theorem errL_put {ts : List LTab} {k : List Int} {l : List (List Int)} {x : LLook} (h : errL ts x = 0) : errL (putT ts k l) x = 0 ∧ wrL (putT ts k l) x = wrL ts x ∧ rdL (putT ts k l) x = rdL ts x := by
  unfold errL at h
  cases hf : findT ts x.tab with
  | none => rw [hf] at h; cases h
  | some m =>
    rw [hf] at h
    have h2 := findT_put (k := k) (l := l) hf
    refine ⟨by unfold errL; rw [h2]; exact h, ?_, ?_⟩
    · unfold wrL fKeys; rw [hf, h2]
    · unfold rdL fKeys; rw [hf, h2]
theorem res_put {ts : List LTab} {k : List Int} {l : List (List Int)} : ∀ (ls : List LLook), resErr ts ls = 0 → resErr (putT ts k l) ls = 0 ∧ ls.flatMap (wrL (putT ts k l)) = ls.flatMap (wrL ts) ∧ ls.flatMap (rdL (putT ts k l)) = ls.flatMap (rdL ts)
  | [], _ => ⟨rfl, rfl, rfl⟩
  | x :: r, h => by
    obtain ⟨h1, h2⟩ : errL ts x = 0 ∧ resErr ts r = 0 := by
      unfold resErr at h
      split at h
      · exact ⟨‹_›, h⟩
      · exact absurd h ‹_›
    obtain ⟨a1, a2, a3⟩ := errL_put (k := k) (l := l) h1
    obtain ⟨b1, b2, b3⟩ := res_put r h2
    refine ⟨?_, ?_, ?_⟩
    · unfold resErr; rw [if_pos a1]; exact b1
    · rw [List.flatMap_cons, List.flatMap_cons, a2, b2]
    · rw [List.flatMap_cons, List.flatMap_cons, a3, b3]
theorem resW_put {ts : List LTab} {k : List Int} {l : List (List Int)} {ls : List LLook} (h : resErr ts ls = 0) : resErr (putT ts k l) ls = 0 ∧ resW (putT ts k l) ls = resW ts ls ∧ resR (putT ts k l) ls = resR ts ls := by
  obtain ⟨a, b, c⟩ := res_put (k := k) (l := l) ls h
  refine ⟨a, ?_, ?_⟩
  · unfold resW; rw [if_pos a, if_pos h, b]
  · unfold resR; rw [if_pos a, if_pos h, c]
end Go.Proofs.YtdgbodljmdcagaaGreatDoor

/-
  Of part Known: what is needed here.
-/
namespace Go.Proofs.YtdgbodljmdcagaaGreatDoor
open Go.RowKit
set_option linter.unusedVariables false
set_option maxRecDepth 100000
/-- the known programs' keys -/
def k0 : List Int := List.replicate 32 0
def k3 : List Int := 3 :: List.replicate 31 0
def kn (x : List Int) : Bool := decide (x = k0) || decide (x = k3)
theorem k0_len : k0.length = 32 := rfl
theorem k3_len : k3.length = 32 := rfl
theorem built_k0 : Tryz.prog.built 78 [] = some (bv k0).toArray := by kernel_rfl
theorem built_k3 : Tryz.prog.built 78 [(0, .int .u8 3)] = some (bv k3).toArray := by kernel_rfl
set_option maxRecDepth 100000 in
set_option maxHeartbeats 400000 in
theorem system_ (w : World) : Calls Tryz.prog 149 #[] w fun e w' => e = .returned (.agg (bv k0).toArray) ∧ Below w.heap.size w w' := by
  go_enter Tryz.func149, Tryz.ntmps149
  go_wp2_with (first
    | ((with_reducible show wpList _ _ _ ({ dst := some 1, op := Op.build _ _, type := _, pos := _, after := _, guard := _ } :: _) _ _); go_must (refine wpList_plain rfl fun K hK => wp_built _ _ _ rfl (by simp only [List.map_toArray, List.map_nil]; exact built_k0) (hK _ _ ?_)))
    | ((with_reducible show wpList _ _ _ ({ dst := none, op := Op.store 78 _ _, type := _, pos := _, after := _, guard := _ } :: _) _ _); go_must (refine wpList_store_new rfl 78 (.tmp 0) (.tmp 1) rfl (bv k0) size_key (bv_one _) rfl ?_ ?_ ?_; go_simp; go_simp; intro w1 hr1 hb1 hz1; have HR1 := Lib.hid hr1; have HB1 := Lib.hid hb1; clear hr1 hb1)))
  refine bodyPost_ret (results_cell_row (h := rfl) _ w1 w.heap.size 78 _ (0, 0) _ (by rfl) HR1.out.is Tryz.underlying78 rfl size_key) rfl ?_
  exact ⟨rfl, HB1.out⟩
set_option maxRecDepth 100000 in
set_option maxHeartbeats 400000 in
theorem budget_ (w : World) : Calls Tryz.prog 119 #[] w fun e w' => e = .returned (.agg (bv k3).toArray) ∧ Below w.heap.size w w' := by
  go_enter Tryz.func119, Tryz.ntmps119
  go_wp2_with (first
    | ((with_reducible show wpList _ _ _ ({ dst := some 1, op := Op.build _ _, type := _, pos := _, after := _, guard := _ } :: _) _ _); go_must (refine wpList_plain rfl fun K hK => wp_built _ _ _ rfl (by simp only [List.map_toArray, List.map_cons, List.map_nil]; exact built_k3) (hK _ _ ?_)))
    | ((with_reducible show wpList _ _ _ ({ dst := none, op := Op.store 78 _ _, type := _, pos := _, after := _, guard := _ } :: _) _ _); go_must (refine wpList_store_new rfl 78 (.tmp 0) (.tmp 1) rfl (bv k3) size_key (bv_one _) rfl ?_ ?_ ?_; go_simp; go_simp; intro w1 hr1 hb1 hz1; have HR1 := Lib.hid hr1; have HB1 := Lib.hid hb1; clear hr1 hb1)))
  refine bodyPost_ret (results_cell_row (h := rfl) _ w1 w.heap.size 78 _ (0, 0) _ (by rfl) HR1.out.is Tryz.underlying78 rfl size_key) rfl ?_
  exact ⟨rfl, HB1.out⟩
set_option maxRecDepth 100000 in
set_option maxHeartbeats 2000000 in
theorem known_ (x : List Int) (w : World) (hx : x.length = 32) : Calls Tryz.prog 134 #[.agg (bv x).toArray] w fun e w' => e = .returned (.bool (kn x)) ∧ Below w.heap.size w w' := by
  have hb0 : Below w.heap.size w (w.alloc (.cells (bv x).toArray 78)) := (Below.refl _ _).alloc (Nat.le_refl _) _
  have RX := Lib.hid (Row.new w 78 (bv x))
  have HB0 := Lib.hid hb0
  have HSZ := Lib.hid (show (Tryz.prog.info? 78).map (·.size) = some (bv x).length by rw [bv_length, hx]; exact size_key)
  have HLT : Hid (w.heap.size < (w.alloc (.cells (bv x).toArray 78)).heap.size) := Lib.hid (by simp)
  have HK : Hid (kn x = (decide (x = k0) || decide (x = k3))) := Lib.hid rfl
  have N0 := fun w => key_eql hx k0_len w
  have N3 := fun w => key_eql hx k3_len w
  clear hb0
  generalize kn x = bb at *
  generalize bv x = X at *
  generalize hWW : w.alloc (.cells X.toArray 78) = W at *
  have HWW := Lib.hid hWW
  clear hWW
  by_cases h0 : x = k0
  · have HQ : Hid (bb = true) := Lib.hid (by rw [HK.out, decide_eq_true h0]; rfl)
    rw [decide_eq_true h0] at N0
    clear h0 HK N3
    go_enter Tryz.func134, Tryz.ntmps134
    go_upto_region 1 with fail
    rw [HWW.out]
    clear HWW
    go_wp2_with fail
    refine wp_region_held_drew (S := (fun V => Below W.heap.size W V)) (by kernel_rfl) (Below.refl W.heap.size W).drew (fun _ => ?_)
    refine takeL (i := 0) (v := .agg X.toArray) rfl (by kernel_rfl) (by kernel_rfl) (by kernel_rfl) (fun _ _ _ h => h) (Or.inl ⟨by rfl, fun wz hwz => exec_load_at wz 78 (.tmp 1) rfl ⟨w.heap.size, 0, none⟩ X _ Tryz.underlying78 rfl HSZ.out (fun j u hu => (hwz.cell (by rw [addr_row]; show w.heap.size < W.heap.size; have := HLT.out; omega)).trans (by rw [addr_row, Nat.zero_add]; exact (RX.out.cell j).trans hu)) (by go_simp)⟩) (Below.refl W.heap.size W).drew ?_
    try simp only [Act.put, List.setIfInBounds_toArray, List.set_cons_zero, List.set_cons_succ]
    refine readyL (i := 1) rfl (by kernel_rfl) (by kernel_rfl) fun K hK => ?_
    go_simp
    refine (system_ _).mono ?_
    rintro e w1 ⟨rfl, hb1⟩
    have B1 := Lib.hid (show Below W.heap.size W w1 from ((Below.refl W.heap.size W).drew).trans hb1)
    clear hb1
    refine hK.out _ _ B1.out ?_
    clear hK K
    try simp only [Act.put, List.setIfInBounds_toArray, List.set_cons_zero, List.set_cons_succ]
    refine takeL (i := 2) (v := ?_) rfl (by kernel_rfl) (by kernel_rfl) (by kernel_rfl) (fun _ _ _ h => h) (Or.inl ⟨by rfl, ?_⟩) B1.out ?_
    rotate_left
    · intro w hw
      try dsimp only at hw
      go_simp
      try with_reducible rfl
    try simp only [Act.put, List.setIfInBounds_toArray, List.set_cons_zero, List.set_cons_succ]
    refine takeL (i := 3) (v := ?_) rfl (by kernel_rfl) (by kernel_rfl) (by kernel_rfl) (fun _ _ _ h => h) (Or.inl ⟨by rfl, ?_⟩) B1.out ?_
    rotate_left
    · intro w hw
      try dsimp only at hw
      go_simp
      try with_reducible rfl
    try simp only [Act.put, List.setIfInBounds_toArray, List.set_cons_zero, List.set_cons_succ]
    refine takeL (i := 4) (v := undef) rfl (by kernel_rfl) (by kernel_rfl) (by kernel_rfl) (fun _ _ _ h => h) (Or.inr ⟨by rfl, rfl⟩) B1.out ?_
    try simp only [Act.put, List.setIfInBounds_toArray, List.set_cons_zero, List.set_cons_succ]
    refine takeL (i := 5) (v := undef) rfl (by kernel_rfl) (by kernel_rfl) (by kernel_rfl) (fun _ _ _ h => h) (Or.inr ⟨by rfl, rfl⟩) B1.out ?_
    try simp only [Act.put, List.setIfInBounds_toArray, List.set_cons_zero, List.set_cons_succ]
    refine takeL (i := 6) (v := undef) rfl (by kernel_rfl) (by kernel_rfl) (by kernel_rfl) (fun _ _ _ h => h) (Or.inr ⟨by rfl, rfl⟩) B1.out ?_
    try simp only [Act.put, List.setIfInBounds_toArray, List.set_cons_zero, List.set_cons_succ]
    refine takeL (i := 7) (v := ?_) rfl (by kernel_rfl) (by kernel_rfl) (by kernel_rfl) (fun _ _ _ h => h) (Or.inl ⟨by rfl, ?_⟩) B1.out ?_
    rotate_left
    · intro w hw
      try dsimp only at hw
      go_simp
      try with_reducible rfl
    try simp only [Act.put, List.setIfInBounds_toArray, List.set_cons_zero, List.set_cons_succ]
    refine takeL (i := 8) (v := ?_) rfl (by kernel_rfl) (by kernel_rfl) (by kernel_rfl) (fun _ _ _ h => h) (Or.inl ⟨by rfl, ?_⟩) B1.out ?_
    rotate_left
    · intro w hw
      try dsimp only at hw
      go_simp
      try with_reducible rfl
    try simp only [Act.put, List.setIfInBounds_toArray, List.set_cons_zero, List.set_cons_succ]
    refine wpAnyH_done (by kernel_rfl) ?_ _
    go_wp2_with fail
    go_ret
    exact ⟨told_bool HQ.out.symm, HB0.out.trans (B1.out.mono HB0.out.size)⟩
  by_cases h3 : x = k3
  · have HQ : Hid (bb = true) := Lib.hid (by rw [HK.out, decide_eq_true h3, Bool.or_true])
    rw [decide_eq_false h0] at N0
    rw [decide_eq_true h3] at N3
    clear h0 h3 HK
    go_enter Tryz.func134, Tryz.ntmps134
    go_upto_region 1 with fail
    rw [HWW.out]
    clear HWW
    go_wp2_with fail
    refine wp_region_held_drew (S := (fun V => Below W.heap.size W V)) (by kernel_rfl) (Below.refl W.heap.size W).drew (fun _ => ?_)
    refine takeL (i := 0) (v := .agg X.toArray) rfl (by kernel_rfl) (by kernel_rfl) (by kernel_rfl) (fun _ _ _ h => h) (Or.inl ⟨by rfl, fun wz hwz => exec_load_at wz 78 (.tmp 1) rfl ⟨w.heap.size, 0, none⟩ X _ Tryz.underlying78 rfl HSZ.out (fun j u hu => (hwz.cell (by rw [addr_row]; show w.heap.size < W.heap.size; have := HLT.out; omega)).trans (by rw [addr_row, Nat.zero_add]; exact (RX.out.cell j).trans hu)) (by go_simp)⟩) (Below.refl W.heap.size W).drew ?_
    try simp only [Act.put, List.setIfInBounds_toArray, List.set_cons_zero, List.set_cons_succ]
    refine readyL (i := 1) rfl (by kernel_rfl) (by kernel_rfl) fun K hK => ?_
    go_simp
    refine (system_ _).mono ?_
    rintro e w1 ⟨rfl, hb1⟩
    have B1 := Lib.hid (show Below W.heap.size W w1 from ((Below.refl W.heap.size W).drew).trans hb1)
    clear hb1
    refine hK.out _ _ B1.out ?_
    clear hK K
    try simp only [Act.put, List.setIfInBounds_toArray, List.set_cons_zero, List.set_cons_succ]
    refine takeL (i := 2) (v := ?_) rfl (by kernel_rfl) (by kernel_rfl) (by kernel_rfl) (fun _ _ _ h => h) (Or.inl ⟨by rfl, ?_⟩) B1.out ?_
    rotate_left
    · intro w hw
      try dsimp only at hw
      go_simp
      try with_reducible rfl
    try simp only [Act.put, List.setIfInBounds_toArray, List.set_cons_zero, List.set_cons_succ]
    refine takeL (i := 3) (v := ?_) rfl (by kernel_rfl) (by kernel_rfl) (by kernel_rfl) (fun _ _ _ h => h) (Or.inl ⟨by rfl, ?_⟩) B1.out ?_
    rotate_left
    · intro w hw
      try dsimp only at hw
      go_simp
      try with_reducible rfl
    try simp only [Act.put, List.setIfInBounds_toArray, List.set_cons_zero, List.set_cons_succ]
    refine takeL (i := 4) (v := .agg X.toArray) rfl (by kernel_rfl) (by kernel_rfl) (by kernel_rfl) (fun _ _ _ h => h) (Or.inl ⟨by rfl, fun wz hwz => exec_load_at wz 78 (.tmp 1) rfl ⟨w.heap.size, 0, none⟩ X _ Tryz.underlying78 rfl HSZ.out (fun j u hu => (hwz.cell (by rw [addr_row]; show w.heap.size < W.heap.size; have := HLT.out; omega)).trans (by rw [addr_row, Nat.zero_add]; exact (RX.out.cell j).trans hu)) (by go_simp)⟩) B1.out ?_
    try simp only [Act.put, List.setIfInBounds_toArray, List.set_cons_zero, List.set_cons_succ]
    refine readyL (i := 5) rfl (by kernel_rfl) (by kernel_rfl) fun K hK => ?_
    go_simp
    refine (budget_ _).mono ?_
    rintro e w2 ⟨rfl, hb2⟩
    have B2 := Lib.hid (B1.out.trans (hb2.mono B1.out.size))
    clear hb2
    refine hK.out _ _ B2.out ?_
    clear hK K
    try simp only [Act.put, List.setIfInBounds_toArray, List.set_cons_zero, List.set_cons_succ]
    refine takeL (i := 6) (v := ?_) rfl (by kernel_rfl) (by kernel_rfl) (by kernel_rfl) (fun _ _ _ h => h) (Or.inl ⟨by rfl, ?_⟩) B2.out ?_
    rotate_left
    · intro w hw
      try dsimp only at hw
      go_simp
      try with_reducible rfl
    try simp only [Act.put, List.setIfInBounds_toArray, List.set_cons_zero, List.set_cons_succ]
    refine takeL (i := 7) (v := ?_) rfl (by kernel_rfl) (by kernel_rfl) (by kernel_rfl) (fun _ _ _ h => h) (Or.inl ⟨by rfl, ?_⟩) B2.out ?_
    rotate_left
    · intro w hw
      try dsimp only at hw
      go_simp
      try with_reducible rfl
    try simp only [Act.put, List.setIfInBounds_toArray, List.set_cons_zero, List.set_cons_succ]
    refine takeL (i := 8) (v := ?_) rfl (by kernel_rfl) (by kernel_rfl) (by kernel_rfl) (fun _ _ _ h => h) (Or.inl ⟨by rfl, ?_⟩) B2.out ?_
    rotate_left
    · intro w hw
      try dsimp only at hw
      go_simp
      try with_reducible rfl
    try simp only [Act.put, List.setIfInBounds_toArray, List.set_cons_zero, List.set_cons_succ]
    refine wpAnyH_done (by kernel_rfl) ?_ _
    go_wp2_with fail
    go_ret
    exact ⟨told_bool HQ.out.symm, HB0.out.trans (B2.out.mono HB0.out.size)⟩
  · have HQ : Hid (bb = false) := Lib.hid (by rw [HK.out, decide_eq_false h0, decide_eq_false h3]; rfl)
    rw [decide_eq_false h0] at N0
    rw [decide_eq_false h3] at N3
    clear h0 h3 HK
    go_enter Tryz.func134, Tryz.ntmps134
    go_upto_region 1 with fail
    rw [HWW.out]
    clear HWW
    go_wp2_with fail
    refine wp_region_held_drew (S := (fun V => Below W.heap.size W V)) (by kernel_rfl) (Below.refl W.heap.size W).drew (fun _ => ?_)
    refine takeL (i := 0) (v := .agg X.toArray) rfl (by kernel_rfl) (by kernel_rfl) (by kernel_rfl) (fun _ _ _ h => h) (Or.inl ⟨by rfl, fun wz hwz => exec_load_at wz 78 (.tmp 1) rfl ⟨w.heap.size, 0, none⟩ X _ Tryz.underlying78 rfl HSZ.out (fun j u hu => (hwz.cell (by rw [addr_row]; show w.heap.size < W.heap.size; have := HLT.out; omega)).trans (by rw [addr_row, Nat.zero_add]; exact (RX.out.cell j).trans hu)) (by go_simp)⟩) (Below.refl W.heap.size W).drew ?_
    try simp only [Act.put, List.setIfInBounds_toArray, List.set_cons_zero, List.set_cons_succ]
    refine readyL (i := 1) rfl (by kernel_rfl) (by kernel_rfl) fun K hK => ?_
    go_simp
    refine (system_ _).mono ?_
    rintro e w1 ⟨rfl, hb1⟩
    have B1 := Lib.hid (show Below W.heap.size W w1 from ((Below.refl W.heap.size W).drew).trans hb1)
    clear hb1
    refine hK.out _ _ B1.out ?_
    clear hK K
    try simp only [Act.put, List.setIfInBounds_toArray, List.set_cons_zero, List.set_cons_succ]
    refine takeL (i := 2) (v := ?_) rfl (by kernel_rfl) (by kernel_rfl) (by kernel_rfl) (fun _ _ _ h => h) (Or.inl ⟨by rfl, ?_⟩) B1.out ?_
    rotate_left
    · intro w hw
      try dsimp only at hw
      go_simp
      try with_reducible rfl
    try simp only [Act.put, List.setIfInBounds_toArray, List.set_cons_zero, List.set_cons_succ]
    refine takeL (i := 3) (v := ?_) rfl (by kernel_rfl) (by kernel_rfl) (by kernel_rfl) (fun _ _ _ h => h) (Or.inl ⟨by rfl, ?_⟩) B1.out ?_
    rotate_left
    · intro w hw
      try dsimp only at hw
      go_simp
      try with_reducible rfl
    try simp only [Act.put, List.setIfInBounds_toArray, List.set_cons_zero, List.set_cons_succ]
    refine takeL (i := 4) (v := .agg X.toArray) rfl (by kernel_rfl) (by kernel_rfl) (by kernel_rfl) (fun _ _ _ h => h) (Or.inl ⟨by rfl, fun wz hwz => exec_load_at wz 78 (.tmp 1) rfl ⟨w.heap.size, 0, none⟩ X _ Tryz.underlying78 rfl HSZ.out (fun j u hu => (hwz.cell (by rw [addr_row]; show w.heap.size < W.heap.size; have := HLT.out; omega)).trans (by rw [addr_row, Nat.zero_add]; exact (RX.out.cell j).trans hu)) (by go_simp)⟩) B1.out ?_
    try simp only [Act.put, List.setIfInBounds_toArray, List.set_cons_zero, List.set_cons_succ]
    refine readyL (i := 5) rfl (by kernel_rfl) (by kernel_rfl) fun K hK => ?_
    go_simp
    refine (budget_ _).mono ?_
    rintro e w2 ⟨rfl, hb2⟩
    have B2 := Lib.hid (B1.out.trans (hb2.mono B1.out.size))
    clear hb2
    refine hK.out _ _ B2.out ?_
    clear hK K
    try simp only [Act.put, List.setIfInBounds_toArray, List.set_cons_zero, List.set_cons_succ]
    refine takeL (i := 6) (v := ?_) rfl (by kernel_rfl) (by kernel_rfl) (by kernel_rfl) (fun _ _ _ h => h) (Or.inl ⟨by rfl, ?_⟩) B2.out ?_
    rotate_left
    · intro w hw
      try dsimp only at hw
      go_simp
      try with_reducible rfl
    try simp only [Act.put, List.setIfInBounds_toArray, List.set_cons_zero, List.set_cons_succ]
    refine takeL (i := 7) (v := ?_) rfl (by kernel_rfl) (by kernel_rfl) (by kernel_rfl) (fun _ _ _ h => h) (Or.inl ⟨by rfl, ?_⟩) B2.out ?_
    rotate_left
    · intro w hw
      try dsimp only at hw
      go_simp
      try with_reducible rfl
    try simp only [Act.put, List.setIfInBounds_toArray, List.set_cons_zero, List.set_cons_succ]
    refine takeL (i := 8) (v := ?_) rfl (by kernel_rfl) (by kernel_rfl) (by kernel_rfl) (fun _ _ _ h => h) (Or.inl ⟨by rfl, ?_⟩) B2.out ?_
    rotate_left
    · intro w hw
      try dsimp only at hw
      go_simp
      try with_reducible rfl
    try simp only [Act.put, List.setIfInBounds_toArray, List.set_cons_zero, List.set_cons_succ]
    refine wpAnyH_done (by kernel_rfl) ?_ _
    go_wp2_with fail
    go_ret
    exact ⟨told_bool HQ.out.symm, HB0.out.trans (B2.out.mono HB0.out.size)⟩
end Go.Proofs.YtdgbodljmdcagaaGreatDoor

/-
  Of part Own7: what is needed here.
-/
namespace Go.Proofs.YtdgbodljmdcagaaGreatDoor
open Go.RowKit
set_option linter.unusedVariables false
set_option maxRecDepth 100000
/-- 'wpList_store_new' as one step -/
theorem wp_store_new {P : Program} {op : Oper} {a : Act} {w0 : World} {c : Array Value} {K : Act → World → Prop} {Q : Exit → Act → World → Prop} (ty : TypeId) (x y : Operand) (ho : op.op = .store ty x y)
    (cs : List Value) (hi : (P.info? ty).map (·.size) = some cs.length) (h1 : ∀ u ∈ cs, u.oneCell' = true) (hl : c.size = cs.length)
    (hx : a.eval x = .pointer (some ⟨w0.heap.size, 0, none⟩)) (hy : a.eval y = .agg cs.toArray)
    (h : ∀ w', Row w' w0.heap.size ty cs → Below w0.heap.size w0 w' → w'.heap.size = w0.heap.size + 1 → K (a.put op.dst undef) w') : op.wp P a ((w0.alloc (.cells c ty)).drew) K Q := by
  have hr : Row (w0.alloc (.cells c ty)).drew w0.heap.size ty c.toList := by
    have := Row.new w0 ty c.toList
    exact Row.drew (by simpa using this)
  refine wp_store_whole ty x y ho w0.heap.size c.toList cs hr hi (by simpa using hl) h1 hx hy fun w' hr' ht => ?_
  exact h w' hr' ((((Below.refl _ w0).alloc (Nat.le_refl _) _).drew).trans (ht.below (Nat.le_refl _))) (by rw [ht.size]; simp)
/-- the role of a message's key of the place i -/
def below7 (m : LMsg) (i : Nat) : Int := if (i : Int) < m.s then m.s - m.r else (m.keys.length : Int) - m.o
def ownRole (m : LMsg) (k : List Int) (i : Nat) : LRole := ⟨k, decide ((i : Int) < m.s), decide ((i : Int) < below7 m i) && !kn k⟩
set_option maxRecDepth 100000 in
set_option maxHeartbeats 4000000 in
theorem own7 (q : Raw) (m : LMsg) (k : List Int) (i B : Nat) (w : World) (hk : KeysIn w B q.KA q.kn m.keys) (hre : m.recent.length = 32) (hB : B ≤ w.heap.size) (hi : m.keys[i]? = some k) (hs : IsByte m.s) (hr : IsByte m.r) (ho : IsByte m.o) (hn : q.kn ≤ 1000000) :
    Calls Tryz.prog 133 #[.agg (q.cells m).toArray, .int .i64 i] w fun e w' => e = .returned (.agg (ownRole m k i).cells.toArray) ∧ Below w.heap.size w w' := by
  have hlen := hk.len
  have hin : i < q.kn := by rw [← hlen]; exact (List.getElem?_eq_some_iff.1 hi).1
  obtain ⟨a, k', hKA, hab, hx', hat⟩ := hk.get hin
  obtain rfl : k' = k := by rw [hi] at hx'; exact (Option.some.inj hx').symm
  have hkl := hat.len
  have rm := Row.new w 40 (q.cells m)
  have hb0 : Below w.heap.size w ((w.alloc (.cells (q.cells m).toArray 40)).alloc (.cells r0.cells.toArray 101)) := ((Below.refl w.heap.size w).alloc (Nat.le_refl _) _).alloc (by simp) _
  have rm2 := rm.alloc (.cells r0.cells.toArray 101)
  have rz : Row ((w.alloc (.cells (q.cells m).toArray 40)).alloc (.cells r0.cells.toArray 101)) (w.heap.size + 1) 101 r0.cells := Row.new' _ _ _ (by simp)
  have hcs : ∀ j u, (bv k')[j]? = some u → ((w.alloc (.cells (q.cells m).toArray 40)).alloc (.cells r0.cells.toArray 101)).cell? ((a.add (i * 32)).add j) = some u := fun j u hu => (hb0.cell (by rw [addr_block, addr_block]; omega)).trans (hat.cells j u hu)
  have HX0 : ∀ c, c = r0.cells.toArray → (w.alloc (.cells (q.cells m).toArray 40)).alloc (.cells c 101) = (w.alloc (.cells (q.cells m).toArray 40)).alloc (.cells r0.cells.toArray 101) := by rintro _ rfl; rfl
  have hlt : w.heap.size < ((w.alloc (.cells (q.cells m).toArray 40)).alloc (.cells r0.cells.toArray 101)).heap.size ∧ w.heap.size + 1 < ((w.alloc (.cells (q.cells m).toArray 40)).alloc (.cells r0.cells.toArray 101)).heap.size := ⟨rm2.lt, rz.lt⟩
  have hc1 := rm2.cell 1
  have hc2 := rm2.cell 2
  have hc3 := rm2.cell 3
  have hc4 := rm2.cell 4
  rw [cells_1] at hc1
  rw [cells_2] at hc2
  rw [cells_3] at hc3
  rw [cells_4, hKA] at hc4
  have HAB : Hid (a.block < ((w.alloc (.cells (q.cells m).toArray 40)).alloc (.cells r0.cells.toArray 101)).heap.size) := Lib.hid (by have := hlt.1; omega)
  have HKN := Lib.hid (fun w => known_ k' w hkl)
  have HQ0 : Hid ((ownRole m k' i).cells = bv k' ++ [.bool (decide ((i : Int) < m.s)), .bool (decide ((i : Int) < below7 m i) && !kn k')]) := Lib.hid rfl
  have HBL : Hid (below7 m i = if (i : Int) < m.s then m.s - m.r else (q.kn : Int) - m.o) := Lib.hid (by unfold below7; rw [hlen])
  have HXL : Hid ((bv k').length = 32) := Lib.hid (by rw [bv_length, hkl])
  have HSZ := Lib.hid (show (Tryz.prog.info? 78).map (·.size) = some (bv k').length by rw [HXL.out]; exact size_key)
  have H1 := Lib.hid (bv_one k')
  have HSR : Hid (∀ x y, (Tryz.prog.info? 101).map (·.size) = some (bv k' ++ [Value.bool x, .bool y]).length) := Lib.hid fun x y => size_role (r := ⟨k', x, y⟩) hkl
  have HSL : Hid (∀ x y, r0.cells.length = (bv k' ++ [Value.bool x, .bool y]).length) := Lib.hid fun x y => (role_len (r := ⟨k', x, y⟩) hkl).symm
  have HSO : Hid (∀ x y, ∀ u ∈ bv k' ++ [Value.bool x, .bool y], u.oneCell' = true) := Lib.hid fun x y => role_one ⟨k', x, y⟩
  have CK := Lib.hid hcs
  have HB0 := Lib.hid hb0
  have HLT := Lib.hid hlt
  have RZ := Lib.hid rz
  have C1 := Lib.hid hc1
  have C2 := Lib.hid hc2
  have C3 := Lib.hid hc3
  have C4 := Lib.hid hc4
  obtain ⟨s0, s1⟩ : 0 ≤ m.s ∧ m.s < 256 := hs
  obtain ⟨t0, t1⟩ : 0 ≤ m.r ∧ m.r < 256 := hr
  obtain ⟨o0, o1⟩ : 0 ≤ m.o ∧ m.o < 256 := ho
  have ws : IntKind.i64.wrap m.s = m.s := IntWalk.i64_in _ (by omega)
  have wr : IntKind.i64.wrap m.r = m.r := IntWalk.i64_in _ (by omega)
  have wo : IntKind.i64.wrap m.o = m.o := IntWalk.i64_in _ (by omega)
  have n0 : (0 : Int) ≤ (i : Int) := Int.natCast_nonneg _
  have n1 : (i : Int) < (q.kn : Int) := by omega
  clear hk hre hi hx' hat hkl rm hb0 rm2 rz hcs hlt hc1 hc2 hc3 hc4 hKA hlen hab
  generalize (q.cells m).toArray = MC at *
  generalize (ownRole m k' i).cells = RC at *
  generalize below7 m i = BL at *
  generalize kn k' = bb at *
  generalize bv k' = X at *
  obtain ⟨KA, n, kc, IA, ni, ic, LA, ln, lc⟩ := q
  dsimp only at *
  generalize m.s = s at *
  generalize m.r = r at *
  generalize m.o = o at *
  obtain ⟨W, hW⟩ : ∃ W, W = (w.alloc (.cells MC 40)).alloc (.cells r0.cells.toArray 101) := ⟨_, rfl⟩
  have HX : Hid (∀ c, c = r0.cells.toArray → (w.alloc (.cells MC 40)).alloc (.cells c 101) = W) := Lib.hid (by rw [hW]; exact HX0)
  rw [← hW] at HAB CK HB0 HLT RZ C1 C2 C3 C4
  clear HX0 hW
  by_cases hsg : (i : Int) < s
  · by_cases hwr : (i : Int) < s - r
    · have HQ : Hid (RC = X ++ [.bool true, .bool (!bb)]) := Lib.hid (by rw [HQ0.out, HBL.out]; simp [hsg, hwr])
      clear HQ0 HBL
      go_enter Tryz.func133, Tryz.ntmps133
      go_upto_region 1 with fail
      rw [HX.out]
      rotate_left
      · kernel_rfl
      clear HX
      refine wp_region_held_drew (S := (fun V => Below W.heap.size W V)) (by kernel_rfl) (Below.refl W.heap.size W).drew (fun _ => ?_)
      have SB := Lib.hid (Below.refl W.heap.size W).drew
      refine takeL (i := 0) (v := ?_) rfl (by kernel_rfl) (by kernel_rfl) (by kernel_rfl) (fun _ _ _ h => h) (Or.inl ⟨by rfl, ?_⟩) SB.out ?_
      rotate_left
      · intro w hw
        try dsimp only at hw
        go_simp
        try with_reducible rfl
      try simp only [Act.put, List.setIfInBounds_toArray, List.set_cons_zero, List.set_cons_succ]
      refine takeL (i := 1) (v := ?_) rfl (by kernel_rfl) (by kernel_rfl) (by kernel_rfl) (fun _ _ _ h => h) (Or.inl ⟨by rfl, ?_⟩) SB.out ?_
      rotate_left
      · intro wz hwz
        try dsimp only at hwz
        have q := (hwz.cell (p := ⟨w.heap.size, 4, none⟩) HLT.out.1).trans C4.out
        go_simp
        try with_reducible rfl
      try simp only [Act.put, List.setIfInBounds_toArray, List.set_cons_zero, List.set_cons_succ]
      refine takeL (i := 2) (v := ?_) rfl (by kernel_rfl) (by kernel_rfl) (by kernel_rfl) (fun _ _ _ h => h) (Or.inl ⟨by rfl, ?_⟩) SB.out ?_
      rotate_left
      · intro w hw
        try dsimp only at hw
        go_simp
        try with_reducible rfl
      try simp only [Act.put, List.setIfInBounds_toArray, List.set_cons_zero, List.set_cons_succ]
      refine takeL (i := 3) (v := ?_) rfl (by kernel_rfl) (by kernel_rfl) (by kernel_rfl) (fun _ _ _ h => h) (Or.inl ⟨by rfl, ?_⟩) SB.out ?_
      rotate_left
      · intro w hw
        try dsimp only at hw
        go_simp
        try with_reducible rfl
      try simp only [Act.put, List.setIfInBounds_toArray, List.set_cons_zero, List.set_cons_succ]
      refine takeL (i := 4) (v := .agg X.toArray) rfl (by kernel_rfl) (by kernel_rfl) (by kernel_rfl) (fun _ _ _ h => h) (Or.inl ⟨by rfl, fun wz hwz => exec_load_at wz 78 (.tmp 12) rfl (a.add (i * 32)) X _ Tryz.underlying78 rfl HSZ.out (fun j u hu => (hwz.cell (by rw [addr_block, addr_block]; exact HAB.out)).trans (CK.out j u hu)) (by go_simp)⟩) SB.out ?_
      try simp only [Act.put, List.setIfInBounds_toArray, List.set_cons_zero, List.set_cons_succ]
      refine takeL (i := 5) (v := ?_) rfl (by kernel_rfl) (by kernel_rfl) (by kernel_rfl) (fun _ _ _ h => h) (Or.inl ⟨by rfl, ?_⟩) SB.out ?_
      rotate_left
      · intro w hw
        try dsimp only at hw
        go_simp
        try with_reducible rfl
      try simp only [Act.put, List.setIfInBounds_toArray, List.set_cons_zero, List.set_cons_succ]
      refine takeL (i := 6) (v := ?_) rfl (by kernel_rfl) (by kernel_rfl) (by kernel_rfl) (fun _ _ _ h => h) (Or.inl ⟨by rfl, ?_⟩) SB.out ?_
      rotate_left
      · intro w hw
        try dsimp only at hw
        go_simp
        try with_reducible rfl
      try simp only [Act.put, List.setIfInBounds_toArray, List.set_cons_zero, List.set_cons_succ]
      refine takeL (i := 7) (v := ?_) rfl (by kernel_rfl) (by kernel_rfl) (by kernel_rfl) (fun _ _ _ h => h) (Or.inl ⟨by rfl, ?_⟩) SB.out ?_
      rotate_left
      · intro wz hwz
        try dsimp only at hwz
        have q := (hwz.cell (p := ⟨w.heap.size, 1, none⟩) HLT.out.1).trans C1.out
        go_simp
        try with_reducible rfl
      try simp only [Act.put, List.setIfInBounds_toArray, List.set_cons_zero, List.set_cons_succ]
      refine takeL (i := 8) (v := ?_) rfl (by kernel_rfl) (by kernel_rfl) (by kernel_rfl) (fun _ _ _ h => h) (Or.inl ⟨by rfl, ?_⟩) SB.out ?_
      rotate_left
      · intro w hw
        try dsimp only at hw
        go_simp
        try with_reducible rfl
      try simp only [Act.put, List.setIfInBounds_toArray, List.set_cons_zero, List.set_cons_succ]
      refine readyL (i := 9) rfl (by kernel_rfl) (by kernel_rfl) fun K hK => ?_
      go_simp
      refine hK.out _ _ (SB.out.alloc (Nat.le_refl _) _) ?_
      clear hK K
      try simp only [Act.put, List.setIfInBounds_toArray, List.set_cons_zero, List.set_cons_succ]
      refine readyL (i := 10) rfl (by kernel_rfl) (by kernel_rfl) fun K hK => ?_
      refine wp_store_new 78 (.tmp 5) (.tmp 13) rfl X HSZ.out H1.out ?_ ?_ ?_ ?_
      · rw [HXL.out]; rfl
      · go_simp
      · go_simp
      intro w1 hr1 hb1 hz1
      have R1 := Lib.hid hr1
      have B1 := Lib.hid hb1
      have Z1 := Lib.hid hz1
      clear hr1 hb1 hz1
      refine hK.out _ _ B1.out ?_
      clear hK K
      try simp only [Act.put]
      refine takeL (i := 11) (v := ?_) rfl (by kernel_rfl) (by kernel_rfl) (by kernel_rfl) (fun _ _ _ h => h) (Or.inl ⟨by rfl, ?_⟩) B1.out ?_
      rotate_left
      · intro w hw
        try dsimp only at hw
        go_simp
        try with_reducible rfl
      try simp only [Act.put, List.setIfInBounds_toArray, List.set_cons_zero, List.set_cons_succ]
      refine wpAnyH_done (by kernel_rfl) ?_ _
      have D1 := Lib.hid ((B1.out.cell (p := ⟨w.heap.size, 1, none⟩) HLT.out.1).trans C1.out)
      have D2 := Lib.hid ((B1.out.cell (p := ⟨w.heap.size, 2, none⟩) HLT.out.1).trans C2.out)
      have D3 := Lib.hid ((B1.out.cell (p := ⟨w.heap.size, 3, none⟩) HLT.out.1).trans C3.out)
      have D4 := Lib.hid ((B1.out.cell (p := ⟨w.heap.size, 4, none⟩) HLT.out.1).trans C4.out)
      have d1 := D1.out
      have d2 := D2.out
      have d3 := D3.out
      have d4 := D4.out
      go_wp2_with fail
      go_quiet (fail)
      have RZ2 := Lib.hid ((RZ.out.below B1.out HLT.out.2).drewN nq)
      have R2 := Lib.hid (R1.out.drewN nq)
      have B2 := Lib.hid (below_drewN (B1.out) nq)
      go_wp2_with fail
      clear d1 d2 d3 d4 D1 D2 D3 D4
      have RZ3 := Lib.hid RZ2.out.drew
      have R3 := Lib.hid R2.out.drew
      have B3 := Lib.hid B2.out.drew
      refine wp_region_held_drew (S := (fun V => Row V W.heap.size 78 X)) (by kernel_rfl) R3.out (fun _ => ?_)
      generalize (w1.drewN nq).drew = w2 at *
      refine takeL (i := 0) (v := .agg X.toArray) rfl (by kernel_rfl) (by kernel_rfl) (by kernel_rfl) (fun _ _ _ h => h) (Or.inl ⟨by rfl, fun wz hwz => exec_load_at wz 78 (.tmp 5) rfl ⟨W.heap.size, 0, none⟩ X _ Tryz.underlying78 rfl HSZ.out (fun j u hu => by rw [addr_row, Nat.zero_add]; exact (hwz.cell j).trans hu) (by go_simp)⟩) R3.out ?_
      try simp only [Act.put, List.setIfInBounds_toArray, List.set_cons_zero, List.set_cons_succ]
      refine takeL (i := 1) (v := ?_) rfl (by kernel_rfl) (by kernel_rfl) (by kernel_rfl) (fun _ _ _ h => h) (Or.inl ⟨by rfl, ?_⟩) R3.out ?_
      rotate_left
      · intro w hw
        try dsimp only at hw
        go_simp
        try with_reducible rfl
      try simp only [Act.put, List.setIfInBounds_toArray, List.set_cons_zero, List.set_cons_succ]
      refine takeL (i := 2) (v := ?_) rfl (by kernel_rfl) (by kernel_rfl) (by kernel_rfl) (fun _ _ _ h => h) (Or.inl ⟨by rfl, ?_⟩) R3.out ?_
      rotate_left
      · intro w hw
        try dsimp only at hw
        go_simp
        try with_reducible rfl
      try simp only [Act.put, List.setIfInBounds_toArray, List.set_cons_zero, List.set_cons_succ]
      refine takeL (i := 3) (v := ?_) rfl (by kernel_rfl) (by kernel_rfl) (by kernel_rfl) (fun _ _ _ h => h) (Or.inl ⟨by rfl, ?_⟩) R3.out ?_
      rotate_left
      · intro w hw
        try dsimp only at hw
        go_simp
        try with_reducible rfl
      try simp only [Act.put, List.setIfInBounds_toArray, List.set_cons_zero, List.set_cons_succ]
      refine takeL (i := 4) (v := ?_) rfl (by kernel_rfl) (by kernel_rfl) (by kernel_rfl) (fun _ _ _ h => h) (Or.inl ⟨by rfl, ?_⟩) R3.out ?_
      rotate_left
      · intro w hw
        try dsimp only at hw
        go_simp
        try with_reducible rfl
      try simp only [Act.put, List.setIfInBounds_toArray, List.set_cons_zero, List.set_cons_succ]
      refine takeL (i := 5) (v := ?_) rfl (by kernel_rfl) (by kernel_rfl) (by kernel_rfl) (fun _ _ _ h => h) (Or.inl ⟨by rfl, ?_⟩) R3.out ?_
      rotate_left
      · intro w hw
        try dsimp only at hw
        go_simp
        try with_reducible rfl
      try simp only [Act.put, List.setIfInBounds_toArray, List.set_cons_zero, List.set_cons_succ]
      refine takeL (i := 6) (v := .agg X.toArray) rfl (by kernel_rfl) (by kernel_rfl) (by kernel_rfl) (fun _ _ _ h => h) (Or.inl ⟨by rfl, fun wz hwz => exec_load_at wz 78 (.tmp 5) rfl ⟨W.heap.size, 0, none⟩ X _ Tryz.underlying78 rfl HSZ.out (fun j u hu => by rw [addr_row, Nat.zero_add]; exact (hwz.cell j).trans hu) (by go_simp)⟩) R3.out ?_
      try simp only [Act.put, List.setIfInBounds_toArray, List.set_cons_zero, List.set_cons_succ]
      refine readyL (i := 7) rfl (by kernel_rfl) (by kernel_rfl) fun K hK => ?_
      go_simp
      refine (HKN.out _).mono ?_
      rintro e w3 ⟨rfl, hb3⟩
      have R4 := Lib.hid (R3.out.below hb3 R3.out.lt)
      have RZ4 := Lib.hid (RZ3.out.below hb3 RZ3.out.lt)
      have B4 := Lib.hid (B3.out.trans (hb3.mono B3.out.size))
      clear hb3
      refine hK.out _ _ R4.out ?_
      clear hK K
      try simp only [Act.put, List.setIfInBounds_toArray, List.set_cons_zero, List.set_cons_succ]
      refine takeL (i := 8) (v := ?_) rfl (by kernel_rfl) (by kernel_rfl) (by kernel_rfl) (fun _ _ _ h => h) (Or.inl ⟨by rfl, ?_⟩) R4.out ?_
      rotate_left
      · intro w hw
        try dsimp only at hw
        go_simp
        try with_reducible rfl
      try simp only [Act.put, List.setIfInBounds_toArray, List.set_cons_zero, List.set_cons_succ]
      refine takeL (i := 9) (v := ?_) rfl (by kernel_rfl) (by kernel_rfl) (by kernel_rfl) (fun _ _ _ h => h) (Or.inl ⟨by rfl, ?_⟩) R4.out ?_
      rotate_left
      · intro w hw
        try dsimp only at hw
        go_simp
        try with_reducible rfl
      try simp only [Act.put, List.setIfInBounds_toArray, List.set_cons_zero, List.set_cons_succ]
      refine takeL (i := 10) (v := .agg (X ++ [Value.bool true, .bool (!bb)]).toArray) rfl (by kernel_rfl) (by kernel_rfl) (by kernel_rfl) (fun _ _ _ h => h) (Or.inl ⟨by rfl, fun wz hwz => exec_built wz _ _ _ rfl (by simp only [List.map_toArray, List.map_cons, List.map_nil]; exact built_role HXL.out _ _)⟩) R4.out ?_
      try simp only [Act.put, List.setIfInBounds_toArray, List.set_cons_zero, List.set_cons_succ]
      refine readyL (i := 11) rfl (by kernel_rfl) (by kernel_rfl) fun K hK => ?_
      refine wp_store_whole 101 (.tmp 4) (.tmp 46) rfl (w.heap.size + 1) r0.cells (X ++ [.bool true, .bool (!bb)]) RZ4.out (HSR.out _ _) (HSL.out _ _) (HSO.out _ _) ?_ ?_ ?_
      · go_simp
      · go_simp
      intro w5 hr5 ht5
      have RZ5 := Lib.hid hr5
      have B5 := Lib.hid ((HB0.out.trans (B4.out.mono HB0.out.size)).trans (ht5.below (Nat.le_succ _)))
      have R5 := Lib.hid (ht5.row R4.out (by have := HLT.out.2; omega))
      clear hr5 ht5
      refine hK.out _ _ R5.out ?_
      clear hK K
      try simp only [Act.put]
      refine wpAnyH_done (by kernel_rfl) ?_ _
      go_wp2_with fail
      refine bodyPost_ret (results_cell_row (h := rfl) _ w5 (w.heap.size + 1) 101 _ (0, 0) _ (by rfl) RZ5.out.is Tryz.underlying101 rfl (HSR.out _ _)) rfl ?_
      exact ⟨by rw [HQ.out], B5.out⟩
    · have hwf : decide ((i : Int) < s - r) = false := decide_eq_false hwr
      have HQ : Hid (RC = X ++ [.bool true, .bool false]) := Lib.hid (by rw [HQ0.out, HBL.out]; simp [hsg, hwr])
      clear HQ0 HBL
      go_enter Tryz.func133, Tryz.ntmps133
      go_upto_region 1 with fail
      rw [HX.out]
      rotate_left
      · kernel_rfl
      clear HX
      refine wp_region_held_drew (S := (fun V => Below W.heap.size W V)) (by kernel_rfl) (Below.refl W.heap.size W).drew (fun _ => ?_)
      have SB := Lib.hid (Below.refl W.heap.size W).drew
      refine takeL (i := 0) (v := ?_) rfl (by kernel_rfl) (by kernel_rfl) (by kernel_rfl) (fun _ _ _ h => h) (Or.inl ⟨by rfl, ?_⟩) SB.out ?_
      rotate_left
      · intro w hw
        try dsimp only at hw
        go_simp
        try with_reducible rfl
      try simp only [Act.put, List.setIfInBounds_toArray, List.set_cons_zero, List.set_cons_succ]
      refine takeL (i := 1) (v := ?_) rfl (by kernel_rfl) (by kernel_rfl) (by kernel_rfl) (fun _ _ _ h => h) (Or.inl ⟨by rfl, ?_⟩) SB.out ?_
      rotate_left
      · intro wz hwz
        try dsimp only at hwz
        have q := (hwz.cell (p := ⟨w.heap.size, 4, none⟩) HLT.out.1).trans C4.out
        go_simp
        try with_reducible rfl
      try simp only [Act.put, List.setIfInBounds_toArray, List.set_cons_zero, List.set_cons_succ]
      refine takeL (i := 2) (v := ?_) rfl (by kernel_rfl) (by kernel_rfl) (by kernel_rfl) (fun _ _ _ h => h) (Or.inl ⟨by rfl, ?_⟩) SB.out ?_
      rotate_left
      · intro w hw
        try dsimp only at hw
        go_simp
        try with_reducible rfl
      try simp only [Act.put, List.setIfInBounds_toArray, List.set_cons_zero, List.set_cons_succ]
      refine takeL (i := 3) (v := ?_) rfl (by kernel_rfl) (by kernel_rfl) (by kernel_rfl) (fun _ _ _ h => h) (Or.inl ⟨by rfl, ?_⟩) SB.out ?_
      rotate_left
      · intro w hw
        try dsimp only at hw
        go_simp
        try with_reducible rfl
      try simp only [Act.put, List.setIfInBounds_toArray, List.set_cons_zero, List.set_cons_succ]
      refine takeL (i := 4) (v := .agg X.toArray) rfl (by kernel_rfl) (by kernel_rfl) (by kernel_rfl) (fun _ _ _ h => h) (Or.inl ⟨by rfl, fun wz hwz => exec_load_at wz 78 (.tmp 12) rfl (a.add (i * 32)) X _ Tryz.underlying78 rfl HSZ.out (fun j u hu => (hwz.cell (by rw [addr_block, addr_block]; exact HAB.out)).trans (CK.out j u hu)) (by go_simp)⟩) SB.out ?_
      try simp only [Act.put, List.setIfInBounds_toArray, List.set_cons_zero, List.set_cons_succ]
      refine takeL (i := 5) (v := ?_) rfl (by kernel_rfl) (by kernel_rfl) (by kernel_rfl) (fun _ _ _ h => h) (Or.inl ⟨by rfl, ?_⟩) SB.out ?_
      rotate_left
      · intro w hw
        try dsimp only at hw
        go_simp
        try with_reducible rfl
      try simp only [Act.put, List.setIfInBounds_toArray, List.set_cons_zero, List.set_cons_succ]
      refine takeL (i := 6) (v := ?_) rfl (by kernel_rfl) (by kernel_rfl) (by kernel_rfl) (fun _ _ _ h => h) (Or.inl ⟨by rfl, ?_⟩) SB.out ?_
      rotate_left
      · intro w hw
        try dsimp only at hw
        go_simp
        try with_reducible rfl
      try simp only [Act.put, List.setIfInBounds_toArray, List.set_cons_zero, List.set_cons_succ]
      refine takeL (i := 7) (v := ?_) rfl (by kernel_rfl) (by kernel_rfl) (by kernel_rfl) (fun _ _ _ h => h) (Or.inl ⟨by rfl, ?_⟩) SB.out ?_
      rotate_left
      · intro wz hwz
        try dsimp only at hwz
        have q := (hwz.cell (p := ⟨w.heap.size, 1, none⟩) HLT.out.1).trans C1.out
        go_simp
        try with_reducible rfl
      try simp only [Act.put, List.setIfInBounds_toArray, List.set_cons_zero, List.set_cons_succ]
      refine takeL (i := 8) (v := ?_) rfl (by kernel_rfl) (by kernel_rfl) (by kernel_rfl) (fun _ _ _ h => h) (Or.inl ⟨by rfl, ?_⟩) SB.out ?_
      rotate_left
      · intro w hw
        try dsimp only at hw
        go_simp
        try with_reducible rfl
      try simp only [Act.put, List.setIfInBounds_toArray, List.set_cons_zero, List.set_cons_succ]
      refine readyL (i := 9) rfl (by kernel_rfl) (by kernel_rfl) fun K hK => ?_
      go_simp
      refine hK.out _ _ (SB.out.alloc (Nat.le_refl _) _) ?_
      clear hK K
      try simp only [Act.put, List.setIfInBounds_toArray, List.set_cons_zero, List.set_cons_succ]
      refine readyL (i := 10) rfl (by kernel_rfl) (by kernel_rfl) fun K hK => ?_
      refine wp_store_new 78 (.tmp 5) (.tmp 13) rfl X HSZ.out H1.out ?_ ?_ ?_ ?_
      · rw [HXL.out]; rfl
      · go_simp
      · go_simp
      intro w1 hr1 hb1 hz1
      have R1 := Lib.hid hr1
      have B1 := Lib.hid hb1
      have Z1 := Lib.hid hz1
      clear hr1 hb1 hz1
      refine hK.out _ _ B1.out ?_
      clear hK K
      try simp only [Act.put]
      refine takeL (i := 11) (v := ?_) rfl (by kernel_rfl) (by kernel_rfl) (by kernel_rfl) (fun _ _ _ h => h) (Or.inl ⟨by rfl, ?_⟩) B1.out ?_
      rotate_left
      · intro w hw
        try dsimp only at hw
        go_simp
        try with_reducible rfl
      try simp only [Act.put, List.setIfInBounds_toArray, List.set_cons_zero, List.set_cons_succ]
      refine wpAnyH_done (by kernel_rfl) ?_ _
      have D1 := Lib.hid ((B1.out.cell (p := ⟨w.heap.size, 1, none⟩) HLT.out.1).trans C1.out)
      have D2 := Lib.hid ((B1.out.cell (p := ⟨w.heap.size, 2, none⟩) HLT.out.1).trans C2.out)
      have D3 := Lib.hid ((B1.out.cell (p := ⟨w.heap.size, 3, none⟩) HLT.out.1).trans C3.out)
      have D4 := Lib.hid ((B1.out.cell (p := ⟨w.heap.size, 4, none⟩) HLT.out.1).trans C4.out)
      have d1 := D1.out
      have d2 := D2.out
      have d3 := D3.out
      have d4 := D4.out
      go_wp2_with fail
      go_quiet (fail)
      have RZ2 := Lib.hid ((RZ.out.below B1.out HLT.out.2).drewN nq)
      have R2 := Lib.hid (R1.out.drewN nq)
      have B2 := Lib.hid (below_drewN (B1.out) nq)
      go_wp2_with fail
      clear d1 d2 d3 d4 D1 D2 D3 D4
      have RZ3 := Lib.hid RZ2.out.drew
      have R3 := Lib.hid R2.out.drew
      have B3 := Lib.hid B2.out.drew
      refine wp_region_held_drew (S := (fun V => Row V W.heap.size 78 X)) (by kernel_rfl) R3.out (fun _ => ?_)
      generalize (w1.drewN nq).drew = w2 at *
      refine takeL (i := 0) (v := .agg X.toArray) rfl (by kernel_rfl) (by kernel_rfl) (by kernel_rfl) (fun _ _ _ h => h) (Or.inl ⟨by rfl, fun wz hwz => exec_load_at wz 78 (.tmp 5) rfl ⟨W.heap.size, 0, none⟩ X _ Tryz.underlying78 rfl HSZ.out (fun j u hu => by rw [addr_row, Nat.zero_add]; exact (hwz.cell j).trans hu) (by go_simp)⟩) R3.out ?_
      try simp only [Act.put, List.setIfInBounds_toArray, List.set_cons_zero, List.set_cons_succ]
      refine takeL (i := 1) (v := ?_) rfl (by kernel_rfl) (by kernel_rfl) (by kernel_rfl) (fun _ _ _ h => h) (Or.inl ⟨by rfl, ?_⟩) R3.out ?_
      rotate_left
      · intro w hw
        try dsimp only at hw
        go_simp
        try with_reducible rfl
      try simp only [Act.put, List.setIfInBounds_toArray, List.set_cons_zero, List.set_cons_succ]
      refine takeL (i := 2) (v := ?_) rfl (by kernel_rfl) (by kernel_rfl) (by kernel_rfl) (fun _ _ _ h => h) (Or.inl ⟨by rfl, ?_⟩) R3.out ?_
      rotate_left
      · intro w hw
        try dsimp only at hw
        go_simp
        try with_reducible rfl
      try simp only [Act.put, List.setIfInBounds_toArray, List.set_cons_zero, List.set_cons_succ]
      refine takeL (i := 3) (v := ?_) rfl (by kernel_rfl) (by kernel_rfl) (by kernel_rfl) (fun _ _ _ h => h) (Or.inl ⟨by rfl, ?_⟩) R3.out ?_
      rotate_left
      · intro w hw
        try dsimp only at hw
        go_simp
        try with_reducible rfl
      try simp only [Act.put, List.setIfInBounds_toArray, List.set_cons_zero, List.set_cons_succ]
      refine takeL (i := 4) (v := ?_) rfl (by kernel_rfl) (by kernel_rfl) (by kernel_rfl) (fun _ _ _ h => h) (Or.inl ⟨by rfl, ?_⟩) R3.out ?_
      rotate_left
      · intro w hw
        try dsimp only at hw
        go_simp
        try with_reducible rfl
      try simp only [Act.put, List.setIfInBounds_toArray, List.set_cons_zero, List.set_cons_succ]
      refine takeL (i := 5) (v := ?_) rfl (by kernel_rfl) (by kernel_rfl) (by kernel_rfl) (fun _ _ _ h => h) (Or.inl ⟨by rfl, ?_⟩) R3.out ?_
      rotate_left
      · intro w hw
        try dsimp only at hw
        go_simp
        try with_reducible rfl
      try simp only [Act.put, List.setIfInBounds_toArray, List.set_cons_zero, List.set_cons_succ]
      have R4 := R3
      have RZ4 := RZ3
      have B4 := B3
      refine takeL (i := 6) (v := undef) rfl (by kernel_rfl) (by kernel_rfl) (by kernel_rfl) (fun _ _ _ h => h) (Or.inr ⟨by rfl, rfl⟩) R4.out ?_
      try simp only [Act.put, List.setIfInBounds_toArray, List.set_cons_zero, List.set_cons_succ]
      refine takeL (i := 7) (v := undef) rfl (by kernel_rfl) (by kernel_rfl) (by kernel_rfl) (fun _ _ _ h => h) (Or.inr ⟨by rfl, rfl⟩) R4.out ?_
      try simp only [Act.put, List.setIfInBounds_toArray, List.set_cons_zero, List.set_cons_succ]
      refine takeL (i := 8) (v := undef) rfl (by kernel_rfl) (by kernel_rfl) (by kernel_rfl) (fun _ _ _ h => h) (Or.inr ⟨by rfl, rfl⟩) R4.out ?_
      try simp only [Act.put, List.setIfInBounds_toArray, List.set_cons_zero, List.set_cons_succ]
      refine takeL (i := 9) (v := ?_) rfl (by kernel_rfl) (by kernel_rfl) (by kernel_rfl) (fun _ _ _ h => h) (Or.inl ⟨by rfl, ?_⟩) R4.out ?_
      rotate_left
      · intro w hw
        try dsimp only at hw
        go_simp
        try with_reducible rfl
      try simp only [Act.put, List.setIfInBounds_toArray, List.set_cons_zero, List.set_cons_succ]
      refine takeL (i := 10) (v := .agg (X ++ [Value.bool true, .bool false]).toArray) rfl (by kernel_rfl) (by kernel_rfl) (by kernel_rfl) (fun _ _ _ h => h) (Or.inl ⟨by rfl, fun wz hwz => exec_built wz _ _ _ rfl (by simp only [List.map_toArray, List.map_cons, List.map_nil]; exact built_role HXL.out _ _)⟩) R4.out ?_
      try simp only [Act.put, List.setIfInBounds_toArray, List.set_cons_zero, List.set_cons_succ]
      refine readyL (i := 11) rfl (by kernel_rfl) (by kernel_rfl) fun K hK => ?_
      refine wp_store_whole 101 (.tmp 4) (.tmp 46) rfl (w.heap.size + 1) r0.cells (X ++ [.bool true, .bool false]) RZ4.out (HSR.out _ _) (HSL.out _ _) (HSO.out _ _) ?_ ?_ ?_
      · go_simp
      · go_simp
      intro w5 hr5 ht5
      have RZ5 := Lib.hid hr5
      have B5 := Lib.hid ((HB0.out.trans (B4.out.mono HB0.out.size)).trans (ht5.below (Nat.le_succ _)))
      have R5 := Lib.hid (ht5.row R4.out (by have := HLT.out.2; omega))
      clear hr5 ht5
      refine hK.out _ _ R5.out ?_
      clear hK K
      try simp only [Act.put]
      refine wpAnyH_done (by kernel_rfl) ?_ _
      go_wp2_with fail
      refine bodyPost_ret (results_cell_row (h := rfl) _ w5 (w.heap.size + 1) 101 _ (0, 0) _ (by rfl) RZ5.out.is Tryz.underlying101 rfl (HSR.out _ _)) rfl ?_
      exact ⟨by rw [HQ.out], B5.out⟩
  · by_cases hwr : (i : Int) < (n : Int) - o
    · have hsf : decide ((i : Int) < s) = false := decide_eq_false hsg
      have HQ : Hid (RC = X ++ [.bool false, .bool (!bb)]) := Lib.hid (by rw [HQ0.out, HBL.out]; simp [hsg, hwr])
      clear HQ0 HBL
      go_enter Tryz.func133, Tryz.ntmps133
      go_upto_region 1 with fail
      rw [HX.out]
      rotate_left
      · kernel_rfl
      clear HX
      refine wp_region_held_drew (S := (fun V => Below W.heap.size W V)) (by kernel_rfl) (Below.refl W.heap.size W).drew (fun _ => ?_)
      have SB := Lib.hid (Below.refl W.heap.size W).drew
      refine takeL (i := 0) (v := ?_) rfl (by kernel_rfl) (by kernel_rfl) (by kernel_rfl) (fun _ _ _ h => h) (Or.inl ⟨by rfl, ?_⟩) SB.out ?_
      rotate_left
      · intro w hw
        try dsimp only at hw
        go_simp
        try with_reducible rfl
      try simp only [Act.put, List.setIfInBounds_toArray, List.set_cons_zero, List.set_cons_succ]
      refine takeL (i := 1) (v := ?_) rfl (by kernel_rfl) (by kernel_rfl) (by kernel_rfl) (fun _ _ _ h => h) (Or.inl ⟨by rfl, ?_⟩) SB.out ?_
      rotate_left
      · intro wz hwz
        try dsimp only at hwz
        have q := (hwz.cell (p := ⟨w.heap.size, 4, none⟩) HLT.out.1).trans C4.out
        go_simp
        try with_reducible rfl
      try simp only [Act.put, List.setIfInBounds_toArray, List.set_cons_zero, List.set_cons_succ]
      refine takeL (i := 2) (v := ?_) rfl (by kernel_rfl) (by kernel_rfl) (by kernel_rfl) (fun _ _ _ h => h) (Or.inl ⟨by rfl, ?_⟩) SB.out ?_
      rotate_left
      · intro w hw
        try dsimp only at hw
        go_simp
        try with_reducible rfl
      try simp only [Act.put, List.setIfInBounds_toArray, List.set_cons_zero, List.set_cons_succ]
      refine takeL (i := 3) (v := ?_) rfl (by kernel_rfl) (by kernel_rfl) (by kernel_rfl) (fun _ _ _ h => h) (Or.inl ⟨by rfl, ?_⟩) SB.out ?_
      rotate_left
      · intro w hw
        try dsimp only at hw
        go_simp
        try with_reducible rfl
      try simp only [Act.put, List.setIfInBounds_toArray, List.set_cons_zero, List.set_cons_succ]
      refine takeL (i := 4) (v := .agg X.toArray) rfl (by kernel_rfl) (by kernel_rfl) (by kernel_rfl) (fun _ _ _ h => h) (Or.inl ⟨by rfl, fun wz hwz => exec_load_at wz 78 (.tmp 12) rfl (a.add (i * 32)) X _ Tryz.underlying78 rfl HSZ.out (fun j u hu => (hwz.cell (by rw [addr_block, addr_block]; exact HAB.out)).trans (CK.out j u hu)) (by go_simp)⟩) SB.out ?_
      try simp only [Act.put, List.setIfInBounds_toArray, List.set_cons_zero, List.set_cons_succ]
      refine takeL (i := 5) (v := ?_) rfl (by kernel_rfl) (by kernel_rfl) (by kernel_rfl) (fun _ _ _ h => h) (Or.inl ⟨by rfl, ?_⟩) SB.out ?_
      rotate_left
      · intro w hw
        try dsimp only at hw
        go_simp
        try with_reducible rfl
      try simp only [Act.put, List.setIfInBounds_toArray, List.set_cons_zero, List.set_cons_succ]
      refine takeL (i := 6) (v := ?_) rfl (by kernel_rfl) (by kernel_rfl) (by kernel_rfl) (fun _ _ _ h => h) (Or.inl ⟨by rfl, ?_⟩) SB.out ?_
      rotate_left
      · intro w hw
        try dsimp only at hw
        go_simp
        try with_reducible rfl
      try simp only [Act.put, List.setIfInBounds_toArray, List.set_cons_zero, List.set_cons_succ]
      refine takeL (i := 7) (v := ?_) rfl (by kernel_rfl) (by kernel_rfl) (by kernel_rfl) (fun _ _ _ h => h) (Or.inl ⟨by rfl, ?_⟩) SB.out ?_
      rotate_left
      · intro wz hwz
        try dsimp only at hwz
        have q := (hwz.cell (p := ⟨w.heap.size, 1, none⟩) HLT.out.1).trans C1.out
        go_simp
        try with_reducible rfl
      try simp only [Act.put, List.setIfInBounds_toArray, List.set_cons_zero, List.set_cons_succ]
      refine takeL (i := 8) (v := ?_) rfl (by kernel_rfl) (by kernel_rfl) (by kernel_rfl) (fun _ _ _ h => h) (Or.inl ⟨by rfl, ?_⟩) SB.out ?_
      rotate_left
      · intro w hw
        try dsimp only at hw
        go_simp
        try with_reducible rfl
      try simp only [Act.put, List.setIfInBounds_toArray, List.set_cons_zero, List.set_cons_succ]
      refine readyL (i := 9) rfl (by kernel_rfl) (by kernel_rfl) fun K hK => ?_
      go_simp
      refine hK.out _ _ (SB.out.alloc (Nat.le_refl _) _) ?_
      clear hK K
      try simp only [Act.put, List.setIfInBounds_toArray, List.set_cons_zero, List.set_cons_succ]
      refine readyL (i := 10) rfl (by kernel_rfl) (by kernel_rfl) fun K hK => ?_
      refine wp_store_new 78 (.tmp 5) (.tmp 13) rfl X HSZ.out H1.out ?_ ?_ ?_ ?_
      · rw [HXL.out]; rfl
      · go_simp
      · go_simp
      intro w1 hr1 hb1 hz1
      have R1 := Lib.hid hr1
      have B1 := Lib.hid hb1
      have Z1 := Lib.hid hz1
      clear hr1 hb1 hz1
      refine hK.out _ _ B1.out ?_
      clear hK K
      try simp only [Act.put]
      refine takeL (i := 11) (v := ?_) rfl (by kernel_rfl) (by kernel_rfl) (by kernel_rfl) (fun _ _ _ h => h) (Or.inl ⟨by rfl, ?_⟩) B1.out ?_
      rotate_left
      · intro w hw
        try dsimp only at hw
        go_simp
        try with_reducible rfl
      try simp only [Act.put, List.setIfInBounds_toArray, List.set_cons_zero, List.set_cons_succ]
      refine wpAnyH_done (by kernel_rfl) ?_ _
      have D1 := Lib.hid ((B1.out.cell (p := ⟨w.heap.size, 1, none⟩) HLT.out.1).trans C1.out)
      have D2 := Lib.hid ((B1.out.cell (p := ⟨w.heap.size, 2, none⟩) HLT.out.1).trans C2.out)
      have D3 := Lib.hid ((B1.out.cell (p := ⟨w.heap.size, 3, none⟩) HLT.out.1).trans C3.out)
      have D4 := Lib.hid ((B1.out.cell (p := ⟨w.heap.size, 4, none⟩) HLT.out.1).trans C4.out)
      have d1 := D1.out
      have d2 := D2.out
      have d3 := D3.out
      have d4 := D4.out
      go_wp2_with fail
      go_quiet (fail)
      have RZ2 := Lib.hid ((RZ.out.below B1.out HLT.out.2).drewN nq)
      have R2 := Lib.hid (R1.out.drewN nq)
      have B2 := Lib.hid (below_drewN (B1.out) nq)
      go_wp2_with fail
      clear d1 d2 d3 d4 D1 D2 D3 D4
      have RZ3 := Lib.hid RZ2.out.drew
      have R3 := Lib.hid R2.out.drew
      have B3 := Lib.hid B2.out.drew
      refine wp_region_held_drew (S := (fun V => Row V W.heap.size 78 X)) (by kernel_rfl) R3.out (fun _ => ?_)
      generalize (w1.drewN nq).drew = w2 at *
      refine takeL (i := 0) (v := .agg X.toArray) rfl (by kernel_rfl) (by kernel_rfl) (by kernel_rfl) (fun _ _ _ h => h) (Or.inl ⟨by rfl, fun wz hwz => exec_load_at wz 78 (.tmp 5) rfl ⟨W.heap.size, 0, none⟩ X _ Tryz.underlying78 rfl HSZ.out (fun j u hu => by rw [addr_row, Nat.zero_add]; exact (hwz.cell j).trans hu) (by go_simp)⟩) R3.out ?_
      try simp only [Act.put, List.setIfInBounds_toArray, List.set_cons_zero, List.set_cons_succ]
      refine takeL (i := 1) (v := ?_) rfl (by kernel_rfl) (by kernel_rfl) (by kernel_rfl) (fun _ _ _ h => h) (Or.inl ⟨by rfl, ?_⟩) R3.out ?_
      rotate_left
      · intro w hw
        try dsimp only at hw
        go_simp
        try with_reducible rfl
      try simp only [Act.put, List.setIfInBounds_toArray, List.set_cons_zero, List.set_cons_succ]
      refine takeL (i := 2) (v := ?_) rfl (by kernel_rfl) (by kernel_rfl) (by kernel_rfl) (fun _ _ _ h => h) (Or.inl ⟨by rfl, ?_⟩) R3.out ?_
      rotate_left
      · intro w hw
        try dsimp only at hw
        go_simp
        try with_reducible rfl
      try simp only [Act.put, List.setIfInBounds_toArray, List.set_cons_zero, List.set_cons_succ]
      refine takeL (i := 3) (v := ?_) rfl (by kernel_rfl) (by kernel_rfl) (by kernel_rfl) (fun _ _ _ h => h) (Or.inl ⟨by rfl, ?_⟩) R3.out ?_
      rotate_left
      · intro w hw
        try dsimp only at hw
        go_simp
        try with_reducible rfl
      try simp only [Act.put, List.setIfInBounds_toArray, List.set_cons_zero, List.set_cons_succ]
      refine takeL (i := 4) (v := ?_) rfl (by kernel_rfl) (by kernel_rfl) (by kernel_rfl) (fun _ _ _ h => h) (Or.inl ⟨by rfl, ?_⟩) R3.out ?_
      rotate_left
      · intro w hw
        try dsimp only at hw
        go_simp
        try with_reducible rfl
      try simp only [Act.put, List.setIfInBounds_toArray, List.set_cons_zero, List.set_cons_succ]
      refine takeL (i := 5) (v := ?_) rfl (by kernel_rfl) (by kernel_rfl) (by kernel_rfl) (fun _ _ _ h => h) (Or.inl ⟨by rfl, ?_⟩) R3.out ?_
      rotate_left
      · intro w hw
        try dsimp only at hw
        go_simp
        try with_reducible rfl
      try simp only [Act.put, List.setIfInBounds_toArray, List.set_cons_zero, List.set_cons_succ]
      refine takeL (i := 6) (v := .agg X.toArray) rfl (by kernel_rfl) (by kernel_rfl) (by kernel_rfl) (fun _ _ _ h => h) (Or.inl ⟨by rfl, fun wz hwz => exec_load_at wz 78 (.tmp 5) rfl ⟨W.heap.size, 0, none⟩ X _ Tryz.underlying78 rfl HSZ.out (fun j u hu => by rw [addr_row, Nat.zero_add]; exact (hwz.cell j).trans hu) (by go_simp)⟩) R3.out ?_
      try simp only [Act.put, List.setIfInBounds_toArray, List.set_cons_zero, List.set_cons_succ]
      refine readyL (i := 7) rfl (by kernel_rfl) (by kernel_rfl) fun K hK => ?_
      go_simp
      refine (HKN.out _).mono ?_
      rintro e w3 ⟨rfl, hb3⟩
      have R4 := Lib.hid (R3.out.below hb3 R3.out.lt)
      have RZ4 := Lib.hid (RZ3.out.below hb3 RZ3.out.lt)
      have B4 := Lib.hid (B3.out.trans (hb3.mono B3.out.size))
      clear hb3
      refine hK.out _ _ R4.out ?_
      clear hK K
      try simp only [Act.put, List.setIfInBounds_toArray, List.set_cons_zero, List.set_cons_succ]
      refine takeL (i := 8) (v := ?_) rfl (by kernel_rfl) (by kernel_rfl) (by kernel_rfl) (fun _ _ _ h => h) (Or.inl ⟨by rfl, ?_⟩) R4.out ?_
      rotate_left
      · intro w hw
        try dsimp only at hw
        go_simp
        try with_reducible rfl
      try simp only [Act.put, List.setIfInBounds_toArray, List.set_cons_zero, List.set_cons_succ]
      refine takeL (i := 9) (v := ?_) rfl (by kernel_rfl) (by kernel_rfl) (by kernel_rfl) (fun _ _ _ h => h) (Or.inl ⟨by rfl, ?_⟩) R4.out ?_
      rotate_left
      · intro w hw
        try dsimp only at hw
        go_simp
        try with_reducible rfl
      try simp only [Act.put, List.setIfInBounds_toArray, List.set_cons_zero, List.set_cons_succ]
      refine takeL (i := 10) (v := .agg (X ++ [Value.bool false, .bool (!bb)]).toArray) rfl (by kernel_rfl) (by kernel_rfl) (by kernel_rfl) (fun _ _ _ h => h) (Or.inl ⟨by rfl, fun wz hwz => exec_built wz _ _ _ rfl (by simp only [List.map_toArray, List.map_cons, List.map_nil]; exact built_role HXL.out _ _)⟩) R4.out ?_
      try simp only [Act.put, List.setIfInBounds_toArray, List.set_cons_zero, List.set_cons_succ]
      refine readyL (i := 11) rfl (by kernel_rfl) (by kernel_rfl) fun K hK => ?_
      refine wp_store_whole 101 (.tmp 4) (.tmp 46) rfl (w.heap.size + 1) r0.cells (X ++ [.bool false, .bool (!bb)]) RZ4.out (HSR.out _ _) (HSL.out _ _) (HSO.out _ _) ?_ ?_ ?_
      · go_simp
      · go_simp
      intro w5 hr5 ht5
      have RZ5 := Lib.hid hr5
      have B5 := Lib.hid ((HB0.out.trans (B4.out.mono HB0.out.size)).trans (ht5.below (Nat.le_succ _)))
      have R5 := Lib.hid (ht5.row R4.out (by have := HLT.out.2; omega))
      clear hr5 ht5
      refine hK.out _ _ R5.out ?_
      clear hK K
      try simp only [Act.put]
      refine wpAnyH_done (by kernel_rfl) ?_ _
      go_wp2_with fail
      refine bodyPost_ret (results_cell_row (h := rfl) _ w5 (w.heap.size + 1) 101 _ (0, 0) _ (by rfl) RZ5.out.is Tryz.underlying101 rfl (HSR.out _ _)) rfl ?_
      exact ⟨by rw [HQ.out], B5.out⟩
    · have hwf : decide ((i : Int) < (n : Int) - o) = false := decide_eq_false hwr
      have hsf : decide ((i : Int) < s) = false := decide_eq_false hsg
      have HQ : Hid (RC = X ++ [.bool false, .bool false]) := Lib.hid (by rw [HQ0.out, HBL.out]; simp [hsg, hwr])
      clear HQ0 HBL
      go_enter Tryz.func133, Tryz.ntmps133
      go_upto_region 1 with fail
      rw [HX.out]
      rotate_left
      · kernel_rfl
      clear HX
      refine wp_region_held_drew (S := (fun V => Below W.heap.size W V)) (by kernel_rfl) (Below.refl W.heap.size W).drew (fun _ => ?_)
      have SB := Lib.hid (Below.refl W.heap.size W).drew
      refine takeL (i := 0) (v := ?_) rfl (by kernel_rfl) (by kernel_rfl) (by kernel_rfl) (fun _ _ _ h => h) (Or.inl ⟨by rfl, ?_⟩) SB.out ?_
      rotate_left
      · intro w hw
        try dsimp only at hw
        go_simp
        try with_reducible rfl
      try simp only [Act.put, List.setIfInBounds_toArray, List.set_cons_zero, List.set_cons_succ]
      refine takeL (i := 1) (v := ?_) rfl (by kernel_rfl) (by kernel_rfl) (by kernel_rfl) (fun _ _ _ h => h) (Or.inl ⟨by rfl, ?_⟩) SB.out ?_
      rotate_left
      · intro wz hwz
        try dsimp only at hwz
        have q := (hwz.cell (p := ⟨w.heap.size, 4, none⟩) HLT.out.1).trans C4.out
        go_simp
        try with_reducible rfl
      try simp only [Act.put, List.setIfInBounds_toArray, List.set_cons_zero, List.set_cons_succ]
      refine takeL (i := 2) (v := ?_) rfl (by kernel_rfl) (by kernel_rfl) (by kernel_rfl) (fun _ _ _ h => h) (Or.inl ⟨by rfl, ?_⟩) SB.out ?_
      rotate_left
      · intro w hw
        try dsimp only at hw
        go_simp
        try with_reducible rfl
      try simp only [Act.put, List.setIfInBounds_toArray, List.set_cons_zero, List.set_cons_succ]
      refine takeL (i := 3) (v := ?_) rfl (by kernel_rfl) (by kernel_rfl) (by kernel_rfl) (fun _ _ _ h => h) (Or.inl ⟨by rfl, ?_⟩) SB.out ?_
      rotate_left
      · intro w hw
        try dsimp only at hw
        go_simp
        try with_reducible rfl
      try simp only [Act.put, List.setIfInBounds_toArray, List.set_cons_zero, List.set_cons_succ]
      refine takeL (i := 4) (v := .agg X.toArray) rfl (by kernel_rfl) (by kernel_rfl) (by kernel_rfl) (fun _ _ _ h => h) (Or.inl ⟨by rfl, fun wz hwz => exec_load_at wz 78 (.tmp 12) rfl (a.add (i * 32)) X _ Tryz.underlying78 rfl HSZ.out (fun j u hu => (hwz.cell (by rw [addr_block, addr_block]; exact HAB.out)).trans (CK.out j u hu)) (by go_simp)⟩) SB.out ?_
      try simp only [Act.put, List.setIfInBounds_toArray, List.set_cons_zero, List.set_cons_succ]
      refine takeL (i := 5) (v := ?_) rfl (by kernel_rfl) (by kernel_rfl) (by kernel_rfl) (fun _ _ _ h => h) (Or.inl ⟨by rfl, ?_⟩) SB.out ?_
      rotate_left
      · intro w hw
        try dsimp only at hw
        go_simp
        try with_reducible rfl
      try simp only [Act.put, List.setIfInBounds_toArray, List.set_cons_zero, List.set_cons_succ]
      refine takeL (i := 6) (v := ?_) rfl (by kernel_rfl) (by kernel_rfl) (by kernel_rfl) (fun _ _ _ h => h) (Or.inl ⟨by rfl, ?_⟩) SB.out ?_
      rotate_left
      · intro w hw
        try dsimp only at hw
        go_simp
        try with_reducible rfl
      try simp only [Act.put, List.setIfInBounds_toArray, List.set_cons_zero, List.set_cons_succ]
      refine takeL (i := 7) (v := ?_) rfl (by kernel_rfl) (by kernel_rfl) (by kernel_rfl) (fun _ _ _ h => h) (Or.inl ⟨by rfl, ?_⟩) SB.out ?_
      rotate_left
      · intro wz hwz
        try dsimp only at hwz
        have q := (hwz.cell (p := ⟨w.heap.size, 1, none⟩) HLT.out.1).trans C1.out
        go_simp
        try with_reducible rfl
      try simp only [Act.put, List.setIfInBounds_toArray, List.set_cons_zero, List.set_cons_succ]
      refine takeL (i := 8) (v := ?_) rfl (by kernel_rfl) (by kernel_rfl) (by kernel_rfl) (fun _ _ _ h => h) (Or.inl ⟨by rfl, ?_⟩) SB.out ?_
      rotate_left
      · intro w hw
        try dsimp only at hw
        go_simp
        try with_reducible rfl
      try simp only [Act.put, List.setIfInBounds_toArray, List.set_cons_zero, List.set_cons_succ]
      refine readyL (i := 9) rfl (by kernel_rfl) (by kernel_rfl) fun K hK => ?_
      go_simp
      refine hK.out _ _ (SB.out.alloc (Nat.le_refl _) _) ?_
      clear hK K
      try simp only [Act.put, List.setIfInBounds_toArray, List.set_cons_zero, List.set_cons_succ]
      refine readyL (i := 10) rfl (by kernel_rfl) (by kernel_rfl) fun K hK => ?_
      refine wp_store_new 78 (.tmp 5) (.tmp 13) rfl X HSZ.out H1.out ?_ ?_ ?_ ?_
      · rw [HXL.out]; rfl
      · go_simp
      · go_simp
      intro w1 hr1 hb1 hz1
      have R1 := Lib.hid hr1
      have B1 := Lib.hid hb1
      have Z1 := Lib.hid hz1
      clear hr1 hb1 hz1
      refine hK.out _ _ B1.out ?_
      clear hK K
      try simp only [Act.put]
      refine takeL (i := 11) (v := ?_) rfl (by kernel_rfl) (by kernel_rfl) (by kernel_rfl) (fun _ _ _ h => h) (Or.inl ⟨by rfl, ?_⟩) B1.out ?_
      rotate_left
      · intro w hw
        try dsimp only at hw
        go_simp
        try with_reducible rfl
      try simp only [Act.put, List.setIfInBounds_toArray, List.set_cons_zero, List.set_cons_succ]
      refine wpAnyH_done (by kernel_rfl) ?_ _
      have D1 := Lib.hid ((B1.out.cell (p := ⟨w.heap.size, 1, none⟩) HLT.out.1).trans C1.out)
      have D2 := Lib.hid ((B1.out.cell (p := ⟨w.heap.size, 2, none⟩) HLT.out.1).trans C2.out)
      have D3 := Lib.hid ((B1.out.cell (p := ⟨w.heap.size, 3, none⟩) HLT.out.1).trans C3.out)
      have D4 := Lib.hid ((B1.out.cell (p := ⟨w.heap.size, 4, none⟩) HLT.out.1).trans C4.out)
      have d1 := D1.out
      have d2 := D2.out
      have d3 := D3.out
      have d4 := D4.out
      go_wp2_with fail
      go_quiet (fail)
      have RZ2 := Lib.hid ((RZ.out.below B1.out HLT.out.2).drewN nq)
      have R2 := Lib.hid (R1.out.drewN nq)
      have B2 := Lib.hid (below_drewN (B1.out) nq)
      go_wp2_with fail
      clear d1 d2 d3 d4 D1 D2 D3 D4
      have RZ3 := Lib.hid RZ2.out.drew
      have R3 := Lib.hid R2.out.drew
      have B3 := Lib.hid B2.out.drew
      refine wp_region_held_drew (S := (fun V => Row V W.heap.size 78 X)) (by kernel_rfl) R3.out (fun _ => ?_)
      generalize (w1.drewN nq).drew = w2 at *
      refine takeL (i := 0) (v := .agg X.toArray) rfl (by kernel_rfl) (by kernel_rfl) (by kernel_rfl) (fun _ _ _ h => h) (Or.inl ⟨by rfl, fun wz hwz => exec_load_at wz 78 (.tmp 5) rfl ⟨W.heap.size, 0, none⟩ X _ Tryz.underlying78 rfl HSZ.out (fun j u hu => by rw [addr_row, Nat.zero_add]; exact (hwz.cell j).trans hu) (by go_simp)⟩) R3.out ?_
      try simp only [Act.put, List.setIfInBounds_toArray, List.set_cons_zero, List.set_cons_succ]
      refine takeL (i := 1) (v := ?_) rfl (by kernel_rfl) (by kernel_rfl) (by kernel_rfl) (fun _ _ _ h => h) (Or.inl ⟨by rfl, ?_⟩) R3.out ?_
      rotate_left
      · intro w hw
        try dsimp only at hw
        go_simp
        try with_reducible rfl
      try simp only [Act.put, List.setIfInBounds_toArray, List.set_cons_zero, List.set_cons_succ]
      refine takeL (i := 2) (v := ?_) rfl (by kernel_rfl) (by kernel_rfl) (by kernel_rfl) (fun _ _ _ h => h) (Or.inl ⟨by rfl, ?_⟩) R3.out ?_
      rotate_left
      · intro w hw
        try dsimp only at hw
        go_simp
        try with_reducible rfl
      try simp only [Act.put, List.setIfInBounds_toArray, List.set_cons_zero, List.set_cons_succ]
      refine takeL (i := 3) (v := ?_) rfl (by kernel_rfl) (by kernel_rfl) (by kernel_rfl) (fun _ _ _ h => h) (Or.inl ⟨by rfl, ?_⟩) R3.out ?_
      rotate_left
      · intro w hw
        try dsimp only at hw
        go_simp
        try with_reducible rfl
      try simp only [Act.put, List.setIfInBounds_toArray, List.set_cons_zero, List.set_cons_succ]
      refine takeL (i := 4) (v := ?_) rfl (by kernel_rfl) (by kernel_rfl) (by kernel_rfl) (fun _ _ _ h => h) (Or.inl ⟨by rfl, ?_⟩) R3.out ?_
      rotate_left
      · intro w hw
        try dsimp only at hw
        go_simp
        try with_reducible rfl
      try simp only [Act.put, List.setIfInBounds_toArray, List.set_cons_zero, List.set_cons_succ]
      refine takeL (i := 5) (v := ?_) rfl (by kernel_rfl) (by kernel_rfl) (by kernel_rfl) (fun _ _ _ h => h) (Or.inl ⟨by rfl, ?_⟩) R3.out ?_
      rotate_left
      · intro w hw
        try dsimp only at hw
        go_simp
        try with_reducible rfl
      try simp only [Act.put, List.setIfInBounds_toArray, List.set_cons_zero, List.set_cons_succ]
      have R4 := R3
      have RZ4 := RZ3
      have B4 := B3
      refine takeL (i := 6) (v := undef) rfl (by kernel_rfl) (by kernel_rfl) (by kernel_rfl) (fun _ _ _ h => h) (Or.inr ⟨by rfl, rfl⟩) R4.out ?_
      try simp only [Act.put, List.setIfInBounds_toArray, List.set_cons_zero, List.set_cons_succ]
      refine takeL (i := 7) (v := undef) rfl (by kernel_rfl) (by kernel_rfl) (by kernel_rfl) (fun _ _ _ h => h) (Or.inr ⟨by rfl, rfl⟩) R4.out ?_
      try simp only [Act.put, List.setIfInBounds_toArray, List.set_cons_zero, List.set_cons_succ]
      refine takeL (i := 8) (v := undef) rfl (by kernel_rfl) (by kernel_rfl) (by kernel_rfl) (fun _ _ _ h => h) (Or.inr ⟨by rfl, rfl⟩) R4.out ?_
      try simp only [Act.put, List.setIfInBounds_toArray, List.set_cons_zero, List.set_cons_succ]
      refine takeL (i := 9) (v := ?_) rfl (by kernel_rfl) (by kernel_rfl) (by kernel_rfl) (fun _ _ _ h => h) (Or.inl ⟨by rfl, ?_⟩) R4.out ?_
      rotate_left
      · intro w hw
        try dsimp only at hw
        go_simp
        try with_reducible rfl
      try simp only [Act.put, List.setIfInBounds_toArray, List.set_cons_zero, List.set_cons_succ]
      refine takeL (i := 10) (v := .agg (X ++ [Value.bool false, .bool false]).toArray) rfl (by kernel_rfl) (by kernel_rfl) (by kernel_rfl) (fun _ _ _ h => h) (Or.inl ⟨by rfl, fun wz hwz => exec_built wz _ _ _ rfl (by simp only [List.map_toArray, List.map_cons, List.map_nil]; exact built_role HXL.out _ _)⟩) R4.out ?_
      try simp only [Act.put, List.setIfInBounds_toArray, List.set_cons_zero, List.set_cons_succ]
      refine readyL (i := 11) rfl (by kernel_rfl) (by kernel_rfl) fun K hK => ?_
      refine wp_store_whole 101 (.tmp 4) (.tmp 46) rfl (w.heap.size + 1) r0.cells (X ++ [.bool false, .bool false]) RZ4.out (HSR.out _ _) (HSL.out _ _) (HSO.out _ _) ?_ ?_ ?_
      · go_simp
      · go_simp
      intro w5 hr5 ht5
      have RZ5 := Lib.hid hr5
      have B5 := Lib.hid ((HB0.out.trans (B4.out.mono HB0.out.size)).trans (ht5.below (Nat.le_succ _)))
      have R5 := Lib.hid (ht5.row R4.out (by have := HLT.out.2; omega))
      clear hr5 ht5
      refine hK.out _ _ R5.out ?_
      clear hK K
      try simp only [Act.put]
      refine wpAnyH_done (by kernel_rfl) ?_ _
      go_wp2_with fail
      refine bodyPost_ret (results_cell_row (h := rfl) _ w5 (w.heap.size + 1) 101 _ (0, 0) _ (by rfl) RZ5.out.is Tryz.underlying101 rfl (HSR.out _ _)) rfl ?_
      exact ⟨by rw [HQ.out], B5.out⟩
end Go.Proofs.YtdgbodljmdcagaaGreatDoor
