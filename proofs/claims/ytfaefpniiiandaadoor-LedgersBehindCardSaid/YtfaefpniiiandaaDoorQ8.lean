/-
  Parts joined: Str13 RefPut13 Range13 Coins14 RunMath15 RefRun15 Load15 Conf7 Math16 Door15 Commit16.
-/
import Derived.Below
import Derived.Laws.OwnMore
import Derived.Deep.AppendLies
import Derived.Deep.Draws
import Derived.Lib.Hide
import Derived.Laws.MakeOwn
import Derived.Laws.CopyOwn
import Derived.Laws.Rows
import Derived.Maps.AppendAt
import Derived.OwnWalk
import Derived.Laws.BitsAllLaws
import Derived.WalkKit
import Derived.Test.YtfaefpniiiandaaDoorRows
import Derived.WalkSpells
import Derived.WalkLawsBesides
import Derived.IntWalk
import Derived.Deep.MidRow
import Derived.Deep.WholeRow
import Derived.Great.BuildSlice
import Derived.Recover
import Derived.Deep.RegionHeld
import Derived.Deep.QuietTactic
import Derived.BigQuiet
import Derived.ChangeKeysEq
import Derived.Deep.RegionHeld2
import Derived.Deep.CutBlock
import Derived.Laws.Tables
import Derived.ProofKit
import Derived.OpenShut
import Derived.ShutString
import Derived.ChangeOld
import Derived.Lib.SmallJoins
import Derived.Deep.Slices
import Derived.Deep.Strs
import Derived.SizedLaws
import Derived.Laws.StructEq
import Derived.Laws.Slices
import Derived.Deep.DeepCutAuto
import Derived.Maps.OwnSet
import Derived.DeepKeys4
import Derived.WideKeyArr
import Derived.Laws.EntriesVeiled
import Derived.Deep.RegionHeld3
import Derived.WideKeyEntry
import Derived.WalkMore
import Derived.Maps.RangeWalk
import Derived.Shelf.SlMaps.Clone
import Derived.Laws.Append
import Derived.Laws.AppendOwn
import Derived.LaidMore
import Derived.Maps.OwnOps
import Derived.Laws.BytesArg
import Derived.Laws.Strings
import Derived.Lib.Strings
import Derived.Great.Walk
import Derived.Laws.Bits64b
import Derived.Laws.Externs
import Derived.LaidHandle
import Derived.LaidLaws
import Derived.RangeFuncOwn
import Derived.Test.YtfaefpniiiandaaDoorQ1
import Derived.Test.YtfaefpniiiandaaDoorQ2
import Derived.Test.YtfaefpniiiandaaDoorQ3
import Derived.Test.YtfaefpniiiandaaDoorQ4
import Derived.Test.YtfaefpniiiandaaDoorQ5
import Derived.Test.YtfaefpniiiandaaDoorQ6
import Derived.Test.YtfaefpniiiandaaDoorQ7
/-
  Of part Str13: what is needed here.
-/
namespace Go.Proofs.YtfaefpniiiandaaDoor
open Go.RowKit
set_option linter.unusedVariables false
set_option maxRecDepth 100000
theorem ofNat_inj {a b : Int} (ha : IsByte a) (hb : IsByte b) : (UInt8.ofNat a.toNat == UInt8.ofNat b.toNat) = decide (a = b) := by
  unfold IsByte at ha hb
  rw [Bool.eq_iff_iff, beq_iff_eq, decide_eq_true_iff]
  constructor
  · intro h
    have := congrArg UInt8.toNat h
    simp only [UInt8.toNat_ofNat'] at this
    omega
  · rintro rfl; rfl
theorem ofNat_lt {a b : Int} (ha : IsByte a) (hb : IsByte b) : decide (UInt8.ofNat a.toNat < UInt8.ofNat b.toNat) = decide (a < b) := by
  unfold IsByte at ha hb
  rw [decide_eq_decide, UInt8.lt_iff_toNat_lt]
  simp only [UInt8.toNat_ofNat']
  omega
theorem bytesLess_is : ∀ {x y : List Int}, AllBytes x → AllBytes y → Op.bytesLess (x.map fun n => UInt8.ofNat n.toNat) (y.map fun n => UInt8.ofNat n.toNat) = kless x y
  | [], [], _, _ => rfl
  | _ :: _, [], _, _ => by simp [Op.bytesLess, kless]
  | [], _ :: _, _, _ => rfl
  | a :: x, b :: y, hx, hy => by
    have h1 := ofNat_inj (hx a (by simp)) (hy b (by simp))
    have h2 := ofNat_lt (hx a (by simp)) (hy b (by simp))
    have ih := bytesLess_is (x := x) (y := y) (fun z hz => hx z (List.mem_cons_of_mem _ hz)) (fun z hz => hy z (List.mem_cons_of_mem _ hz))
    simp only [List.map_cons, Op.bytesLess, kless]
    rw [h1, h2, ih]
theorem strs_eq : ∀ {x y : List Int}, AllBytes x → AllBytes y → ((x.map fun n => UInt8.ofNat n.toNat) == (y.map fun n => UInt8.ofNat n.toNat)) = decide (x = y)
  | [], [], _, _ => rfl
  | _ :: _, [], _, _ => rfl
  | [], _ :: _, _, _ => rfl
  | a :: x, b :: y, hx, hy => by
    have h1 := ofNat_inj (hx a (by simp)) (hy b (by simp))
    have ih := strs_eq (x := x) (y := y) (fun z hz => hx z (List.mem_cons_of_mem _ hz)) (fun z hz => hy z (List.mem_cons_of_mem _ hz))
    rw [List.map_cons, List.map_cons, List.cons_beq_cons, h1, ih, Bool.eq_iff_iff]
    simp
theorem str_list (x : List Int) : (strOfNums x).toList = x.map fun n => UInt8.ofNat n.toNat := by
  unfold strOfNums
  rw [Lib.toList_data]
theorem str_gt_is {x y : List Int} (hx : AllBytes x) (hy : AllBytes y) : (!Op.bytesLess (strOfNums x).toList (strOfNums y).toList && !((strOfNums x).toList == (strOfNums y).toList)) = kless y x := by
  rw [str_list, str_list, bytesLess_is hx hy, strs_eq hx hy]
  cases h1 : kless x y with
  | true => rw [kless_asymm h1]; rfl
  | false =>
    by_cases h2 : x = y
    · subst h2
      rw [h1]
      simp
    · cases h3 : kless y x with
      | true => simp [h2]
      | false => exact absurd (kless_total _ _ h1 h3) h2
/-- a key's bytes as a string -/
theorem conv_key (w : World) (a : Addr) (c : Nat) {x : List Int} (hx : x.length = 32) (hc : ∀ j u, (bv x)[j]? = some u → w.cell? (a.add j) = some u) :
    (convert 23 9 (.slice (some a) 32 c)).run Tryd.prog w = .ok (.string (strOfNums x)) w := by
  have hl : (loadCells a 32).run Tryd.prog w = .ok (x.map (Value.int .u8)).toArray w := by
    have := run_loadCells_list (P := Tryd.prog) w a (x.map (Value.int .u8)) hc
    simpa [hx] using this
  rw [run_convert_bytes_string w _ _ 5 _ 32 c Tryd.underlying23 Tryd.underlying5 Tryd.underlying9, run_bytesToString w _ 32 c x hl, foldl_push_bytes]
  simp [strOfNums, ByteArray.empty, ByteArray.emptyWithCapacity]
  rfl
end Go.Proofs.YtfaefpniiiandaaDoor

/-
  Of part RefPut13: what is needed here.
-/
namespace Go.Proofs.YtfaefpniiiandaaDoor
open Go.RowKit
set_option linter.unusedVariables false
set_option maxRecDepth 100000
theorem built_hold (l r : List Value) (hl : l.length = 32) (hr : r.length = 34) : Tryd.prog.built 64 [(0, .agg l.toArray), (1, .agg r.toArray)] = some (l ++ r).toArray := by
  obtain ⟨f, rfl⟩ : ∃ f : Fin 32 → Value, l = List.ofFn f := ⟨fun i => l.getD i undef, by
    refine List.ext_getElem (by simpa using hl) fun i h1 h2 => ?_
    rw [List.getElem_ofFn, List.getD_eq_getElem?_getD, List.getElem?_eq_getElem h1]
    rfl⟩
  obtain ⟨g, rfl⟩ : ∃ g : Fin 34 → Value, r = List.ofFn g := ⟨fun i => r.getD i undef, by
    refine List.ext_getElem (by simpa using hr) fun i h1 h2 => ?_
    rw [List.getElem_ofFn, List.getD_eq_getElem?_getD, List.getElem?_eq_getElem h1]
    rfl⟩
  kernel_rfl
/-- the list in the making -/
structure PO13 (W V : World) (v : Value) (X : List LHold) : Prop where
  b : Below W.heap.size W V
  own : V.ownsRow W.heap.size 64 66 v X.length (holdsC X)
theorem belowDN {B : Nat} {x V : World} (h : Below B x V) (n : Nat) : Below B x (V.drewN n) := ⟨h.os, h.tape, h.output, h.size, h.block⟩
theorem PO13.drewN {W V : World} {v : Value} {X : List LHold} (h : PO13 W V v X) (n : Nat) : PO13 W (V.drewN n) v X := ⟨belowDN h.b n, own_below h.own (belowDN (Below.refl _ _) n)⟩
/-- one more -/
theorem PO13.add {W V V' : World} {v v' : Value} {X : List LHold} {x : LHold} {o : Obj} (h : PO13 W V v X) (ho : V'.ownsRow W.heap.size 64 66 v' (X.length + 1) (holdsC X ++ x.cells)) (hg : Grew (V.alloc o) V' v v') : PO13 W V' v' (X ++ [x]) := by
  have h1 := h.own.lt
  refine ⟨(h.b.alloc h.b.size o).grown hg.grown (Nat.le_trans h.b.size (by simp)) (fun k hk => (h1 k hk).1), ?_⟩
  rw [List.length_append, holdsC_snoc]
  exact ho
theorem PO13.lit {W V : World} {v : Value} {X : List LHold} (h : PO13 W V v X) (o : Obj) : (V.alloc o).ownsRow W.heap.size 64 66 v X.length (holdsC X) := own_below h.own ((Below.refl _ _).alloc (Nat.le_refl _) o)
theorem lit_sees (V : World) (x : LHold) (h : x.cells.length = 66) : Sees (V.alloc (.cells x.cells.toArray 64)) (V.alloc (.cells x.cells.toArray 64)).heap.size (some ⟨V.heap.size, 0, none⟩) (1 * 66) x.cells := by
  have := (Row.new V 64 x.cells).sees0
  rwa [h] at this
def ins13 (k : List Int) (a : LAcc) (put : Bool) (x : LHold) : List LHold := if !put && kless k x.k then [⟨k, a⟩] else []
def keep13 (k : List Int) (x : LHold) : List LHold := if x.k = k then [] else [x]
theorem drop_at {L : List LHold} {j : Nat} {y : LHold} (h : L[j]? = some y) : L.drop j = y :: L.drop (j + 1) := by
  obtain ⟨hj, rfl⟩ := List.getElem?_eq_some_iff.1 h
  exact List.drop_eq_getElem_cons hj
/-- what stays below -/
structure PC13 (W : World) (pb g f n c : Nat) (A : Option Addr) (k : List Int) (a : LAcc) (L : List LHold) : Prop where
  row : Row W pb 92 [.slice A n c]
  hh : HoldsIn W W.heap.size A n L
  rk : Row W g 57 (bv k)
  ra : Row W f 59 a.cells
theorem PC13.at_ {W V : World} {pb g f n c : Nat} {A : Option Addr} {k : List Int} {a : LAcc} {L : List LHold} (h : PC13 W pb g f n c A k a L) (hb : Below W.heap.size W V) : Row V pb 92 [.slice A n c] ∧ HoldsIn V W.heap.size A n L ∧ Row V g 57 (bv k) ∧ Row V f 59 a.cells :=
  ⟨h.row.below hb h.row.lt, h.hh.below hb, h.rk.below hb h.rk.lt, h.ra.below hb h.ra.lt⟩
def RPutDone13 (w : World) (pb base : Nat) (L : List LHold) (k : List Int) (a : LAcc) (e : Ending) (w' : World) : Prop := e = .returned (.tuple #[]) ∧ ∃ v', RS13 w' pb base v' (putH L k a) ∧ w.grownBy w' (some pb)
theorem PO13.done {w W V : World} {pb g f n c base : Nat} {A : Option Addr} {u : Value} {X L : List LHold} {k : List Int} {a : LAcc} (h : PO13 W V u X) (ct : PC13 W pb g f n c A k a L) (hb : Below w.heap.size w W) (hpb : pb < w.heap.size) (hbase : base ≤ w.heap.size) (hs : Sto L) (hk : k.length = 32 ∧ AllBytes k) (ha : AccOk a) (he : X = putH L k a) :
    ∃ v', RS13 (V.setCell ⟨pb, 0, none⟩ u) pb base v' (putH L k a) ∧ w.grownBy (V.setCell ⟨pb, 0, none⟩ u) (some pb) := by
  have hr := (ct.at_ h.b).1
  have ht := turned_setCell V ⟨pb, 0, none⟩ u
  refine ⟨u, ⟨hr.set_ 0 u, ?_, hs.put hk ha⟩, gb_turned (gb_of _ (hb.trans (h.b.mono hb.size))) ht (.inr rfl)⟩
  rw [← he]
  exact own_baseR (own_turned h.own hr (by decide) ht) (Nat.le_trans hbase hb.size)
set_option maxHeartbeats 16000000 in
theorem refPut13 (pb base : Nat) (v : Value) (L : List LHold) (k : List Int) (a : LAcc) (w : World) (hs : RS13 w pb base v L) (hk : k.length = 32 ∧ AllBytes k) (ha : AccOk a) (hL : L.length ≤ 5000) (hbase : base ≤ w.heap.size) : Calls Tryd.prog 30 #[.pointer (some ⟨pb, 0, none⟩), .agg (bv k).toArray, .agg a.cells.toArray] w (RPutDone13 w pb base L k a) := by
  have hbw := ((Below.refl w.heap.size w).alloc (Nat.le_refl _) (.cells (bv k).toArray 57)).alloc (by simp) (.cells a.cells.toArray 59)
  have hs1 := hs.below hbw
  obtain ⟨A, c, rfl, hh, hlc, hcm⟩ := hs1.form
  have hrk := (Row.new w 57 (bv k)).alloc (.cells a.cells.toArray 59)
  have hra := Row.new' (w.alloc (.cells (bv k).toArray 57)) 59 a.cells (g := w.heap.size + 1) (by simp)
  have CT0 := Lib.hid (show PC13 _ pb w.heap.size (w.heap.size + 1) L.length c A k a L from ⟨hs1.row, hh, hrk, hra⟩)
  have HSTO := Lib.hid hs1.sto
  have HSZ : Hid ((Tryd.prog.info? 57).map (·.size) = some (bv k).length) := Lib.hid (by rw [size_key, bv_length, hk.1])
  have HSA := Lib.hid (size_acc ha.o.1)
  have HK := Lib.hid hk
  have HA := Lib.hid ha
  have HBW := Lib.hid hbw
  have HPL := Lib.hid hs.row.lt
  have HBASE := Lib.hid hbase
  have NB := fun w => acc_eql ha.o.1 (y := blank13) rfl w
  have HNB := Lib.hid NB
  have HBUI : Hid (Tryd.prog.built 64 [(0, .agg (bv k).toArray), (1, .agg a.cells.toArray)] = some (LHold.cells ⟨k, a⟩).toArray) := Lib.hid (built_hold (bv k) a.cells (by rw [bv_length, hk.1]) (acc_len ha.o.1))
  have HCK : Hid ((LHold.cells ⟨k, a⟩).length = 66) := Lib.hid (hold_len (x := ⟨k, a⟩) hk.1 ha.o.1)
  clear NB hs hs1 hh hrk hra hbw hk ha hbase
  obtain ⟨f, hf⟩ : ∃ f, f = w.heap.size + 1 := ⟨_, rfl⟩
  obtain ⟨g, hg⟩ : ∃ g, g = w.heap.size := ⟨_, rfl⟩
  obtain ⟨n, hn⟩ : ∃ n, n = L.length := ⟨_, rfl⟩
  have HF : Hid (w.heap.size + 1 = f) := Lib.hid hf.symm
  have HG : Hid (w.heap.size = g) := Lib.hid hg.symm
  have HNL : Hid (L.length = n) := Lib.hid hn.symm
  have CT : Hid (PC13 ((w.alloc (.cells (bv k).toArray 57)).alloc (.cells a.cells.toArray 59)) pb g f n c A k a L) := Lib.hid (by rw [hf, hg, hn]; exact CT0.out)
  rw [← hn] at hlc hL
  clear hf hg hn CT0
  unfold maxLen at hcm
  generalize hWW : (w.alloc (.cells (bv k).toArray 57)).alloc (.cells a.cells.toArray 59) = W at *
  have HWW := Lib.hid hWW
  clear hWW
  have NB := HNB.out
  go_enter Tryd.func30, Tryd.ntmps30
  go_upto_region 1 with fail
  rw [HWW.out, HF.out, HG.out]
  clear HWW HF HG
  go_upto_region 3 with (first
    | ((with_reducible show wpList _ _ _ ({ dst := some 9, op := Op.load _ _, type := _, pos := _, after := _, guard := _ } :: _) _ _); go_must (refine wpList_load_whole rfl 59 (.tmp 5) rfl f 59 a.cells _ Tryd.underlying59 rfl HSA.out CT.out.ra ?_ ?_; go_simp))
    | ((with_reducible show wpList _ _ _ ({ dst := some 10, op := Op.build _ _, type := _, pos := _, after := _, guard := _ } :: _) _ _); go_must (refine wpList_plain rfl fun K hK => wp_built _ _ _ rfl (by simp only [List.map_toArray, List.map_nil]; exact built_blank) (hK _ _ ?_))))
  clear NB
  go_wp2_with fail
  go_loopw [6, 7, 8] (fun s6 s7 i wr => ∃ (j : Nat) (X : List LHold) (put : Bool), j ≤ n ∧ i = .int .i64 j ∧ s7 = .bool put ∧ PO13 W wr s6 X ∧ X.length ≤ 2 * j ∧ Hid (X ++ putG k a put (L.drop j) = putH L k a)) (fun _ _ i _ => n - (intOf i).toNat)
  case atStart => exact ⟨0, [], _, Nat.zero_le _, rfl, rfl, ⟨Below.refl _ _, own_nilN _ _ _ _⟩, by simp, Lib.hid rfl⟩
  case round =>
    obtain ⟨j, X, put, hj, rfl, rfl, hpo, hxl, HX⟩ := hrel
    have PO := Lib.hid hpo
    clear hpo
    have hc0 := (CT.out.at_ PO.out.b).1.cell 0
    by_cases hlt : j < n
    · have hlt' : (j : Int) < n := by omega
      obtain ⟨ad, y, hadr, hab, hy, hok, hcy⟩ := CT.out.hh.get hlt
      have HCH : Hid (∀ V, Below W.heap.size W V → ∀ j' u, y.cells[j']? = some u → V.cell? ((ad.add (j * 66)).add j') = some u) := Lib.hid fun V hV j' u hu => by
        rw [hV.cell (by rw [addr_block, addr_block]; exact hab)]
        exact hcy j' u hu
      have HCK2 : Hid (∀ V, Below W.heap.size W V → ∀ j' u, (bv y.k)[j']? = some u → V.cell? ((ad.add (j * 66)).add j') = some u) := Lib.hid fun V hV j' u hu => HCH.out V hV j' u (hold_k hu)
      have HOK := Lib.hid hok
      have HDR : Hid (putG k a put (L.drop j) = ins13 k a put y ++ (keep13 k y ++ putG k a (put || kless k y.k) (L.drop (j + 1)))) := Lib.hid (by rw [drop_at hy]; rfl)
      have HSY : Hid ((Tryd.prog.info? 57).map (·.size) = some (bv y.k).length) := Lib.hid (by rw [size_key, bv_length, hok.k.1])
      have HSH := Lib.hid (size_hold hok.k.1 hok.a.o.1)
      have HYC : Hid (y.cells.length = 66) := Lib.hid (hold_len hok.k.1 hok.a.o.1)
      subst hadr
      clear hab hcy hy hok
      go_upto_if 36 with fail
      go_cut [36] (fun s36 wx => s36 = .bool (!put && kless k y.k) ∧ ∃ q, wx = wr.drewN q)
      case first =>
        cases put with
        | true =>
          go_wp2_with fail
          go_quiet (fail)
          go_wp2_with fail
          go_meet
          exact ⟨rfl, _, rfl⟩
        | false =>
          have NC1 := fun q => conv_key (wr.drewN q) (ad.add (j * 66)) 32 HOK.out.k.1 (HCK2.out _ (belowDN PO.out.b q))
          have NC2 := fun q => conv_key (wr.drewN q) ⟨g, 0, none⟩ 32 HK.out.1 (fun j u hu => by rw [addr_row, Nat.zero_add]; exact ((CT.out.at_ (belowDN PO.out.b q)).2.2.1.cell j).trans hu)
          go_wp2_with fail
          go_quiet (fail)
          go_wp2_with fail
          go_meet
          exact ⟨by rw [str_gt_is HOK.out.k.2 HK.out.2]; rfl, _, rfl⟩
      case rest =>
      obtain ⟨hs36, q, rfl⟩ := hcut
      have PO1 := Lib.hid (PO.out.drewN q)
      clear PO hc0
      generalize wr.drewN q = wq at *
      go_upto_if 36 with fail
      go_cut [6, 7] (fun s6 s7 wx => ∃ X2, PO13 W wx s6 X2 ∧ s7 = .bool (put || kless k y.k) ∧ X2.length ≤ 2 * j + 1 ∧ Hid (X2 = X ++ ins13 k a put y))
      case first =>
        cases put with
        | true =>
          have h36 : u36 = .bool false := hs36
          subst h36
          clear hs36
          go_wp2_with fail
          go_meet
          exact ⟨X, PO1.out, rfl, by omega, Lib.hid (by unfold ins13; simp)⟩
        | false =>
          cases hkl : kless k y.k with
          | true =>
            have HKL := Lib.hid hkl
            have h36 : u36 = .bool true := by rw [hs36, hkl]; rfl
            subst h36
            clear hkl hs36
            go_wp2_with (first
              | ((with_reducible show wpList _ _ _ ({ dst := some 38, op := Op.load 57 _, type := _, pos := _, after := _, guard := _ } :: _) _ _); go_must (refine wpList_load_whole rfl 57 (.tmp 4) rfl g 57 (bv k) _ Tryd.underlying57 rfl HSZ.out (CT.out.at_ PO1.out.b).2.2.1 ?_ ?_; go_simp))
              | ((with_reducible show wpList _ _ _ ({ dst := some 39, op := Op.load 59 _, type := _, pos := _, after := _, guard := _ } :: _) _ _); go_must (refine wpList_load_whole rfl 59 (.tmp 5) rfl f 59 a.cells _ Tryd.underlying59 rfl HSA.out (CT.out.at_ PO1.out.b).2.2.2 ?_ ?_; go_simp))
              | ((with_reducible show wpList _ _ _ ({ dst := some 40, op := Op.build _ _, type := _, pos := _, after := _, guard := _ } :: _) _ _); go_must (refine wpList_plain rfl fun K hK => wp_built _ _ _ rfl (by simp only [List.map_toArray, List.map_cons, List.map_nil]; exact HBUI.out) (hK _ _ ?_)))
              | ((with_reducible show wpList _ _ _ ({ dst := some 41, op := Op.buildSlice _ _ _, type := _, pos := _, after := _, guard := _ } :: _) _ _); go_must (refine wpList_buildOne rfl 22 64 (.tmp 40) rfl (LHold.cells ⟨k, a⟩) _ 66 80 Tryd.underlying22 infoHo zszHo (by omega) (by omega) HCK.out ?_ ?_; go_simp))
              | ((with_reducible show wpList _ _ _ ({ dst := some 42, op := Op.call _, type := _, pos := _, after := _, guard := _ } :: _) _ _); go_must (refine wpList_appendN rfl (.tmp 37) (.tmp 41) 22 64 _ 66 80 rfl Tryd.underlying22 infoHo zszHo (by omega) u6 X.length (holdsC X) W.heap.size _ _ 1 1 (LHold.cells ⟨k, a⟩) ?_ (PO1.out.lit _) ?_ (lit_sees _ ⟨k, a⟩ HCK.out) (hold_one _) (by unfold maxLen; omega) (by omega) (Nat.le_trans PO1.out.b.size (by simp)) ?_; go_simp; go_simp; intro v8 w8 ho8 hg8; have PO8 := Lib.hid (PO1.out.add ho8 hg8); clear ho8 hg8)))
            go_meet
            exact ⟨_, PO8.out, by rw [HKL.out]; rfl, by rw [List.length_append, List.length_singleton]; omega, Lib.hid (by unfold ins13; rw [HKL.out]; rfl)⟩
          | false =>
            have HKL := Lib.hid hkl
            have h36 : u36 = .bool false := by rw [hs36, hkl]; rfl
            subst h36
            clear hkl hs36
            go_wp2_with fail
            go_meet
            exact ⟨X, PO1.out, by rw [HKL.out]; rfl, by omega, Lib.hid (by unfold ins13; rw [HKL.out]; simp)⟩
      case rest =>
        obtain ⟨X2, hpo, rfl, hxl2, HX2⟩ := hcut
        have PO2 := Lib.hid hpo
        clear hpo PO1
        have hc1 := (CT.out.at_ PO2.out.b).1.cell 0
        have NK := fun w => key_neq HOK.out.k.1 HK.out.1 w
        have HCKW := Lib.hid (HCK2.out wc PO2.out.b)
        have HRK := Lib.hid (CT.out.at_ PO2.out.b).2.2.1
        by_cases hyk : y.k = k
        · rw [decide_eq_true hyk] at NK
          have HKP : Hid (keep13 k y = []) := Lib.hid (if_pos hyk)
          clear hyk
          go_wp2_with fail
          refine wp_region_quiet_lit (by kernel_rfl) (by kernel_rfl) ?_
          repeat (first
            | ((with_reducible show wpQuiet _ _ _ _ ({ dst := some 50, op := Op.load 57 _, type := _, pos := _, after := _, guard := _ } :: _) _); go_must (refine quiet_load_at (by kernel_rfl) 57 (.tmp 49) rfl (ad.add (j * 66)) (bv y.k) _ Tryd.underlying57 rfl HSY.out (by rintro _ ⟨nq, rfl⟩; exact HCKW.out) ?_ ?_; go_simp; go_simp))
            | ((with_reducible show wpQuiet _ _ _ _ ({ dst := some 51, op := Op.load 57 _, type := _, pos := _, after := _, guard := _ } :: _) _); go_must (refine quiet_load_at (by kernel_rfl) 57 (.tmp 4) rfl ⟨g, 0, none⟩ (bv k) _ Tryd.underlying57 rfl HSZ.out (by rintro _ ⟨nq, rfl⟩; intro j u hu; rw [addr_row, Nat.zero_add]; exact (HRK.out.cell j).trans hu) ?_ ?_; go_simp; go_simp))
            | go_big_quiet_step (fail))
          refine wpQuiet_nil ?_
          intro nq
          clear NK
          have PO3 := Lib.hid (PO2.out.drewN nq)
          go_wp2_with fail
          go_roundw
          case rel => exact ⟨j + 1, X2, _, by omega, by go_num, rfl, PO3.out, by omega, Lib.hid (by rw [← HX.out, HDR.out, HKP.out, HX2.out, List.nil_append, List.append_assoc])⟩
          case measure => simp [intOf]; omega
        · rw [decide_eq_false hyk] at NK
          have HKP : Hid (keep13 k y = [y]) := Lib.hid (if_neg hyk)
          clear hyk
          go_wp2_with fail
          refine wp_region_quiet_lit (by kernel_rfl) (by kernel_rfl) ?_
          repeat (first
            | ((with_reducible show wpQuiet _ _ _ _ ({ dst := some 50, op := Op.load 57 _, type := _, pos := _, after := _, guard := _ } :: _) _); go_must (refine quiet_load_at (by kernel_rfl) 57 (.tmp 49) rfl (ad.add (j * 66)) (bv y.k) _ Tryd.underlying57 rfl HSY.out (by rintro _ ⟨nq, rfl⟩; exact HCKW.out) ?_ ?_; go_simp; go_simp))
            | ((with_reducible show wpQuiet _ _ _ _ ({ dst := some 51, op := Op.load 57 _, type := _, pos := _, after := _, guard := _ } :: _) _); go_must (refine quiet_load_at (by kernel_rfl) 57 (.tmp 4) rfl ⟨g, 0, none⟩ (bv k) _ Tryd.underlying57 rfl HSZ.out (by rintro _ ⟨nq, rfl⟩; intro j u hu; rw [addr_row, Nat.zero_add]; exact (HRK.out.cell j).trans hu) ?_ ?_; go_simp; go_simp))
            | go_big_quiet_step (fail))
          refine wpQuiet_nil ?_
          intro nq
          clear NK
          have PO3 := Lib.hid (PO2.out.drewN nq)
          have hc2 := (CT.out.at_ PO3.out.b).1.cell 0
          have HCH3 := Lib.hid (HCH.out _ PO3.out.b)
          go_wp2_with (first
            | ((with_reducible show wpList _ _ _ ({ dst := some 60, op := Op.load 64 _, type := _, pos := _, after := _, guard := _ } :: _) _ _); go_must (refine wpList_load_at rfl 64 (.tmp 59) rfl (ad.add (j * 66)) y.cells _ Tryd.underlying64 rfl HSH.out HCH3.out ?_ ?_; go_simp))
            | ((with_reducible show wpList _ _ _ ({ dst := some 61, op := Op.buildSlice _ _ _, type := _, pos := _, after := _, guard := _ } :: _) _ _); go_must (refine wpList_buildOne rfl 22 64 (.tmp 60) rfl y.cells _ 66 80 Tryd.underlying22 infoHo zszHo (by omega) (by omega) HYC.out ?_ ?_; go_simp))
            | ((with_reducible show wpList _ _ _ ({ dst := some 62, op := Op.call _, type := _, pos := _, after := _, guard := _ } :: _) _ _); go_must (refine wpList_appendN rfl (.tmp 53) (.tmp 61) 22 64 _ 66 80 rfl Tryd.underlying22 infoHo zszHo (by omega) u6 X2.length (holdsC X2) W.heap.size _ _ 1 1 (LHold.cells y) ?_ (PO3.out.lit _) ?_ (lit_sees _ y HYC.out) (hold_one _) (by unfold maxLen; omega) (by omega) (Nat.le_trans PO3.out.b.size (by simp)) ?_; go_simp; go_simp; intro v8 w8 ho8 hg8; have PO8 := Lib.hid (PO3.out.add ho8 hg8); clear ho8 hg8)))
          go_roundw
          case rel => exact ⟨j + 1, _, _, by omega, by go_num, rfl, PO8.out, by rw [List.length_append, List.length_singleton]; omega, Lib.hid (by rw [← HX.out, HDR.out, HKP.out, HX2.out, List.append_assoc, List.append_assoc])⟩
          case measure => simp [intOf]; omega
    · have hlt' : ¬ (j : Int) < n := by omega
      have HD : Hid (L.drop j = []) := Lib.hid (List.drop_eq_nil_of_le (by rw [HNL.out]; omega))
      have HXX := Lib.hid HX.out
      rw [HD.out] at HXX
      have hf0 := (CT.out.at_ PO.out.b).1.frozen 0
      cases put with
      | true =>
        have HE : Hid (X = putH L k a) := Lib.hid (by rw [← HXX.out]; simp [putG])
        obtain ⟨A6, c6, hv6, _⟩ := own_form2 PO.out.own
        subst hv6
        go_wp2_with fail
        refine bodyPost_end (results_none rfl _ _ _) rfl ?_
        exact ⟨rfl, PO.out.done CT.out HBW.out HPL.out HBASE.out HSTO.out HK.out HA.out HE.out⟩
      | false =>
        have HE : Hid (X ++ [⟨k, a⟩] = putH L k a) := Lib.hid (by rw [← HXX.out]; simp [putG])
        go_upto_region 12 with fail
        go_upto_region 13 with (first
          | ((with_reducible show wpList _ _ _ ({ dst := some 66, op := Op.load 57 _, type := _, pos := _, after := _, guard := _ } :: _) _ _); go_must (refine wpList_load_whole rfl 57 (.tmp 4) rfl g 57 (bv k) _ Tryd.underlying57 rfl HSZ.out (CT.out.at_ PO.out.b).2.2.1 ?_ ?_; go_simp))
          | ((with_reducible show wpList _ _ _ ({ dst := some 67, op := Op.load 59 _, type := _, pos := _, after := _, guard := _ } :: _) _ _); go_must (refine wpList_load_whole rfl 59 (.tmp 5) rfl f 59 a.cells _ Tryd.underlying59 rfl HSA.out (CT.out.at_ PO.out.b).2.2.2 ?_ ?_; go_simp))
          | ((with_reducible show wpList _ _ _ ({ dst := some 68, op := Op.build _ _, type := _, pos := _, after := _, guard := _ } :: _) _ _); go_must (refine wpList_plain rfl fun K hK => wp_built _ _ _ rfl (by simp only [List.map_toArray, List.map_cons, List.map_nil]; exact HBUI.out) (hK _ _ ?_)))
          | ((with_reducible show wpList _ _ _ ({ dst := some 69, op := Op.buildSlice _ _ _, type := _, pos := _, after := _, guard := _ } :: _) _ _); go_must (refine wpList_buildOne rfl 22 64 (.tmp 68) rfl (LHold.cells ⟨k, a⟩) _ 66 80 Tryd.underlying22 infoHo zszHo (by omega) (by omega) HCK.out ?_ ?_; go_simp))
          | ((with_reducible show wpList _ _ _ ({ dst := some 70, op := Op.call _, type := _, pos := _, after := _, guard := _ } :: _) _ _); go_must (refine wpList_appendN rfl (.tmp 65) (.tmp 69) 22 64 _ 66 80 rfl Tryd.underlying22 infoHo zszHo (by omega) u6 X.length (holdsC X) W.heap.size _ _ 1 1 (LHold.cells ⟨k, a⟩) ?_ (PO.out.lit _) ?_ (lit_sees _ ⟨k, a⟩ HCK.out) (hold_one _) (by unfold maxLen; omega) (by omega) (Nat.le_trans PO.out.b.size (by simp)) ?_; go_simp; go_simp; intro v8 w8 ho8 hg8; have PO8 := Lib.hid (PO.out.add ho8 hg8); clear ho8 hg8)))
        have hc2 := (CT.out.at_ PO8.out.b).1.cell 0
        have hf2 := (CT.out.at_ PO8.out.b).1.frozen 0
        obtain ⟨A6, c6, hv6, _⟩ := own_form2 PO8.out.own
        subst hv6
        go_wp2_with fail
        refine bodyPost_end (results_none rfl _ _ _) rfl ?_
        have hd := PO8.out.done CT.out HBW.out HPL.out HBASE.out HSTO.out HK.out HA.out HE.out
        rw [show (X ++ [(⟨k, a⟩ : LHold)]).length = X.length + 1 by simp] at hd
        exact ⟨rfl, hd⟩
end Go.Proofs.YtfaefpniiiandaaDoor

/-
  Of part Range13: what is needed here.
-/
namespace Go.Proofs.YtfaefpniiiandaaDoor
open Go.RowKit Go.Maps
set_option linter.unusedVariables false
set_option maxRecDepth 100000
theorem nodup_le13 {α : Type} [DecidableEq α] : ∀ {l m : List α}, l.Nodup → (∀ x ∈ l, x ∈ m) → l.length ≤ m.length
  | [], _, _, _ => Nat.zero_le _
  | x :: l, m, hd, h => by
    have hd' := List.nodup_cons.1 hd
    have h1 := nodup_le13 (m := m.erase x) hd'.2 fun y hy => (List.mem_erase_of_ne (fun e => hd'.1 (by rw [← e]; exact hy))).2 (h y (List.mem_cons_of_mem _ hy))
    have h2 := List.length_erase_of_mem (h x List.mem_cons_self)
    have h3 : 0 < m.length := List.length_pos_of_mem (h x List.mem_cons_self)
    simp only [List.length_cons]
    omega
/-- the range is under way: vs have come -/
def RV13 (w : World) (mb rr : Nat) (L : List LHold) (D : DataW Unit) (vs : List (List Int)) : Prop :=
  ∃ (left : Lit → Bool) (cnt : Nat), w.ranges Tryd.prog 57 accE mb rr L.length D left cnt ∧ (∀ kl, left kl = true → Go.Maps.has D kl = true) ∧ (∀ x ∈ ks13 L, left (KL x) = decide (x ∉ vs)) ∧ vs.Nodup ∧ (∀ x ∈ vs, x ∈ ks13 L)
section
variable {w w' : World} {mb rr : Nat} {L : List LHold} {D : DataW Unit} {vs : List (List Int)}
theorem RV13.start (h : w.ranges Tryd.prog 57 accE mb rr L.length D (Go.Maps.has D) (Go.Maps.size D)) (had : AD D (ks13 L) (getH L)) : RV13 w mb rr L D [] :=
  ⟨_, _, h, fun _ h => h, fun x hx => by rw [had.has_key (had.ok x hx).1, decide_eq_true hx]; simp, List.nodup_nil, by simp⟩
theorem RV13.kept (h : RV13 w mb rr L D vs) {row : Option Nat} (hg : w.grownBy w' row) (hb : some mb ≠ row) (hr : some rr ≠ row) : RV13 w' mb rr L D vs ∧ w'.rangeLeft mb rr = w.rangeLeft mb rr := by
  obtain ⟨left, cnt, h1, h2⟩ := h
  have h3 := h1.kept hg hb hr
  exact ⟨⟨left, cnt, h3, h2⟩, by rw [h1.left_eq, h3.left_eq]⟩
theorem RV13.len (h : RV13 w mb rr L D vs) : vs.length ≤ L.length := by
  obtain ⟨_, _, _, _, _, h1, h2⟩ := h
  have := nodup_le13 h1 h2
  rwa [ks13_len] at this
theorem RV13.nodup (h : RV13 w mb rr L D vs) : vs.Nodup := by
  obtain ⟨_, _, _, _, _, h1, _⟩ := h
  exact h1
/-- the range's step -/
theorem wpList_next13 {ops : Array Oper} {rest : List Oper} {o : Oper} {a : Act} {Q : Exit → Act → World → Prop} (hg : o.guard = none) (it : Operand) (hop : o.op = Op.next it false)
    (hit : a.eval it = .pointer (some ⟨rr, 0, none⟩)) (hs : Sto L) (h : RV13 w mb rr L D vs) (had : AD D (ks13 L) (getH L))
    (hDone : vs.Perm (ks13 L) → wpList Tryd.prog ops Q rest (a.put o.dst (.tuple #[.bool false])) w)
    (hMore : ∀ (k : List Int) (w' : World), k ∈ ks13 L → k ∉ vs → RV13 w' mb rr L D (k :: vs) → w'.rangeLeft mb rr < w.rangeLeft mb rr → w.grownBy w' (some rr) → w'.heap.size = w.heap.size →
      (Instr.entry (.pointer (some ⟨rr, 0, none⟩))).run Tryd.prog w' = .ok (.tuple #[.agg (bv k).toArray, .agg (getH L k).cells.toArray]) w' → wpList Tryd.prog ops Q rest (a.put o.dst (.tuple #[.bool true, .agg (bv k).toArray, .agg (getH L k).cells.toArray])) w') :
    wpList Tryd.prog ops Q (o :: rest) a w := by
  obtain ⟨left, cnt, hrg, hlf, hlk, hnd, hsub⟩ := h
  refine wpList_next_acc hg it hop mb rr L.length D (ks13 L) (getH L) left cnt hit hrg had hlf (fun _ hl => hDone ?_) (fun k w' cnt' hk hlk1 hrg1 hlt hgr hsz hen => ?_)
  · refine (List.perm_ext_iff_of_nodup hnd (ks13_nodup hs.rise)).2 fun x => ⟨hsub x, fun hx => ?_⟩
    have := hlk x hx
    rw [hl] at this
    simpa using this.symm
  · have hnv : k ∉ vs := by have := hlk k hk; rw [hlk1] at this; simpa using this.symm
    refine hMore k w' hk hnv ⟨_, cnt', hrg1, fun kl hkl => hlf kl (by simp at hkl; exact hkl.1), left_strike had hlk hk, List.nodup_cons.2 ⟨hnv, hnd⟩, fun x hx => ?_⟩ (by rw [hrg.left_eq, hrg1.left_eq]; exact hlt) hgr hsz hen
    rcases List.mem_cons.1 hx with rfl | hx
    · exact hk
    · exact hsub x hx
end
end Go.Proofs.YtfaefpniiiandaaDoor

/-
  Of part Coins14: what is needed here.
-/
namespace Go.Proofs.YtfaefpniiiandaaDoor
open Go.RowKit
set_option linter.unusedVariables false
set_option maxRecDepth 100000
theorem chk_ok {m : Bool} {x : LRole} (h : chk14 m x = 0) : (m = true → x.sg = true) ∧ x.wr = true := by
  unfold chk14 at h
  split at h
  · cases h
  rename_i h1
  split at h
  · cases h
  rename_i h2
  exact ⟨fun e => by subst e; simpa using h1, by simpa using h2⟩
theorem plc_chk {x : LAsk} {r : List LRole} {acc : List Int} (h : plc14 x r acc = 0) : chk14 true (rol14 r (acc.getD 0 0)) = 0 ∧ (two14 x → chk14 (decide (x.tag = 0)) (rol14 r (acc.getD 1 0)) = 0) := by
  unfold plc14 at h
  split at h
  · cases h
  split at h
  · cases h
  split at h
  · rename_i h1
    exact absurd h h1
  rename_i h1
  refine ⟨Classical.not_not.1 h1, fun h2 => ?_⟩
  rwa [if_pos h2] at h
/-- what a call that went well did -/
structure Went (l : List LAcc) (r : List LRole) (R : Res14) (a b : Nat) : Prop where
  len : l.length = r.length
  an : a < l.length
  bn : b < l.length
  d : Deed l R.l R.n a b true (rol14 r b).sg
  wa : (rol14 r a).wr = true
  wb : (rol14 r b).wr = true
  sa : (rol14 r a).sg = true
theorem do_went {l : List LAcc} {r : List LRole} {acc dat : List Int} (hl : ∀ a ∈ l, AccOk a) (hd : AllBytes dat) (hb : AllBytes acc) (h : (do14 l r acc dat).e = 0) : ∃ a b, Went l r (do14 l r acc dat) a b := by
  by_cases hn : l.length = r.length
  rotate_left
  · unfold do14 at h
    rw [if_pos hn] at h
    cases h
  cases hdat : dat14 dat with
  | none =>
    unfold do14 at h
    rw [if_neg (by omega), hdat] at h
    cases h
  | some x =>
  by_cases hp : plc14 x r acc = 0
  rotate_left
  · unfold do14 at h
    rw [if_neg (by omega), hdat] at h
    dsimp only at h
    rw [if_pos hp] at h
    exact absurd h hp
  obtain ⟨h1, h2⟩ := plc_ok hp
  have h0 : 0 < need14 x := by unfold need14; split <;> omega
  obtain ⟨a, ha, han⟩ := acc_idx (k := 0) hb (by omega) h2
  obtain ⟨b, hbb, hbn⟩ := acc_idx (k := need14 x - 1) hb (by omega) h2
  rw [← hn] at han hbn
  rw [do_is hn hdat hp ha hbb] at h ⊢
  have hx := dat14_ok hd hdat
  obtain ⟨c1, c2⟩ := plc_chk hp
  rw [ha] at c1
  have k1 := chk_ok c1
  refine ⟨a, b, ?_⟩
  by_cases ht : two14 x
  · have hb1 : acc.getD 1 0 = b := by rw [need_two ht] at hbb; exact hbb
    have c3 := c2 ht
    rw [hb1] at c3
    have k2 := chk_ok c3
    have hw : ∀ {R : Res14}, Deed l R.l R.n a b true (rol14 r b).sg → Went l r R a b := fun d => ⟨hn, han, hbn, d, k1.2, k2.2, k1.1 rfl⟩
    apply hw
    unfold deed14 at h ⊢
    rcases ht with ht | ht
    · rw [if_pos ht] at h ⊢
      rw [k2.1 (by rw [ht]; rfl)]
      exact make_deed hl hx han hbn h
    · rw [if_neg (by rw [ht]; decide), if_neg (by rw [ht]; decide), if_pos ht] at h ⊢
      exact move_deed hl hx han hbn h _
  · have hab : (b : Int) = a := by rw [need_one ht] at hbb; rw [← hbb, ← ha]
    have hab : b = a := by exact_mod_cast hab
    subst hab
    have hw : ∀ {R : Res14}, Deed l R.l R.n b b true (rol14 r b).sg → Went l r R b b := fun d => ⟨hn, han, hbn, d, k1.2, k1.2, k1.1 rfl⟩
    apply hw
    unfold deed14 at h ⊢
    unfold two14 at ht
    rw [if_neg (fun e => ht (.inl e))] at h ⊢
    by_cases h1 : x.tag = 1
    · rw [if_pos h1] at h ⊢
      exact assign_deed hl hx b han h _
    · rw [if_neg h1, if_neg (fun e => ht (.inr e))] at h ⊢
      exact space_deed hl hx b han h _
end Go.Proofs.YtfaefpniiiandaaDoor

/-
  Of part RunMath15: what is needed here.
-/
namespace Go.Proofs.YtfaefpniiiandaaDoor
set_option linter.unusedVariables false
/-- on the way, before instruction k -/
structure Go15 (x : LReady) (l : List LAcc) (ln k : Nat) (S : S15) : Prop where
  len : S.now.length = ln
  eq : go15 x (x.tx.m.ins.drop k) k S = go15 x x.tx.m.ins 0 ⟨l, 0, 0⟩
  u : 0 ≤ S.units ∧ S.units ≤ x.u
  s : 0 ≤ S.space ∧ S.space ≤ (k : Int) * 1048576
section
variable {x : LReady} {l : List LAcc} {ln k : Nat} {S S' : S15} {a : LIn} {e : Int}
theorem go15_start (hl : l.length = ln) (hu : 0 ≤ x.u) : Go15 x l ln 0 ⟨l, 0, 0⟩ := ⟨hl, by rw [List.drop_zero], ⟨Int.le_refl _, hu⟩, ⟨Int.le_refl _, by simp⟩⟩
theorem go15_drop (ha : x.tx.m.ins[k]? = some a) : x.tx.m.ins.drop k = a :: x.tx.m.ins.drop (k + 1) := by
  obtain ⟨h, rfl⟩ := List.getElem?_eq_some_iff.1 ha
  exact List.drop_eq_getElem_cons h
theorem Go15.next (h : Go15 x l ln k S) (ha : x.tx.m.ins[k]? = some a) (hs : step15 x k a S = (0, S')) (hl : S'.now.length = ln) (hu : 0 ≤ S'.units ∧ S'.units ≤ x.u) (hsp : 0 ≤ S'.space ∧ S'.space ≤ S.space + 1048576) : Go15 x l ln (k + 1) S' := by
  refine ⟨hl, ?_, hu, hsp.1, ?_⟩
  · rw [← h.eq, go15_drop ha]
    conv => rhs; unfold go15
    rw [hs, if_pos rfl]
  · have := h.s.2
    have e : ((k + 1 : Nat) : Int) * 1048576 = (k : Int) * 1048576 + 1048576 := by omega
    rw [e]
    omega
theorem Go15.bad (h : Go15 x l ln k S) (ha : x.tx.m.ins[k]? = some a) (hs : step15 x k a S = (e, S')) (he : e ≠ 0) (hl : l.length = x.roles.length) (hp : ∀ a ∈ x.tx.m.ins, a.p < (x.roles.length : Int)) : run15 x l = (⟨e, k, S'.units, x.fee, 0, chg15 x.roles l⟩, 0) := by
  have hg : go15 x x.tx.m.ins 0 ⟨l, 0, 0⟩ = (e, (k : Int), S') := by
    rw [← h.eq, go15_drop ha]
    unfold go15
    rw [hs, if_neg he]
  unfold run15
  rw [if_neg (by omega), if_neg (by rintro ⟨b, hb, hc⟩; have := hp b hb; omega), hg, if_neg he]
theorem Go15.done (h : Go15 x l ln k S) (hk : x.tx.m.ins.length ≤ k) (hl : l.length = x.roles.length) (hp : ∀ a ∈ x.tx.m.ins, a.p < (x.roles.length : Int)) : run15 x l = (⟨0, -1, S.units, x.fee, S.space, chg15 x.roles S.now⟩, 0) := by
  have hg : go15 x x.tx.m.ins 0 ⟨l, 0, 0⟩ = (0, -1, S) := by
    rw [← h.eq, List.drop_of_length_le hk]
    rfl
  unfold run15
  rw [if_neg (by omega), if_neg (by rintro ⟨b, hb, hc⟩; have := hp b hb; omega), hg, if_pos rfl]
theorem step15_units (h : x.u < 150 ∨ x.u - 150 < S.units) : step15 x k a S = (20, ⟨S.now, x.u, S.space⟩) := by
  unfold step15
  rw [if_pos h]
theorem step15_bad (h : ¬ (x.u < 150 ∨ x.u - 150 < S.units)) (hb : (k : Int) = x.bad) : step15 x k a S = (21, ⟨S.now, S.units + 150, S.space⟩) := by
  unfold step15
  rw [if_neg h, if_pos hb]
theorem step15_sys (h : ¬ (x.u < 150 ∨ x.u - 150 < S.units)) (hb : ¬ (k : Int) = x.bad) (hp : prog15 x a = k0) (he : (do14 S.now x.roles a.acc a.dat).e = 0) : step15 x k a S = (0, ⟨(do14 S.now x.roles a.acc a.dat).l, S.units + 150, S.space + (do14 S.now x.roles a.acc a.dat).n⟩) := by
  unfold step15
  rw [if_neg h, if_neg hb, if_pos hp, if_pos he]
theorem step15_sysbad (h : ¬ (x.u < 150 ∨ x.u - 150 < S.units)) (hb : ¬ (k : Int) = x.bad) (hp : prog15 x a = k0) (he : ¬ (do14 S.now x.roles a.acc a.dat).e = 0) : step15 x k a S = ((do14 S.now x.roles a.acc a.dat).e, ⟨S.now, S.units + 150, S.space⟩) := by
  unfold step15
  rw [if_neg h, if_neg hb, if_pos hp, if_neg he]
theorem step15_bud (h : ¬ (x.u < 150 ∨ x.u - 150 < S.units)) (hb : ¬ (k : Int) = x.bad) (hp : ¬ prog15 x a = k0) (hq : prog15 x a = k3) : step15 x k a S = (0, ⟨S.now, S.units + 150, S.space⟩) := by
  unfold step15
  rw [if_neg h, if_neg hb, if_neg hp, if_pos hq]
theorem step15_none (h : ¬ (x.u < 150 ∨ x.u - 150 < S.units)) (hb : ¬ (k : Int) = x.bad) (hp : ¬ prog15 x a = k0) (hq : ¬ prog15 x a = k3) : step15 x k a S = (19, ⟨S.now, S.units + 150, S.space⟩) := by
  unfold step15
  rw [if_neg h, if_neg hb, if_neg hp, if_neg hq]
end
end Go.Proofs.YtfaefpniiiandaaDoor

/-
  Of part RefRun15: what is needed here.
-/
namespace Go.Proofs.YtfaefpniiiandaaDoor
open Go.RowKit
set_option linter.unusedVariables false
set_option maxRecDepth 100000
theorem built_out0 : Tryd.prog.built 54 [] = some (out0.cells (.slice none 0 0)).toArray := by kernel_rfl
theorem ycells_39 {q : YRaw} {x : LReady} (h : x.tx.m.recent.length = 32) : (q.cells x)[39]? = some (.slice q.t.q.IA q.t.q.n q.t.q.ic) := ycells_t (j := 38) ((tcells_m 37).trans (cells_37 h))
/-- what is there while it is run -/
structure RX (w V : World) (B g2 g4 : Nat) (q : YRaw) (x : LReady) (LA : Option Addr) (ln : Nat) (l : List LAcc) : Prop where
  b : Below w.heap.size w V
  r2 : Row V g2 41 (q.cells x)
  r4 : Row V g4 54 (out0.cells (.slice none 0 0))
  rd : ReadyIn V B q x
  ac : AccsIn V B LA ln l
theorem RX.below {w V V' : World} {B g2 g4 ln : Nat} {q : YRaw} {x : LReady} {LA : Option Addr} {l : List LAcc} (h : RX w V B g2 g4 q x LA ln l) (hB : B ≤ w.heap.size) (hb : Below V.heap.size V V') : RX w V' B g2 g4 q x LA ln l :=
  ⟨h.b.trans (hb.mono h.b.size), h.r2.below hb h.r2.lt, h.r4.below hb h.r4.lt, h.rd.below (hb.mono (Nat.le_trans hB h.b.size)), h.ac.below (hb.mono (Nat.le_trans hB h.b.size))⟩
theorem arg15 {x : LReady} {l : List LAcc} (h : l.length ≠ x.roles.length) : run15 x l = (out0, 1) := by unfold run15; rw [if_pos h]
theorem prog_bad15 {x : LReady} {l : List LAcc} (h : ∃ a ∈ x.tx.m.ins, (x.roles.length : Int) ≤ a.p) : run15 x l = (out0, 1) := by
  unfold run15
  split
  · rfl
  · first
    | rfl
    | rw [if_pos h]
theorem zero_ins15 : (Tryd.prog.info? 70).map (·.zero) = some (some (.agg (insC 0 none 0 0 none 0 0).toArray)) := by kernel_rfl
theorem ins_one15 {p : Int} {IA D : Option Addr} {n c dn dc : Nat} : ∀ u ∈ insC p IA n c D dn dc, u.oneCell' = true := by
  intro u hu
  simp only [insC, List.mem_cons, List.not_mem_nil, or_false] at hu
  rcases hu with rfl | rfl | rfl <;> rfl
theorem ia_more15 {w : World} {B B' : Nat} {p : Int} {IA : Option Addr} {n c : Nat} {D : Option Addr} {dn dc : Nat} {acc dat : List Int} (h : InsAt14 w B p IA n c D dn dc acc dat) (hB : B ≤ B') : InsAt14 w B' p IA n c D dn dc acc dat :=
  ⟨h.aSees.more hB, h.dSees.more hB, h.ab, h.db, h.ac, h.dc⟩
theorem oa_low15 {w : World} {base base' : Nat} {v : Value} {L : List LAcc} (h : OA14 w base v L) (hb : base' ≤ base) : OA14 w base' v L := by
  obtain ⟨A, c, c', h1, h2, h3, h4⟩ := h.is
  exact ⟨⟨A, c, c', h1, h2, h3, own_baseR h4 hb⟩, h.ok⟩
end Go.Proofs.YtfaefpniiiandaaDoor

/-
  Of part Load15: what is needed here.
-/
namespace Go.Proofs.YtfaefpniiiandaaDoor
open Go.RowKit
set_option linter.unusedVariables false
set_option maxRecDepth 100000
/-! ### pure: who pays, what is loaded -/
def pay15 (L : List LHold) (x : LReady) : Bool := match x.roles with
  | [] => false
  | r :: _ => r.wr && (decide ((getH L r.key).o = k0) && decide (x.fee ≤ (getH L r.key).c))
def ld15 (L : List LHold) (rs : List LRole) : List LAcc := rs.map fun r => getH L r.key
def load15 (L : List LHold) (x : LReady) : List LAcc := (ld15 L x.roles).set 0 ⟨(getA (ld15 L x.roles) 0).c - x.fee, (getA (ld15 L x.roles) 0).o, (getA (ld15 L x.roles) 0).s⟩
/-- the list while it is filled -/
def fill15 (L : List LHold) (rs : List LRole) (k : Nat) : List LAcc := ld15 L (rs.take k) ++ List.replicate (rs.length - k) blank13
theorem fill_zero15 (L : List LHold) (rs : List LRole) : fill15 L rs 0 = List.replicate rs.length blank13 := by
  unfold fill15 ld15
  simp
theorem fill_all15 (L : List LHold) (rs : List LRole) : fill15 L rs rs.length = ld15 L rs := by
  unfold fill15 ld15
  simp
theorem fill_next15 (L : List LHold) {rs : List LRole} {k : Nat} {y : LRole} (h : rs[k]? = some y) : (fill15 L rs k).set k (getH L y.key) = fill15 L rs (k + 1) := by
  obtain ⟨hk, _⟩ := List.getElem?_eq_some_iff.1 h
  have hl : (ld15 L (rs.take k)).length = k := by unfold ld15; rw [List.length_map, List.length_take, Nat.min_eq_left (Nat.le_of_lt hk)]
  have hr : List.replicate (rs.length - k) blank13 = blank13 :: List.replicate (rs.length - (k + 1)) blank13 := by
    rw [show rs.length - k = (rs.length - (k + 1)) + 1 by omega, List.replicate_succ]
  unfold fill15
  rw [List.set_append_right _ _ (by omega), hl, Nat.sub_self, hr, List.set_cons_zero, List.take_add_one, h]
  unfold ld15
  rw [List.map_append, List.append_assoc]
  rfl
theorem ld_ok15 {L : List LHold} (h : Sto L) (rs : List LRole) : ∀ a ∈ ld15 L rs, AccOk a := fun a ha => by
  obtain ⟨r, _, rfl⟩ := List.mem_map.1 ha
  exact h.get_ok _
theorem made_acc15 (n : Nat) : (madeCells (Value.agg blank13.cells.toArray).cells (n * 34)).toList = accsC (List.replicate n blank13) := by
  have hz : (Value.agg blank13.cells.toArray).cells.size = 34 := by kernel_rfl
  have hc : (Value.agg blank13.cells.toArray).cells.toList = blank13.cells := rfl
  generalize (Value.agg blank13.cells.toArray).cells = zc at hz hc
  have hcl : blank13.cells.length = 34 := rfl
  have hlen : (accsC (List.replicate n blank13)).length = n * 34 := by
    rw [accsC_len (fun x hx => by rw [List.eq_of_mem_replicate hx]; exact blank_ok), List.length_replicate]
  have key : ∀ (m i : Nat), i < m * 34 → (accsC (List.replicate m blank13))[i]? = blank13.cells[i % 34]? := by
    intro m
    induction m with
    | zero => intro i hi; omega
    | succ m ih =>
      intro i hi
      have e : accsC (List.replicate (m + 1) blank13) = blank13.cells ++ accsC (List.replicate m blank13) := by
        rw [List.replicate_succ]; unfold accsC; rw [List.map_cons, List.flatten_cons]
      rw [e]
      by_cases h : i < 34
      · rw [List.getElem?_append_left (by rw [hcl]; exact h), Nat.mod_eq_of_lt h]
      · rw [List.getElem?_append_right (by rw [hcl]; omega), hcl, ih (i - 34) (by omega)]
        congr 1
        omega
  apply List.ext_getElem?
  intro i
  by_cases h : i < n * 34
  · rw [key n i h]
    have h34 : i % 34 < 34 := Nat.mod_lt _ (by decide)
    have e1 : (madeCells zc (n * 34)).toList[i]? = some (zc[i % zc.size]!) := by
      simp only [madeCells, Array.toList_map, Array.toList_range]
      rw [List.getElem?_map, List.getElem?_range h]
      rfl
    rw [e1, hz, ← hc, getElem!_pos zc (i % 34) (by rw [hz]; exact h34)]
    simp [hz, h34]
  · rw [List.getElem?_eq_none (show (madeCells zc (n * 34)).toList.length ≤ i by simp [madeCells]; omega), List.getElem?_eq_none (by rw [hlen]; omega)]
theorem noth15 (w : World) : Calls Tryd.prog 36 #[.pointer none] w fun e w' => e = .returned (.bool false) ∧ w = w' := by
  go_enter Tryd.func36, Tryd.ntmps36
  go_wp2_with fail
  go_ret
  exact ⟨rfl, rfl⟩
set_option maxHeartbeats 1000000 in
theorem same_yn15 (sb mb : Nat) (L : List LHold) (V : World) (hs : StIn V sb mb L) : Calls Tryd.prog 24 #[.pointer (some ⟨sb, 0, none⟩), .pointer none] V fun e w' => e = .returned (.bool false) ∧ V = w' := by
  have HT0 := Lib.hid (there13 sb mb L V hs)
  have HT1 := Lib.hid (noth15 V)
  clear hs
  go_enter Tryd.func24, Tryd.ntmps24
  go_wp2_with fail
  refine HT0.out.mono ?_
  rintro e w' ⟨rfl, rfl⟩
  go_wp2_with fail
  refine HT1.out.mono ?_
  rintro e w' ⟨rfl, rfl⟩
  go_wp2_with fail
  refine HT0.out.mono ?_
  rintro e w' ⟨rfl, rfl⟩
  go_wp2_with fail
  refine HT1.out.mono ?_
  rintro e w' ⟨rfl, rfl⟩
  go_wp2_with fail
  go_ret
  exact ⟨rfl, rfl⟩
/-! ### payable -/
set_option maxHeartbeats 4000000 in
theorem payable15 (sb mb : Nat) (L : List LHold) (q : YRaw) (x : LReady) (B : Nat) (w : World) (hs : StIn w sb mb L) (h : ReadyIn w B q x) (hB : B ≤ w.heap.size) (hrn : q.rn ≤ 100000) (hkb : ∀ r ∈ x.roles, AllBytes r.key) :
    Calls Tryd.prog 31 #[.pointer (some ⟨sb, 0, none⟩), .agg (q.cells x).toArray] w fun e w' => e = .returned (.bool (pay15 L x)) ∧ Below w.heap.size w w' := by
  have hb0 := (Below.refl w.heap.size w).alloc (Nat.le_refl _) (.cells (q.cells x).toArray 41)
  have HB0 := Lib.hid hb0
  have H32 := Lib.hid h.tx.m.recent
  have R3 := Lib.hid (Row.new w 41 (q.cells x))
  have S0 := Lib.hid (hs.below hb0)
  have RR := Lib.hid ((h.rs.below (hb0.mono hB)))
  have HLB := Lib.hid (Nat.le_trans hB hb0.size)
  have HKB := Lib.hid hkb
  obtain ⟨g3, hg3⟩ : ∃ g, g = w.heap.size := ⟨_, rfl⟩
  have HG3 : Hid (w.heap.size = g3) := Lib.hid hg3.symm
  rw [← hg3] at R3
  clear hg3 hb0 hs h hB hkb
  generalize hW : w.alloc (.cells (q.cells x).toArray 41) = W at *
  have HW := Lib.hid hW
  clear hW
  have c41 : W.cell? ⟨g3, 41, none⟩ = some (.slice q.RA q.rn q.rc) := (R3.out.cell 41).trans (ycells_41 H32.out 0)
  cases hx : x.roles with
  | nil =>
    have hn0 : q.rn = 0 := by rw [← RR.out.len, hx]; rfl
    rw [hn0] at c41
    have HP : Hid (pay15 L x = false) := Lib.hid (by unfold pay15; rw [hx])
    go_enter Tryd.func31, Tryd.ntmps31
    go_upto_region 1 with fail
    try rw [HG3.out]
    rw [HW.out]
    clear HG3 HW
    go_wp2_with fail
    go_ret
    exact ⟨told_bool HP.out.symm, HB0.out⟩
  | cons y0 rest =>
    have hpos : 0 < q.rn := by rw [← RR.out.len, hx]; exact Nat.succ_pos _
    obtain ⟨ra, y, hra, hrb, hy, hyo, hyc⟩ := RR.out.get (k := 0) hpos
    obtain rfl : y0 = y := by rw [hx] at hy; simpa using hy
    rw [hra] at c41
    have HYO := Lib.hid hyo
    have HYK : Hid (y0.key.length = 32 ∧ AllBytes y0.key) := Lib.hid ⟨hyo.1, HKB.out y0 (by rw [hx]; exact List.mem_cons_self ..)⟩
    have HYC : Hid (∀ j u, y0.cells[j]? = some u → W.cell? (ra.add j) = some u) := Lib.hid fun j u hu => by
      have := hyc j u hu
      rwa [addr_add, Nat.zero_mul, Nat.zero_add] at this
    have cw : W.cell? ⟨ra.block, ra.off + 33, none⟩ = some (.bool y0.wr) := HYC.out 33 _ (role_wr hyo.1)
    clear hrb hy hyo hyc hra
    have hpos' : 0 < (q.rn : Int) := by omega
    have hposn : ¬ (q.rn : Int) = 0 := by omega
    cases hw : y0.wr with
    | false =>
      have HP : Hid (pay15 L x = false) := Lib.hid (by unfold pay15; rw [hx]; simp [hw])
      rw [hw] at cw
      go_enter Tryd.func31, Tryd.ntmps31
      go_upto_region 1 with fail
      try rw [HG3.out]
      rw [HW.out]
      clear HG3 HW
      go_wp2_with fail
      go_ret
      exact ⟨told_bool HP.out.symm, HB0.out⟩
    | true =>
      rw [hw] at cw
      have HGO := Lib.hid (S0.out.sto.get_ok y0.key)
      have HSK : Hid ((Tryd.prog.info? 57).map (·.size) = some (bv y0.key).length) := Lib.hid (by rw [bv_length, HYK.out.1]; exact size_key)
      have HSA := Lib.hid (size_acc HGO.out.o.1)
      have HLA : Hid (blank13.cells.length = (getH L y0.key).cells.length) := Lib.hid (by rw [acc_len HGO.out.o.1]; rfl)
      have HPAY : Hid (pay15 L x = (decide ((getH L y0.key).o = k0) && decide (x.fee ≤ (getH L y0.key).c))) := Lib.hid (by unfold pay15; rw [hx]; simp only [hw, Bool.true_and])
      have HGC := Lib.hid (get13 sb mb L y0.key W S0.out HYK.out)
      have HGK : Hid (∀ j u, (bv (getH L y0.key).o)[j]? = some u → (getH L y0.key).cells[1 + j]? = some u) := Lib.hid fun j u hu => by
        show (Value.int .u64 _ :: (bv (getH L y0.key).o ++ _))[1 + j]? = some u
        rw [Nat.add_comm, List.getElem?_cons_succ, List.getElem?_append_left (List.getElem?_eq_some_iff.1 hu).1]
        exact hu
      have HGK0 : Hid ((getH L y0.key).cells[0]? = some (.int .u64 (getH L y0.key).c)) := Lib.hid rfl
      rw [HPAY.out]
      clear HPAY S0 RR
      generalize getH L y0.key = a at *
      have HSO : Hid ((Tryd.prog.info? 57).map (·.size) = some (bv a.o).length) := Lib.hid (by rw [bv_length, HGO.out.o.1]; exact size_key)
      go_enter Tryd.func31, Tryd.ntmps31
      go_upto_region 1 with fail
      try rw [HG3.out]
      rw [HW.out]
      clear HG3 HW
      go_wp2_with (first
        | ((with_reducible show wpList _ _ _ ({ dst := some 23, op := Op.load _ _, type := _, pos := _, after := _, guard := _ } :: _) _ _); go_must (refine wpList_load_at rfl 57 (.tmp 22) rfl ra (bv y0.key) _ Tryd.underlying57 rfl HSK.out (fun j u hu => HYC.out j u (role_key hu)) ?_ ?_; go_simp))
        | fail)
      refine HGC.out.mono ?_
      rintro e w4 ⟨rfl, hb4⟩
      have B4 := Lib.hid (HB0.out.trans (hb4.mono HB0.out.size))
      have R34 := Lib.hid (R3.out.below hb4 R3.out.lt)
      clear hb4 HGC c41 cw
      go_upto_region 4 with (first
        | ((with_reducible show wpList _ _ _ ({ dst := some 5, op := Op.alloc _, type := _, pos := _, after := _, guard := _ } :: _) _ _); go_must (refine wpList_alloc_zero rfl 59 rfl blank13.cells zero_acc ?_))
        | ((with_reducible show wpList _ _ _ ({ dst := none, op := Op.store 59 _ _, type := _, pos := _, after := _, guard := _ } :: _) _ _); go_must (refine wpList_store_new rfl 59 (.tmp 5) (.tmp 24) rfl a.cells HSA.out (acc_one _) (by rw [List.size_toArray]; exact HLA.out) ?_ ?_ ?_; go_simp; go_simp; intro w5 hr5 hb5 hz5)))
      have R5 := Lib.hid hr5
      have R35 := Lib.hid (R34.out.below hb5 R34.out.lt)
      have B5 := Lib.hid (B4.out.trans (hb5.mono B4.out.size))
      obtain ⟨g5, hg5⟩ : ∃ g, g = w4.heap.size := ⟨_, rfl⟩
      rw [← hg5] at R5 ⊢
      clear hr5 hb5 hz5 hg5 R34 B4
      by_cases he : a.o = k0
      · have hd : decide (a.o = k0) = true := decide_eq_true he
        have HDD := Lib.hid hd
        have NE := Lib.hid (fun w => key_eql (x := a.o) (y := k0) HGO.out.o.1 rfl w)
        rw [hd] at NE
        clear he hd
        have SS0 := Lib.hid (show Below w5.heap.size w5 w5.drew from (Below.refl w5.heap.size w5).drew)
        refine wp_region_held_drew (S := fun V => Below w5.heap.size w5 V) (by kernel_rfl) SS0.out (fun _ => ?_)
        try dsimp only [List.append]
        generalize w5.drew = wd at *
        refine takeL (i := 0) (v := ?_) rfl (by kernel_rfl) (by kernel_rfl) (by kernel_rfl) (fun _ _ _ h => h) (Or.inl ⟨by rfl, ?_⟩) SS0.out ?_
        rotate_left
        · intro w hw
          try dsimp only at hw
          go_simp
          try with_reducible rfl
        try simp only [Act.put, List.setIfInBounds_toArray, List.set_cons_zero, List.set_cons_succ]
        refine takeL (i := 1) (v := .agg (bv a.o).toArray) rfl (by kernel_rfl) (by kernel_rfl) (by kernel_rfl) (fun _ _ _ h => h) (Or.inl ⟨by rfl, fun wz hwz => exec_load_at wz 57 (.tmp 25) rfl ⟨g5, 1, none⟩ (bv a.o) _ Tryd.underlying57 rfl HSO.out (fun j u hu => by rw [addr_row]; exact (hwz.cell (p := ⟨g5, 1 + j, none⟩) R5.out.lt).trans ((R5.out.cell (1 + j)).trans (HGK.out j u hu))) (by go_simp)⟩) SS0.out ?_
        try simp only [Act.put, List.setIfInBounds_toArray, List.set_cons_zero, List.set_cons_succ]
        refine readyL (i := 2) rfl (by kernel_rfl) (by kernel_rfl) fun K hK => ?_
        go_simp
        refine (system_ _).mono ?_
        rintro e w6 ⟨rfl, hb6⟩
        have SS6 := Lib.hid (SS0.out.trans (hb6.mono SS0.out.size))
        have ne1 := NE.out
        clear hb6
        refine hK.out _ _ SS6.out ?_
        clear hK K
        try simp only [Act.put, List.setIfInBounds_toArray, List.set_cons_zero, List.set_cons_succ]
        refine takeL (i := 3) (v := ?_) rfl (by kernel_rfl) (by kernel_rfl) (by kernel_rfl) (fun _ _ _ h => h) (Or.inl ⟨by rfl, ?_⟩) SS6.out ?_
        rotate_left
        · intro w hw
          try dsimp only at hw
          go_simp
          try with_reducible rfl
        try simp only [Act.put, List.setIfInBounds_toArray, List.set_cons_zero, List.set_cons_succ]
        refine takeL (i := 4) (v := ?_) rfl (by kernel_rfl) (by kernel_rfl) (by kernel_rfl) (fun _ _ _ h => h) (Or.inl ⟨by rfl, ?_⟩) SS6.out ?_
        rotate_left
        · intro w hw
          try dsimp only at hw
          go_simp
          try with_reducible rfl
        try simp only [Act.put, List.setIfInBounds_toArray, List.set_cons_zero, List.set_cons_succ]
        refine takeL (i := 5) (v := ?_) rfl (by kernel_rfl) (by kernel_rfl) (by kernel_rfl) (fun _ _ _ h => h) (Or.inl ⟨by rfl, ?_⟩) SS6.out ?_
        rotate_left
        · intro w hw
          try dsimp only at hw
          go_simp
          try with_reducible rfl
        try simp only [Act.put, List.setIfInBounds_toArray, List.set_cons_zero, List.set_cons_succ]
        refine takeL (i := 6) (v := ?_) rfl (by kernel_rfl) (by kernel_rfl) (by kernel_rfl) (fun _ _ _ h => h) (Or.inl ⟨by rfl, ?_⟩) SS6.out ?_
        rotate_left
        · intro w hw
          try dsimp only at hw
          have c0 : w.cell? ⟨g5, 0, none⟩ = some (.int .u64 a.c) := (hw.cell (p := ⟨g5, 0, none⟩) R5.out.lt).trans ((R5.out.cell 0).trans HGK0.out)
          go_simp
          try with_reducible rfl
        try simp only [Act.put, List.setIfInBounds_toArray, List.set_cons_zero, List.set_cons_succ]
        refine takeL (i := 7) (v := ?_) rfl (by kernel_rfl) (by kernel_rfl) (by kernel_rfl) (fun _ _ _ h => h) (Or.inl ⟨by rfl, ?_⟩) SS6.out ?_
        rotate_left
        · intro w hw
          try dsimp only at hw
          go_simp
          try with_reducible rfl
        try simp only [Act.put, List.setIfInBounds_toArray, List.set_cons_zero, List.set_cons_succ]
        refine takeL (i := 8) (v := ?_) rfl (by kernel_rfl) (by kernel_rfl) (by kernel_rfl) (fun _ _ _ h => h) (Or.inl ⟨by rfl, ?_⟩) SS6.out ?_
        rotate_left
        · intro w hw
          try dsimp only at hw
          have c45 : w.cell? ⟨g3, 45, none⟩ = some (.int .u64 x.fee) := (hw.cell (p := ⟨g3, 45, none⟩) R35.out.lt).trans ((R35.out.cell 45).trans (ycells_41 H32.out 4))
          go_simp
          try with_reducible rfl
        try simp only [Act.put, List.setIfInBounds_toArray, List.set_cons_zero, List.set_cons_succ]
        refine takeL (i := 9) (v := ?_) rfl (by kernel_rfl) (by kernel_rfl) (by kernel_rfl) (fun _ _ _ h => h) (Or.inl ⟨by rfl, ?_⟩) SS6.out ?_
        rotate_left
        · intro w hw
          try dsimp only at hw
          go_simp
          try with_reducible rfl
        try simp only [Act.put, List.setIfInBounds_toArray, List.set_cons_zero, List.set_cons_succ]
        refine takeL (i := 10) (v := ?_) rfl (by kernel_rfl) (by kernel_rfl) (by kernel_rfl) (fun _ _ _ h => h) (Or.inl ⟨by rfl, ?_⟩) SS6.out ?_
        rotate_left
        · intro w hw
          try dsimp only at hw
          go_simp
          try with_reducible rfl
        try simp only [Act.put, List.setIfInBounds_toArray, List.set_cons_zero, List.set_cons_succ]
        refine takeL (i := 11) (v := ?_) rfl (by kernel_rfl) (by kernel_rfl) (by kernel_rfl) (fun _ _ _ h => h) (Or.inl ⟨by rfl, ?_⟩) SS6.out ?_
        rotate_left
        · intro w hw
          try dsimp only at hw
          go_simp
          try with_reducible rfl
        try simp only [Act.put, List.setIfInBounds_toArray, List.set_cons_zero, List.set_cons_succ]
        refine wpAnyH_done (by kernel_rfl) ?_ _
        go_wp2_with fail
        go_ret
        refine ⟨?_, B5.out.trans (SS6.out.mono B5.out.size)⟩
        rw [HDD.out, Bool.true_and]
        rfl

      · have hd : decide (a.o = k0) = false := decide_eq_false he
        have HDD := Lib.hid hd
        have NE := Lib.hid (fun w => key_eql (x := a.o) (y := k0) HGO.out.o.1 rfl w)
        rw [hd] at NE
        clear he hd
        have SS0 := Lib.hid (show Below w5.heap.size w5 w5.drew from (Below.refl w5.heap.size w5).drew)
        refine wp_region_held_drew (S := fun V => Below w5.heap.size w5 V) (by kernel_rfl) SS0.out (fun _ => ?_)
        try dsimp only [List.append]
        generalize w5.drew = wd at *
        refine takeL (i := 0) (v := ?_) rfl (by kernel_rfl) (by kernel_rfl) (by kernel_rfl) (fun _ _ _ h => h) (Or.inl ⟨by rfl, ?_⟩) SS0.out ?_
        rotate_left
        · intro w hw
          try dsimp only at hw
          go_simp
          try with_reducible rfl
        try simp only [Act.put, List.setIfInBounds_toArray, List.set_cons_zero, List.set_cons_succ]
        refine takeL (i := 1) (v := .agg (bv a.o).toArray) rfl (by kernel_rfl) (by kernel_rfl) (by kernel_rfl) (fun _ _ _ h => h) (Or.inl ⟨by rfl, fun wz hwz => exec_load_at wz 57 (.tmp 25) rfl ⟨g5, 1, none⟩ (bv a.o) _ Tryd.underlying57 rfl HSO.out (fun j u hu => by rw [addr_row]; exact (hwz.cell (p := ⟨g5, 1 + j, none⟩) R5.out.lt).trans ((R5.out.cell (1 + j)).trans (HGK.out j u hu))) (by go_simp)⟩) SS0.out ?_
        try simp only [Act.put, List.setIfInBounds_toArray, List.set_cons_zero, List.set_cons_succ]
        refine readyL (i := 2) rfl (by kernel_rfl) (by kernel_rfl) fun K hK => ?_
        go_simp
        refine (system_ _).mono ?_
        rintro e w6 ⟨rfl, hb6⟩
        have SS6 := Lib.hid (SS0.out.trans (hb6.mono SS0.out.size))
        have ne1 := NE.out
        clear hb6
        refine hK.out _ _ SS6.out ?_
        clear hK K
        try simp only [Act.put, List.setIfInBounds_toArray, List.set_cons_zero, List.set_cons_succ]
        refine takeL (i := 3) (v := ?_) rfl (by kernel_rfl) (by kernel_rfl) (by kernel_rfl) (fun _ _ _ h => h) (Or.inl ⟨by rfl, ?_⟩) SS6.out ?_
        rotate_left
        · intro w hw
          try dsimp only at hw
          go_simp
          try with_reducible rfl
        try simp only [Act.put, List.setIfInBounds_toArray, List.set_cons_zero, List.set_cons_succ]
        refine takeL (i := 4) (v := ?_) rfl (by kernel_rfl) (by kernel_rfl) (by kernel_rfl) (fun _ _ _ h => h) (Or.inl ⟨by rfl, ?_⟩) SS6.out ?_
        rotate_left
        · intro w hw
          try dsimp only at hw
          go_simp
          try with_reducible rfl
        try simp only [Act.put, List.setIfInBounds_toArray, List.set_cons_zero, List.set_cons_succ]
        refine takeL (i := 5) (v := undef) rfl (by kernel_rfl) (by kernel_rfl) (by kernel_rfl) (fun _ _ _ h => h) (Or.inr ⟨by rfl, rfl⟩) SS6.out ?_
        try simp only [Act.put, List.setIfInBounds_toArray, List.set_cons_zero, List.set_cons_succ]
        refine takeL (i := 6) (v := undef) rfl (by kernel_rfl) (by kernel_rfl) (by kernel_rfl) (fun _ _ _ h => h) (Or.inr ⟨by rfl, rfl⟩) SS6.out ?_
        try simp only [Act.put, List.setIfInBounds_toArray, List.set_cons_zero, List.set_cons_succ]
        refine takeL (i := 7) (v := undef) rfl (by kernel_rfl) (by kernel_rfl) (by kernel_rfl) (fun _ _ _ h => h) (Or.inr ⟨by rfl, rfl⟩) SS6.out ?_
        try simp only [Act.put, List.setIfInBounds_toArray, List.set_cons_zero, List.set_cons_succ]
        refine takeL (i := 8) (v := undef) rfl (by kernel_rfl) (by kernel_rfl) (by kernel_rfl) (fun _ _ _ h => h) (Or.inr ⟨by rfl, rfl⟩) SS6.out ?_
        try simp only [Act.put, List.setIfInBounds_toArray, List.set_cons_zero, List.set_cons_succ]
        refine takeL (i := 9) (v := undef) rfl (by kernel_rfl) (by kernel_rfl) (by kernel_rfl) (fun _ _ _ h => h) (Or.inr ⟨by rfl, rfl⟩) SS6.out ?_
        try simp only [Act.put, List.setIfInBounds_toArray, List.set_cons_zero, List.set_cons_succ]
        refine takeL (i := 10) (v := ?_) rfl (by kernel_rfl) (by kernel_rfl) (by kernel_rfl) (fun _ _ _ h => h) (Or.inl ⟨by rfl, ?_⟩) SS6.out ?_
        rotate_left
        · intro w hw
          try dsimp only at hw
          go_simp
          try with_reducible rfl
        try simp only [Act.put, List.setIfInBounds_toArray, List.set_cons_zero, List.set_cons_succ]
        refine takeL (i := 11) (v := ?_) rfl (by kernel_rfl) (by kernel_rfl) (by kernel_rfl) (fun _ _ _ h => h) (Or.inl ⟨by rfl, ?_⟩) SS6.out ?_
        rotate_left
        · intro w hw
          try dsimp only at hw
          go_simp
          try with_reducible rfl
        try simp only [Act.put, List.setIfInBounds_toArray, List.set_cons_zero, List.set_cons_succ]
        refine wpAnyH_done (by kernel_rfl) ?_ _
        go_wp2_with fail
        go_ret
        refine ⟨?_, B5.out.trans (SS6.out.mono B5.out.size)⟩
        rw [HDD.out, Bool.false_and]
        rfl
/-! ### Load -/
def LoadDone15 (w : World) (L : List LHold) (x : LReady) (e : Ending) (w' : World) : Prop := Below w.heap.size w w' ∧
  ((pay15 L x = false ∧ e = .returned (.tuple #[.slice none 0 0, .int .i64 22])) ∨ (pay15 L x = true ∧ ∃ g cap rest, e = .returned (.tuple #[.slice (some ⟨g, 0, none⟩) x.roles.length x.roles.length, .int .i64 0]) ∧ OutAt w' w.heap.size g cap x.roles.length rest (load15 L x)))
set_option maxHeartbeats 8000000 in
theorem loadC (sb mb : Nat) (L : List LHold) (q : YRaw) (x : LReady) (B : Nat) (w : World) (hs : StIn w sb mb L) (h : ReadyIn w B q x) (hB : B ≤ w.heap.size) (hrn : q.rn ≤ 100000) (hkb : ∀ r ∈ x.roles, AllBytes r.key) (hfee : 0 ≤ x.fee ∧ x.fee < 18446744073709551616) :
    Calls Tryd.prog 12 #[.pointer (some ⟨sb, 0, none⟩), .agg (q.cells x).toArray] w (LoadDone15 w L x) := by
  have hb0 := (Below.refl w.heap.size w).alloc (Nat.le_refl _) (.cells (q.cells x).toArray 41)
  have HB0 := Lib.hid hb0
  have HB := Lib.hid hB
  have H32 := Lib.hid h.tx.m.recent
  have HRN := Lib.hid hrn
  have R3 := Lib.hid (Row.new w 41 (q.cells x))
  have HST := Lib.hid (fun (V : World) (hb : Below w.heap.size w V) => hs.below hb)
  have HRD := Lib.hid (fun (V : World) (hb : Below w.heap.size w V) => h.below (hb.mono hB))
  have HKB := Lib.hid hkb
  have HRL := Lib.hid h.rs.len
  have HFE := Lib.hid hfee
  have HSO := Lib.hid hs.sto
  obtain ⟨g3, hg3⟩ : ∃ g, g = w.heap.size := ⟨_, rfl⟩
  have HG3 : Hid (w.heap.size = g3) := Lib.hid hg3.symm
  rw [← hg3] at R3
  have HG3L : Hid (w.heap.size ≤ g3) := Lib.hid (by omega)
  clear hg3 hb0 hs h hB hkb hfee
  generalize hW : w.alloc (.cells (q.cells x).toArray 41) = W at *
  have HW := Lib.hid hW
  clear hW
  go_enter Tryd.func12, Tryd.ntmps12
  go_upto_region 1 with fail
  try rw [HG3.out]
  rw [HW.out]
  clear HG3 HW
  go_wp2_with fail
  refine (same_yn15 sb mb L W (HST.out W HB0.out)).mono ?_
  rintro e w1 ⟨rfl, rfl⟩
  go_wp2_with (first
    | ((with_reducible show wpList _ _ _ ({ dst := some 12, op := Op.load _ _, type := _, pos := _, after := _, guard := _ } :: _) _ _); go_must (refine wpList_load_whole rfl 41 (.tmp 3) rfl g3 _ (q.cells x) _ Tryd.underlying41 rfl (by rw [ycells_len H32.out]; kernel_rfl) R3.out ?_ ?_; go_simp))
    | fail)
  refine (payable15 sb mb L q x B W (HST.out W HB0.out) (HRD.out W HB0.out) (Nat.le_trans HB.out HB0.out.size) hrn HKB.out).mono ?_
  rintro e w2 ⟨rfl, hb2⟩
  have B2 := Lib.hid (HB0.out.trans (hb2.mono HB0.out.size))
  have R32 := Lib.hid (R3.out.below hb2 R3.out.lt)
  clear hb2 R3 HB0
  cases hp : pay15 L x with
  | false =>
    have HP := Lib.hid hp
    clear hp
    go_wp2_with fail
    go_ret2
    exact ⟨B2.out, .inl ⟨HP.out, rfl⟩⟩
  | true =>
    have HP := Lib.hid hp
    have HPOS : Hid (0 < x.roles.length) := Lib.hid (by
      cases hx : x.roles with
      | nil => unfold pay15 at hp; rw [hx] at hp; cases hp
      | cons _ _ => exact Nat.succ_pos _)
    have HCF : Hid (x.fee ≤ (getA (ld15 L x.roles) 0).c) := Lib.hid (by
      cases hx : x.roles with
      | nil => unfold pay15 at hp; rw [hx] at hp; cases hp
      | cons r rest =>
        unfold pay15 at hp
        rw [hx] at hp
        simp only [Bool.and_eq_true, decide_eq_true_eq] at hp
        exact hp.2.2)
    clear hp
    have c41 : w2.cell? ⟨g3, 41, none⟩ = some (.slice q.RA q.rn q.rc) := (R32.out.cell 41).trans (ycells_41 H32.out 0)
    obtain ⟨n, hn⟩ : ∃ n, n = x.roles.length := ⟨_, rfl⟩
    have HN := Lib.hid hn
    have HQN : Hid (q.rn = n) := Lib.hid (by rw [hn]; exact HRL.out.symm)
    rw [HQN.out] at c41 hrn
    have hpos : 0 < n := by rw [hn]; exact HPOS.out
    clear hn
    go_upto_region 6 with (at_make; (obtain ⟨i0, hi, hz0, hz1, hz2⟩ := info_parts infoAc14); go_must (refine wpList_make_full _ rfl (.tmp 17) (.tmp 17) 49 rfl w2.heap.size 59 i0 _ 34 Tryd.underlying49 hi hz0 hz1 .i64 .i64 _ _ n rfl rfl rfl rfl (by rw [hz2]; omega) (by unfold maxLen; omega) (Nat.le_refl _) ?_; intro w3 hown hgrow))
    rw [made_acc15] at hown
    obtain ⟨g, cap, rest, hgv, hO⟩ := own_out14 hown (List.length_replicate ..) hpos (fun a ha => by rw [List.eq_of_mem_replicate ha]; exact blank_ok)
    injection hgv with hgv _ hcap
    injection hgv with hgv
    injection hgv with hgb _ _
    subst hcap
    have O0 : Hid (OutAt w3 w2.heap.size g n n rest (fill15 L x.roles 0)) := Lib.hid (by rw [fill_zero15, ← HN.out]; exact hO)
    have hb3 := (Below.refl w2.heap.size w2).grown hgrow (Nat.le_refl _) (fun k hk => by cases hk)
    have R33 := Lib.hid (R32.out.below hb3 R32.out.lt)
    have B3 := Lib.hid (B2.out.trans (hb3.mono B2.out.size))
    have HGL : Hid (w.heap.size ≤ g ∧ g3 ≠ g) := Lib.hid (by have h1 := B2.out.size; have h2 := R32.out.lt; have h3 := hO.lo; omega)
    have HGE : Hid (w2.heap.size = g) := Lib.hid hgb
    rw [HGE.out]
    clear hown hO hgrow hb3 hgb R32 B2 c41
    have c41 : w3.cell? ⟨g3, 41, none⟩ = some (.slice q.RA n q.rc) := by rw [← HQN.out]; exact (R33.out.cell 41).trans (ycells_41 H32.out 0)
    go_wp2_with fail
    clear c41
    go_loopw [22] (fun i wr => ∃ k : Nat, k ≤ n ∧ i = .int .i64 k ∧ OutAt wr w.heap.size g n n rest (fill15 L x.roles k) ∧ Below w.heap.size w wr ∧ Row wr g3 41 (q.cells x)) (fun i _ => n - (intOf i).toNat)
    case atStart => exact ⟨0, Nat.zero_le _, rfl, O0.out.low (by rw [HGE.out]; exact HGL.out.1), B3.out, R33.out⟩
    case round =>
      obtain ⟨k, hk, rfl, ho, hb, hr3⟩ := hrel
      have O := Lib.hid ho
      have BW := Lib.hid hb
      have RW := Lib.hid hr3
      clear ho hb hr3 O0 B3 R33
      rename World => wr
      by_cases hlt : k < n
      · have hlt' : (k : Int) < n := by omega
        obtain ⟨ra, y, hra, hrb, hy, hyo, hcr⟩ := (HRD.out wr BW.out).rs.get (k := k) (by rw [HQN.out]; exact hlt)
        have HFN := Lib.hid (fill_next15 L hy)
        have HYM := Lib.hid (List.mem_of_getElem? hy)
        have HCR := Lib.hid hcr
        have HYO := Lib.hid hyo
        have HYK : Hid (y.key.length = 32 ∧ AllBytes y.key) := Lib.hid ⟨hyo.1, HKB.out y (List.mem_of_getElem? hy)⟩
        have HSR := Lib.hid (size_role hyo.1)
        have HRL2 := Lib.hid (role_len hyo.1)
        have HR1 := Lib.hid (role_one y)
        have HRK : Hid (∀ j u, (bv y.key)[j]? = some u → y.cells[j]? = some u) := Lib.hid fun j u hu => role_key hu
        have HSK : Hid ((Tryd.prog.info? 57).map (·.size) = some (bv y.key).length) := Lib.hid (by rw [bv_length, hyo.1]; exact size_key)
        have HGO := Lib.hid (HSO.out.get_ok y.key)
        rw [hra]
        clear hra hrb hy hyo hcr
        generalize y.cells = rc at *
        go_upto_region 9 with (first
          | ((with_reducible show wpList _ _ _ ({ dst := some 26, op := Op.load _ _, type := _, pos := _, after := _, guard := _ } :: _) _ _); go_must (refine wpList_load_at rfl 62 (.tmp 25) rfl (ra.add (k * 34)) rc _ Tryd.underlying62 rfl HSR.out HCR.out ?_ ?_; go_simp))
          | ((with_reducible show wpList _ _ _ ({ dst := none, op := Op.store 62 _ _, type := _, pos := _, after := _, guard := _ } :: _) _ _); go_must (refine wpList_store_new rfl 62 (.tmp 8) (.tmp 26) rfl rc HSR.out HR1.out (by rw [HRL2.out]; rfl) ?_ ?_ ?_; go_simp; go_simp; intro w8 hr8 hb8 hz8)))
        have R8 := Lib.hid hr8
        have B8 := Lib.hid (BW.out.trans (hb8.mono BW.out.size))
        have O8 := Lib.hid (O.out.below hb8)
        have RW8 := Lib.hid (RW.out.below hb8 RW.out.lt)
        obtain ⟨g8, hg8⟩ : ∃ v, v = wr.heap.size := ⟨_, rfl⟩
        rw [← hg8] at R8 ⊢
        have HG8 : Hid (w.heap.size ≤ g8) := Lib.hid (by rw [hg8]; exact BW.out.size)
        clear hr8 hb8 hz8 hg8 O RW BW
        go_wp2_with (first
          | ((with_reducible show wpList _ _ _ ({ dst := some 31, op := Op.load _ _, type := _, pos := _, after := _, guard := _ } :: _) _ _); go_must (refine wpList_load_at rfl 57 (.tmp 30) rfl ⟨g8, 0, none⟩ (bv y.key) _ Tryd.underlying57 rfl HSK.out (fun j u hu => by rw [addr_row, Nat.zero_add]; exact (R8.out.cell j).trans (HRK.out j u hu)) ?_ ?_; go_simp))
          | fail)
        refine (get13 sb mb L y.key w8 (HST.out w8 B8.out) HYK.out).mono ?_
        rintro e w9 ⟨rfl, hb9⟩
        have B9 := Lib.hid (B8.out.trans (hb9.mono B8.out.size))
        have O9 := Lib.hid (O8.out.below hb9)
        have RW9 := Lib.hid (RW8.out.below hb9 RW8.out.lt)
        have HKL : Hid (k < n) := Lib.hid hlt
        have HSA := Lib.hid (size_acc HGO.out.o.1)
        have HAL := Lib.hid (acc_len HGO.out.o.1)
        clear hb9 B8 O8 RW8 R8
        generalize hga : getH L y.key = a at *
        have HFN2 : Hid ((fill15 L x.roles k).set k a = fill15 L x.roles (k + 1)) := Lib.hid HFN.out
        clear hga HFN
        go_wp2_with ((with_reducible show wpList _ _ _ ({ dst := none, op := Op.store 59 _ _, type := _, pos := _, after := _, guard := _ } :: _) _ _); go_must (refine wpList_store_part rfl 59 (.tmp 33) (.tmp 32) rfl g 59 (k * 34 + 0) (accsC (fill15 L x.roles k) ++ rest) a.cells O9.out.row HSA.out (by rw [HAL.out, O9.out.all]; have := HKL.out; omega) (acc_one _) ?_ ?_ ?_; go_simp; go_simp; intro w10 hr10 ht10))
        have OZ : Hid (OutAt w10 w.heap.size g n n rest (fill15 L x.roles (k + 1))) := Lib.hid (by
          rw [← HFN2.out]
          exact O9.out.part HKL.out (o := 0) (cs := a.cells) HGO.out (accs_whole14 (getA_ok O9.out.ok k).o.1 HGO.out.o.1) (by rw [HAL.out]; decide) hr10)
        have BZ := Lib.hid (B9.out.trans (ht10.below HGL.out.1))
        have RZ := Lib.hid (ht10.row RW9.out HGL.out.2)
        clear hr10 ht10
        go_roundw
        case rel => exact ⟨k + 1, by omega, by go_num, OZ.out, BZ.out, RZ.out⟩
        case measure => simp [intOf]; omega
      · obtain rfl : k = n := by omega
        have OA : Hid (OutAt wr w.heap.size g k k rest (ld15 L x.roles)) := Lib.hid (by have := O.out; rwa [HN.out, fill_all15, ← HN.out] at this)
        clear O
        have HA0 := Lib.hid (getA_ok OA.out.ok 0)
        have HK0 : Hid (0 < k) := Lib.hid hpos
        have hpos' : 0 < (k : Int) := by omega
        have hwr : IntKind.u64.wrap ((getA (ld15 L x.roles) 0).c - x.fee) = (getA (ld15 L x.roles) 0).c - x.fee := IntWalk.u64_in _ (by have h1 := HCF.out; have h2 := HA0.out.c; have h3 := HFE.out; omega)
        have HRES : Hid ((ld15 L x.roles).set 0 ⟨(getA (ld15 L x.roles) 0).c - x.fee, (getA (ld15 L x.roles) 0).o, (getA (ld15 L x.roles) 0).s⟩ = load15 L x) := Lib.hid rfl
        have HNA : Hid (AccOk ⟨(getA (ld15 L x.roles) 0).c - x.fee, (getA (ld15 L x.roles) 0).o, (getA (ld15 L x.roles) 0).s⟩) := Lib.hid ⟨by have h1 := HCF.out; have h2 := HA0.out.c; have h3 := HFE.out; constructor <;> simp only <;> omega, HA0.out.o, HA0.out.s⟩
        go_upto_region 11 with fail
        have BD : Hid (Below w.heap.size w wr.drew) := Lib.hid BW.out.drew
        have OD : Hid (OutAt wr.drew w.heap.size g k k rest (ld15 L x.roles)) := Lib.hid ⟨OA.out.row.drew, OA.out.lo, OA.out.len, OA.out.room, OA.out.all, OA.out.ok⟩
        have RD : Hid (Row wr.drew g3 41 (q.cells x)) := Lib.hid RW.out.drew
        refine wp_region_held_drew (S := fun V => V.cell? ⟨g3, 45, none⟩ = some (.int .u64 x.fee)) (by kernel_rfl) ((RW.out.drew.cell 45).trans (ycells_41 H32.out 4)) (fun _ => ?_)
        try dsimp only [List.append]
        clear OA RW BW
        generalize wr.drew = wd at *
        have SD : Hid (wd.cell? ⟨g3, 45, none⟩ = some (.int .u64 x.fee)) := Lib.hid ((RD.out.cell 45).trans (ycells_41 H32.out 4))
        refine takeL (i := 0) (v := ?_) rfl (by kernel_rfl) (by kernel_rfl) (by kernel_rfl) (fun _ _ _ h => h) (Or.inl ⟨by rfl, ?_⟩) SD.out ?_
        rotate_left
        · intro w hw
          try dsimp only at hw
          go_simp
          try with_reducible rfl
        try simp only [Act.put, List.setIfInBounds_toArray, List.set_cons_zero, List.set_cons_succ]
        refine takeL (i := 1) (v := ?_) rfl (by kernel_rfl) (by kernel_rfl) (by kernel_rfl) (fun _ _ _ h => h) (Or.inl ⟨by rfl, ?_⟩) SD.out ?_
        rotate_left
        · intro w hw
          try dsimp only at hw
          go_simp
          try with_reducible rfl
        try simp only [Act.put, List.setIfInBounds_toArray, List.set_cons_zero, List.set_cons_succ]
        refine takeL (i := 2) (v := ?_) rfl (by kernel_rfl) (by kernel_rfl) (by kernel_rfl) (fun _ _ _ h => h) (Or.inl ⟨by rfl, ?_⟩) SD.out ?_
        rotate_left
        · intro w hw
          try dsimp only at hw
          go_simp
          try with_reducible rfl
        try simp only [Act.put, List.setIfInBounds_toArray, List.set_cons_zero, List.set_cons_succ]
        refine takeL (i := 4) (v := ?_) rfl (by kernel_rfl) (by kernel_rfl) (by kernel_rfl) (fun _ _ _ h => h) (Or.inl ⟨by rfl, ?_⟩) SD.out ?_
        rotate_left
        · intro w hw
          try dsimp only at hw
          go_simp
          try with_reducible rfl
        try simp only [Act.put, List.setIfInBounds_toArray, List.set_cons_zero, List.set_cons_succ]
        refine takeL (i := 5) (v := ?_) rfl (by kernel_rfl) (by kernel_rfl) (by kernel_rfl) (fun _ _ _ h => h) (Or.inl ⟨by rfl, ?_⟩) SD.out ?_
        rotate_left
        · intro w hw
          try dsimp only at hw
          go_simp
          try with_reducible rfl
        try simp only [Act.put, List.setIfInBounds_toArray, List.set_cons_zero, List.set_cons_succ]
        refine readyL (i := 3) rfl (by kernel_rfl) (by kernel_rfl) fun K hK => ?_
        have cg0 : wd.cell? ⟨g, 0, none⟩ = some (.int .u64 (getA (ld15 L x.roles) 0).c) := by have := OD.out.cell HK0.out (j := 0) (u := .int .u64 (getA (ld15 L x.roles) 0).c) rfl; simpa using this
        go_simp
        refine hK.out _ _ SD.out ?_
        clear hK K
        try simp only [Act.put, List.setIfInBounds_toArray, List.set_cons_zero, List.set_cons_succ]
        refine takeL (i := 6) (v := ?_) rfl (by kernel_rfl) (by kernel_rfl) (by kernel_rfl) (fun _ _ _ h => h) (Or.inl ⟨by rfl, ?_⟩) SD.out ?_
        rotate_left
        · intro w hw
          try dsimp only at hw
          go_simp
          try with_reducible rfl
        try simp only [Act.put, List.setIfInBounds_toArray, List.set_cons_zero, List.set_cons_succ]
        refine takeL (i := 7) (v := ?_) rfl (by kernel_rfl) (by kernel_rfl) (by kernel_rfl) (fun _ _ _ h => h) (Or.inl ⟨by rfl, ?_⟩) SD.out ?_
        rotate_left
        · intro w hw
          try dsimp only at hw
          go_simp
          try with_reducible rfl
        try simp only [Act.put, List.setIfInBounds_toArray, List.set_cons_zero, List.set_cons_succ]
        refine takeL (i := 8) (v := ?_) rfl (by kernel_rfl) (by kernel_rfl) (by kernel_rfl) (fun _ _ _ h => h) (Or.inl ⟨by rfl, ?_⟩) SD.out ?_
        rotate_left
        · intro w hw
          try dsimp only at hw
          go_simp
          try with_reducible rfl
        try simp only [Act.put, List.setIfInBounds_toArray, List.set_cons_zero, List.set_cons_succ]
        refine readyL (i := 9) rfl (by kernel_rfl) (by kernel_rfl) fun K hK => ?_
        have fg0 := OD.out.row.frozen 0
        go_simp
        have OZ := Lib.hid (OD.out.one HK0.out (o := 0) (u := .int .u64 ((getA (ld15 L x.roles) 0).c - x.fee)) HNA.out (by decide) rfl)
        rw [HRES.out, Nat.zero_mul, Nat.zero_add] at OZ
        have BZ := Lib.hid (BD.out.trans ((turned_setCell wd ⟨g, 0, none⟩ (.int .u64 ((getA (ld15 L x.roles) 0).c - x.fee))).below HGL.out.1))
        refine hK.out _ _ ((RD.out.far (p := ⟨g, 0, none⟩) HGL.out.2 _).cell 45 |>.trans (ycells_41 H32.out 4)) ?_
        clear hK K
        try simp only [Act.put, List.setIfInBounds_toArray, List.set_cons_zero, List.set_cons_succ]
        refine wpAnyH_done (by kernel_rfl) ?_ _
        go_wp2_with fail
        go_ret2
        exact ⟨BZ.out, .inr ⟨HP.out, g, k, rest, by rw [← HN.out]; rfl, by rw [← HN.out]; exact OZ.out⟩⟩
end Go.Proofs.YtfaefpniiiandaaDoor

/-
  Of part Conf7: what is needed here.
-/
namespace Go.Proofs.YtfaefpniiiandaaDoor
open Go.RowKit Go.Maps
set_option linter.unusedVariables false
set_option maxRecDepth 100000
/-- is the key there; is it written -/
def hasK (l : List LRole) (x : List Int) : Bool := l.any fun r => decide (r.key = x)
def isW7 (l : List LRole) (x : List Int) : Bool := l.any fun r => decide (r.key = x) && r.wr
def hit (l : List LRole) (r : LRole) : Bool := hasK l r.key && (isW7 l r.key || r.wr)
end Go.Proofs.YtfaefpniiiandaaDoor

/-
  Of part Math16: what is needed here.
-/
namespace Go.Proofs.YtfaefpniiiandaaDoor
set_option linter.unusedVariables false
set_option maxRecDepth 100000
/-- an outcome's accounts stand in the store -/
def commit16 (L ch : List LHold) : List LHold := ch.foldl (fun L h => putH L h.k h.a) L
/-- one transaction: its outcome, its error, the accounts then -/
def apply16 (L : List LHold) (x : LReady) : (LOut × Int) × List LHold :=
  if pay15 L x = true then (if (run15 x (load15 L x)).2 = 0 then (((run15 x (load15 L x)).1, 0), commit16 L (run15 x (load15 L x)).1.ch) else ((out0, 1), L)) else ((out0, 22), L)
def sat16 (n : Int) : Int := if n ≤ 18446744073709551615 then n else 18446744073709551615
structure F16 where
  outs : List LOut
  fees : Int
  e : Int
  L : List LHold
/-- one behind the other -/
def fold16 : List LReady → F16 → F16
  | [], S => S
  | x :: r, S => if (apply16 S.L x).1.2 = 0 then fold16 r ⟨S.outs ++ [(apply16 S.L x).1.1], sat16 (S.fees + (apply16 S.L x).1.1.fee), 0, (apply16 S.L x).2⟩ else ⟨S.outs, S.fees, (apply16 S.L x).1.2, S.L⟩
theorem commit_nil16 (L : List LHold) : commit16 L [] = L := rfl
theorem commit_cons16 (L : List LHold) (h : LHold) (r : List LHold) : commit16 L (h :: r) = commit16 (putH L h.k h.a) r := rfl
theorem commit_app16 (L a b : List LHold) : commit16 L (a ++ b) = commit16 (commit16 L a) b := List.foldl_append
theorem commit_sto16 : ∀ {ch L : List LHold}, Sto L → (∀ h ∈ ch, HoldOk h) → Sto (commit16 L ch)
  | [], L, hs, _ => hs
  | h :: r, L, hs, hc => by
    rw [commit_cons16]
    exact commit_sto16 (hs.put (hc h (by simp)).k (hc h (by simp)).a) fun y hy => hc y (by simp [hy])
theorem commit_len16 : ∀ (ch L : List LHold), (commit16 L ch).length ≤ L.length + ch.length
  | [], L => by simp [commit_nil16]
  | h :: r, L => by
    rw [commit_cons16]
    have := commit_len16 r (putH L h.k h.a)
    have := putH_len L h.k h.a
    rw [List.length_cons]
    omega
/-! ### what is changed -/
theorem chg_mem16 : ∀ {rs : List LRole} {l : List LAcc} {h : LHold}, h ∈ chg15 rs l → h.a ∈ l ∧ ∃ r ∈ rs, r.wr = true ∧ r.key = h.k
  | [], l, h, hm => by cases l <;> cases hm
  | r :: rs, [], h, hm => by cases hm
  | r :: rs, a :: l, h, hm => by
    unfold chg15 at hm
    split at hm
    · rename_i hw
      rcases List.mem_cons.1 hm with rfl | hm
      · exact ⟨by simp, r, by simp, hw, rfl⟩
      · obtain ⟨h1, r', h2, h3⟩ := chg_mem16 hm
        exact ⟨by simp [h1], r', by simp [h2], h3⟩
    · obtain ⟨h1, r', h2, h3⟩ := chg_mem16 hm
      exact ⟨by simp [h1], r', by simp [h2], h3⟩
theorem chg_lenr16 : ∀ (rs : List LRole) (l : List LAcc), (chg15 rs l).length ≤ rs.length
  | [], l => by cases l <;> simp [chg15]
  | r :: rs, [] => by simp [chg15]
  | r :: rs, a :: l => by
    unfold chg15
    have := chg_lenr16 rs l
    split <;> simp only [List.length_cons] <;> omega
theorem chg_nodup16 : ∀ {rs : List LRole} {l : List LAcc}, (rs.map LRole.key).Nodup → ((chg15 rs l).map LHold.k).Nodup
  | [], l, _ => by cases l <;> simp [chg15]
  | r :: rs, [], _ => by simp [chg15]
  | r :: rs, a :: l, h => by
    rw [List.map_cons, List.nodup_cons] at h
    unfold chg15
    split
    · rw [List.map_cons, List.nodup_cons]
      refine ⟨fun hm => ?_, chg_nodup16 h.2⟩
      obtain ⟨y, hy, e⟩ := List.mem_map.1 hm
      obtain ⟨_, r', h1, _, h3⟩ := chg_mem16 hy
      exact h.1 (List.mem_map.2 ⟨r', h1, h3.trans e⟩)
    · exact chg_nodup16 h.2
/-- an instruction, and all: the accounts stay well formed -/
theorem step_ok16 {x : LReady} {k : Nat} {a : LIn} {S : S15} (h : ∀ y ∈ S.now, AccOk y) (ha : AllBytes a.acc ∧ AllBytes a.dat) : ∀ y ∈ (step15 x k a S).2.now, AccOk y := by
  unfold step15
  split
  · exact h
  split
  · exact h
  split
  · split
    · rename_i he
      obtain ⟨p, q, hw⟩ := do_went (r := x.roles) h ha.2 ha.1 he
      exact hw.d.ok
    · exact h
  split
  · exact h
  · exact h
theorem go_ok16 {x : LReady} : ∀ (I : List LIn) (k : Nat) (S : S15), (∀ y ∈ S.now, AccOk y) → (∀ a ∈ I, AllBytes a.acc ∧ AllBytes a.dat) → ∀ y ∈ (go15 x I k S).2.2.now, AccOk y
  | [], k, S, h, _ => h
  | a :: r, k, S, h, ha => by
    have h1 := step_ok16 (x := x) (k := k) h (ha a (by simp))
    unfold go15
    split
    · exact go_ok16 r (k + 1) _ h1 fun b hb => ha b (by simp [hb])
    · exact h1
/-- what comes of a run: its accounts are well formed, their keys are those of roles that write -/
structure ChOk16 (x : LReady) (ch : List LHold) : Prop where
  ok : ∀ h ∈ ch, HoldOk h
  key : ∀ h ∈ ch, ∃ r ∈ x.roles, r.wr = true ∧ r.key = h.k
  len : ch.length ≤ x.roles.length
  nd : (x.roles.map LRole.key).Nodup → (ch.map LHold.k).Nodup
theorem ch_nil16 (x : LReady) : ChOk16 x [] := ⟨fun h hh => (by cases hh), fun h hh => (by cases hh), by simp, fun _ => by simp⟩
theorem ch_of16 {x : LReady} {l : List LAcc} (hk : ∀ r ∈ x.roles, r.key.length = 32 ∧ AllBytes r.key) (hl : ∀ y ∈ l, AccOk y) : ChOk16 x (chg15 x.roles l) :=
  ⟨fun h hh => by
      obtain ⟨h1, r, h2, _, h3⟩ := chg_mem16 hh
      exact ⟨h3 ▸ hk r h2, hl _ h1⟩,
    fun h hh => (chg_mem16 hh).2, chg_lenr16 _ _, chg_nodup16⟩
theorem run_ch16 {x : LReady} {l : List LAcc} (hk : ∀ r ∈ x.roles, r.key.length = 32 ∧ AllBytes r.key) (hl : ∀ y ∈ l, AccOk y) (hi : ∀ a ∈ x.tx.m.ins, AllBytes a.acc ∧ AllBytes a.dat) : ChOk16 x (run15 x l).1.ch := by
  unfold run15
  split
  · exact ch_nil16 x
  split
  · exact ch_nil16 x
  split
  · exact ch_of16 hk (go_ok16 _ _ _ hl hi)
  · exact ch_of16 hk hl
theorem run_e16 (x : LReady) (l : List LAcc) : (run15 x l).2 = 0 ∨ (run15 x l) = (out0, 1) := by
  unfold run15
  split
  · exact .inr rfl
  split
  · exact .inr rfl
  split
  · exact .inl rfl
  · exact .inl rfl
theorem run_fee16 (x : LReady) (l : List LAcc) (h : (run15 x l).2 = 0) : (run15 x l).1.fee = x.fee := by
  revert h
  unfold run15
  split
  · intro h; cases h
  split
  · intro h; cases h
  split
  · intro _; rfl
  · intro _; rfl
/-- what a transaction is asked -/
structure RdF16 (x : LReady) : Prop where
  key : ∀ r ∈ x.roles, r.key.length = 32 ∧ AllBytes r.key
  ins : ∀ a ∈ x.tx.m.ins, AllBytes a.acc ∧ AllBytes a.dat
  fee : 0 ≤ x.fee ∧ x.fee < 18446744073709551616
theorem ld_mem16 {L : List LHold} {rs : List LRole} {i : Nat} : getA (ld15 L rs) i = match rs[i]? with | some r => getH L r.key | none => blank13 := by
  unfold getA ld15
  rw [List.getD_eq_getElem?_getD, List.getElem?_map]
  cases rs[i]? <;> rfl
theorem load_ok16 {L : List LHold} {x : LReady} (hs : Sto L) (hp : pay15 L x = true) (hf : RdF16 x) : ∀ y ∈ load15 L x, AccOk y := by
  intro y hy
  unfold load15 at hy
  rcases List.mem_or_eq_of_mem_set hy with h | rfl
  · exact ld_ok15 hs _ y h
  · have ha := getA_ok (ld_ok15 hs x.roles) 0
    unfold pay15 at hp
    revert hp
    rw [ld_mem16] at ha ⊢
    cases hr : x.roles with
    | nil => simp
    | cons r rs =>
      rw [hr] at ha
      simp only [List.getElem?_cons_zero] at ha ⊢
      intro hp
      simp only [Bool.and_eq_true, decide_eq_true_iff] at hp
      have := hf.fee
      exact ⟨⟨by show 0 ≤ (getH L r.key).c - x.fee; omega, by show (getH L r.key).c - x.fee < 18446744073709551616; have := ha.c; omega⟩, ha.o, ha.s⟩
theorem apply_ch16 {L : List LHold} {x : LReady} (hs : Sto L) (hf : RdF16 x) (h : (apply16 L x).1.2 = 0) :
    pay15 L x = true ∧ (run15 x (load15 L x)).2 = 0 ∧ (apply16 L x).1 = ((run15 x (load15 L x)).1, 0) ∧ (apply16 L x).2 = commit16 L (run15 x (load15 L x)).1.ch ∧ ChOk16 x (run15 x (load15 L x)).1.ch := by
  unfold apply16 at h ⊢
  by_cases hp : pay15 L x = true
  · rw [if_pos hp] at h ⊢
    by_cases hr : (run15 x (load15 L x)).2 = 0
    · rw [if_pos hr]
      exact ⟨hp, hr, rfl, rfl, run_ch16 hf.key (load_ok16 hs hp hf) hf.ins⟩
    · rw [if_neg hr] at h
      cases h
  · rw [if_neg hp] at h
    cases h
theorem apply_bad16 {L : List LHold} {x : LReady} (h : (apply16 L x).1.2 ≠ 0) : (apply16 L x).2 = L ∧ (apply16 L x).1.1 = out0 ∧ ((apply16 L x).1.2 = 1 ∨ (apply16 L x).1.2 = 22) := by
  unfold apply16 at h ⊢
  by_cases hp : pay15 L x = true
  · rw [if_pos hp] at h ⊢
    by_cases hr : (run15 x (load15 L x)).2 = 0
    · rw [if_pos hr] at h
      exact absurd rfl h
    · rw [if_neg hr]
      exact ⟨rfl, rfl, .inl rfl⟩
  · rw [if_neg hp]
    exact ⟨rfl, rfl, .inr rfl⟩
theorem apply_sto16 {L : List LHold} {x : LReady} (hs : Sto L) (hf : RdF16 x) : Sto (apply16 L x).2 ∧ (apply16 L x).2.length ≤ L.length + x.roles.length := by
  by_cases h : (apply16 L x).1.2 = 0
  · obtain ⟨_, _, _, h4, h5⟩ := apply_ch16 hs hf h
    rw [h4]
    exact ⟨commit_sto16 hs h5.ok, Nat.le_trans (commit_len16 _ _) (Nat.add_le_add_left h5.len _)⟩
  · rw [(apply_bad16 h).1]
    exact ⟨hs, Nat.le_add_right _ _⟩
/-! ### one behind the other -/
theorem sat_sat16 {a b : Int} (ha : 0 ≤ a) (hb : 0 ≤ b) (c : Int) (hc : 0 ≤ c) : sat16 (sat16 (a + b) + c) = sat16 (a + sat16 (b + c)) := by
  unfold sat16
  split <;> split <;> split <;> (try split) <;> omega
theorem sat_in16 {a : Int} (h : 0 ≤ a) : 0 ≤ sat16 a ∧ sat16 a < 18446744073709551616 := by
  unfold sat16
  split <;> omega
theorem sat_of16 {a : Int} (h : a < 18446744073709551616) : sat16 a = a := by
  unfold sat16
  rw [if_pos (by omega)]
theorem fold_cons16 (x : LReady) (r : List LReady) (S : F16) : fold16 (x :: r) S = if (apply16 S.L x).1.2 = 0 then fold16 r ⟨S.outs ++ [(apply16 S.L x).1.1], sat16 (S.fees + (apply16 S.L x).1.1.fee), 0, (apply16 S.L x).2⟩ else ⟨S.outs, S.fees, (apply16 S.L x).1.2, S.L⟩ := rfl
theorem fold_app16 : ∀ (a b : List LReady) (S : F16), S.e = 0 → fold16 (a ++ b) S = if (fold16 a S).e = 0 then fold16 b (fold16 a S) else fold16 a S
  | [], b, S, h => by
    show fold16 b S = if S.e = 0 then fold16 b S else S
    rw [if_pos h]
  | x :: r, b, S, h => by
    rw [List.cons_append, fold_cons16, fold_cons16]
    by_cases h0 : (apply16 S.L x).1.2 = 0
    · rw [if_pos h0, if_pos h0]
      exact fold_app16 r b _ rfl
    · rw [if_neg h0, if_neg h0, if_neg h0]
/-- the fees and the store while it goes on -/
theorem fold_in16 : ∀ (r : List LReady) (S : F16), (∀ x ∈ r, RdF16 x) → Sto S.L → (0 ≤ S.fees ∧ S.fees < 18446744073709551616) → Sto (fold16 r S).L ∧ (0 ≤ (fold16 r S).fees ∧ (fold16 r S).fees < 18446744073709551616)
  | [], S, _, hs, hf => ⟨hs, hf⟩
  | x :: r, S, hx, hs, hf => by
    rw [fold_cons16]
    by_cases h0 : (apply16 S.L x).1.2 = 0
    · rw [if_pos h0]
      have hx0 := hx x (by simp)
      obtain ⟨_, h2, h3, _, _⟩ := apply_ch16 hs hx0 h0
      refine fold_in16 r _ (fun y hy => hx y (by simp [hy])) (apply_sto16 hs hx0).1 (sat_in16 ?_)
      rw [h3]
      show 0 ≤ S.fees + (run15 x (load15 S.L x)).1.fee
      rw [run_fee16 _ _ h2]
      have := hx0.fee
      omega
    · rw [if_neg h0]
      exact ⟨hs, hf⟩
/-- a fold that begins with outcomes and fees is one that begins with none, behind these -/
theorem fold_from16 : ∀ (r : List LReady) (S : F16), S.e = 0 → (∀ x ∈ r, RdF16 x) → Sto S.L → (0 ≤ S.fees ∧ S.fees < 18446744073709551616) →
    fold16 r S = ⟨S.outs ++ (fold16 r ⟨[], 0, 0, S.L⟩).outs, sat16 (S.fees + (fold16 r ⟨[], 0, 0, S.L⟩).fees), (fold16 r ⟨[], 0, 0, S.L⟩).e, (fold16 r ⟨[], 0, 0, S.L⟩).L⟩
  | [], S, he, _, _, hf => by
    show S = ⟨S.outs ++ [], sat16 (S.fees + 0), 0, S.L⟩
    rw [List.append_nil, Int.add_zero, sat_of16 hf.2, ← he]
  | x :: r, S, he, hx, hs, hf => by
    rw [fold_cons16, fold_cons16]
    by_cases h0 : (apply16 S.L x).1.2 = 0
    · have hx0 := hx x (by simp)
      have hr : ∀ y ∈ r, RdF16 y := fun y hy => hx y (by simp [hy])
      obtain ⟨_, h2, h3, _, _⟩ := apply_ch16 hs hx0 h0
      have h4 : 0 ≤ (apply16 S.L x).1.1.fee := by
        rw [h3]
        show 0 ≤ (run15 x (load15 S.L x)).1.fee
        rw [run_fee16 _ _ h2]
        exact hx0.fee.1
      have hs' := (apply_sto16 hs hx0).1
      rw [if_pos h0, if_pos h0]
      rw [fold_from16 r ⟨S.outs ++ [(apply16 S.L x).1.1], sat16 (S.fees + (apply16 S.L x).1.1.fee), 0, (apply16 S.L x).2⟩ rfl hr hs' (sat_in16 (by omega))]
      rw [fold_from16 r ⟨[] ++ [(apply16 S.L x).1.1], sat16 (0 + (apply16 S.L x).1.1.fee), 0, (apply16 S.L x).2⟩ rfl hr hs' (sat_in16 (by omega))]
      have hi := fold_in16 r ⟨[], 0, 0, (apply16 S.L x).2⟩ hr hs' (show (0 : Int) ≤ 0 ∧ (0 : Int) < 18446744073709551616 by decide)
      have e1 := sat_sat16 hf.1 h4 (fold16 r ⟨[], 0, 0, (apply16 S.L x).2⟩).fees hi.2.1
      have e2 : sat16 (sat16 (0 + (apply16 S.L x).1.1.fee) + (fold16 r ⟨[], 0, 0, (apply16 S.L x).2⟩).fees) = sat16 ((apply16 S.L x).1.1.fee + (fold16 r ⟨[], 0, 0, (apply16 S.L x).2⟩).fees) := by
        have := sat_sat16 (Int.le_refl 0) h4 (fold16 r ⟨[], 0, 0, (apply16 S.L x).2⟩).fees hi.2.1
        rw [this, Int.zero_add, sat_of16 (sat_in16 (by have := hi.2.1; omega)).2]
      simp only [List.nil_append, List.append_assoc]
      rw [e1, e2]
    · rw [if_neg h0, if_neg h0]
      simp only [List.append_nil, Int.add_zero]
      rw [sat_of16 hf.2]
end Go.Proofs.YtfaefpniiiandaaDoor

/-
  Of part Door15: what is needed here.
-/
namespace Go.Proofs.YtfaefpniiiandaaDoor
open Go.ChangeShapes Go.WideShapes Go.ChangeAt Go.RowKit
set_option linter.unusedVariables false
set_option maxRecDepth 100000
/-- the variable holds the handle of the type error -/
structure TypAt (w : World) : Prop where
  c : w.cell? ⟨0, 0, none⟩ = some (.iface 157 (.agg #[.pointer (some ⟨1, 98, none⟩)]))
theorem TypAt.pos {w : World} (h : TypAt w) : 0 < w.heap.size := block_lt_of_cell h.c
theorem TypAt.below {w w' : World} {B : Nat} (h : TypAt w) (hb : Below B w w') (hB : 0 < B) : TypAt w' := ⟨(hb.cell (p := ⟨0, 0, none⟩) hB).trans h.c⟩
theorem gTyp : Tryd.prog.globalNamed "errors.errorType" = some 0 := by kernel_rfl
theorem rTyp : (Tryd.prog.cutTypes.find? (·.1 == "internal/reflectlite.rtype")).map (·.2) = some 157 := by kernel_rfl
theorem oneRow15 : ((List.range Tryd.prog.types.size).filter fun t => Tryd.prog.rowNamed t [101, 114, 114, 111, 114]) = [98] := by kernel_rfl
/-- the door's own heap meets the condition -/
theorem door_met15 (os : Os) (args : Array Value) : laidMetH Tryd.prog [("errors.errorType", Rows.laid_errors_errorType)] ((World.doorLaid Tryd.prog 400 os).forCall (fun _ _ => 0) ⟨#[], args, []⟩).memory :=
  laidMetH_of_parts3 (fuel := 8) (laidMet_of_run' 8 (by kernel_rfl) (by kernel_rfl)) (by kernel_rfl) (by kernel_rfl)
/-- what the condition gives the walks -/
theorem of_laid15 {W : World} (h : laidMetH Tryd.prog [("errors.errorType", Rows.laid_errors_errorType)] W) : TypAt W := by
  have h' : laidMet Tryd.prog [] W ∧ handlesMet Tryd.prog [("errors.errorType", Rows.laid_errors_errorType)] W := h
  obtain ⟨name, u, ty, e1, e2, e3, e4, e5⟩ := h'.2 _ (List.mem_singleton.2 rfl)
  have en : name = [101, 114, 114, 111, 114] := (Option.some.inj e1).symm
  subst en
  obtain rfl := Option.some.inj (rTyp.symm.trans e2)
  have hm : ty ∈ (List.range Tryd.prog.types.size).filter fun t => Tryd.prog.rowNamed t [101, 114, 114, 111, 114] := List.mem_filter.2 ⟨List.mem_range.2 e3, e4⟩
  rw [oneRow15] at hm
  obtain rfl := List.mem_singleton.1 hm
  have hh : typeHandle Tryd.prog 98 = .pointer (some ⟨1, 98, none⟩) := by kernel_rfl
  rw [hh] at e5
  exact ⟨by simpa using World.var?_cell gTyp e5 0⟩
end Go.Proofs.YtfaefpniiiandaaDoor

/-
  Of part Commit16: what is needed here.
-/
namespace Go.Proofs.YtfaefpniiiandaaDoor
open Go.RowKit
set_option linter.unusedVariables false
set_option maxRecDepth 100000
/-- cells of a block that holds a map: none -/
theorem StIn.no_cell {w : World} {sb mb : Nat} {L : List LHold} (h : StIn w sb mb L) {p : Addr} (hp : p.block = mb) : w.cell? p = none := by
  obtain ⟨es, cl, hm⟩ := h.heap
  cases hc : w.cell? p with
  | none => rfl
  | some v =>
    obtain ⟨o, ho, hk⟩ := cells_of_cell hc
    rw [hp, hm] at ho
    cases ho
    cases hk
/-- what lay there lies there: cells are as they were, when a store has been written -/
theorem keep16 {w w' : World} {sb mb : Nat} {L L' : List LHold} (h : StIn w sb mb L) (h' : StIn w' sb mb L') (hg : w.grownBy w' (some mb)) {B : Nat} (hB : B ≤ w.heap.size) : ∀ p : Addr, p.block < B → w'.cell? p = w.cell? p := fun p hp => by
  by_cases he : p.block = mb
  · rw [h.no_cell he, h'.no_cell he]
  · exact World.cell?_of_block (hg.block _ (Nat.lt_of_lt_of_le hp hB) (fun e => he (Option.some.inj e)))
theorem StIn.own_ne16 {w : World} {sb mb base size n : Nat} {e : TypeId} {u : Value} {L : List LHold} {xs : List Value} (h : StIn w sb mb L) (ho : w.ownsRow base e size u n xs) : u.ownBlock = none ∨ u.ownBlock ≠ some mb := by
  rcases ho.2 with ⟨hv, _⟩ | ⟨g, cap, cur, hv, _, hh, _⟩
  · exact .inl (by rw [hv]; rfl)
  · refine .inr (fun e => ?_)
    rw [hv] at e
    obtain rfl : g = mb := Option.some.inj e
    obtain ⟨es, cl, hm⟩ := h.heap
    rw [hh] at hm
    cases hm
theorem ReadyIn.keep {w w' : World} {B : Nat} {q : YRaw} {x : LReady} (h : ReadyIn w B q x) (hk : ∀ p : Addr, p.block < B → w'.cell? p = w.cell? p) : ReadyIn w' B q x := ⟨h.bs.keep hk, h.bn, h.tx.keep hk, h.rs.keep hk, h.rn⟩
theorem TypAt.keep {w w' : World} {B : Nat} (h : TypAt w) (hk : ∀ p : Addr, p.block < B → w'.cell? p = w.cell? p) (hB : 0 < B) : TypAt w' := ⟨(hk ⟨0, 0, none⟩ hB).trans h.c⟩
theorem gb_below16 {w w' : World} {m B : Nat} (h : w.grownBy w' (some m)) (hm : B ≤ m) (hB : B ≤ w.heap.size) : Below B w w' := (Below.refl B w).grown h hB (fun k hk => by cases hk; exact hm)
theorem missing16 (sb mb : Nat) (L : List LHold) (V : World) (hs : StIn V sb mb L) : Calls Tryd.prog 40 #[.pointer (some ⟨sb, 0, none⟩)] V fun e w' => e = .returned (.bool false) ∧ V = w' := by
  have HS := Lib.hid hs
  clear hs
  go_enter Tryd.func40, Tryd.ntmps40
  go_wp2_with fail
  refine (same_yn15 sb mb L V HS.out).mono ?_
  rintro e w1 ⟨rfl, rfl⟩
  go_wp2_with fail
  go_ret
  exact ⟨rfl, rfl⟩
theorem commit_take16 {L ch : List LHold} {k : Nat} {h : LHold} (hh : ch[k]? = some h) : commit16 L (ch.take (k + 1)) = putH (commit16 L (ch.take k)) h.k h.a := by
  rw [List.take_add_one, hh, Option.toList_some, commit_app16]
  rfl
set_option maxHeartbeats 4000000 in
theorem commitC (sb mb : Nat) (L : List LHold) (o : LOut) (A : Option Addr) (n c B : Nat) (w : World) (hs : StIn w sb mb L) (hc : CsIn 66 w B A n (o.ch.map LHold.cells)) (hB : B ≤ w.heap.size) (ho : ∀ h ∈ o.ch, HoldOk h) (hL : L.length + n ≤ 5000) :
    Calls Tryd.prog 22 #[.pointer (some ⟨sb, 0, none⟩), .agg (o.cells (.slice A n c)).toArray] w fun e w' => e = .returned (.int .i64 0) ∧ StIn w' sb mb (commit16 L o.ch) ∧ w.grownBy w' (some mb) := by
  have HCS := Lib.hid hc
  have HB := Lib.hid hB
  have HO := Lib.hid ho
  have HLN : Hid (o.ch.length = n) := Lib.hid (by have := hc.len; rwa [List.length_map] at this)
  have b0 := (Below.refl w.heap.size w).alloc (Nat.le_refl _) (.cells (o.cells (.slice A n c)).toArray 54)
  have R1 := Lib.hid (Row.new w 54 (o.cells (.slice A n c)))
  have S1 := Lib.hid (hs.below b0)
  have G1 : Hid (w.grownBy (w.alloc (.cells (o.cells (.slice A n c)).toArray 54)) (some mb)) := Lib.hid (gb_of _ b0)
  have C1 := Lib.hid (hc.keep (fun p hp => World.cell?_alloc_lt w (.cells (o.cells (.slice A n c)).toArray 54) p (by omega)))
  obtain ⟨g3, hg3⟩ : ∃ g, g = w.heap.size := ⟨_, rfl⟩
  have HG3 : Hid (w.heap.size = g3) := Lib.hid hg3.symm
  rw [← hg3] at R1
  have HSZ : Hid (B ≤ (w.alloc (.cells (o.cells (.slice A n c)).toArray 54)).heap.size) := Lib.hid (Nat.le_trans hB b0.size)
  clear hg3 b0 hs hc hB ho
  generalize hW : w.alloc (.cells (o.cells (.slice A n c)).toArray 54) = W at *
  have HW := Lib.hid hW
  clear hW
  go_enter Tryd.func22, Tryd.ntmps22
  go_upto_region 1 with fail
  try rw [HG3.out]
  rw [HW.out]
  clear HG3 HW
  go_wp2_with fail
  refine (missing16 sb mb L W S1.out).mono ?_
  rintro e w1 ⟨rfl, rfl⟩
  have c5 : W.cell? ⟨g3, 5, none⟩ = some (.slice A n c) := R1.out.cell 5
  go_wp2_with fail
  clear c5
  go_loopw [12] (fun i wr => ∃ k : Nat, k ≤ n ∧ i = .int .i64 k ∧ StIn wr sb mb (commit16 L (o.ch.take k)) ∧ W.grownBy wr (some mb)) (fun i _ => n - (intOf i).toNat)
  case atStart => exact ⟨0, Nat.zero_le _, rfl, S1.out, gb_of _ (Below.refl _ _)⟩
  case round =>
    obtain ⟨k, hk, rfl, hst, hgr⟩ := hrel
    have ST := Lib.hid hst
    have GR := Lib.hid hgr
    clear hst hgr
    rename World => wr
    by_cases hlt : k < n
    · have hlt' : (k : Int) < n := by omega
      have CW := C1.out.keep (keep16 S1.out ST.out GR.out HSZ.out)
      obtain ⟨a, xs, ea, hab, hxs, hxl, hcs⟩ := CW.get hlt (by omega)
      obtain ⟨h, hh, rfl⟩ : ∃ h, o.ch[k]? = some h ∧ h.cells = xs := by
        rw [List.getElem?_map] at hxs
        obtain ⟨h, h1, h2⟩ := Option.map_eq_some_iff.1 hxs
        exact ⟨h, h1, h2⟩
      have HH := Lib.hid (HO.out h (List.mem_of_getElem? hh))
      have HMT := Lib.hid (commit_take16 (L := L) hh)
      have HPL : Hid ((commit16 L (o.ch.take k)).length ≤ 5000) := Lib.hid (by have := commit_len16 (o.ch.take k) L; have := List.length_take_le k o.ch; omega)
      have HCX := Lib.hid hcs
      have HSH := Lib.hid (size_hold HH.out.k.1 HH.out.a.o.1)
      have HONE := Lib.hid (hold_one h)
      have HLL := Lib.hid (hold_len HH.out.k.1 HH.out.a.o.1)
      have HSK : Hid ((Tryd.prog.info? 57).map (·.size) = some (bv h.k).length) := Lib.hid (by rw [size_key, bv_length, HH.out.k.1])
      have HSA := Lib.hid (size_acc HH.out.a.o.1)
      have HKK : Hid (∀ j u, (bv h.k)[j]? = some u → h.cells[j]? = some u) := Lib.hid fun j u hu => hold_k hu
      have HAA : Hid (∀ j u, h.a.cells[j]? = some u → h.cells[32 + j]? = some u) := Lib.hid fun j u hu => hold_a HH.out.k.1 hu
      subst ea
      clear hab hxs hxl hcs hh CW
      generalize hhc : h.cells = hc at *
      clear hhc
      go_upto_region 6 with (first
        | ((with_reducible show wpList _ _ _ ({ dst := some 15, op := Op.load _ _, type := _, pos := _, after := _, guard := _ } :: _) _ _); go_must (refine wpList_load_at rfl 64 (.tmp 14) rfl (a.add (k * 66)) hc _ Tryd.underlying64 rfl HSH.out HCX.out ?_ ?_; go_simp))
        | ((with_reducible show wpList _ _ _ ({ dst := none, op := Op.store 64 _ _, type := _, pos := _, after := _, guard := _ } :: _) _ _); go_must (refine wpList_store_new rfl 64 (.tmp 6) (.tmp 15) rfl hc HSH.out HONE.out (by rw [HLL.out]; rfl) ?_ ?_ ?_; go_simp; go_simp; intro w8 hr8 hb8 hz8)))
      have R8 := Lib.hid hr8
      have ST8 := Lib.hid (ST.out.below hb8)
      have GR8 := Lib.hid (gb_below GR.out hb8)
      obtain ⟨g8, hg8⟩ : ∃ v, v = wr.heap.size := ⟨_, rfl⟩
      rw [← hg8] at R8 ⊢
      clear hr8 hb8 hz8 hg8 ST GR
      go_wp2_with (first
        | ((with_reducible show wpList _ _ _ ({ dst := some 18, op := Op.load _ _, type := _, pos := _, after := _, guard := _ } :: _) _ _); go_must (refine wpList_load_at rfl 57 (.tmp 17) rfl ⟨g8, 0, none⟩ (bv h.k) _ Tryd.underlying57 rfl HSK.out (fun j u hu => by rw [addr_row, Nat.zero_add]; exact (R8.out.cell j).trans (HKK.out j u hu)) ?_ ?_; go_simp))
        | ((with_reducible show wpList _ _ _ ({ dst := some 20, op := Op.load _ _, type := _, pos := _, after := _, guard := _ } :: _) _ _); go_must (refine wpList_load_at rfl 59 (.tmp 19) rfl ⟨g8, 32, none⟩ h.a.cells _ Tryd.underlying59 rfl HSA.out (fun j u hu => by rw [addr_row]; exact (R8.out.cell _).trans (HAA.out j u hu)) ?_ ?_; go_simp)))
      refine (put13 sb mb _ h.k h.a w8 ST8.out HH.out.k HH.out.a HPL.out).mono ?_
      rintro e w9 ⟨rfl, hs9, hg9⟩
      rw [← HMT.out] at hs9
      have ST9 := Lib.hid hs9
      have GR9 := Lib.hid (gb_grown13 GR8.out hg9)
      clear hs9 hg9
      go_wp2_with fail
      go_roundw
      case rel => exact ⟨k + 1, by omega, by go_num, ST9.out, GR9.out⟩
      case measure => simp [intOf]; omega
    · have hke : k = n := by omega
      have hlt' : ¬ (k : Int) < n := by omega
      have HT : Hid (o.ch.take k = o.ch) := Lib.hid (by rw [hke, ← HLN.out]; exact List.take_length)
      rw [HT.out] at ST
      go_wp2_with fail
      go_ret
      exact ⟨rfl, ST.out, gb_grown13 G1.out GR.out⟩
end Go.Proofs.YtfaefpniiiandaaDoor
