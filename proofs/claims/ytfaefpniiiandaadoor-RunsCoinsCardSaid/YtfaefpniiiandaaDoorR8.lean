/-
  Parts joined: Str13 RefPut13 Coins14 RunMath15 RefRun15 Load15 Math16 Door15 Commit16 Prog15.
-/
import Derived.Below
import Derived.Laws.OwnMore
import Derived.Deep.AppendLies
import Derived.Deep.Draws
import Derived.Lib.Hide
import Derived.Laws.MakeOwn
import Derived.Laws.CopyOwn
import Derived.Laws.Rows
import Derived.Laws.BitsAllLaws
import Derived.WalkKit
import Derived.Test.YtfaefpniiiandaaDoorRows
import Derived.WalkSpells
import Derived.WalkLawsBesides
import Derived.IntWalk
import Derived.Deep.MidRow
import Derived.Deep.WholeRow
import Derived.Maps.AppendAt
import Derived.OwnWalk
import Derived.Great.BuildSlice
import Derived.Recover
import Derived.Deep.RegionHeld
import Derived.Deep.QuietTactic
import Derived.BigQuiet
import Derived.ChangeKeysEq
import Derived.Deep.RegionHeld2
import Derived.Deep.CutBlock
import Derived.Laws.Tables
import Derived.ProofKit
import Derived.OpenShut
import Derived.ShutString
import Derived.ChangeOld
import Derived.Lib.SmallJoins
import Derived.Deep.Slices
import Derived.Deep.Strs
import Derived.SizedLaws
import Derived.Laws.StructEq
import Derived.Laws.Slices
import Derived.Deep.DeepCutAuto
import Derived.Maps.OwnSet
import Derived.DeepKeys4
import Derived.WideKeyArr
import Derived.Laws.EntriesVeiled
import Derived.Deep.RegionHeld3
import Derived.WideKeyEntry
import Derived.WalkMore
import Derived.Maps.RangeWalk
import Derived.Shelf.SlMaps.Clone
import Derived.Laws.Append
import Derived.Laws.AppendOwn
import Derived.LaidMore
import Derived.Maps.OwnOps
import Derived.Laws.BytesArg
import Derived.Laws.Strings
import Derived.Lib.Strings
import Derived.Great.Walk
import Derived.Laws.Bits64b
import Derived.Laws.Externs
import Derived.LaidHandle
import Derived.LaidLaws
import Derived.RangeFuncOwn
import Derived.Test.YtfaefpniiiandaaDoorR1
import Derived.Test.YtfaefpniiiandaaDoorR2
import Derived.Test.YtfaefpniiiandaaDoorR3
import Derived.Test.YtfaefpniiiandaaDoorR4
import Derived.Test.YtfaefpniiiandaaDoorR5
import Derived.Test.YtfaefpniiiandaaDoorR6
import Derived.Test.YtfaefpniiiandaaDoorR7
/-
  Of part Str13: what is needed here.
-/
namespace Go.Proofs.YtfaefpniiiandaaDoor
open Go.RowKit
set_option linter.unusedVariables false
set_option maxRecDepth 100000
theorem ofNat_inj {a b : Int} (ha : IsByte a) (hb : IsByte b) : (UInt8.ofNat a.toNat == UInt8.ofNat b.toNat) = decide (a = b) := by
  unfold IsByte at ha hb
  rw [Bool.eq_iff_iff, beq_iff_eq, decide_eq_true_iff]
  constructor
  · intro h
    have := congrArg UInt8.toNat h
    simp only [UInt8.toNat_ofNat'] at this
    omega
  · rintro rfl; rfl
theorem ofNat_lt {a b : Int} (ha : IsByte a) (hb : IsByte b) : decide (UInt8.ofNat a.toNat < UInt8.ofNat b.toNat) = decide (a < b) := by
  unfold IsByte at ha hb
  rw [decide_eq_decide, UInt8.lt_iff_toNat_lt]
  simp only [UInt8.toNat_ofNat']
  omega
theorem bytesLess_is : ∀ {x y : List Int}, AllBytes x → AllBytes y → Op.bytesLess (x.map fun n => UInt8.ofNat n.toNat) (y.map fun n => UInt8.ofNat n.toNat) = kless x y
  | [], [], _, _ => rfl
  | _ :: _, [], _, _ => by simp [Op.bytesLess, kless]
  | [], _ :: _, _, _ => rfl
  | a :: x, b :: y, hx, hy => by
    have h1 := ofNat_inj (hx a (by simp)) (hy b (by simp))
    have h2 := ofNat_lt (hx a (by simp)) (hy b (by simp))
    have ih := bytesLess_is (x := x) (y := y) (fun z hz => hx z (List.mem_cons_of_mem _ hz)) (fun z hz => hy z (List.mem_cons_of_mem _ hz))
    simp only [List.map_cons, Op.bytesLess, kless]
    rw [h1, h2, ih]
theorem strs_eq : ∀ {x y : List Int}, AllBytes x → AllBytes y → ((x.map fun n => UInt8.ofNat n.toNat) == (y.map fun n => UInt8.ofNat n.toNat)) = decide (x = y)
  | [], [], _, _ => rfl
  | _ :: _, [], _, _ => rfl
  | [], _ :: _, _, _ => rfl
  | a :: x, b :: y, hx, hy => by
    have h1 := ofNat_inj (hx a (by simp)) (hy b (by simp))
    have ih := strs_eq (x := x) (y := y) (fun z hz => hx z (List.mem_cons_of_mem _ hz)) (fun z hz => hy z (List.mem_cons_of_mem _ hz))
    rw [List.map_cons, List.map_cons, List.cons_beq_cons, h1, ih, Bool.eq_iff_iff]
    simp
theorem str_list (x : List Int) : (strOfNums x).toList = x.map fun n => UInt8.ofNat n.toNat := by
  unfold strOfNums
  rw [Lib.toList_data]
theorem str_gt_is {x y : List Int} (hx : AllBytes x) (hy : AllBytes y) : (!Op.bytesLess (strOfNums x).toList (strOfNums y).toList && !((strOfNums x).toList == (strOfNums y).toList)) = kless y x := by
  rw [str_list, str_list, bytesLess_is hx hy, strs_eq hx hy]
  cases h1 : kless x y with
  | true => rw [kless_asymm h1]; rfl
  | false =>
    by_cases h2 : x = y
    · subst h2
      rw [h1]
      simp
    · cases h3 : kless y x with
      | true => simp [h2]
      | false => exact absurd (kless_total _ _ h1 h3) h2
/-- a key's bytes as a string -/
theorem conv_key (w : World) (a : Addr) (c : Nat) {x : List Int} (hx : x.length = 32) (hc : ∀ j u, (bv x)[j]? = some u → w.cell? (a.add j) = some u) :
    (convert 23 9 (.slice (some a) 32 c)).run Tryd.prog w = .ok (.string (strOfNums x)) w := by
  have hl : (loadCells a 32).run Tryd.prog w = .ok (x.map (Value.int .u8)).toArray w := by
    have := run_loadCells_list (P := Tryd.prog) w a (x.map (Value.int .u8)) hc
    simpa [hx] using this
  rw [run_convert_bytes_string w _ _ 5 _ 32 c Tryd.underlying23 Tryd.underlying5 Tryd.underlying9, run_bytesToString w _ 32 c x hl, foldl_push_bytes]
  simp [strOfNums, ByteArray.empty, ByteArray.emptyWithCapacity]
  rfl
end Go.Proofs.YtfaefpniiiandaaDoor

/-
  Of part RefPut13: what is needed here.
-/
namespace Go.Proofs.YtfaefpniiiandaaDoor
open Go.RowKit
set_option linter.unusedVariables false
set_option maxRecDepth 100000
theorem built_hold (l r : List Value) (hl : l.length = 32) (hr : r.length = 34) : Tryd.prog.built 64 [(0, .agg l.toArray), (1, .agg r.toArray)] = some (l ++ r).toArray := by
  obtain ⟨f, rfl⟩ : ∃ f : Fin 32 → Value, l = List.ofFn f := ⟨fun i => l.getD i undef, by
    refine List.ext_getElem (by simpa using hl) fun i h1 h2 => ?_
    rw [List.getElem_ofFn, List.getD_eq_getElem?_getD, List.getElem?_eq_getElem h1]
    rfl⟩
  obtain ⟨g, rfl⟩ : ∃ g : Fin 34 → Value, r = List.ofFn g := ⟨fun i => r.getD i undef, by
    refine List.ext_getElem (by simpa using hr) fun i h1 h2 => ?_
    rw [List.getElem_ofFn, List.getD_eq_getElem?_getD, List.getElem?_eq_getElem h1]
    rfl⟩
  kernel_rfl
/-- the list in the making -/
structure PO13 (W V : World) (v : Value) (X : List LHold) : Prop where
  b : Below W.heap.size W V
  own : V.ownsRow W.heap.size 64 66 v X.length (holdsC X)
theorem belowDN {B : Nat} {x V : World} (h : Below B x V) (n : Nat) : Below B x (V.drewN n) := ⟨h.os, h.tape, h.output, h.size, h.block⟩
theorem PO13.drewN {W V : World} {v : Value} {X : List LHold} (h : PO13 W V v X) (n : Nat) : PO13 W (V.drewN n) v X := ⟨belowDN h.b n, own_below h.own (belowDN (Below.refl _ _) n)⟩
/-- one more -/
theorem PO13.add {W V V' : World} {v v' : Value} {X : List LHold} {x : LHold} {o : Obj} (h : PO13 W V v X) (ho : V'.ownsRow W.heap.size 64 66 v' (X.length + 1) (holdsC X ++ x.cells)) (hg : Grew (V.alloc o) V' v v') : PO13 W V' v' (X ++ [x]) := by
  have h1 := h.own.lt
  refine ⟨(h.b.alloc h.b.size o).grown hg.grown (Nat.le_trans h.b.size (by simp)) (fun k hk => (h1 k hk).1), ?_⟩
  rw [List.length_append, holdsC_snoc]
  exact ho
theorem PO13.lit {W V : World} {v : Value} {X : List LHold} (h : PO13 W V v X) (o : Obj) : (V.alloc o).ownsRow W.heap.size 64 66 v X.length (holdsC X) := own_below h.own ((Below.refl _ _).alloc (Nat.le_refl _) o)
theorem lit_sees (V : World) (x : LHold) (h : x.cells.length = 66) : Sees (V.alloc (.cells x.cells.toArray 64)) (V.alloc (.cells x.cells.toArray 64)).heap.size (some ⟨V.heap.size, 0, none⟩) (1 * 66) x.cells := by
  have := (Row.new V 64 x.cells).sees0
  rwa [h] at this
def ins13 (k : List Int) (a : LAcc) (put : Bool) (x : LHold) : List LHold := if !put && kless k x.k then [⟨k, a⟩] else []
def keep13 (k : List Int) (x : LHold) : List LHold := if x.k = k then [] else [x]
theorem drop_at {L : List LHold} {j : Nat} {y : LHold} (h : L[j]? = some y) : L.drop j = y :: L.drop (j + 1) := by
  obtain ⟨hj, rfl⟩ := List.getElem?_eq_some_iff.1 h
  exact List.drop_eq_getElem_cons hj
/-- what stays below -/
structure PC13 (W : World) (pb g f n c : Nat) (A : Option Addr) (k : List Int) (a : LAcc) (L : List LHold) : Prop where
  row : Row W pb 92 [.slice A n c]
  hh : HoldsIn W W.heap.size A n L
  rk : Row W g 57 (bv k)
  ra : Row W f 59 a.cells
theorem PC13.at_ {W V : World} {pb g f n c : Nat} {A : Option Addr} {k : List Int} {a : LAcc} {L : List LHold} (h : PC13 W pb g f n c A k a L) (hb : Below W.heap.size W V) : Row V pb 92 [.slice A n c] ∧ HoldsIn V W.heap.size A n L ∧ Row V g 57 (bv k) ∧ Row V f 59 a.cells :=
  ⟨h.row.below hb h.row.lt, h.hh.below hb, h.rk.below hb h.rk.lt, h.ra.below hb h.ra.lt⟩
def RPutDone13 (w : World) (pb base : Nat) (L : List LHold) (k : List Int) (a : LAcc) (e : Ending) (w' : World) : Prop := e = .returned (.tuple #[]) ∧ ∃ v', RS13 w' pb base v' (putH L k a) ∧ w.grownBy w' (some pb)
theorem PO13.done {w W V : World} {pb g f n c base : Nat} {A : Option Addr} {u : Value} {X L : List LHold} {k : List Int} {a : LAcc} (h : PO13 W V u X) (ct : PC13 W pb g f n c A k a L) (hb : Below w.heap.size w W) (hpb : pb < w.heap.size) (hbase : base ≤ w.heap.size) (hs : Sto L) (hk : k.length = 32 ∧ AllBytes k) (ha : AccOk a) (he : X = putH L k a) :
    ∃ v', RS13 (V.setCell ⟨pb, 0, none⟩ u) pb base v' (putH L k a) ∧ w.grownBy (V.setCell ⟨pb, 0, none⟩ u) (some pb) := by
  have hr := (ct.at_ h.b).1
  have ht := turned_setCell V ⟨pb, 0, none⟩ u
  refine ⟨u, ⟨hr.set_ 0 u, ?_, hs.put hk ha⟩, gb_turned (gb_of _ (hb.trans (h.b.mono hb.size))) ht (.inr rfl)⟩
  rw [← he]
  exact own_baseR (own_turned h.own hr (by decide) ht) (Nat.le_trans hbase hb.size)
set_option maxHeartbeats 16000000 in
theorem refPut13 (pb base : Nat) (v : Value) (L : List LHold) (k : List Int) (a : LAcc) (w : World) (hs : RS13 w pb base v L) (hk : k.length = 32 ∧ AllBytes k) (ha : AccOk a) (hL : L.length ≤ 5000) (hbase : base ≤ w.heap.size) : Calls Tryd.prog 30 #[.pointer (some ⟨pb, 0, none⟩), .agg (bv k).toArray, .agg a.cells.toArray] w (RPutDone13 w pb base L k a) := by
  have hbw := ((Below.refl w.heap.size w).alloc (Nat.le_refl _) (.cells (bv k).toArray 57)).alloc (by simp) (.cells a.cells.toArray 59)
  have hs1 := hs.below hbw
  obtain ⟨A, c, rfl, hh, hlc, hcm⟩ := hs1.form
  have hrk := (Row.new w 57 (bv k)).alloc (.cells a.cells.toArray 59)
  have hra := Row.new' (w.alloc (.cells (bv k).toArray 57)) 59 a.cells (g := w.heap.size + 1) (by simp)
  have CT0 := Lib.hid (show PC13 _ pb w.heap.size (w.heap.size + 1) L.length c A k a L from ⟨hs1.row, hh, hrk, hra⟩)
  have HSTO := Lib.hid hs1.sto
  have HSZ : Hid ((Tryd.prog.info? 57).map (·.size) = some (bv k).length) := Lib.hid (by rw [size_key, bv_length, hk.1])
  have HSA := Lib.hid (size_acc ha.o.1)
  have HK := Lib.hid hk
  have HA := Lib.hid ha
  have HBW := Lib.hid hbw
  have HPL := Lib.hid hs.row.lt
  have HBASE := Lib.hid hbase
  have NB := fun w => acc_eql ha.o.1 (y := blank13) rfl w
  have HNB := Lib.hid NB
  have HBUI : Hid (Tryd.prog.built 64 [(0, .agg (bv k).toArray), (1, .agg a.cells.toArray)] = some (LHold.cells ⟨k, a⟩).toArray) := Lib.hid (built_hold (bv k) a.cells (by rw [bv_length, hk.1]) (acc_len ha.o.1))
  have HCK : Hid ((LHold.cells ⟨k, a⟩).length = 66) := Lib.hid (hold_len (x := ⟨k, a⟩) hk.1 ha.o.1)
  clear NB hs hs1 hh hrk hra hbw hk ha hbase
  obtain ⟨f, hf⟩ : ∃ f, f = w.heap.size + 1 := ⟨_, rfl⟩
  obtain ⟨g, hg⟩ : ∃ g, g = w.heap.size := ⟨_, rfl⟩
  obtain ⟨n, hn⟩ : ∃ n, n = L.length := ⟨_, rfl⟩
  have HF : Hid (w.heap.size + 1 = f) := Lib.hid hf.symm
  have HG : Hid (w.heap.size = g) := Lib.hid hg.symm
  have HNL : Hid (L.length = n) := Lib.hid hn.symm
  have CT : Hid (PC13 ((w.alloc (.cells (bv k).toArray 57)).alloc (.cells a.cells.toArray 59)) pb g f n c A k a L) := Lib.hid (by rw [hf, hg, hn]; exact CT0.out)
  rw [← hn] at hlc hL
  clear hf hg hn CT0
  unfold maxLen at hcm
  generalize hWW : (w.alloc (.cells (bv k).toArray 57)).alloc (.cells a.cells.toArray 59) = W at *
  have HWW := Lib.hid hWW
  clear hWW
  have NB := HNB.out
  go_enter Tryd.func30, Tryd.ntmps30
  go_upto_region 1 with fail
  rw [HWW.out, HF.out, HG.out]
  clear HWW HF HG
  go_upto_region 3 with (first
    | ((with_reducible show wpList _ _ _ ({ dst := some 9, op := Op.load _ _, type := _, pos := _, after := _, guard := _ } :: _) _ _); go_must (refine wpList_load_whole rfl 59 (.tmp 5) rfl f 59 a.cells _ Tryd.underlying59 rfl HSA.out CT.out.ra ?_ ?_; go_simp))
    | ((with_reducible show wpList _ _ _ ({ dst := some 10, op := Op.build _ _, type := _, pos := _, after := _, guard := _ } :: _) _ _); go_must (refine wpList_plain rfl fun K hK => wp_built _ _ _ rfl (by simp only [List.map_toArray, List.map_nil]; exact built_blank) (hK _ _ ?_))))
  clear NB
  go_wp2_with fail
  go_loopw [6, 7, 8] (fun s6 s7 i wr => ∃ (j : Nat) (X : List LHold) (put : Bool), j ≤ n ∧ i = .int .i64 j ∧ s7 = .bool put ∧ PO13 W wr s6 X ∧ X.length ≤ 2 * j ∧ Hid (X ++ putG k a put (L.drop j) = putH L k a)) (fun _ _ i _ => n - (intOf i).toNat)
  case atStart => exact ⟨0, [], _, Nat.zero_le _, rfl, rfl, ⟨Below.refl _ _, own_nilN _ _ _ _⟩, by simp, Lib.hid rfl⟩
  case round =>
    obtain ⟨j, X, put, hj, rfl, rfl, hpo, hxl, HX⟩ := hrel
    have PO := Lib.hid hpo
    clear hpo
    have hc0 := (CT.out.at_ PO.out.b).1.cell 0
    by_cases hlt : j < n
    · have hlt' : (j : Int) < n := by omega
      obtain ⟨ad, y, hadr, hab, hy, hok, hcy⟩ := CT.out.hh.get hlt
      have HCH : Hid (∀ V, Below W.heap.size W V → ∀ j' u, y.cells[j']? = some u → V.cell? ((ad.add (j * 66)).add j') = some u) := Lib.hid fun V hV j' u hu => by
        rw [hV.cell (by rw [addr_block, addr_block]; exact hab)]
        exact hcy j' u hu
      have HCK2 : Hid (∀ V, Below W.heap.size W V → ∀ j' u, (bv y.k)[j']? = some u → V.cell? ((ad.add (j * 66)).add j') = some u) := Lib.hid fun V hV j' u hu => HCH.out V hV j' u (hold_k hu)
      have HOK := Lib.hid hok
      have HDR : Hid (putG k a put (L.drop j) = ins13 k a put y ++ (keep13 k y ++ putG k a (put || kless k y.k) (L.drop (j + 1)))) := Lib.hid (by rw [drop_at hy]; rfl)
      have HSY : Hid ((Tryd.prog.info? 57).map (·.size) = some (bv y.k).length) := Lib.hid (by rw [size_key, bv_length, hok.k.1])
      have HSH := Lib.hid (size_hold hok.k.1 hok.a.o.1)
      have HYC : Hid (y.cells.length = 66) := Lib.hid (hold_len hok.k.1 hok.a.o.1)
      subst hadr
      clear hab hcy hy hok
      go_upto_if 36 with fail
      go_cut [36] (fun s36 wx => s36 = .bool (!put && kless k y.k) ∧ ∃ q, wx = wr.drewN q)
      case first =>
        cases put with
        | true =>
          go_wp2_with fail
          go_quiet (fail)
          go_wp2_with fail
          go_meet
          exact ⟨rfl, _, rfl⟩
        | false =>
          have NC1 := fun q => conv_key (wr.drewN q) (ad.add (j * 66)) 32 HOK.out.k.1 (HCK2.out _ (belowDN PO.out.b q))
          have NC2 := fun q => conv_key (wr.drewN q) ⟨g, 0, none⟩ 32 HK.out.1 (fun j u hu => by rw [addr_row, Nat.zero_add]; exact ((CT.out.at_ (belowDN PO.out.b q)).2.2.1.cell j).trans hu)
          go_wp2_with fail
          go_quiet (fail)
          go_wp2_with fail
          go_meet
          exact ⟨by rw [str_gt_is HOK.out.k.2 HK.out.2]; rfl, _, rfl⟩
      case rest =>
      obtain ⟨hs36, q, rfl⟩ := hcut
      have PO1 := Lib.hid (PO.out.drewN q)
      clear PO hc0
      generalize wr.drewN q = wq at *
      go_upto_if 36 with fail
      go_cut [6, 7] (fun s6 s7 wx => ∃ X2, PO13 W wx s6 X2 ∧ s7 = .bool (put || kless k y.k) ∧ X2.length ≤ 2 * j + 1 ∧ Hid (X2 = X ++ ins13 k a put y))
      case first =>
        cases put with
        | true =>
          have h36 : u36 = .bool false := hs36
          subst h36
          clear hs36
          go_wp2_with fail
          go_meet
          exact ⟨X, PO1.out, rfl, by omega, Lib.hid (by unfold ins13; simp)⟩
        | false =>
          cases hkl : kless k y.k with
          | true =>
            have HKL := Lib.hid hkl
            have h36 : u36 = .bool true := by rw [hs36, hkl]; rfl
            subst h36
            clear hkl hs36
            go_wp2_with (first
              | ((with_reducible show wpList _ _ _ ({ dst := some 38, op := Op.load 57 _, type := _, pos := _, after := _, guard := _ } :: _) _ _); go_must (refine wpList_load_whole rfl 57 (.tmp 4) rfl g 57 (bv k) _ Tryd.underlying57 rfl HSZ.out (CT.out.at_ PO1.out.b).2.2.1 ?_ ?_; go_simp))
              | ((with_reducible show wpList _ _ _ ({ dst := some 39, op := Op.load 59 _, type := _, pos := _, after := _, guard := _ } :: _) _ _); go_must (refine wpList_load_whole rfl 59 (.tmp 5) rfl f 59 a.cells _ Tryd.underlying59 rfl HSA.out (CT.out.at_ PO1.out.b).2.2.2 ?_ ?_; go_simp))
              | ((with_reducible show wpList _ _ _ ({ dst := some 40, op := Op.build _ _, type := _, pos := _, after := _, guard := _ } :: _) _ _); go_must (refine wpList_plain rfl fun K hK => wp_built _ _ _ rfl (by simp only [List.map_toArray, List.map_cons, List.map_nil]; exact HBUI.out) (hK _ _ ?_)))
              | ((with_reducible show wpList _ _ _ ({ dst := some 41, op := Op.buildSlice _ _ _, type := _, pos := _, after := _, guard := _ } :: _) _ _); go_must (refine wpList_buildOne rfl 22 64 (.tmp 40) rfl (LHold.cells ⟨k, a⟩) _ 66 80 Tryd.underlying22 infoHo zszHo (by omega) (by omega) HCK.out ?_ ?_; go_simp))
              | ((with_reducible show wpList _ _ _ ({ dst := some 42, op := Op.call _, type := _, pos := _, after := _, guard := _ } :: _) _ _); go_must (refine wpList_appendN rfl (.tmp 37) (.tmp 41) 22 64 _ 66 80 rfl Tryd.underlying22 infoHo zszHo (by omega) u6 X.length (holdsC X) W.heap.size _ _ 1 1 (LHold.cells ⟨k, a⟩) ?_ (PO1.out.lit _) ?_ (lit_sees _ ⟨k, a⟩ HCK.out) (hold_one _) (by unfold maxLen; omega) (by omega) (Nat.le_trans PO1.out.b.size (by simp)) ?_; go_simp; go_simp; intro v8 w8 ho8 hg8; have PO8 := Lib.hid (PO1.out.add ho8 hg8); clear ho8 hg8)))
            go_meet
            exact ⟨_, PO8.out, by rw [HKL.out]; rfl, by rw [List.length_append, List.length_singleton]; omega, Lib.hid (by unfold ins13; rw [HKL.out]; rfl)⟩
          | false =>
            have HKL := Lib.hid hkl
            have h36 : u36 = .bool false := by rw [hs36, hkl]; rfl
            subst h36
            clear hkl hs36
            go_wp2_with fail
            go_meet
            exact ⟨X, PO1.out, by rw [HKL.out]; rfl, by omega, Lib.hid (by unfold ins13; rw [HKL.out]; simp)⟩
      case rest =>
        obtain ⟨X2, hpo, rfl, hxl2, HX2⟩ := hcut
        have PO2 := Lib.hid hpo
        clear hpo PO1
        have hc1 := (CT.out.at_ PO2.out.b).1.cell 0
        have NK := fun w => key_neq HOK.out.k.1 HK.out.1 w
        have HCKW := Lib.hid (HCK2.out wc PO2.out.b)
        have HRK := Lib.hid (CT.out.at_ PO2.out.b).2.2.1
        by_cases hyk : y.k = k
        · rw [decide_eq_true hyk] at NK
          have HKP : Hid (keep13 k y = []) := Lib.hid (if_pos hyk)
          clear hyk
          go_wp2_with fail
          refine wp_region_quiet_lit (by kernel_rfl) (by kernel_rfl) ?_
          repeat (first
            | ((with_reducible show wpQuiet _ _ _ _ ({ dst := some 50, op := Op.load 57 _, type := _, pos := _, after := _, guard := _ } :: _) _); go_must (refine quiet_load_at (by kernel_rfl) 57 (.tmp 49) rfl (ad.add (j * 66)) (bv y.k) _ Tryd.underlying57 rfl HSY.out (by rintro _ ⟨nq, rfl⟩; exact HCKW.out) ?_ ?_; go_simp; go_simp))
            | ((with_reducible show wpQuiet _ _ _ _ ({ dst := some 51, op := Op.load 57 _, type := _, pos := _, after := _, guard := _ } :: _) _); go_must (refine quiet_load_at (by kernel_rfl) 57 (.tmp 4) rfl ⟨g, 0, none⟩ (bv k) _ Tryd.underlying57 rfl HSZ.out (by rintro _ ⟨nq, rfl⟩; intro j u hu; rw [addr_row, Nat.zero_add]; exact (HRK.out.cell j).trans hu) ?_ ?_; go_simp; go_simp))
            | go_big_quiet_step (fail))
          refine wpQuiet_nil ?_
          intro nq
          clear NK
          have PO3 := Lib.hid (PO2.out.drewN nq)
          go_wp2_with fail
          go_roundw
          case rel => exact ⟨j + 1, X2, _, by omega, by go_num, rfl, PO3.out, by omega, Lib.hid (by rw [← HX.out, HDR.out, HKP.out, HX2.out, List.nil_append, List.append_assoc])⟩
          case measure => simp [intOf]; omega
        · rw [decide_eq_false hyk] at NK
          have HKP : Hid (keep13 k y = [y]) := Lib.hid (if_neg hyk)
          clear hyk
          go_wp2_with fail
          refine wp_region_quiet_lit (by kernel_rfl) (by kernel_rfl) ?_
          repeat (first
            | ((with_reducible show wpQuiet _ _ _ _ ({ dst := some 50, op := Op.load 57 _, type := _, pos := _, after := _, guard := _ } :: _) _); go_must (refine quiet_load_at (by kernel_rfl) 57 (.tmp 49) rfl (ad.add (j * 66)) (bv y.k) _ Tryd.underlying57 rfl HSY.out (by rintro _ ⟨nq, rfl⟩; exact HCKW.out) ?_ ?_; go_simp; go_simp))
            | ((with_reducible show wpQuiet _ _ _ _ ({ dst := some 51, op := Op.load 57 _, type := _, pos := _, after := _, guard := _ } :: _) _); go_must (refine quiet_load_at (by kernel_rfl) 57 (.tmp 4) rfl ⟨g, 0, none⟩ (bv k) _ Tryd.underlying57 rfl HSZ.out (by rintro _ ⟨nq, rfl⟩; intro j u hu; rw [addr_row, Nat.zero_add]; exact (HRK.out.cell j).trans hu) ?_ ?_; go_simp; go_simp))
            | go_big_quiet_step (fail))
          refine wpQuiet_nil ?_
          intro nq
          clear NK
          have PO3 := Lib.hid (PO2.out.drewN nq)
          have hc2 := (CT.out.at_ PO3.out.b).1.cell 0
          have HCH3 := Lib.hid (HCH.out _ PO3.out.b)
          go_wp2_with (first
            | ((with_reducible show wpList _ _ _ ({ dst := some 60, op := Op.load 64 _, type := _, pos := _, after := _, guard := _ } :: _) _ _); go_must (refine wpList_load_at rfl 64 (.tmp 59) rfl (ad.add (j * 66)) y.cells _ Tryd.underlying64 rfl HSH.out HCH3.out ?_ ?_; go_simp))
            | ((with_reducible show wpList _ _ _ ({ dst := some 61, op := Op.buildSlice _ _ _, type := _, pos := _, after := _, guard := _ } :: _) _ _); go_must (refine wpList_buildOne rfl 22 64 (.tmp 60) rfl y.cells _ 66 80 Tryd.underlying22 infoHo zszHo (by omega) (by omega) HYC.out ?_ ?_; go_simp))
            | ((with_reducible show wpList _ _ _ ({ dst := some 62, op := Op.call _, type := _, pos := _, after := _, guard := _ } :: _) _ _); go_must (refine wpList_appendN rfl (.tmp 53) (.tmp 61) 22 64 _ 66 80 rfl Tryd.underlying22 infoHo zszHo (by omega) u6 X2.length (holdsC X2) W.heap.size _ _ 1 1 (LHold.cells y) ?_ (PO3.out.lit _) ?_ (lit_sees _ y HYC.out) (hold_one _) (by unfold maxLen; omega) (by omega) (Nat.le_trans PO3.out.b.size (by simp)) ?_; go_simp; go_simp; intro v8 w8 ho8 hg8; have PO8 := Lib.hid (PO3.out.add ho8 hg8); clear ho8 hg8)))
          go_roundw
          case rel => exact ⟨j + 1, _, _, by omega, by go_num, rfl, PO8.out, by rw [List.length_append, List.length_singleton]; omega, Lib.hid (by rw [← HX.out, HDR.out, HKP.out, HX2.out, List.append_assoc, List.append_assoc])⟩
          case measure => simp [intOf]; omega
    · have hlt' : ¬ (j : Int) < n := by omega
      have HD : Hid (L.drop j = []) := Lib.hid (List.drop_eq_nil_of_le (by rw [HNL.out]; omega))
      have HXX := Lib.hid HX.out
      rw [HD.out] at HXX
      have hf0 := (CT.out.at_ PO.out.b).1.frozen 0
      cases put with
      | true =>
        have HE : Hid (X = putH L k a) := Lib.hid (by rw [← HXX.out]; simp [putG])
        obtain ⟨A6, c6, hv6, _⟩ := own_form2 PO.out.own
        subst hv6
        go_wp2_with fail
        refine bodyPost_end (results_none rfl _ _ _) rfl ?_
        exact ⟨rfl, PO.out.done CT.out HBW.out HPL.out HBASE.out HSTO.out HK.out HA.out HE.out⟩
      | false =>
        have HE : Hid (X ++ [⟨k, a⟩] = putH L k a) := Lib.hid (by rw [← HXX.out]; simp [putG])
        go_upto_region 12 with fail
        go_upto_region 13 with (first
          | ((with_reducible show wpList _ _ _ ({ dst := some 66, op := Op.load 57 _, type := _, pos := _, after := _, guard := _ } :: _) _ _); go_must (refine wpList_load_whole rfl 57 (.tmp 4) rfl g 57 (bv k) _ Tryd.underlying57 rfl HSZ.out (CT.out.at_ PO.out.b).2.2.1 ?_ ?_; go_simp))
          | ((with_reducible show wpList _ _ _ ({ dst := some 67, op := Op.load 59 _, type := _, pos := _, after := _, guard := _ } :: _) _ _); go_must (refine wpList_load_whole rfl 59 (.tmp 5) rfl f 59 a.cells _ Tryd.underlying59 rfl HSA.out (CT.out.at_ PO.out.b).2.2.2 ?_ ?_; go_simp))
          | ((with_reducible show wpList _ _ _ ({ dst := some 68, op := Op.build _ _, type := _, pos := _, after := _, guard := _ } :: _) _ _); go_must (refine wpList_plain rfl fun K hK => wp_built _ _ _ rfl (by simp only [List.map_toArray, List.map_cons, List.map_nil]; exact HBUI.out) (hK _ _ ?_)))
          | ((with_reducible show wpList _ _ _ ({ dst := some 69, op := Op.buildSlice _ _ _, type := _, pos := _, after := _, guard := _ } :: _) _ _); go_must (refine wpList_buildOne rfl 22 64 (.tmp 68) rfl (LHold.cells ⟨k, a⟩) _ 66 80 Tryd.underlying22 infoHo zszHo (by omega) (by omega) HCK.out ?_ ?_; go_simp))
          | ((with_reducible show wpList _ _ _ ({ dst := some 70, op := Op.call _, type := _, pos := _, after := _, guard := _ } :: _) _ _); go_must (refine wpList_appendN rfl (.tmp 65) (.tmp 69) 22 64 _ 66 80 rfl Tryd.underlying22 infoHo zszHo (by omega) u6 X.length (holdsC X) W.heap.size _ _ 1 1 (LHold.cells ⟨k, a⟩) ?_ (PO.out.lit _) ?_ (lit_sees _ ⟨k, a⟩ HCK.out) (hold_one _) (by unfold maxLen; omega) (by omega) (Nat.le_trans PO.out.b.size (by simp)) ?_; go_simp; go_simp; intro v8 w8 ho8 hg8; have PO8 := Lib.hid (PO.out.add ho8 hg8); clear ho8 hg8)))
        have hc2 := (CT.out.at_ PO8.out.b).1.cell 0
        have hf2 := (CT.out.at_ PO8.out.b).1.frozen 0
        obtain ⟨A6, c6, hv6, _⟩ := own_form2 PO8.out.own
        subst hv6
        go_wp2_with fail
        refine bodyPost_end (results_none rfl _ _ _) rfl ?_
        have hd := PO8.out.done CT.out HBW.out HPL.out HBASE.out HSTO.out HK.out HA.out HE.out
        rw [show (X ++ [(⟨k, a⟩ : LHold)]).length = X.length + 1 by simp] at hd
        exact ⟨rfl, hd⟩
end Go.Proofs.YtfaefpniiiandaaDoor

/-
  Of part Coins14: what is needed here.
-/
namespace Go.Proofs.YtfaefpniiiandaaDoor
open Go.RowKit
set_option linter.unusedVariables false
set_option maxRecDepth 100000
theorem chk_ok {m : Bool} {x : LRole} (h : chk14 m x = 0) : (m = true → x.sg = true) ∧ x.wr = true := by
  unfold chk14 at h
  split at h
  · cases h
  rename_i h1
  split at h
  · cases h
  rename_i h2
  exact ⟨fun e => by subst e; simpa using h1, by simpa using h2⟩
theorem plc_chk {x : LAsk} {r : List LRole} {acc : List Int} (h : plc14 x r acc = 0) : chk14 true (rol14 r (acc.getD 0 0)) = 0 ∧ (two14 x → chk14 (decide (x.tag = 0)) (rol14 r (acc.getD 1 0)) = 0) := by
  unfold plc14 at h
  split at h
  · cases h
  split at h
  · cases h
  split at h
  · rename_i h1
    exact absurd h h1
  rename_i h1
  refine ⟨Classical.not_not.1 h1, fun h2 => ?_⟩
  rwa [if_pos h2] at h
/-- what a call that went well did -/
structure Went (l : List LAcc) (r : List LRole) (R : Res14) (a b : Nat) : Prop where
  len : l.length = r.length
  an : a < l.length
  bn : b < l.length
  d : Deed l R.l R.n a b true (rol14 r b).sg
  wa : (rol14 r a).wr = true
  wb : (rol14 r b).wr = true
  sa : (rol14 r a).sg = true
theorem do_went {l : List LAcc} {r : List LRole} {acc dat : List Int} (hl : ∀ a ∈ l, AccOk a) (hd : AllBytes dat) (hb : AllBytes acc) (h : (do14 l r acc dat).e = 0) : ∃ a b, Went l r (do14 l r acc dat) a b := by
  by_cases hn : l.length = r.length
  rotate_left
  · unfold do14 at h
    rw [if_pos hn] at h
    cases h
  cases hdat : dat14 dat with
  | none =>
    unfold do14 at h
    rw [if_neg (by omega), hdat] at h
    cases h
  | some x =>
  by_cases hp : plc14 x r acc = 0
  rotate_left
  · unfold do14 at h
    rw [if_neg (by omega), hdat] at h
    dsimp only at h
    rw [if_pos hp] at h
    exact absurd h hp
  obtain ⟨h1, h2⟩ := plc_ok hp
  have h0 : 0 < need14 x := by unfold need14; split <;> omega
  obtain ⟨a, ha, han⟩ := acc_idx (k := 0) hb (by omega) h2
  obtain ⟨b, hbb, hbn⟩ := acc_idx (k := need14 x - 1) hb (by omega) h2
  rw [← hn] at han hbn
  rw [do_is hn hdat hp ha hbb] at h ⊢
  have hx := dat14_ok hd hdat
  obtain ⟨c1, c2⟩ := plc_chk hp
  rw [ha] at c1
  have k1 := chk_ok c1
  refine ⟨a, b, ?_⟩
  by_cases ht : two14 x
  · have hb1 : acc.getD 1 0 = b := by rw [need_two ht] at hbb; exact hbb
    have c3 := c2 ht
    rw [hb1] at c3
    have k2 := chk_ok c3
    have hw : ∀ {R : Res14}, Deed l R.l R.n a b true (rol14 r b).sg → Went l r R a b := fun d => ⟨hn, han, hbn, d, k1.2, k2.2, k1.1 rfl⟩
    apply hw
    unfold deed14 at h ⊢
    rcases ht with ht | ht
    · rw [if_pos ht] at h ⊢
      rw [k2.1 (by rw [ht]; rfl)]
      exact make_deed hl hx han hbn h
    · rw [if_neg (by rw [ht]; decide), if_neg (by rw [ht]; decide), if_pos ht] at h ⊢
      exact move_deed hl hx han hbn h _
  · have hab : (b : Int) = a := by rw [need_one ht] at hbb; rw [← hbb, ← ha]
    have hab : b = a := by exact_mod_cast hab
    subst hab
    have hw : ∀ {R : Res14}, Deed l R.l R.n b b true (rol14 r b).sg → Went l r R b b := fun d => ⟨hn, han, hbn, d, k1.2, k1.2, k1.1 rfl⟩
    apply hw
    unfold deed14 at h ⊢
    unfold two14 at ht
    rw [if_neg (fun e => ht (.inl e))] at h ⊢
    by_cases h1 : x.tag = 1
    · rw [if_pos h1] at h ⊢
      exact assign_deed hl hx b han h _
    · rw [if_neg h1, if_neg (fun e => ht (.inr e))] at h ⊢
      exact space_deed hl hx b han h _
end Go.Proofs.YtfaefpniiiandaaDoor

/-
  Of part RunMath15: what is needed here.
-/
namespace Go.Proofs.YtfaefpniiiandaaDoor
set_option linter.unusedVariables false
/-- on the way, before instruction k -/
structure Go15 (x : LReady) (l : List LAcc) (ln k : Nat) (S : S15) : Prop where
  len : S.now.length = ln
  eq : go15 x (x.tx.m.ins.drop k) k S = go15 x x.tx.m.ins 0 ⟨l, 0, 0⟩
  u : 0 ≤ S.units ∧ S.units ≤ x.u
  s : 0 ≤ S.space ∧ S.space ≤ (k : Int) * 1048576
section
variable {x : LReady} {l : List LAcc} {ln k : Nat} {S S' : S15} {a : LIn} {e : Int}
theorem go15_start (hl : l.length = ln) (hu : 0 ≤ x.u) : Go15 x l ln 0 ⟨l, 0, 0⟩ := ⟨hl, by rw [List.drop_zero], ⟨Int.le_refl _, hu⟩, ⟨Int.le_refl _, by simp⟩⟩
theorem go15_drop (ha : x.tx.m.ins[k]? = some a) : x.tx.m.ins.drop k = a :: x.tx.m.ins.drop (k + 1) := by
  obtain ⟨h, rfl⟩ := List.getElem?_eq_some_iff.1 ha
  exact List.drop_eq_getElem_cons h
theorem Go15.next (h : Go15 x l ln k S) (ha : x.tx.m.ins[k]? = some a) (hs : step15 x k a S = (0, S')) (hl : S'.now.length = ln) (hu : 0 ≤ S'.units ∧ S'.units ≤ x.u) (hsp : 0 ≤ S'.space ∧ S'.space ≤ S.space + 1048576) : Go15 x l ln (k + 1) S' := by
  refine ⟨hl, ?_, hu, hsp.1, ?_⟩
  · rw [← h.eq, go15_drop ha]
    conv => rhs; unfold go15
    rw [hs, if_pos rfl]
  · have := h.s.2
    have e : ((k + 1 : Nat) : Int) * 1048576 = (k : Int) * 1048576 + 1048576 := by omega
    rw [e]
    omega
theorem Go15.bad (h : Go15 x l ln k S) (ha : x.tx.m.ins[k]? = some a) (hs : step15 x k a S = (e, S')) (he : e ≠ 0) (hl : l.length = x.roles.length) (hp : ∀ a ∈ x.tx.m.ins, a.p < (x.roles.length : Int)) : run15 x l = (⟨e, k, S'.units, x.fee, 0, chg15 x.roles l⟩, 0) := by
  have hg : go15 x x.tx.m.ins 0 ⟨l, 0, 0⟩ = (e, (k : Int), S') := by
    rw [← h.eq, go15_drop ha]
    unfold go15
    rw [hs, if_neg he]
  unfold run15
  rw [if_neg (by omega), if_neg (by rintro ⟨b, hb, hc⟩; have := hp b hb; omega), hg, if_neg he]
theorem Go15.done (h : Go15 x l ln k S) (hk : x.tx.m.ins.length ≤ k) (hl : l.length = x.roles.length) (hp : ∀ a ∈ x.tx.m.ins, a.p < (x.roles.length : Int)) : run15 x l = (⟨0, -1, S.units, x.fee, S.space, chg15 x.roles S.now⟩, 0) := by
  have hg : go15 x x.tx.m.ins 0 ⟨l, 0, 0⟩ = (0, -1, S) := by
    rw [← h.eq, List.drop_of_length_le hk]
    rfl
  unfold run15
  rw [if_neg (by omega), if_neg (by rintro ⟨b, hb, hc⟩; have := hp b hb; omega), hg, if_pos rfl]
theorem step15_units (h : x.u < 150 ∨ x.u - 150 < S.units) : step15 x k a S = (20, ⟨S.now, x.u, S.space⟩) := by
  unfold step15
  rw [if_pos h]
theorem step15_bad (h : ¬ (x.u < 150 ∨ x.u - 150 < S.units)) (hb : (k : Int) = x.bad) : step15 x k a S = (21, ⟨S.now, S.units + 150, S.space⟩) := by
  unfold step15
  rw [if_neg h, if_pos hb]
theorem step15_sys (h : ¬ (x.u < 150 ∨ x.u - 150 < S.units)) (hb : ¬ (k : Int) = x.bad) (hp : prog15 x a = k0) (he : (do14 S.now x.roles a.acc a.dat).e = 0) : step15 x k a S = (0, ⟨(do14 S.now x.roles a.acc a.dat).l, S.units + 150, S.space + (do14 S.now x.roles a.acc a.dat).n⟩) := by
  unfold step15
  rw [if_neg h, if_neg hb, if_pos hp, if_pos he]
theorem step15_sysbad (h : ¬ (x.u < 150 ∨ x.u - 150 < S.units)) (hb : ¬ (k : Int) = x.bad) (hp : prog15 x a = k0) (he : ¬ (do14 S.now x.roles a.acc a.dat).e = 0) : step15 x k a S = ((do14 S.now x.roles a.acc a.dat).e, ⟨S.now, S.units + 150, S.space⟩) := by
  unfold step15
  rw [if_neg h, if_neg hb, if_pos hp, if_neg he]
theorem step15_bud (h : ¬ (x.u < 150 ∨ x.u - 150 < S.units)) (hb : ¬ (k : Int) = x.bad) (hp : ¬ prog15 x a = k0) (hq : prog15 x a = k3) : step15 x k a S = (0, ⟨S.now, S.units + 150, S.space⟩) := by
  unfold step15
  rw [if_neg h, if_neg hb, if_neg hp, if_pos hq]
theorem step15_none (h : ¬ (x.u < 150 ∨ x.u - 150 < S.units)) (hb : ¬ (k : Int) = x.bad) (hp : ¬ prog15 x a = k0) (hq : ¬ prog15 x a = k3) : step15 x k a S = (19, ⟨S.now, S.units + 150, S.space⟩) := by
  unfold step15
  rw [if_neg h, if_neg hb, if_neg hp, if_neg hq]
end
end Go.Proofs.YtfaefpniiiandaaDoor

/-
  Of part RefRun15: what is needed here.
-/
namespace Go.Proofs.YtfaefpniiiandaaDoor
open Go.RowKit
set_option linter.unusedVariables false
set_option maxRecDepth 100000
theorem built_out0 : Tryd.prog.built 54 [] = some (out0.cells (.slice none 0 0)).toArray := by kernel_rfl
theorem ycells_39 {q : YRaw} {x : LReady} (h : x.tx.m.recent.length = 32) : (q.cells x)[39]? = some (.slice q.t.q.IA q.t.q.n q.t.q.ic) := ycells_t (j := 38) ((tcells_m 37).trans (cells_37 h))
/-- what is there while it is run -/
structure RX (w V : World) (B g2 g4 : Nat) (q : YRaw) (x : LReady) (LA : Option Addr) (ln : Nat) (l : List LAcc) : Prop where
  b : Below w.heap.size w V
  r2 : Row V g2 41 (q.cells x)
  r4 : Row V g4 54 (out0.cells (.slice none 0 0))
  rd : ReadyIn V B q x
  ac : AccsIn V B LA ln l
theorem RX.below {w V V' : World} {B g2 g4 ln : Nat} {q : YRaw} {x : LReady} {LA : Option Addr} {l : List LAcc} (h : RX w V B g2 g4 q x LA ln l) (hB : B ≤ w.heap.size) (hb : Below V.heap.size V V') : RX w V' B g2 g4 q x LA ln l :=
  ⟨h.b.trans (hb.mono h.b.size), h.r2.below hb h.r2.lt, h.r4.below hb h.r4.lt, h.rd.below (hb.mono (Nat.le_trans hB h.b.size)), h.ac.below (hb.mono (Nat.le_trans hB h.b.size))⟩
theorem arg15 {x : LReady} {l : List LAcc} (h : l.length ≠ x.roles.length) : run15 x l = (out0, 1) := by unfold run15; rw [if_pos h]
theorem prog_bad15 {x : LReady} {l : List LAcc} (h : ∃ a ∈ x.tx.m.ins, (x.roles.length : Int) ≤ a.p) : run15 x l = (out0, 1) := by
  unfold run15
  split
  · rfl
  · first
    | rfl
    | rw [if_pos h]
theorem zero_ins15 : (Tryd.prog.info? 70).map (·.zero) = some (some (.agg (insC 0 none 0 0 none 0 0).toArray)) := by kernel_rfl
theorem ins_one15 {p : Int} {IA D : Option Addr} {n c dn dc : Nat} : ∀ u ∈ insC p IA n c D dn dc, u.oneCell' = true := by
  intro u hu
  simp only [insC, List.mem_cons, List.not_mem_nil, or_false] at hu
  rcases hu with rfl | rfl | rfl <;> rfl
theorem ia_more15 {w : World} {B B' : Nat} {p : Int} {IA : Option Addr} {n c : Nat} {D : Option Addr} {dn dc : Nat} {acc dat : List Int} (h : InsAt14 w B p IA n c D dn dc acc dat) (hB : B ≤ B') : InsAt14 w B' p IA n c D dn dc acc dat :=
  ⟨h.aSees.more hB, h.dSees.more hB, h.ab, h.db, h.ac, h.dc⟩
theorem oa_low15 {w : World} {base base' : Nat} {v : Value} {L : List LAcc} (h : OA14 w base v L) (hb : base' ≤ base) : OA14 w base' v L := by
  obtain ⟨A, c, c', h1, h2, h3, h4⟩ := h.is
  exact ⟨⟨A, c, c', h1, h2, h3, own_baseR h4 hb⟩, h.ok⟩
end Go.Proofs.YtfaefpniiiandaaDoor

/-
  Of part Load15: what is needed here.
-/
namespace Go.Proofs.YtfaefpniiiandaaDoor
open Go.RowKit
set_option linter.unusedVariables false
set_option maxRecDepth 100000
/-! ### pure: who pays, what is loaded -/
def pay15 (L : List LHold) (x : LReady) : Bool := match x.roles with
  | [] => false
  | r :: _ => r.wr && (decide ((getH L r.key).o = k0) && decide (x.fee ≤ (getH L r.key).c))
def ld15 (L : List LHold) (rs : List LRole) : List LAcc := rs.map fun r => getH L r.key
def load15 (L : List LHold) (x : LReady) : List LAcc := (ld15 L x.roles).set 0 ⟨(getA (ld15 L x.roles) 0).c - x.fee, (getA (ld15 L x.roles) 0).o, (getA (ld15 L x.roles) 0).s⟩
/-- the list while it is filled -/
def fill15 (L : List LHold) (rs : List LRole) (k : Nat) : List LAcc := ld15 L (rs.take k) ++ List.replicate (rs.length - k) blank13
theorem fill_zero15 (L : List LHold) (rs : List LRole) : fill15 L rs 0 = List.replicate rs.length blank13 := by
  unfold fill15 ld15
  simp
theorem fill_all15 (L : List LHold) (rs : List LRole) : fill15 L rs rs.length = ld15 L rs := by
  unfold fill15 ld15
  simp
theorem fill_next15 (L : List LHold) {rs : List LRole} {k : Nat} {y : LRole} (h : rs[k]? = some y) : (fill15 L rs k).set k (getH L y.key) = fill15 L rs (k + 1) := by
  obtain ⟨hk, _⟩ := List.getElem?_eq_some_iff.1 h
  have hl : (ld15 L (rs.take k)).length = k := by unfold ld15; rw [List.length_map, List.length_take, Nat.min_eq_left (Nat.le_of_lt hk)]
  have hr : List.replicate (rs.length - k) blank13 = blank13 :: List.replicate (rs.length - (k + 1)) blank13 := by
    rw [show rs.length - k = (rs.length - (k + 1)) + 1 by omega, List.replicate_succ]
  unfold fill15
  rw [List.set_append_right _ _ (by omega), hl, Nat.sub_self, hr, List.set_cons_zero, List.take_add_one, h]
  unfold ld15
  rw [List.map_append, List.append_assoc]
  rfl
theorem made_acc15 (n : Nat) : (madeCells (Value.agg blank13.cells.toArray).cells (n * 34)).toList = accsC (List.replicate n blank13) := by
  have hz : (Value.agg blank13.cells.toArray).cells.size = 34 := by kernel_rfl
  have hc : (Value.agg blank13.cells.toArray).cells.toList = blank13.cells := rfl
  generalize (Value.agg blank13.cells.toArray).cells = zc at hz hc
  have hcl : blank13.cells.length = 34 := rfl
  have hlen : (accsC (List.replicate n blank13)).length = n * 34 := by
    rw [accsC_len (fun x hx => by rw [List.eq_of_mem_replicate hx]; exact blank_ok), List.length_replicate]
  have key : ∀ (m i : Nat), i < m * 34 → (accsC (List.replicate m blank13))[i]? = blank13.cells[i % 34]? := by
    intro m
    induction m with
    | zero => intro i hi; omega
    | succ m ih =>
      intro i hi
      have e : accsC (List.replicate (m + 1) blank13) = blank13.cells ++ accsC (List.replicate m blank13) := by
        rw [List.replicate_succ]; unfold accsC; rw [List.map_cons, List.flatten_cons]
      rw [e]
      by_cases h : i < 34
      · rw [List.getElem?_append_left (by rw [hcl]; exact h), Nat.mod_eq_of_lt h]
      · rw [List.getElem?_append_right (by rw [hcl]; omega), hcl, ih (i - 34) (by omega)]
        congr 1
        omega
  apply List.ext_getElem?
  intro i
  by_cases h : i < n * 34
  · rw [key n i h]
    have h34 : i % 34 < 34 := Nat.mod_lt _ (by decide)
    have e1 : (madeCells zc (n * 34)).toList[i]? = some (zc[i % zc.size]!) := by
      simp only [madeCells, Array.toList_map, Array.toList_range]
      rw [List.getElem?_map, List.getElem?_range h]
      rfl
    rw [e1, hz, ← hc, getElem!_pos zc (i % 34) (by rw [hz]; exact h34)]
    simp [hz, h34]
  · rw [List.getElem?_eq_none (show (madeCells zc (n * 34)).toList.length ≤ i by simp [madeCells]; omega), List.getElem?_eq_none (by rw [hlen]; omega)]
theorem noth15 (w : World) : Calls Tryd.prog 36 #[.pointer none] w fun e w' => e = .returned (.bool false) ∧ w = w' := by
  go_enter Tryd.func36, Tryd.ntmps36
  go_wp2_with fail
  go_ret
  exact ⟨rfl, rfl⟩
set_option maxHeartbeats 1000000 in
theorem same_yn15 (sb mb : Nat) (L : List LHold) (V : World) (hs : StIn V sb mb L) : Calls Tryd.prog 24 #[.pointer (some ⟨sb, 0, none⟩), .pointer none] V fun e w' => e = .returned (.bool false) ∧ V = w' := by
  have HT0 := Lib.hid (there13 sb mb L V hs)
  have HT1 := Lib.hid (noth15 V)
  clear hs
  go_enter Tryd.func24, Tryd.ntmps24
  go_wp2_with fail
  refine HT0.out.mono ?_
  rintro e w' ⟨rfl, rfl⟩
  go_wp2_with fail
  refine HT1.out.mono ?_
  rintro e w' ⟨rfl, rfl⟩
  go_wp2_with fail
  refine HT0.out.mono ?_
  rintro e w' ⟨rfl, rfl⟩
  go_wp2_with fail
  refine HT1.out.mono ?_
  rintro e w' ⟨rfl, rfl⟩
  go_wp2_with fail
  go_ret
  exact ⟨rfl, rfl⟩
/-! ### payable -/
set_option maxHeartbeats 4000000 in
theorem payable15 (sb mb : Nat) (L : List LHold) (q : YRaw) (x : LReady) (B : Nat) (w : World) (hs : StIn w sb mb L) (h : ReadyIn w B q x) (hB : B ≤ w.heap.size) (hrn : q.rn ≤ 100000) (hkb : ∀ r ∈ x.roles, AllBytes r.key) :
    Calls Tryd.prog 31 #[.pointer (some ⟨sb, 0, none⟩), .agg (q.cells x).toArray] w fun e w' => e = .returned (.bool (pay15 L x)) ∧ Below w.heap.size w w' := by
  have hb0 := (Below.refl w.heap.size w).alloc (Nat.le_refl _) (.cells (q.cells x).toArray 41)
  have HB0 := Lib.hid hb0
  have H32 := Lib.hid h.tx.m.recent
  have R3 := Lib.hid (Row.new w 41 (q.cells x))
  have S0 := Lib.hid (hs.below hb0)
  have RR := Lib.hid ((h.rs.below (hb0.mono hB)))
  have HLB := Lib.hid (Nat.le_trans hB hb0.size)
  have HKB := Lib.hid hkb
  obtain ⟨g3, hg3⟩ : ∃ g, g = w.heap.size := ⟨_, rfl⟩
  have HG3 : Hid (w.heap.size = g3) := Lib.hid hg3.symm
  rw [← hg3] at R3
  clear hg3 hb0 hs h hB hkb
  generalize hW : w.alloc (.cells (q.cells x).toArray 41) = W at *
  have HW := Lib.hid hW
  clear hW
  have c41 : W.cell? ⟨g3, 41, none⟩ = some (.slice q.RA q.rn q.rc) := (R3.out.cell 41).trans (ycells_41 H32.out 0)
  cases hx : x.roles with
  | nil =>
    have hn0 : q.rn = 0 := by rw [← RR.out.len, hx]; rfl
    rw [hn0] at c41
    have HP : Hid (pay15 L x = false) := Lib.hid (by unfold pay15; rw [hx])
    go_enter Tryd.func31, Tryd.ntmps31
    go_upto_region 1 with fail
    try rw [HG3.out]
    rw [HW.out]
    clear HG3 HW
    go_wp2_with fail
    go_ret
    exact ⟨told_bool HP.out.symm, HB0.out⟩
  | cons y0 rest =>
    have hpos : 0 < q.rn := by rw [← RR.out.len, hx]; exact Nat.succ_pos _
    obtain ⟨ra, y, hra, hrb, hy, hyo, hyc⟩ := RR.out.get (k := 0) hpos
    obtain rfl : y0 = y := by rw [hx] at hy; simpa using hy
    rw [hra] at c41
    have HYO := Lib.hid hyo
    have HYK : Hid (y0.key.length = 32 ∧ AllBytes y0.key) := Lib.hid ⟨hyo.1, HKB.out y0 (by rw [hx]; exact List.mem_cons_self ..)⟩
    have HYC : Hid (∀ j u, y0.cells[j]? = some u → W.cell? (ra.add j) = some u) := Lib.hid fun j u hu => by
      have := hyc j u hu
      rwa [addr_add, Nat.zero_mul, Nat.zero_add] at this
    have cw : W.cell? ⟨ra.block, ra.off + 33, none⟩ = some (.bool y0.wr) := HYC.out 33 _ (role_wr hyo.1)
    clear hrb hy hyo hyc hra
    have hpos' : 0 < (q.rn : Int) := by omega
    have hposn : ¬ (q.rn : Int) = 0 := by omega
    cases hw : y0.wr with
    | false =>
      have HP : Hid (pay15 L x = false) := Lib.hid (by unfold pay15; rw [hx]; simp [hw])
      rw [hw] at cw
      go_enter Tryd.func31, Tryd.ntmps31
      go_upto_region 1 with fail
      try rw [HG3.out]
      rw [HW.out]
      clear HG3 HW
      go_wp2_with fail
      go_ret
      exact ⟨told_bool HP.out.symm, HB0.out⟩
    | true =>
      rw [hw] at cw
      have HGO := Lib.hid (S0.out.sto.get_ok y0.key)
      have HSK : Hid ((Tryd.prog.info? 57).map (·.size) = some (bv y0.key).length) := Lib.hid (by rw [bv_length, HYK.out.1]; exact size_key)
      have HSA := Lib.hid (size_acc HGO.out.o.1)
      have HLA : Hid (blank13.cells.length = (getH L y0.key).cells.length) := Lib.hid (by rw [acc_len HGO.out.o.1]; rfl)
      have HPAY : Hid (pay15 L x = (decide ((getH L y0.key).o = k0) && decide (x.fee ≤ (getH L y0.key).c))) := Lib.hid (by unfold pay15; rw [hx]; simp only [hw, Bool.true_and])
      have HGC := Lib.hid (get13 sb mb L y0.key W S0.out HYK.out)
      have HGK : Hid (∀ j u, (bv (getH L y0.key).o)[j]? = some u → (getH L y0.key).cells[1 + j]? = some u) := Lib.hid fun j u hu => by
        show (Value.int .u64 _ :: (bv (getH L y0.key).o ++ _))[1 + j]? = some u
        rw [Nat.add_comm, List.getElem?_cons_succ, List.getElem?_append_left (List.getElem?_eq_some_iff.1 hu).1]
        exact hu
      have HGK0 : Hid ((getH L y0.key).cells[0]? = some (.int .u64 (getH L y0.key).c)) := Lib.hid rfl
      rw [HPAY.out]
      clear HPAY S0 RR
      generalize getH L y0.key = a at *
      have HSO : Hid ((Tryd.prog.info? 57).map (·.size) = some (bv a.o).length) := Lib.hid (by rw [bv_length, HGO.out.o.1]; exact size_key)
      go_enter Tryd.func31, Tryd.ntmps31
      go_upto_region 1 with fail
      try rw [HG3.out]
      rw [HW.out]
      clear HG3 HW
      go_wp2_with (first
        | ((with_reducible show wpList _ _ _ ({ dst := some 23, op := Op.load _ _, type := _, pos := _, after := _, guard := _ } :: _) _ _); go_must (refine wpList_load_at rfl 57 (.tmp 22) rfl ra (bv y0.key) _ Tryd.underlying57 rfl HSK.out (fun j u hu => HYC.out j u (role_key hu)) ?_ ?_; go_simp))
        | fail)
      refine HGC.out.mono ?_
      rintro e w4 ⟨rfl, hb4⟩
      have B4 := Lib.hid (HB0.out.trans (hb4.mono HB0.out.size))
      have R34 := Lib.hid (R3.out.below hb4 R3.out.lt)
      clear hb4 HGC c41 cw
      go_upto_region 4 with (first
        | ((with_reducible show wpList _ _ _ ({ dst := some 5, op := Op.alloc _, type := _, pos := _, after := _, guard := _ } :: _) _ _); go_must (refine wpList_alloc_zero rfl 59 rfl blank13.cells zero_acc ?_))
        | ((with_reducible show wpList _ _ _ ({ dst := none, op := Op.store 59 _ _, type := _, pos := _, after := _, guard := _ } :: _) _ _); go_must (refine wpList_store_new rfl 59 (.tmp 5) (.tmp 24) rfl a.cells HSA.out (acc_one _) (by rw [List.size_toArray]; exact HLA.out) ?_ ?_ ?_; go_simp; go_simp; intro w5 hr5 hb5 hz5)))
      have R5 := Lib.hid hr5
      have R35 := Lib.hid (R34.out.below hb5 R34.out.lt)
      have B5 := Lib.hid (B4.out.trans (hb5.mono B4.out.size))
      obtain ⟨g5, hg5⟩ : ∃ g, g = w4.heap.size := ⟨_, rfl⟩
      rw [← hg5] at R5 ⊢
      clear hr5 hb5 hz5 hg5 R34 B4
      by_cases he : a.o = k0
      · have hd : decide (a.o = k0) = true := decide_eq_true he
        have HDD := Lib.hid hd
        have NE := Lib.hid (fun w => key_eql (x := a.o) (y := k0) HGO.out.o.1 rfl w)
        rw [hd] at NE
        clear he hd
        have SS0 := Lib.hid (show Below w5.heap.size w5 w5.drew from (Below.refl w5.heap.size w5).drew)
        refine wp_region_held_drew (S := fun V => Below w5.heap.size w5 V) (by kernel_rfl) SS0.out (fun _ => ?_)
        try dsimp only [List.append]
        generalize w5.drew = wd at *
        refine takeL (i := 0) (v := ?_) rfl (by kernel_rfl) (by kernel_rfl) (by kernel_rfl) (fun _ _ _ h => h) (Or.inl ⟨by rfl, ?_⟩) SS0.out ?_
        rotate_left
        · intro w hw
          try dsimp only at hw
          go_simp
          try with_reducible rfl
        try simp only [Act.put, List.setIfInBounds_toArray, List.set_cons_zero, List.set_cons_succ]
        refine takeL (i := 1) (v := .agg (bv a.o).toArray) rfl (by kernel_rfl) (by kernel_rfl) (by kernel_rfl) (fun _ _ _ h => h) (Or.inl ⟨by rfl, fun wz hwz => exec_load_at wz 57 (.tmp 25) rfl ⟨g5, 1, none⟩ (bv a.o) _ Tryd.underlying57 rfl HSO.out (fun j u hu => by rw [addr_row]; exact (hwz.cell (p := ⟨g5, 1 + j, none⟩) R5.out.lt).trans ((R5.out.cell (1 + j)).trans (HGK.out j u hu))) (by go_simp)⟩) SS0.out ?_
        try simp only [Act.put, List.setIfInBounds_toArray, List.set_cons_zero, List.set_cons_succ]
        refine readyL (i := 2) rfl (by kernel_rfl) (by kernel_rfl) fun K hK => ?_
        go_simp
        refine (system_ _).mono ?_
        rintro e w6 ⟨rfl, hb6⟩
        have SS6 := Lib.hid (SS0.out.trans (hb6.mono SS0.out.size))
        have ne1 := NE.out
        clear hb6
        refine hK.out _ _ SS6.out ?_
        clear hK K
        try simp only [Act.put, List.setIfInBounds_toArray, List.set_cons_zero, List.set_cons_succ]
        refine takeL (i := 3) (v := ?_) rfl (by kernel_rfl) (by kernel_rfl) (by kernel_rfl) (fun _ _ _ h => h) (Or.inl ⟨by rfl, ?_⟩) SS6.out ?_
        rotate_left
        · intro w hw
          try dsimp only at hw
          go_simp
          try with_reducible rfl
        try simp only [Act.put, List.setIfInBounds_toArray, List.set_cons_zero, List.set_cons_succ]
        refine takeL (i := 4) (v := ?_) rfl (by kernel_rfl) (by kernel_rfl) (by kernel_rfl) (fun _ _ _ h => h) (Or.inl ⟨by rfl, ?_⟩) SS6.out ?_
        rotate_left
        · intro w hw
          try dsimp only at hw
          go_simp
          try with_reducible rfl
        try simp only [Act.put, List.setIfInBounds_toArray, List.set_cons_zero, List.set_cons_succ]
        refine takeL (i := 5) (v := ?_) rfl (by kernel_rfl) (by kernel_rfl) (by kernel_rfl) (fun _ _ _ h => h) (Or.inl ⟨by rfl, ?_⟩) SS6.out ?_
        rotate_left
        · intro w hw
          try dsimp only at hw
          go_simp
          try with_reducible rfl
        try simp only [Act.put, List.setIfInBounds_toArray, List.set_cons_zero, List.set_cons_succ]
        refine takeL (i := 6) (v := ?_) rfl (by kernel_rfl) (by kernel_rfl) (by kernel_rfl) (fun _ _ _ h => h) (Or.inl ⟨by rfl, ?_⟩) SS6.out ?_
        rotate_left
        · intro w hw
          try dsimp only at hw
          have c0 : w.cell? ⟨g5, 0, none⟩ = some (.int .u64 a.c) := (hw.cell (p := ⟨g5, 0, none⟩) R5.out.lt).trans ((R5.out.cell 0).trans HGK0.out)
          go_simp
          try with_reducible rfl
        try simp only [Act.put, List.setIfInBounds_toArray, List.set_cons_zero, List.set_cons_succ]
        refine takeL (i := 7) (v := ?_) rfl (by kernel_rfl) (by kernel_rfl) (by kernel_rfl) (fun _ _ _ h => h) (Or.inl ⟨by rfl, ?_⟩) SS6.out ?_
        rotate_left
        · intro w hw
          try dsimp only at hw
          go_simp
          try with_reducible rfl
        try simp only [Act.put, List.setIfInBounds_toArray, List.set_cons_zero, List.set_cons_succ]
        refine takeL (i := 8) (v := ?_) rfl (by kernel_rfl) (by kernel_rfl) (by kernel_rfl) (fun _ _ _ h => h) (Or.inl ⟨by rfl, ?_⟩) SS6.out ?_
        rotate_left
        · intro w hw
          try dsimp only at hw
          have c45 : w.cell? ⟨g3, 45, none⟩ = some (.int .u64 x.fee) := (hw.cell (p := ⟨g3, 45, none⟩) R35.out.lt).trans ((R35.out.cell 45).trans (ycells_41 H32.out 4))
          go_simp
          try with_reducible rfl
        try simp only [Act.put, List.setIfInBounds_toArray, List.set_cons_zero, List.set_cons_succ]
        refine takeL (i := 9) (v := ?_) rfl (by kernel_rfl) (by kernel_rfl) (by kernel_rfl) (fun _ _ _ h => h) (Or.inl ⟨by rfl, ?_⟩) SS6.out ?_
        rotate_left
        · intro w hw
          try dsimp only at hw
          go_simp
          try with_reducible rfl
        try simp only [Act.put, List.setIfInBounds_toArray, List.set_cons_zero, List.set_cons_succ]
        refine takeL (i := 10) (v := ?_) rfl (by kernel_rfl) (by kernel_rfl) (by kernel_rfl) (fun _ _ _ h => h) (Or.inl ⟨by rfl, ?_⟩) SS6.out ?_
        rotate_left
        · intro w hw
          try dsimp only at hw
          go_simp
          try with_reducible rfl
        try simp only [Act.put, List.setIfInBounds_toArray, List.set_cons_zero, List.set_cons_succ]
        refine takeL (i := 11) (v := ?_) rfl (by kernel_rfl) (by kernel_rfl) (by kernel_rfl) (fun _ _ _ h => h) (Or.inl ⟨by rfl, ?_⟩) SS6.out ?_
        rotate_left
        · intro w hw
          try dsimp only at hw
          go_simp
          try with_reducible rfl
        try simp only [Act.put, List.setIfInBounds_toArray, List.set_cons_zero, List.set_cons_succ]
        refine wpAnyH_done (by kernel_rfl) ?_ _
        go_wp2_with fail
        go_ret
        refine ⟨?_, B5.out.trans (SS6.out.mono B5.out.size)⟩
        rw [HDD.out, Bool.true_and]
        rfl

      · have hd : decide (a.o = k0) = false := decide_eq_false he
        have HDD := Lib.hid hd
        have NE := Lib.hid (fun w => key_eql (x := a.o) (y := k0) HGO.out.o.1 rfl w)
        rw [hd] at NE
        clear he hd
        have SS0 := Lib.hid (show Below w5.heap.size w5 w5.drew from (Below.refl w5.heap.size w5).drew)
        refine wp_region_held_drew (S := fun V => Below w5.heap.size w5 V) (by kernel_rfl) SS0.out (fun _ => ?_)
        try dsimp only [List.append]
        generalize w5.drew = wd at *
        refine takeL (i := 0) (v := ?_) rfl (by kernel_rfl) (by kernel_rfl) (by kernel_rfl) (fun _ _ _ h => h) (Or.inl ⟨by rfl, ?_⟩) SS0.out ?_
        rotate_left
        · intro w hw
          try dsimp only at hw
          go_simp
          try with_reducible rfl
        try simp only [Act.put, List.setIfInBounds_toArray, List.set_cons_zero, List.set_cons_succ]
        refine takeL (i := 1) (v := .agg (bv a.o).toArray) rfl (by kernel_rfl) (by kernel_rfl) (by kernel_rfl) (fun _ _ _ h => h) (Or.inl ⟨by rfl, fun wz hwz => exec_load_at wz 57 (.tmp 25) rfl ⟨g5, 1, none⟩ (bv a.o) _ Tryd.underlying57 rfl HSO.out (fun j u hu => by rw [addr_row]; exact (hwz.cell (p := ⟨g5, 1 + j, none⟩) R5.out.lt).trans ((R5.out.cell (1 + j)).trans (HGK.out j u hu))) (by go_simp)⟩) SS0.out ?_
        try simp only [Act.put, List.setIfInBounds_toArray, List.set_cons_zero, List.set_cons_succ]
        refine readyL (i := 2) rfl (by kernel_rfl) (by kernel_rfl) fun K hK => ?_
        go_simp
        refine (system_ _).mono ?_
        rintro e w6 ⟨rfl, hb6⟩
        have SS6 := Lib.hid (SS0.out.trans (hb6.mono SS0.out.size))
        have ne1 := NE.out
        clear hb6
        refine hK.out _ _ SS6.out ?_
        clear hK K
        try simp only [Act.put, List.setIfInBounds_toArray, List.set_cons_zero, List.set_cons_succ]
        refine takeL (i := 3) (v := ?_) rfl (by kernel_rfl) (by kernel_rfl) (by kernel_rfl) (fun _ _ _ h => h) (Or.inl ⟨by rfl, ?_⟩) SS6.out ?_
        rotate_left
        · intro w hw
          try dsimp only at hw
          go_simp
          try with_reducible rfl
        try simp only [Act.put, List.setIfInBounds_toArray, List.set_cons_zero, List.set_cons_succ]
        refine takeL (i := 4) (v := ?_) rfl (by kernel_rfl) (by kernel_rfl) (by kernel_rfl) (fun _ _ _ h => h) (Or.inl ⟨by rfl, ?_⟩) SS6.out ?_
        rotate_left
        · intro w hw
          try dsimp only at hw
          go_simp
          try with_reducible rfl
        try simp only [Act.put, List.setIfInBounds_toArray, List.set_cons_zero, List.set_cons_succ]
        refine takeL (i := 5) (v := undef) rfl (by kernel_rfl) (by kernel_rfl) (by kernel_rfl) (fun _ _ _ h => h) (Or.inr ⟨by rfl, rfl⟩) SS6.out ?_
        try simp only [Act.put, List.setIfInBounds_toArray, List.set_cons_zero, List.set_cons_succ]
        refine takeL (i := 6) (v := undef) rfl (by kernel_rfl) (by kernel_rfl) (by kernel_rfl) (fun _ _ _ h => h) (Or.inr ⟨by rfl, rfl⟩) SS6.out ?_
        try simp only [Act.put, List.setIfInBounds_toArray, List.set_cons_zero, List.set_cons_succ]
        refine takeL (i := 7) (v := undef) rfl (by kernel_rfl) (by kernel_rfl) (by kernel_rfl) (fun _ _ _ h => h) (Or.inr ⟨by rfl, rfl⟩) SS6.out ?_
        try simp only [Act.put, List.setIfInBounds_toArray, List.set_cons_zero, List.set_cons_succ]
        refine takeL (i := 8) (v := undef) rfl (by kernel_rfl) (by kernel_rfl) (by kernel_rfl) (fun _ _ _ h => h) (Or.inr ⟨by rfl, rfl⟩) SS6.out ?_
        try simp only [Act.put, List.setIfInBounds_toArray, List.set_cons_zero, List.set_cons_succ]
        refine takeL (i := 9) (v := undef) rfl (by kernel_rfl) (by kernel_rfl) (by kernel_rfl) (fun _ _ _ h => h) (Or.inr ⟨by rfl, rfl⟩) SS6.out ?_
        try simp only [Act.put, List.setIfInBounds_toArray, List.set_cons_zero, List.set_cons_succ]
        refine takeL (i := 10) (v := ?_) rfl (by kernel_rfl) (by kernel_rfl) (by kernel_rfl) (fun _ _ _ h => h) (Or.inl ⟨by rfl, ?_⟩) SS6.out ?_
        rotate_left
        · intro w hw
          try dsimp only at hw
          go_simp
          try with_reducible rfl
        try simp only [Act.put, List.setIfInBounds_toArray, List.set_cons_zero, List.set_cons_succ]
        refine takeL (i := 11) (v := ?_) rfl (by kernel_rfl) (by kernel_rfl) (by kernel_rfl) (fun _ _ _ h => h) (Or.inl ⟨by rfl, ?_⟩) SS6.out ?_
        rotate_left
        · intro w hw
          try dsimp only at hw
          go_simp
          try with_reducible rfl
        try simp only [Act.put, List.setIfInBounds_toArray, List.set_cons_zero, List.set_cons_succ]
        refine wpAnyH_done (by kernel_rfl) ?_ _
        go_wp2_with fail
        go_ret
        refine ⟨?_, B5.out.trans (SS6.out.mono B5.out.size)⟩
        rw [HDD.out, Bool.false_and]
        rfl
/-! ### Load -/
def LoadDone15 (w : World) (L : List LHold) (x : LReady) (e : Ending) (w' : World) : Prop := Below w.heap.size w w' ∧
  ((pay15 L x = false ∧ e = .returned (.tuple #[.slice none 0 0, .int .i64 22])) ∨ (pay15 L x = true ∧ ∃ g cap rest, e = .returned (.tuple #[.slice (some ⟨g, 0, none⟩) x.roles.length x.roles.length, .int .i64 0]) ∧ OutAt w' w.heap.size g cap x.roles.length rest (load15 L x)))
set_option maxHeartbeats 8000000 in
theorem loadC (sb mb : Nat) (L : List LHold) (q : YRaw) (x : LReady) (B : Nat) (w : World) (hs : StIn w sb mb L) (h : ReadyIn w B q x) (hB : B ≤ w.heap.size) (hrn : q.rn ≤ 100000) (hkb : ∀ r ∈ x.roles, AllBytes r.key) (hfee : 0 ≤ x.fee ∧ x.fee < 18446744073709551616) :
    Calls Tryd.prog 12 #[.pointer (some ⟨sb, 0, none⟩), .agg (q.cells x).toArray] w (LoadDone15 w L x) := by
  have hb0 := (Below.refl w.heap.size w).alloc (Nat.le_refl _) (.cells (q.cells x).toArray 41)
  have HB0 := Lib.hid hb0
  have HB := Lib.hid hB
  have H32 := Lib.hid h.tx.m.recent
  have HRN := Lib.hid hrn
  have R3 := Lib.hid (Row.new w 41 (q.cells x))
  have HST := Lib.hid (fun (V : World) (hb : Below w.heap.size w V) => hs.below hb)
  have HRD := Lib.hid (fun (V : World) (hb : Below w.heap.size w V) => h.below (hb.mono hB))
  have HKB := Lib.hid hkb
  have HRL := Lib.hid h.rs.len
  have HFE := Lib.hid hfee
  have HSO := Lib.hid hs.sto
  obtain ⟨g3, hg3⟩ : ∃ g, g = w.heap.size := ⟨_, rfl⟩
  have HG3 : Hid (w.heap.size = g3) := Lib.hid hg3.symm
  rw [← hg3] at R3
  have HG3L : Hid (w.heap.size ≤ g3) := Lib.hid (by omega)
  clear hg3 hb0 hs h hB hkb hfee
  generalize hW : w.alloc (.cells (q.cells x).toArray 41) = W at *
  have HW := Lib.hid hW
  clear hW
  go_enter Tryd.func12, Tryd.ntmps12
  go_upto_region 1 with fail
  try rw [HG3.out]
  rw [HW.out]
  clear HG3 HW
  go_wp2_with fail
  refine (same_yn15 sb mb L W (HST.out W HB0.out)).mono ?_
  rintro e w1 ⟨rfl, rfl⟩
  go_wp2_with (first
    | ((with_reducible show wpList _ _ _ ({ dst := some 12, op := Op.load _ _, type := _, pos := _, after := _, guard := _ } :: _) _ _); go_must (refine wpList_load_whole rfl 41 (.tmp 3) rfl g3 _ (q.cells x) _ Tryd.underlying41 rfl (by rw [ycells_len H32.out]; kernel_rfl) R3.out ?_ ?_; go_simp))
    | fail)
  refine (payable15 sb mb L q x B W (HST.out W HB0.out) (HRD.out W HB0.out) (Nat.le_trans HB.out HB0.out.size) hrn HKB.out).mono ?_
  rintro e w2 ⟨rfl, hb2⟩
  have B2 := Lib.hid (HB0.out.trans (hb2.mono HB0.out.size))
  have R32 := Lib.hid (R3.out.below hb2 R3.out.lt)
  clear hb2 R3 HB0
  cases hp : pay15 L x with
  | false =>
    have HP := Lib.hid hp
    clear hp
    go_wp2_with fail
    go_ret2
    exact ⟨B2.out, .inl ⟨HP.out, rfl⟩⟩
  | true =>
    have HP := Lib.hid hp
    have HPOS : Hid (0 < x.roles.length) := Lib.hid (by
      cases hx : x.roles with
      | nil => unfold pay15 at hp; rw [hx] at hp; cases hp
      | cons _ _ => exact Nat.succ_pos _)
    have HCF : Hid (x.fee ≤ (getA (ld15 L x.roles) 0).c) := Lib.hid (by
      cases hx : x.roles with
      | nil => unfold pay15 at hp; rw [hx] at hp; cases hp
      | cons r rest =>
        unfold pay15 at hp
        rw [hx] at hp
        simp only [Bool.and_eq_true, decide_eq_true_eq] at hp
        exact hp.2.2)
    clear hp
    have c41 : w2.cell? ⟨g3, 41, none⟩ = some (.slice q.RA q.rn q.rc) := (R32.out.cell 41).trans (ycells_41 H32.out 0)
    obtain ⟨n, hn⟩ : ∃ n, n = x.roles.length := ⟨_, rfl⟩
    have HN := Lib.hid hn
    have HQN : Hid (q.rn = n) := Lib.hid (by rw [hn]; exact HRL.out.symm)
    rw [HQN.out] at c41 hrn
    have hpos : 0 < n := by rw [hn]; exact HPOS.out
    clear hn
    go_upto_region 6 with (at_make; (obtain ⟨i0, hi, hz0, hz1, hz2⟩ := info_parts infoAc14); go_must (refine wpList_make_full _ rfl (.tmp 17) (.tmp 17) 49 rfl w2.heap.size 59 i0 _ 34 Tryd.underlying49 hi hz0 hz1 .i64 .i64 _ _ n rfl rfl rfl rfl (by rw [hz2]; omega) (by unfold maxLen; omega) (Nat.le_refl _) ?_; intro w3 hown hgrow))
    rw [made_acc15] at hown
    obtain ⟨g, cap, rest, hgv, hO⟩ := own_out14 hown (List.length_replicate ..) hpos (fun a ha => by rw [List.eq_of_mem_replicate ha]; exact blank_ok)
    injection hgv with hgv _ hcap
    injection hgv with hgv
    injection hgv with hgb _ _
    subst hcap
    have O0 : Hid (OutAt w3 w2.heap.size g n n rest (fill15 L x.roles 0)) := Lib.hid (by rw [fill_zero15, ← HN.out]; exact hO)
    have hb3 := (Below.refl w2.heap.size w2).grown hgrow (Nat.le_refl _) (fun k hk => by cases hk)
    have R33 := Lib.hid (R32.out.below hb3 R32.out.lt)
    have B3 := Lib.hid (B2.out.trans (hb3.mono B2.out.size))
    have HGL : Hid (w.heap.size ≤ g ∧ g3 ≠ g) := Lib.hid (by have h1 := B2.out.size; have h2 := R32.out.lt; have h3 := hO.lo; omega)
    have HGE : Hid (w2.heap.size = g) := Lib.hid hgb
    rw [HGE.out]
    clear hown hO hgrow hb3 hgb R32 B2 c41
    have c41 : w3.cell? ⟨g3, 41, none⟩ = some (.slice q.RA n q.rc) := by rw [← HQN.out]; exact (R33.out.cell 41).trans (ycells_41 H32.out 0)
    go_wp2_with fail
    clear c41
    go_loopw [22] (fun i wr => ∃ k : Nat, k ≤ n ∧ i = .int .i64 k ∧ OutAt wr w.heap.size g n n rest (fill15 L x.roles k) ∧ Below w.heap.size w wr ∧ Row wr g3 41 (q.cells x)) (fun i _ => n - (intOf i).toNat)
    case atStart => exact ⟨0, Nat.zero_le _, rfl, O0.out.low (by rw [HGE.out]; exact HGL.out.1), B3.out, R33.out⟩
    case round =>
      obtain ⟨k, hk, rfl, ho, hb, hr3⟩ := hrel
      have O := Lib.hid ho
      have BW := Lib.hid hb
      have RW := Lib.hid hr3
      clear ho hb hr3 O0 B3 R33
      rename World => wr
      by_cases hlt : k < n
      · have hlt' : (k : Int) < n := by omega
        obtain ⟨ra, y, hra, hrb, hy, hyo, hcr⟩ := (HRD.out wr BW.out).rs.get (k := k) (by rw [HQN.out]; exact hlt)
        have HFN := Lib.hid (fill_next15 L hy)
        have HYM := Lib.hid (List.mem_of_getElem? hy)
        have HCR := Lib.hid hcr
        have HYO := Lib.hid hyo
        have HYK : Hid (y.key.length = 32 ∧ AllBytes y.key) := Lib.hid ⟨hyo.1, HKB.out y (List.mem_of_getElem? hy)⟩
        have HSR := Lib.hid (size_role hyo.1)
        have HRL2 := Lib.hid (role_len hyo.1)
        have HR1 := Lib.hid (role_one y)
        have HRK : Hid (∀ j u, (bv y.key)[j]? = some u → y.cells[j]? = some u) := Lib.hid fun j u hu => role_key hu
        have HSK : Hid ((Tryd.prog.info? 57).map (·.size) = some (bv y.key).length) := Lib.hid (by rw [bv_length, hyo.1]; exact size_key)
        have HGO := Lib.hid (HSO.out.get_ok y.key)
        rw [hra]
        clear hra hrb hy hyo hcr
        generalize y.cells = rc at *
        go_upto_region 9 with (first
          | ((with_reducible show wpList _ _ _ ({ dst := some 26, op := Op.load _ _, type := _, pos := _, after := _, guard := _ } :: _) _ _); go_must (refine wpList_load_at rfl 62 (.tmp 25) rfl (ra.add (k * 34)) rc _ Tryd.underlying62 rfl HSR.out HCR.out ?_ ?_; go_simp))
          | ((with_reducible show wpList _ _ _ ({ dst := none, op := Op.store 62 _ _, type := _, pos := _, after := _, guard := _ } :: _) _ _); go_must (refine wpList_store_new rfl 62 (.tmp 8) (.tmp 26) rfl rc HSR.out HR1.out (by rw [HRL2.out]; rfl) ?_ ?_ ?_; go_simp; go_simp; intro w8 hr8 hb8 hz8)))
        have R8 := Lib.hid hr8
        have B8 := Lib.hid (BW.out.trans (hb8.mono BW.out.size))
        have O8 := Lib.hid (O.out.below hb8)
        have RW8 := Lib.hid (RW.out.below hb8 RW.out.lt)
        obtain ⟨g8, hg8⟩ : ∃ v, v = wr.heap.size := ⟨_, rfl⟩
        rw [← hg8] at R8 ⊢
        have HG8 : Hid (w.heap.size ≤ g8) := Lib.hid (by rw [hg8]; exact BW.out.size)
        clear hr8 hb8 hz8 hg8 O RW BW
        go_wp2_with (first
          | ((with_reducible show wpList _ _ _ ({ dst := some 31, op := Op.load _ _, type := _, pos := _, after := _, guard := _ } :: _) _ _); go_must (refine wpList_load_at rfl 57 (.tmp 30) rfl ⟨g8, 0, none⟩ (bv y.key) _ Tryd.underlying57 rfl HSK.out (fun j u hu => by rw [addr_row, Nat.zero_add]; exact (R8.out.cell j).trans (HRK.out j u hu)) ?_ ?_; go_simp))
          | fail)
        refine (get13 sb mb L y.key w8 (HST.out w8 B8.out) HYK.out).mono ?_
        rintro e w9 ⟨rfl, hb9⟩
        have B9 := Lib.hid (B8.out.trans (hb9.mono B8.out.size))
        have O9 := Lib.hid (O8.out.below hb9)
        have RW9 := Lib.hid (RW8.out.below hb9 RW8.out.lt)
        have HKL : Hid (k < n) := Lib.hid hlt
        have HSA := Lib.hid (size_acc HGO.out.o.1)
        have HAL := Lib.hid (acc_len HGO.out.o.1)
        clear hb9 B8 O8 RW8 R8
        generalize hga : getH L y.key = a at *
        have HFN2 : Hid ((fill15 L x.roles k).set k a = fill15 L x.roles (k + 1)) := Lib.hid HFN.out
        clear hga HFN
        go_wp2_with ((with_reducible show wpList _ _ _ ({ dst := none, op := Op.store 59 _ _, type := _, pos := _, after := _, guard := _ } :: _) _ _); go_must (refine wpList_store_part rfl 59 (.tmp 33) (.tmp 32) rfl g 59 (k * 34 + 0) (accsC (fill15 L x.roles k) ++ rest) a.cells O9.out.row HSA.out (by rw [HAL.out, O9.out.all]; have := HKL.out; omega) (acc_one _) ?_ ?_ ?_; go_simp; go_simp; intro w10 hr10 ht10))
        have OZ : Hid (OutAt w10 w.heap.size g n n rest (fill15 L x.roles (k + 1))) := Lib.hid (by
          rw [← HFN2.out]
          exact O9.out.part HKL.out (o := 0) (cs := a.cells) HGO.out (accs_whole14 (getA_ok O9.out.ok k).o.1 HGO.out.o.1) (by rw [HAL.out]; decide) hr10)
        have BZ := Lib.hid (B9.out.trans (ht10.below HGL.out.1))
        have RZ := Lib.hid (ht10.row RW9.out HGL.out.2)
        clear hr10 ht10
        go_roundw
        case rel => exact ⟨k + 1, by omega, by go_num, OZ.out, BZ.out, RZ.out⟩
        case measure => simp [intOf]; omega
      · obtain rfl : k = n := by omega
        have OA : Hid (OutAt wr w.heap.size g k k rest (ld15 L x.roles)) := Lib.hid (by have := O.out; rwa [HN.out, fill_all15, ← HN.out] at this)
        clear O
        have HA0 := Lib.hid (getA_ok OA.out.ok 0)
        have HK0 : Hid (0 < k) := Lib.hid hpos
        have hpos' : 0 < (k : Int) := by omega
        have hwr : IntKind.u64.wrap ((getA (ld15 L x.roles) 0).c - x.fee) = (getA (ld15 L x.roles) 0).c - x.fee := IntWalk.u64_in _ (by have h1 := HCF.out; have h2 := HA0.out.c; have h3 := HFE.out; omega)
        have HRES : Hid ((ld15 L x.roles).set 0 ⟨(getA (ld15 L x.roles) 0).c - x.fee, (getA (ld15 L x.roles) 0).o, (getA (ld15 L x.roles) 0).s⟩ = load15 L x) := Lib.hid rfl
        have HNA : Hid (AccOk ⟨(getA (ld15 L x.roles) 0).c - x.fee, (getA (ld15 L x.roles) 0).o, (getA (ld15 L x.roles) 0).s⟩) := Lib.hid ⟨by have h1 := HCF.out; have h2 := HA0.out.c; have h3 := HFE.out; constructor <;> simp only <;> omega, HA0.out.o, HA0.out.s⟩
        go_upto_region 11 with fail
        have BD : Hid (Below w.heap.size w wr.drew) := Lib.hid BW.out.drew
        have OD : Hid (OutAt wr.drew w.heap.size g k k rest (ld15 L x.roles)) := Lib.hid ⟨OA.out.row.drew, OA.out.lo, OA.out.len, OA.out.room, OA.out.all, OA.out.ok⟩
        have RD : Hid (Row wr.drew g3 41 (q.cells x)) := Lib.hid RW.out.drew
        refine wp_region_held_drew (S := fun V => V.cell? ⟨g3, 45, none⟩ = some (.int .u64 x.fee)) (by kernel_rfl) ((RW.out.drew.cell 45).trans (ycells_41 H32.out 4)) (fun _ => ?_)
        try dsimp only [List.append]
        clear OA RW BW
        generalize wr.drew = wd at *
        have SD : Hid (wd.cell? ⟨g3, 45, none⟩ = some (.int .u64 x.fee)) := Lib.hid ((RD.out.cell 45).trans (ycells_41 H32.out 4))
        refine takeL (i := 0) (v := ?_) rfl (by kernel_rfl) (by kernel_rfl) (by kernel_rfl) (fun _ _ _ h => h) (Or.inl ⟨by rfl, ?_⟩) SD.out ?_
        rotate_left
        · intro w hw
          try dsimp only at hw
          go_simp
          try with_reducible rfl
        try simp only [Act.put, List.setIfInBounds_toArray, List.set_cons_zero, List.set_cons_succ]
        refine takeL (i := 1) (v := ?_) rfl (by kernel_rfl) (by kernel_rfl) (by kernel_rfl) (fun _ _ _ h => h) (Or.inl ⟨by rfl, ?_⟩) SD.out ?_
        rotate_left
        · intro w hw
          try dsimp only at hw
          go_simp
          try with_reducible rfl
        try simp only [Act.put, List.setIfInBounds_toArray, List.set_cons_zero, List.set_cons_succ]
        refine takeL (i := 2) (v := ?_) rfl (by kernel_rfl) (by kernel_rfl) (by kernel_rfl) (fun _ _ _ h => h) (Or.inl ⟨by rfl, ?_⟩) SD.out ?_
        rotate_left
        · intro w hw
          try dsimp only at hw
          go_simp
          try with_reducible rfl
        try simp only [Act.put, List.setIfInBounds_toArray, List.set_cons_zero, List.set_cons_succ]
        refine takeL (i := 4) (v := ?_) rfl (by kernel_rfl) (by kernel_rfl) (by kernel_rfl) (fun _ _ _ h => h) (Or.inl ⟨by rfl, ?_⟩) SD.out ?_
        rotate_left
        · intro w hw
          try dsimp only at hw
          go_simp
          try with_reducible rfl
        try simp only [Act.put, List.setIfInBounds_toArray, List.set_cons_zero, List.set_cons_succ]
        refine takeL (i := 5) (v := ?_) rfl (by kernel_rfl) (by kernel_rfl) (by kernel_rfl) (fun _ _ _ h => h) (Or.inl ⟨by rfl, ?_⟩) SD.out ?_
        rotate_left
        · intro w hw
          try dsimp only at hw
          go_simp
          try with_reducible rfl
        try simp only [Act.put, List.setIfInBounds_toArray, List.set_cons_zero, List.set_cons_succ]
        refine readyL (i := 3) rfl (by kernel_rfl) (by kernel_rfl) fun K hK => ?_
        have cg0 : wd.cell? ⟨g, 0, none⟩ = some (.int .u64 (getA (ld15 L x.roles) 0).c) := by have := OD.out.cell HK0.out (j := 0) (u := .int .u64 (getA (ld15 L x.roles) 0).c) rfl; simpa using this
        go_simp
        refine hK.out _ _ SD.out ?_
        clear hK K
        try simp only [Act.put, List.setIfInBounds_toArray, List.set_cons_zero, List.set_cons_succ]
        refine takeL (i := 6) (v := ?_) rfl (by kernel_rfl) (by kernel_rfl) (by kernel_rfl) (fun _ _ _ h => h) (Or.inl ⟨by rfl, ?_⟩) SD.out ?_
        rotate_left
        · intro w hw
          try dsimp only at hw
          go_simp
          try with_reducible rfl
        try simp only [Act.put, List.setIfInBounds_toArray, List.set_cons_zero, List.set_cons_succ]
        refine takeL (i := 7) (v := ?_) rfl (by kernel_rfl) (by kernel_rfl) (by kernel_rfl) (fun _ _ _ h => h) (Or.inl ⟨by rfl, ?_⟩) SD.out ?_
        rotate_left
        · intro w hw
          try dsimp only at hw
          go_simp
          try with_reducible rfl
        try simp only [Act.put, List.setIfInBounds_toArray, List.set_cons_zero, List.set_cons_succ]
        refine takeL (i := 8) (v := ?_) rfl (by kernel_rfl) (by kernel_rfl) (by kernel_rfl) (fun _ _ _ h => h) (Or.inl ⟨by rfl, ?_⟩) SD.out ?_
        rotate_left
        · intro w hw
          try dsimp only at hw
          go_simp
          try with_reducible rfl
        try simp only [Act.put, List.setIfInBounds_toArray, List.set_cons_zero, List.set_cons_succ]
        refine readyL (i := 9) rfl (by kernel_rfl) (by kernel_rfl) fun K hK => ?_
        have fg0 := OD.out.row.frozen 0
        go_simp
        have OZ := Lib.hid (OD.out.one HK0.out (o := 0) (u := .int .u64 ((getA (ld15 L x.roles) 0).c - x.fee)) HNA.out (by decide) rfl)
        rw [HRES.out, Nat.zero_mul, Nat.zero_add] at OZ
        have BZ := Lib.hid (BD.out.trans ((turned_setCell wd ⟨g, 0, none⟩ (.int .u64 ((getA (ld15 L x.roles) 0).c - x.fee))).below HGL.out.1))
        refine hK.out _ _ ((RD.out.far (p := ⟨g, 0, none⟩) HGL.out.2 _).cell 45 |>.trans (ycells_41 H32.out 4)) ?_
        clear hK K
        try simp only [Act.put, List.setIfInBounds_toArray, List.set_cons_zero, List.set_cons_succ]
        refine wpAnyH_done (by kernel_rfl) ?_ _
        go_wp2_with fail
        go_ret2
        exact ⟨BZ.out, .inr ⟨HP.out, g, k, rest, by rw [← HN.out]; rfl, by rw [← HN.out]; exact OZ.out⟩⟩
end Go.Proofs.YtfaefpniiiandaaDoor

/-
  Of part Math16: what is needed here.
-/
namespace Go.Proofs.YtfaefpniiiandaaDoor
set_option linter.unusedVariables false
set_option maxRecDepth 100000
/-- an outcome's accounts stand in the store -/
def commit16 (L ch : List LHold) : List LHold := ch.foldl (fun L h => putH L h.k h.a) L
theorem commit_nil16 (L : List LHold) : commit16 L [] = L := rfl
theorem commit_cons16 (L : List LHold) (h : LHold) (r : List LHold) : commit16 L (h :: r) = commit16 (putH L h.k h.a) r := rfl
theorem commit_app16 (L a b : List LHold) : commit16 L (a ++ b) = commit16 (commit16 L a) b := List.foldl_append
theorem commit_len16 : ∀ (ch L : List LHold), (commit16 L ch).length ≤ L.length + ch.length
  | [], L => by simp [commit_nil16]
  | h :: r, L => by
    rw [commit_cons16]
    have := commit_len16 r (putH L h.k h.a)
    have := putH_len L h.k h.a
    rw [List.length_cons]
    omega
end Go.Proofs.YtfaefpniiiandaaDoor

/-
  Of part Door15: what is needed here.
-/
namespace Go.Proofs.YtfaefpniiiandaaDoor
open Go.ChangeShapes Go.WideShapes Go.ChangeAt Go.RowKit
set_option linter.unusedVariables false
set_option maxRecDepth 100000
/-- the variable holds the handle of the type error -/
structure TypAt (w : World) : Prop where
  c : w.cell? ⟨0, 0, none⟩ = some (.iface 157 (.agg #[.pointer (some ⟨1, 98, none⟩)]))
theorem TypAt.pos {w : World} (h : TypAt w) : 0 < w.heap.size := block_lt_of_cell h.c
theorem TypAt.below {w w' : World} {B : Nat} (h : TypAt w) (hb : Below B w w') (hB : 0 < B) : TypAt w' := ⟨(hb.cell (p := ⟨0, 0, none⟩) hB).trans h.c⟩
theorem gTyp : Tryd.prog.globalNamed "errors.errorType" = some 0 := by kernel_rfl
theorem rTyp : (Tryd.prog.cutTypes.find? (·.1 == "internal/reflectlite.rtype")).map (·.2) = some 157 := by kernel_rfl
theorem oneRow15 : ((List.range Tryd.prog.types.size).filter fun t => Tryd.prog.rowNamed t [101, 114, 114, 111, 114]) = [98] := by kernel_rfl
/-- the door's own heap meets the condition -/
theorem door_met15 (os : Os) (args : Array Value) : laidMetH Tryd.prog [("errors.errorType", Rows.laid_errors_errorType)] ((World.doorLaid Tryd.prog 400 os).forCall (fun _ _ => 0) ⟨#[], args, []⟩).memory :=
  laidMetH_of_parts3 (fuel := 8) (laidMet_of_run' 8 (by kernel_rfl) (by kernel_rfl)) (by kernel_rfl) (by kernel_rfl)
/-- what the condition gives the walks -/
theorem of_laid15 {W : World} (h : laidMetH Tryd.prog [("errors.errorType", Rows.laid_errors_errorType)] W) : TypAt W := by
  have h' : laidMet Tryd.prog [] W ∧ handlesMet Tryd.prog [("errors.errorType", Rows.laid_errors_errorType)] W := h
  obtain ⟨name, u, ty, e1, e2, e3, e4, e5⟩ := h'.2 _ (List.mem_singleton.2 rfl)
  have en : name = [101, 114, 114, 111, 114] := (Option.some.inj e1).symm
  subst en
  obtain rfl := Option.some.inj (rTyp.symm.trans e2)
  have hm : ty ∈ (List.range Tryd.prog.types.size).filter fun t => Tryd.prog.rowNamed t [101, 114, 114, 111, 114] := List.mem_filter.2 ⟨List.mem_range.2 e3, e4⟩
  rw [oneRow15] at hm
  obtain rfl := List.mem_singleton.1 hm
  have hh : typeHandle Tryd.prog 98 = .pointer (some ⟨1, 98, none⟩) := by kernel_rfl
  rw [hh] at e5
  exact ⟨by simpa using World.var?_cell gTyp e5 0⟩
end Go.Proofs.YtfaefpniiiandaaDoor

/-
  Of part Commit16: what is needed here.
-/
namespace Go.Proofs.YtfaefpniiiandaaDoor
open Go.RowKit
set_option linter.unusedVariables false
set_option maxRecDepth 100000
theorem StIn.own_ne16 {w : World} {sb mb base size n : Nat} {e : TypeId} {u : Value} {L : List LHold} {xs : List Value} (h : StIn w sb mb L) (ho : w.ownsRow base e size u n xs) : u.ownBlock = none ∨ u.ownBlock ≠ some mb := by
  rcases ho.2 with ⟨hv, _⟩ | ⟨g, cap, cur, hv, _, hh, _⟩
  · exact .inl (by rw [hv]; rfl)
  · refine .inr (fun e => ?_)
    rw [hv] at e
    obtain rfl : g = mb := Option.some.inj e
    obtain ⟨es, cl, hm⟩ := h.heap
    rw [hh] at hm
    cases hm
theorem ReadyIn.keep {w w' : World} {B : Nat} {q : YRaw} {x : LReady} (h : ReadyIn w B q x) (hk : ∀ p : Addr, p.block < B → w'.cell? p = w.cell? p) : ReadyIn w' B q x := ⟨h.bs.keep hk, h.bn, h.tx.keep hk, h.rs.keep hk, h.rn⟩
theorem TypAt.keep {w w' : World} {B : Nat} (h : TypAt w) (hk : ∀ p : Addr, p.block < B → w'.cell? p = w.cell? p) (hB : 0 < B) : TypAt w' := ⟨(hk ⟨0, 0, none⟩ hB).trans h.c⟩
theorem gb_below16 {w w' : World} {m B : Nat} (h : w.grownBy w' (some m)) (hm : B ≤ m) (hB : B ≤ w.heap.size) : Below B w w' := (Below.refl B w).grown h hB (fun k hk => by cases hk; exact hm)
theorem commit_take16 {L ch : List LHold} {k : Nat} {h : LHold} (hh : ch[k]? = some h) : commit16 L (ch.take (k + 1)) = putH (commit16 L (ch.take k)) h.k h.a := by
  rw [List.take_add_one, hh, Option.toList_some, commit_app16]
  rfl
end Go.Proofs.YtfaefpniiiandaaDoor

/-
  Of part Prog15: what is needed here.
-/
namespace Go.Proofs.YtfaefpniiiandaaDoor
open Go.RowKit Go.Maps
set_option linter.unusedVariables false
set_option maxRecDepth 100000
theorem k0_key15 : k0.length = 32 ∧ AllBytes k0 := by
  refine ⟨rfl, fun x hx => ?_⟩
  obtain rfl := List.eq_of_mem_replicate (show x ∈ List.replicate 32 0 from hx)
  exact ⟨by decide, by decide⟩
theorem k3_key15 : k3.length = 32 ∧ AllBytes k3 := by
  refine ⟨rfl, fun x hx => ?_⟩
  have h : ∀ y ∈ k3, 0 ≤ y ∧ y < 256 := by decide
  exact h x hx
theorem k0_ne15 : k0 ≠ k3 := by decide
theorem fnE_inv_nil {v : Value} {ps : List MemPlace} (h : fnE v = some (.lit (.int .i64 (-1)), ps)) : v = .nilFunc := by
  unfold fnE at h
  split at h
  · rename_i hx
    injection h with h
    injection h with h _
    injection h with h
    injection h with _ h
    omega
  · split at h
    · assumption
    · cases h
/-- what the map of programs reads as -/
structure PD15 (D : DataW Unit) : Prop where
  at0 : ∀ z, D.atKey (KL k0) z = FnD14 65
  at3 : ∀ z, D.atKey (KL k3) z = FnD14 66
  no : ∀ k, k.length = 32 ∧ AllBytes k → k ≠ k0 → k ≠ k3 → Go.Maps.has D (KL k) = false
theorem pd_a15 : PD15 (((DataW.map []).put (KL k0) (FnD14 65)).put (KL k3) (FnD14 66)) := by
  have hk0 := KL_key k0_key15.1 k0_key15.2
  have hk3 := KL_key k3_key15.1 k3_key15.2
  have hm := (isMap_empty (H := Unit)).put (KL k0) (FnD14 65)
  have ne : KL k0 ≠ KL k3 := fun e => k0_ne15 (KL_inj k0_key15.1 k0_key15.2 k3_key15.1 k3_key15.2 e)
  refine ⟨fun z => ?_, fun z => atKey_put_same hm hk3 _ _, fun k hk h0 h3 => ?_⟩
  · rw [atKey_put_other ne, atKey_put_same isMap_empty hk0]
  · rw [has_put_other (fun e => h3 (KL_inj hk.1 hk.2 k3_key15.1 k3_key15.2 e)), has_put_other (fun e => h0 (KL_inj hk.1 hk.2 k0_key15.1 k0_key15.2 e))]
    rfl
theorem pd_b15 : PD15 (((DataW.map []).put (KL k3) (FnD14 66)).put (KL k0) (FnD14 65)) := by
  have hk0 := KL_key k0_key15.1 k0_key15.2
  have hk3 := KL_key k3_key15.1 k3_key15.2
  have hm := (isMap_empty (H := Unit)).put (KL k3) (FnD14 66)
  have ne : KL k3 ≠ KL k0 := fun e => k0_ne15 (KL_inj k3_key15.1 k3_key15.2 k0_key15.1 k0_key15.2 e).symm
  refine ⟨fun z => atKey_put_same hm hk0 _ _, fun z => ?_, fun k hk h0 h3 => ?_⟩
  · rw [atKey_put_other ne, atKey_put_same isMap_empty hk3]
  · rw [has_put_other (fun e => h0 (KL_inj hk.1 hk.2 k0_key15.1 k0_key15.2 e)), has_put_other (fun e => h3 (KL_inj hk.1 hk.2 k3_key15.1 k3_key15.2 e))]
    rfl
/-- a map of programs in a block -/
def PM15 (w : World) (mb : Nat) : Prop := ∃ n D, w.ownsMap Tryd.prog 57 fnE mb n D ∧ PD15 D
theorem PM15.lt {w : World} {mb : Nat} (h : PM15 w mb) : mb < w.heap.size := by
  obtain ⟨n, D, ⟨es, cl, hm, _⟩, _⟩ := h
  exact (Array.getElem?_eq_some_iff.1 hm).1
theorem PM15.keep {w w' : World} {mb : Nat} (h : PM15 w mb) (h2 : w'.heap[mb]? = w.heap[mb]?) : PM15 w' mb := by
  obtain ⟨n, D, ⟨es, cl, hm, F, hs, hD⟩, had⟩ := h
  exact ⟨n, D, ⟨es, cl, h2.trans hm, F, hs, hD⟩, had⟩
theorem PM15.below {w w' : World} {mb : Nat} (h : PM15 w mb) (hb : Below w.heap.size w w') : PM15 w' mb := h.keep (hb.block _ h.lt)
theorem PM15.row_ne {w : World} {mb g t : Nat} {xs : List Value} (h : PM15 w mb) (hr : Row w g t xs) : g ≠ mb := by
  rintro rfl
  obtain ⟨n, D, ⟨es, cl, hm, _⟩, _⟩ := h
  rw [hr.is] at hm
  cases hm
/-- the program of a key -/
def fnV15 (k : List Int) : Value := if k = k0 then .func (.func 65) #[] #[] else if k = k3 then .func (.func 66) #[] #[] else .nilFunc
theorem zero_fn15 (w : World) : (zeroValue 154).run Tryd.prog w = .ok .nilFunc w := by kernel_rfl
theorem PM15.look {w : World} {mb : Nat} (h : PM15 w mb) {k : List Int} (hk : k.length = 32 ∧ AllBytes k) : (Instr.lookup 124 (.map (some mb)) (.agg (bv k).toArray) true).run Tryd.prog w = .ok (.tuple #[fnV15 k, .bool (decide (k = k0 ∨ k = k3))]) w := by
  obtain ⟨n, D, hown, hd⟩ := h
  obtain ⟨v, ps, hrun, hv⟩ := hown.look_ok key_law Tryd.underlying124 (zero_fn15 w) fnE_nil (KL_is hk.1 hk.2)
  rw [hrun]
  unfold fnV15
  by_cases e0 : k = k0
  · subst e0
    rw [hd.at0] at hv
    rw [fnE_inv hv, has_true_of_atKey hd.at0, if_pos rfl, decide_eq_true (.inl rfl)]
  · by_cases e3 : k = k3
    · subst e3
      rw [hd.at3] at hv
      rw [fnE_inv hv, has_true_of_atKey hd.at3, if_neg e0, if_pos rfl, decide_eq_true (.inr rfl)]
    · have hn := hd.no k hk e0 e3
      rw [atKey_of_not_has hn] at hv
      rw [fnE_inv_nil hv, hn, if_neg e0, if_neg e3, decide_eq_false (by rintro (h | h); exact e0 h; exact e3 h)]
theorem exec_lookup15 {a : Act} {o : Oper} (w : World) (m x : Operand) (hop : o.op = Op.lookup 124 m x true) (b : Nat) (k : List Int) (v : Value) (hm : a.eval m = .map (some b)) (hx : a.eval x = .agg (bv k).toArray)
    (hr : (Instr.lookup 124 (.map (some b)) (.agg (bv k).toArray) true).run Tryd.prog w = .ok v w) : (execOp a.eval o).run Tryd.prog w = .ok (.value v) w := by
  unfold execOp
  simp only [hop, hm, hx, Sem.run_bind, Sem.run_pure, hr, Result.andThen_ok]
theorem wp_makeMap15 {P : Program} {o : Oper} {a : Act} {w w' : World} {K : Act → World → Prop} {Q : Exit → Act → World → Prop} (t : TypeId) (hop : o.op = Op.makeMap t none) {v : Value} (hrun : (Instr.makeMap t none).run P w = .ok v w') (h : K (a.put o.dst v) w') : o.wp P a w K Q := by
  unfold Oper.wp
  simp [execOp, hop, hrun, Result.andThen]
  exact h
theorem wp_insert15 {H : Type} {P : Program} (w : World) {o : Oper} {a : Act} {K : Act → World → Prop} {Q : Exit → Act → World → Prop} (m x v : Operand) (t : TypeId) (hop : o.op = Op.insert t m x v)
    (k e : TypeId) (KK : Keyed P k) (ht : P.underlying t = some (.map k e)) (R : Value → Option (DataW H × List MemPlace)) (b n : Nat) (D : DataW H)
    (hm : a.eval m = .map (some b)) (hown : w.ownsMap P k R b n D) (hn : n < maxLen) (key val : Value) (kl : Lit) (hx : a.eval x = key) (hv : a.eval v = val) (hkey : Go.keyOf P k key = some kl)
    (d : DataW H) (ps : List MemPlace) (hval : R val = some (d, ps))
    (hK : ∀ w', w'.ownsMap P k R b (n + 1) (D.put kl d) → w.grownBy w' (some b) → K (a.put o.dst undef) w') : o.wp P a w K Q := by
  obtain ⟨w', hrun, r1, r2⟩ := hown.update KK ht hn hkey hval
  unfold Oper.wp
  simp [execOp, hop, hm, hx, hv, hrun, Result.andThen]
  exact hK w' r1 r2
theorem own_below15 {k : TypeId} {R : Value → Option (DataW Unit × List MemPlace)} {w w' : World} {b n : Nat} {D : DataW Unit} (h : w.ownsMap Tryd.prog k R b n D) (hb : Below w.heap.size w w') : w'.ownsMap Tryd.prog k R b n D := by
  have hlt := h.lt
  obtain ⟨es, cl, hm, F, hs, hD⟩ := h
  exact ⟨es, cl, (hb.block _ hlt).trans hm, F, hs, hD⟩
set_option maxHeartbeats 8000000 in
theorem programs15 (w : World) : Calls Tryd.prog 50 #[] w fun e w' => ∃ mb, e = .returned (.map (some mb)) ∧ PM15 w' mb ∧ w.heap.size ≤ mb ∧ Below w.heap.size w w' := by
  have hmm : ∀ w, (Instr.makeMap 124 none).run Tryd.prog w = .ok (.map (some w.heap.size)) (w.alloc (.map #[] 0)) := fun w => by first | rfl | kernel_rfl
  go_enter Tryd.func50, Tryd.ntmps50
  go_upto_region 1 with fail
  have B0 := Lib.hid (Below.refl w.heap.size w).drew
  refine wp_region_held_drew (S := fun V => Below w.heap.size w V) (by kernel_rfl) B0.out (fun _ => ?_)
  try dsimp only [List.append]
  obtain ⟨y0, hy0⟩ : ∃ u, u = w.drew := ⟨_, rfl⟩
  rw [← hy0] at B0 ⊢
  clear hy0
  refine readyL2 (i := 0) (j := 1) rfl rfl (by kernel_rfl) (by kernel_rfl) (by kernel_rfl) (fun K hK => ?_) (fun K hK => ?_)
  · have hx := hmm y0
    have H1 := Lib.hid (World.ownsMap_made y0 Tryd.prog 57 fnE)
    have B1 := Lib.hid (B0.out.alloc B0.out.size (.map #[] 0))
    have G1 : Hid (w.heap.size ≤ y0.heap.size) := Lib.hid B0.out.size
    refine wp_makeMap15 124 rfl hx ?_
    clear hx
    obtain ⟨m1, hm1⟩ : ∃ m, m = y0.heap.size := ⟨_, rfl⟩
    rw [← hm1] at H1 G1 ⊢
    clear hm1
    generalize y0.alloc (.map #[] 0) = y1 at *
    refine hK.out _ _ B1.out ?_
    clear hK K
    try simp only [Act.put, List.setIfInBounds_toArray, List.set_cons_zero, List.set_cons_succ]
    refine readyL (i := 1) rfl (by kernel_rfl) (by kernel_rfl) fun K hK => ?_
    go_simp
    refine (system_ _).mono ?_
    rintro e y3 ⟨rfl, hb⟩
    have B3 := Lib.hid (B1.out.trans (hb.mono B1.out.size))
    have H3 := Lib.hid (own_below15 H1.out hb)
    clear hb
    refine hK.out _ _ B3.out ?_
    clear hK K
    try simp only [Act.put, List.setIfInBounds_toArray, List.set_cons_zero, List.set_cons_succ]
    refine readyL2 (i := 2) (j := 3) rfl rfl (by kernel_rfl) (by kernel_rfl) (by kernel_rfl) (fun K hK => ?_) (fun K hK => ?_)
    · refine wp_insert15 _ (.tmp 1) (.tmp 2) (.func 65) 124 rfl 57 154 key_law Tryd.underlying124 fnE m1 0 (DataW.map []) (by go_simp) H3.out (by decide) (.agg (bv k0).toArray) (.func (.func 65) #[] #[]) (KL k0) (by go_simp) (by go_simp) (KL_is k0_key15.1 k0_key15.2) (FnD14 65) [] (fnE_mk _) ?_
      intro y4 ho hg
      have H4 := Lib.hid ho
      have B4 := Lib.hid (B3.out.grown hg B3.out.size (fun k hk => by cases hk; exact G1.out))
      clear ho hg
      refine hK.out _ _ B4.out ?_
      clear hK K
      try simp only [Act.put]
      refine readyL (i := 3) rfl (by kernel_rfl) (by kernel_rfl) fun K hK => ?_
      go_simp
      refine (budget_ _).mono ?_
      rintro e y6 ⟨rfl, hb⟩
      have B6 := Lib.hid (B4.out.trans (hb.mono B4.out.size))
      have H6 := Lib.hid (own_below15 H4.out hb)
      clear hb
      refine hK.out _ _ B6.out ?_
      clear hK K
      try simp only [Act.put, List.setIfInBounds_toArray, List.set_cons_zero, List.set_cons_succ]
      refine readyL (i := 4) rfl (by kernel_rfl) (by kernel_rfl) fun K hK => ?_
      refine wp_insert15 _ (.tmp 1) (.tmp 3) (.func 66) 124 rfl 57 154 key_law Tryd.underlying124 fnE m1 1 ((DataW.map []).put (KL k0) (FnD14 65)) (by go_simp) H6.out (by decide) (.agg (bv k3).toArray) (.func (.func 66) #[] #[]) (KL k3) (by go_simp) (by go_simp) (KL_is k3_key15.1 k3_key15.2) (FnD14 66) [] (fnE_mk _) ?_
      intro y7 ho hg
      have H7 := Lib.hid ho
      have B7 := Lib.hid (B6.out.grown hg B6.out.size (fun k hk => by cases hk; exact G1.out))
      clear ho hg
      refine hK.out _ _ B7.out ?_
      clear hK K
      try simp only [Act.put]
      refine takeL (i := 5) (v := ?_) rfl (by kernel_rfl) (by kernel_rfl) (by kernel_rfl) (fun _ _ _ h => h) (Or.inl ⟨by rfl, ?_⟩) B7.out ?_
      rotate_left
      · intro w hw
        try dsimp only at hw
        go_simp
        try with_reducible rfl
      try simp only [Act.put, List.setIfInBounds_toArray, List.set_cons_zero, List.set_cons_succ]
      refine takeL (i := 6) (v := ?_) rfl (by kernel_rfl) (by kernel_rfl) (by kernel_rfl) (fun _ _ _ h => h) (Or.inl ⟨by rfl, ?_⟩) B7.out ?_
      rotate_left
      · intro w hw
        try dsimp only at hw
        go_simp
        try with_reducible rfl
      try simp only [Act.put, List.setIfInBounds_toArray, List.set_cons_zero]
      refine wpAnyH_done (by kernel_rfl) ?_ _
      go_wp2_with fail
      go_ret
      exact ⟨_, rfl, ⟨_, _, H7.out, pd_a15⟩, G1.out, B7.out⟩
    · go_simp
      refine (budget_ _).mono ?_
      rintro e y5 ⟨rfl, hb⟩
      have B5 := Lib.hid (B3.out.trans (hb.mono B3.out.size))
      have H5 := Lib.hid (own_below15 H3.out hb)
      clear hb
      refine hK.out _ _ B5.out ?_
      clear hK K
      try simp only [Act.put, List.setIfInBounds_toArray, List.set_cons_zero, List.set_cons_succ]
      refine readyL2 (i := 2) (j := 4) rfl rfl (by kernel_rfl) (by kernel_rfl) (by kernel_rfl) (fun K hK => ?_) (fun K hK => ?_)
      · refine wp_insert15 _ (.tmp 1) (.tmp 2) (.func 65) 124 rfl 57 154 key_law Tryd.underlying124 fnE m1 0 (DataW.map []) (by go_simp) H5.out (by decide) (.agg (bv k0).toArray) (.func (.func 65) #[] #[]) (KL k0) (by go_simp) (by go_simp) (KL_is k0_key15.1 k0_key15.2) (FnD14 65) [] (fnE_mk _) ?_
        intro y8 ho hg
        have H8 := Lib.hid ho
        have B8 := Lib.hid (B5.out.grown hg B5.out.size (fun k hk => by cases hk; exact G1.out))
        clear ho hg
        refine hK.out _ _ B8.out ?_
        clear hK K
        try simp only [Act.put]
        refine readyL (i := 4) rfl (by kernel_rfl) (by kernel_rfl) fun K hK => ?_
        refine wp_insert15 _ (.tmp 1) (.tmp 3) (.func 66) 124 rfl 57 154 key_law Tryd.underlying124 fnE m1 1 ((DataW.map []).put (KL k0) (FnD14 65)) (by go_simp) H8.out (by decide) (.agg (bv k3).toArray) (.func (.func 66) #[] #[]) (KL k3) (by go_simp) (by go_simp) (KL_is k3_key15.1 k3_key15.2) (FnD14 66) [] (fnE_mk _) ?_
        intro y10 ho hg
        have H10 := Lib.hid ho
        have B10 := Lib.hid (B8.out.grown hg B8.out.size (fun k hk => by cases hk; exact G1.out))
        clear ho hg
        refine hK.out _ _ B10.out ?_
        clear hK K
        try simp only [Act.put]
        refine takeL (i := 5) (v := ?_) rfl (by kernel_rfl) (by kernel_rfl) (by kernel_rfl) (fun _ _ _ h => h) (Or.inl ⟨by rfl, ?_⟩) B10.out ?_
        rotate_left
        · intro w hw
          try dsimp only at hw
          go_simp
          try with_reducible rfl
        try simp only [Act.put, List.setIfInBounds_toArray, List.set_cons_zero, List.set_cons_succ]
        refine takeL (i := 6) (v := ?_) rfl (by kernel_rfl) (by kernel_rfl) (by kernel_rfl) (fun _ _ _ h => h) (Or.inl ⟨by rfl, ?_⟩) B10.out ?_
        rotate_left
        · intro w hw
          try dsimp only at hw
          go_simp
          try with_reducible rfl
        try simp only [Act.put, List.setIfInBounds_toArray, List.set_cons_zero]
        refine wpAnyH_done (by kernel_rfl) ?_ _
        go_wp2_with fail
        go_ret
        exact ⟨_, rfl, ⟨_, _, H10.out, pd_a15⟩, G1.out, B10.out⟩
      · refine wp_insert15 _ (.tmp 1) (.tmp 3) (.func 66) 124 rfl 57 154 key_law Tryd.underlying124 fnE m1 0 (DataW.map []) (by go_simp) H5.out (by decide) (.agg (bv k3).toArray) (.func (.func 66) #[] #[]) (KL k3) (by go_simp) (by go_simp) (KL_is k3_key15.1 k3_key15.2) (FnD14 66) [] (fnE_mk _) ?_
        intro y9 ho hg
        have H9 := Lib.hid ho
        have B9 := Lib.hid (B5.out.grown hg B5.out.size (fun k hk => by cases hk; exact G1.out))
        clear ho hg
        refine hK.out _ _ B9.out ?_
        clear hK K
        try simp only [Act.put]
        refine readyL (i := 2) rfl (by kernel_rfl) (by kernel_rfl) fun K hK => ?_
        refine wp_insert15 _ (.tmp 1) (.tmp 2) (.func 65) 124 rfl 57 154 key_law Tryd.underlying124 fnE m1 1 ((DataW.map []).put (KL k3) (FnD14 66)) (by go_simp) H9.out (by decide) (.agg (bv k0).toArray) (.func (.func 65) #[] #[]) (KL k0) (by go_simp) (by go_simp) (KL_is k0_key15.1 k0_key15.2) (FnD14 65) [] (fnE_mk _) ?_
        intro y11 ho hg
        have H11 := Lib.hid ho
        have B11 := Lib.hid (B9.out.grown hg B9.out.size (fun k hk => by cases hk; exact G1.out))
        clear ho hg
        refine hK.out _ _ B11.out ?_
        clear hK K
        try simp only [Act.put]
        refine takeL (i := 5) (v := ?_) rfl (by kernel_rfl) (by kernel_rfl) (by kernel_rfl) (fun _ _ _ h => h) (Or.inl ⟨by rfl, ?_⟩) B11.out ?_
        rotate_left
        · intro w hw
          try dsimp only at hw
          go_simp
          try with_reducible rfl
        try simp only [Act.put, List.setIfInBounds_toArray, List.set_cons_zero, List.set_cons_succ]
        refine takeL (i := 6) (v := ?_) rfl (by kernel_rfl) (by kernel_rfl) (by kernel_rfl) (fun _ _ _ h => h) (Or.inl ⟨by rfl, ?_⟩) B11.out ?_
        rotate_left
        · intro w hw
          try dsimp only at hw
          go_simp
          try with_reducible rfl
        try simp only [Act.put, List.setIfInBounds_toArray, List.set_cons_zero]
        refine wpAnyH_done (by kernel_rfl) ?_ _
        go_wp2_with fail
        go_ret
        exact ⟨_, rfl, ⟨_, _, H11.out, pd_b15⟩, G1.out, B11.out⟩
  · go_simp
    refine (system_ _).mono ?_
    rintro e y2 ⟨rfl, hb⟩
    have B2 := Lib.hid (B0.out.trans (hb.mono B0.out.size))
    clear hb
    refine hK.out _ _ B2.out ?_
    clear hK K
    try simp only [Act.put, List.setIfInBounds_toArray, List.set_cons_zero, List.set_cons_succ]
    refine readyL2 (i := 0) (j := 3) rfl rfl (by kernel_rfl) (by kernel_rfl) (by kernel_rfl) (fun K hK => ?_) (fun K hK => ?_)
    · have hx := hmm y2
      have H12 := Lib.hid (World.ownsMap_made y2 Tryd.prog 57 fnE)
      have B12 := Lib.hid (B2.out.alloc B2.out.size (.map #[] 0))
      have G12 : Hid (w.heap.size ≤ y2.heap.size) := Lib.hid B2.out.size
      refine wp_makeMap15 124 rfl hx ?_
      clear hx
      obtain ⟨m12, hm12⟩ : ∃ m, m = y2.heap.size := ⟨_, rfl⟩
      rw [← hm12] at H12 G12 ⊢
      clear hm12
      generalize y2.alloc (.map #[] 0) = y12 at *
      refine hK.out _ _ B12.out ?_
      clear hK K
      try simp only [Act.put, List.setIfInBounds_toArray, List.set_cons_zero, List.set_cons_succ]
      refine readyL2 (i := 2) (j := 3) rfl rfl (by kernel_rfl) (by kernel_rfl) (by kernel_rfl) (fun K hK => ?_) (fun K hK => ?_)
      · refine wp_insert15 _ (.tmp 1) (.tmp 2) (.func 65) 124 rfl 57 154 key_law Tryd.underlying124 fnE m12 0 (DataW.map []) (by go_simp) H12.out (by decide) (.agg (bv k0).toArray) (.func (.func 65) #[] #[]) (KL k0) (by go_simp) (by go_simp) (KL_is k0_key15.1 k0_key15.2) (FnD14 65) [] (fnE_mk _) ?_
        intro y14 ho hg
        have H14 := Lib.hid ho
        have B14 := Lib.hid (B12.out.grown hg B12.out.size (fun k hk => by cases hk; exact G12.out))
        clear ho hg
        refine hK.out _ _ B14.out ?_
        clear hK K
        try simp only [Act.put]
        refine readyL (i := 3) rfl (by kernel_rfl) (by kernel_rfl) fun K hK => ?_
        go_simp
        refine (budget_ _).mono ?_
        rintro e y16 ⟨rfl, hb⟩
        have B16 := Lib.hid (B14.out.trans (hb.mono B14.out.size))
        have H16 := Lib.hid (own_below15 H14.out hb)
        clear hb
        refine hK.out _ _ B16.out ?_
        clear hK K
        try simp only [Act.put, List.setIfInBounds_toArray, List.set_cons_zero, List.set_cons_succ]
        refine readyL (i := 4) rfl (by kernel_rfl) (by kernel_rfl) fun K hK => ?_
        refine wp_insert15 _ (.tmp 1) (.tmp 3) (.func 66) 124 rfl 57 154 key_law Tryd.underlying124 fnE m12 1 ((DataW.map []).put (KL k0) (FnD14 65)) (by go_simp) H16.out (by decide) (.agg (bv k3).toArray) (.func (.func 66) #[] #[]) (KL k3) (by go_simp) (by go_simp) (KL_is k3_key15.1 k3_key15.2) (FnD14 66) [] (fnE_mk _) ?_
        intro y17 ho hg
        have H17 := Lib.hid ho
        have B17 := Lib.hid (B16.out.grown hg B16.out.size (fun k hk => by cases hk; exact G12.out))
        clear ho hg
        refine hK.out _ _ B17.out ?_
        clear hK K
        try simp only [Act.put]
        refine takeL (i := 5) (v := ?_) rfl (by kernel_rfl) (by kernel_rfl) (by kernel_rfl) (fun _ _ _ h => h) (Or.inl ⟨by rfl, ?_⟩) B17.out ?_
        rotate_left
        · intro w hw
          try dsimp only at hw
          go_simp
          try with_reducible rfl
        try simp only [Act.put, List.setIfInBounds_toArray, List.set_cons_zero, List.set_cons_succ]
        refine takeL (i := 6) (v := ?_) rfl (by kernel_rfl) (by kernel_rfl) (by kernel_rfl) (fun _ _ _ h => h) (Or.inl ⟨by rfl, ?_⟩) B17.out ?_
        rotate_left
        · intro w hw
          try dsimp only at hw
          go_simp
          try with_reducible rfl
        try simp only [Act.put, List.setIfInBounds_toArray, List.set_cons_zero]
        refine wpAnyH_done (by kernel_rfl) ?_ _
        go_wp2_with fail
        go_ret
        exact ⟨_, rfl, ⟨_, _, H17.out, pd_a15⟩, G12.out, B17.out⟩
      · go_simp
        refine (budget_ _).mono ?_
        rintro e y15 ⟨rfl, hb⟩
        have B15 := Lib.hid (B12.out.trans (hb.mono B12.out.size))
        have H15 := Lib.hid (own_below15 H12.out hb)
        clear hb
        refine hK.out _ _ B15.out ?_
        clear hK K
        try simp only [Act.put, List.setIfInBounds_toArray, List.set_cons_zero, List.set_cons_succ]
        refine readyL2 (i := 2) (j := 4) rfl rfl (by kernel_rfl) (by kernel_rfl) (by kernel_rfl) (fun K hK => ?_) (fun K hK => ?_)
        · refine wp_insert15 _ (.tmp 1) (.tmp 2) (.func 65) 124 rfl 57 154 key_law Tryd.underlying124 fnE m12 0 (DataW.map []) (by go_simp) H15.out (by decide) (.agg (bv k0).toArray) (.func (.func 65) #[] #[]) (KL k0) (by go_simp) (by go_simp) (KL_is k0_key15.1 k0_key15.2) (FnD14 65) [] (fnE_mk _) ?_
          intro y18 ho hg
          have H18 := Lib.hid ho
          have B18 := Lib.hid (B15.out.grown hg B15.out.size (fun k hk => by cases hk; exact G12.out))
          clear ho hg
          refine hK.out _ _ B18.out ?_
          clear hK K
          try simp only [Act.put]
          refine readyL (i := 4) rfl (by kernel_rfl) (by kernel_rfl) fun K hK => ?_
          refine wp_insert15 _ (.tmp 1) (.tmp 3) (.func 66) 124 rfl 57 154 key_law Tryd.underlying124 fnE m12 1 ((DataW.map []).put (KL k0) (FnD14 65)) (by go_simp) H18.out (by decide) (.agg (bv k3).toArray) (.func (.func 66) #[] #[]) (KL k3) (by go_simp) (by go_simp) (KL_is k3_key15.1 k3_key15.2) (FnD14 66) [] (fnE_mk _) ?_
          intro y20 ho hg
          have H20 := Lib.hid ho
          have B20 := Lib.hid (B18.out.grown hg B18.out.size (fun k hk => by cases hk; exact G12.out))
          clear ho hg
          refine hK.out _ _ B20.out ?_
          clear hK K
          try simp only [Act.put]
          refine takeL (i := 5) (v := ?_) rfl (by kernel_rfl) (by kernel_rfl) (by kernel_rfl) (fun _ _ _ h => h) (Or.inl ⟨by rfl, ?_⟩) B20.out ?_
          rotate_left
          · intro w hw
            try dsimp only at hw
            go_simp
            try with_reducible rfl
          try simp only [Act.put, List.setIfInBounds_toArray, List.set_cons_zero, List.set_cons_succ]
          refine takeL (i := 6) (v := ?_) rfl (by kernel_rfl) (by kernel_rfl) (by kernel_rfl) (fun _ _ _ h => h) (Or.inl ⟨by rfl, ?_⟩) B20.out ?_
          rotate_left
          · intro w hw
            try dsimp only at hw
            go_simp
            try with_reducible rfl
          try simp only [Act.put, List.setIfInBounds_toArray, List.set_cons_zero]
          refine wpAnyH_done (by kernel_rfl) ?_ _
          go_wp2_with fail
          go_ret
          exact ⟨_, rfl, ⟨_, _, H20.out, pd_a15⟩, G12.out, B20.out⟩
        · refine wp_insert15 _ (.tmp 1) (.tmp 3) (.func 66) 124 rfl 57 154 key_law Tryd.underlying124 fnE m12 0 (DataW.map []) (by go_simp) H15.out (by decide) (.agg (bv k3).toArray) (.func (.func 66) #[] #[]) (KL k3) (by go_simp) (by go_simp) (KL_is k3_key15.1 k3_key15.2) (FnD14 66) [] (fnE_mk _) ?_
          intro y19 ho hg
          have H19 := Lib.hid ho
          have B19 := Lib.hid (B15.out.grown hg B15.out.size (fun k hk => by cases hk; exact G12.out))
          clear ho hg
          refine hK.out _ _ B19.out ?_
          clear hK K
          try simp only [Act.put]
          refine readyL (i := 2) rfl (by kernel_rfl) (by kernel_rfl) fun K hK => ?_
          refine wp_insert15 _ (.tmp 1) (.tmp 2) (.func 65) 124 rfl 57 154 key_law Tryd.underlying124 fnE m12 1 ((DataW.map []).put (KL k3) (FnD14 66)) (by go_simp) H19.out (by decide) (.agg (bv k0).toArray) (.func (.func 65) #[] #[]) (KL k0) (by go_simp) (by go_simp) (KL_is k0_key15.1 k0_key15.2) (FnD14 65) [] (fnE_mk _) ?_
          intro y21 ho hg
          have H21 := Lib.hid ho
          have B21 := Lib.hid (B19.out.grown hg B19.out.size (fun k hk => by cases hk; exact G12.out))
          clear ho hg
          refine hK.out _ _ B21.out ?_
          clear hK K
          try simp only [Act.put]
          refine takeL (i := 5) (v := ?_) rfl (by kernel_rfl) (by kernel_rfl) (by kernel_rfl) (fun _ _ _ h => h) (Or.inl ⟨by rfl, ?_⟩) B21.out ?_
          rotate_left
          · intro w hw
            try dsimp only at hw
            go_simp
            try with_reducible rfl
          try simp only [Act.put, List.setIfInBounds_toArray, List.set_cons_zero, List.set_cons_succ]
          refine takeL (i := 6) (v := ?_) rfl (by kernel_rfl) (by kernel_rfl) (by kernel_rfl) (fun _ _ _ h => h) (Or.inl ⟨by rfl, ?_⟩) B21.out ?_
          rotate_left
          · intro w hw
            try dsimp only at hw
            go_simp
            try with_reducible rfl
          try simp only [Act.put, List.setIfInBounds_toArray, List.set_cons_zero]
          refine wpAnyH_done (by kernel_rfl) ?_ _
          go_wp2_with fail
          go_ret
          exact ⟨_, rfl, ⟨_, _, H21.out, pd_b15⟩, G12.out, B21.out⟩
    · go_simp
      refine (budget_ _).mono ?_
      rintro e y13 ⟨rfl, hb⟩
      have B13 := Lib.hid (B2.out.trans (hb.mono B2.out.size))
      clear hb
      refine hK.out _ _ B13.out ?_
      clear hK K
      try simp only [Act.put, List.setIfInBounds_toArray, List.set_cons_zero, List.set_cons_succ]
      refine readyL (i := 0) rfl (by kernel_rfl) (by kernel_rfl) fun K hK => ?_
      have hx := hmm y13
      have H22 := Lib.hid (World.ownsMap_made y13 Tryd.prog 57 fnE)
      have B22 := Lib.hid (B13.out.alloc B13.out.size (.map #[] 0))
      have G22 : Hid (w.heap.size ≤ y13.heap.size) := Lib.hid B13.out.size
      refine wp_makeMap15 124 rfl hx ?_
      clear hx
      obtain ⟨m22, hm22⟩ : ∃ m, m = y13.heap.size := ⟨_, rfl⟩
      rw [← hm22] at H22 G22 ⊢
      clear hm22
      generalize y13.alloc (.map #[] 0) = y22 at *
      refine hK.out _ _ B22.out ?_
      clear hK K
      try simp only [Act.put, List.setIfInBounds_toArray, List.set_cons_zero, List.set_cons_succ]
      refine readyL2 (i := 2) (j := 4) rfl rfl (by kernel_rfl) (by kernel_rfl) (by kernel_rfl) (fun K hK => ?_) (fun K hK => ?_)
      · refine wp_insert15 _ (.tmp 1) (.tmp 2) (.func 65) 124 rfl 57 154 key_law Tryd.underlying124 fnE m22 0 (DataW.map []) (by go_simp) H22.out (by decide) (.agg (bv k0).toArray) (.func (.func 65) #[] #[]) (KL k0) (by go_simp) (by go_simp) (KL_is k0_key15.1 k0_key15.2) (FnD14 65) [] (fnE_mk _) ?_
        intro y23 ho hg
        have H23 := Lib.hid ho
        have B23 := Lib.hid (B22.out.grown hg B22.out.size (fun k hk => by cases hk; exact G22.out))
        clear ho hg
        refine hK.out _ _ B23.out ?_
        clear hK K
        try simp only [Act.put]
        refine readyL (i := 4) rfl (by kernel_rfl) (by kernel_rfl) fun K hK => ?_
        refine wp_insert15 _ (.tmp 1) (.tmp 3) (.func 66) 124 rfl 57 154 key_law Tryd.underlying124 fnE m22 1 ((DataW.map []).put (KL k0) (FnD14 65)) (by go_simp) H23.out (by decide) (.agg (bv k3).toArray) (.func (.func 66) #[] #[]) (KL k3) (by go_simp) (by go_simp) (KL_is k3_key15.1 k3_key15.2) (FnD14 66) [] (fnE_mk _) ?_
        intro y25 ho hg
        have H25 := Lib.hid ho
        have B25 := Lib.hid (B23.out.grown hg B23.out.size (fun k hk => by cases hk; exact G22.out))
        clear ho hg
        refine hK.out _ _ B25.out ?_
        clear hK K
        try simp only [Act.put]
        refine takeL (i := 5) (v := ?_) rfl (by kernel_rfl) (by kernel_rfl) (by kernel_rfl) (fun _ _ _ h => h) (Or.inl ⟨by rfl, ?_⟩) B25.out ?_
        rotate_left
        · intro w hw
          try dsimp only at hw
          go_simp
          try with_reducible rfl
        try simp only [Act.put, List.setIfInBounds_toArray, List.set_cons_zero, List.set_cons_succ]
        refine takeL (i := 6) (v := ?_) rfl (by kernel_rfl) (by kernel_rfl) (by kernel_rfl) (fun _ _ _ h => h) (Or.inl ⟨by rfl, ?_⟩) B25.out ?_
        rotate_left
        · intro w hw
          try dsimp only at hw
          go_simp
          try with_reducible rfl
        try simp only [Act.put, List.setIfInBounds_toArray, List.set_cons_zero]
        refine wpAnyH_done (by kernel_rfl) ?_ _
        go_wp2_with fail
        go_ret
        exact ⟨_, rfl, ⟨_, _, H25.out, pd_a15⟩, G22.out, B25.out⟩
      · refine wp_insert15 _ (.tmp 1) (.tmp 3) (.func 66) 124 rfl 57 154 key_law Tryd.underlying124 fnE m22 0 (DataW.map []) (by go_simp) H22.out (by decide) (.agg (bv k3).toArray) (.func (.func 66) #[] #[]) (KL k3) (by go_simp) (by go_simp) (KL_is k3_key15.1 k3_key15.2) (FnD14 66) [] (fnE_mk _) ?_
        intro y24 ho hg
        have H24 := Lib.hid ho
        have B24 := Lib.hid (B22.out.grown hg B22.out.size (fun k hk => by cases hk; exact G22.out))
        clear ho hg
        refine hK.out _ _ B24.out ?_
        clear hK K
        try simp only [Act.put]
        refine readyL (i := 2) rfl (by kernel_rfl) (by kernel_rfl) fun K hK => ?_
        refine wp_insert15 _ (.tmp 1) (.tmp 2) (.func 65) 124 rfl 57 154 key_law Tryd.underlying124 fnE m22 1 ((DataW.map []).put (KL k3) (FnD14 66)) (by go_simp) H24.out (by decide) (.agg (bv k0).toArray) (.func (.func 65) #[] #[]) (KL k0) (by go_simp) (by go_simp) (KL_is k0_key15.1 k0_key15.2) (FnD14 65) [] (fnE_mk _) ?_
        intro y26 ho hg
        have H26 := Lib.hid ho
        have B26 := Lib.hid (B24.out.grown hg B24.out.size (fun k hk => by cases hk; exact G22.out))
        clear ho hg
        refine hK.out _ _ B26.out ?_
        clear hK K
        try simp only [Act.put]
        refine takeL (i := 5) (v := ?_) rfl (by kernel_rfl) (by kernel_rfl) (by kernel_rfl) (fun _ _ _ h => h) (Or.inl ⟨by rfl, ?_⟩) B26.out ?_
        rotate_left
        · intro w hw
          try dsimp only at hw
          go_simp
          try with_reducible rfl
        try simp only [Act.put, List.setIfInBounds_toArray, List.set_cons_zero, List.set_cons_succ]
        refine takeL (i := 6) (v := ?_) rfl (by kernel_rfl) (by kernel_rfl) (by kernel_rfl) (fun _ _ _ h => h) (Or.inl ⟨by rfl, ?_⟩) B26.out ?_
        rotate_left
        · intro w hw
          try dsimp only at hw
          go_simp
          try with_reducible rfl
        try simp only [Act.put, List.setIfInBounds_toArray, List.set_cons_zero]
        refine wpAnyH_done (by kernel_rfl) ?_ _
        go_wp2_with fail
        go_ret
        exact ⟨_, rfl, ⟨_, _, H26.out, pd_b15⟩, G22.out, B26.out⟩
/-- Budget's program does nothing -/
theorem budget15 (v : Value) (q : List Value) (w : World) : Calls Tryd.prog 66 #[v, .agg q.toArray] w fun e w' => e = .returned .nilIface ∧ Below w.heap.size w w' := by
  go_enter Tryd.func66, Tryd.ntmps66
  go_wp2_with fail
  go_ret
  exact ⟨rfl, (Below.refl w.heap.size w).alloc (Nat.le_refl _) _⟩
end Go.Proofs.YtfaefpniiiandaaDoor
