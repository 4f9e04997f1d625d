/-
  Parts joined: TwiceWalk7 Open7 Conf7 Written7 TurnMath7 Turned7.
-/
import Derived.Below
import Derived.Laws.OwnMore
import Derived.Deep.AppendLies
import Derived.Deep.Draws
import Derived.Lib.Hide
import Derived.Laws.MakeOwn
import Derived.Laws.CopyOwn
import Derived.Laws.Rows
import Derived.Laws.BitsAllLaws
import Derived.WalkKit
import Derived.Test.YtkpdjjhkocmfoaaRows
import Derived.WalkSpells
import Derived.WalkLawsBesides
import Derived.IntWalk
import Derived.Maps.AppendAt
import Derived.OwnWalk
import Derived.Deep.MidRow
import Derived.Deep.WholeRow
import Derived.Great.BuildSlice
import Derived.ProofKit
import Derived.OpenShut
import Derived.ShutString
import Derived.ChangeOld
import Derived.Lib.SmallJoins
import Derived.Recover
import Derived.Deep.RegionHeld
import Derived.Deep.QuietTactic
import Derived.BigQuiet
import Derived.Deep.Slices
import Derived.Deep.Strs
import Derived.SizedLaws
import Derived.Maps.OwnSet
import Derived.DeepKeys4
import Derived.WideKeyArr
import Derived.ChangeKeysEq
import Derived.Deep.RegionHeld2
import Derived.Deep.CutBlock
import Derived.Laws.Tables
import Derived.Laws.StructEq
import Derived.Deep.DeepCutAuto
import Derived.Laws.Slices
import Derived.Laws.EntriesVeiled
import Derived.Deep.RegionHeld3
import Derived.WideKeyEntry
import Derived.Shelf.SlMaps.Clone
import Derived.Laws.Append
import Derived.Laws.AppendOwn
import Derived.Test.YtkpdjjhkocmfoaaA1
import Derived.Test.YtkpdjjhkocmfoaaA2
import Derived.Test.YtkpdjjhkocmfoaaA3
import Derived.Test.YtkpdjjhkocmfoaaA4
/-
  Of part TwiceWalk7: what is needed here.
-/
namespace Go.Proofs.Ytkpdjjhkocmfoaa
open Go.RowKit
set_option linter.unusedVariables false
/-- all keys' roles are of these keys -/
theorem rolesL_keys (m : LMsg) (wl rl : List (List Int)) : (rolesL m wl rl).map LRole.key = m.keys ++ (wl ++ rl) := by
  unfold rolesL
  rw [List.map_append, List.map_append, List.map_map, List.map_map]
  congr 1
  · unfold ownRoles
    rw [List.map_map]
    refine List.ext_getElem (by simp) fun i h1 h2 => ?_
    simp only [List.getElem_map, List.getElem_range, Function.comp_apply, ownRole]
    rw [List.getD_eq_getElem?_getD, List.getElem?_eq_getElem h2]
    rfl
  · congr 1
    · exact List.map_id' _
    · exact List.map_id' _
theorem mem_rolesL {m : LMsg} {wl rl : List (List Int)} {i : Nat} {r : LRole} (h : (rolesL m wl rl)[i]? = some r) : r.key ∈ m.keys ++ (wl ++ rl) := by
  rw [← rolesL_keys]
  exact List.mem_map.2 ⟨r, List.mem_of_getElem? h, rfl⟩
theorem twice_w {ks wl rl : List (List Int)} {k : List Int} (h : k ∈ ks ++ (wl ++ rl)) : ¬ (ks ++ ((wl ++ [k]) ++ rl)).Nodup := fun hn => by
  have hp : (ks ++ ((wl ++ [k]) ++ rl)).Perm (k :: (ks ++ (wl ++ rl))) := by
    rw [List.append_assoc wl, List.singleton_append, ← List.append_assoc, ← List.append_assoc]
    exact List.perm_middle
  exact (List.nodup_cons.1 (hp.nodup_iff.1 hn)).1 h
theorem twice_r {ks wl rl : List (List Int)} {k : List Int} (h : k ∈ ks ++ (wl ++ rl)) : ¬ (ks ++ (wl ++ ([k] ++ rl))).Nodup := fun hn => by
  have hp : (ks ++ (wl ++ ([k] ++ rl))).Perm (k :: (ks ++ (wl ++ rl))) := by
    rw [List.singleton_append, ← List.append_assoc, ← List.append_assoc]
    exact List.perm_middle
  exact (List.nodup_cons.1 (hp.nodup_iff.1 hn)).1 h
theorem keys_own {w : World} {base c n : Nat} {e : TypeId} {A : Option Addr} {l : List (List Int)} (h : w.ownsRow base e 32 (.slice A n c) n (bv l.flatten)) (hn : l.length = n) (he : ∀ k ∈ l, k.length = 32) : KeysIn w w.heap.size A n l := by
  obtain ⟨A', c', hv, hs, _⟩ := own_form2 h
  injection hv with h1 h2 h3
  subst h1
  exact ⟨hn, he, hs⟩
/-- one element that has just been laid -/
theorem own_one {w : World} {g base : Nat} {e : TypeId} {X : List Value} (h : Row w g e X) (hl : X.length = 32) (hb : base ≤ g) : w.ownsRow base e 32 (.slice (some ⟨g, 0, none⟩) 1 1) 1 X :=
  ⟨by rw [hl], .inr ⟨g, 1, X.toArray, rfl, hb, h.is, Nat.le_refl _, by decide, by simp [hl], by rw [Nat.one_mul, List.take_of_length_le (by simp [hl])]⟩⟩
set_option maxRecDepth 100000 in
set_option maxHeartbeats 8000000 in
theorem twiceWalk (q : Raw) (m : LMsg) (x y : KL7) (at_ : Int) (B : Nat) (w : World) (hm : MsgIn w B q m) (hw : m.Wf) (hz : Sized m) (hB : B ≤ w.heap.size) (hx : KeysIn w B x.A x.n x.l) (hxo : ∀ k ∈ x.l, KeyOk7 k) (hy : KeysIn w B y.A y.n y.l) (hyo : ∀ k ∈ y.l, KeyOk7 k) (a0 : 0 ≤ at_) (a1 : at_ < 65536) :
    Calls Try.prog 5 #[.agg (q.cells m).toArray, .agg #[x.val, y.val], .int .u16 at_] w fun e w' => e = .returned (.bool true) ∧ Below w.heap.size w w' := by
  have rm := Row.new w 41 (q.cells m)
  have hb1 : Below w.heap.size w ((w.alloc (.cells (q.cells m).toArray 41)).alloc (.cells #[x.val, y.val] 50)) := ((Below.refl w.heap.size w).alloc (Nat.le_refl _) _).alloc (by simp) _
  have hr1 := rm.alloc (.cells #[x.val, y.val] 50)
  have hl1 : Row ((w.alloc (.cells (q.cells m).toArray 41)).alloc (.cells #[x.val, y.val] 50)) (w.heap.size + 1) 50 [x.val, y.val] := Row.new' _ 50 [x.val, y.val] (by simp)
  have HSM := Lib.hid (show (Try.prog.info? 41).map (·.size) = some (q.cells m).length by rw [size_msg, cells_len hm.recent])
  have HGREAT : Hid (∀ V : World, Below w.heap.size w V → Calls Try.prog 18 #[.agg (q.cells m).toArray, x.val, y.val] V fun e w' => (∃ b, e = .returned (.bool b) ∧ (b = false → total m < 3000 ∧ q.kn ≤ 300 ∧ x.n ≤ 300 ∧ y.n ≤ 300)) ∧ Below V.heap.size V w') := Lib.hid fun V hV => great7 q m x.A y.A x.n x.c y.n y.c B V (hm.below (hV.mono hB)) (Nat.le_trans hB hV.size) hz
  have HOF : Hid (∀ (V : World) (x' y' : KL7) (C : Nat), Below w.heap.size w V → w.heap.size ≤ C → C ≤ V.heap.size → q.kn ≤ 300 → x'.In V C → y'.In V C → Calls Try.prog 19 #[.agg (q.cells m).toArray, x'.val, y'.val] V (OfDone V m x'.l y'.l)) := Lib.hid fun V x' y' C hV h1 h2 h3 hx' hy' =>
    of7 q m x' y' C V ((hm.keys.below (hV.mono hB)).more (Nat.le_trans hB h1)) hw.keys hm.recent h2 hw.s hw.r hw.o (by omega) hx' hy'
  have HX : Hid (∀ V : World, Below w.heap.size w V → x.n ≤ 300 → x.In V w.heap.size) := Lib.hid fun V hV h => ⟨(hx.below (hV.mono hB)).more hB, hxo, by omega⟩
  have HY : Hid (∀ V : World, Below w.heap.size w V → y.n ≤ 300 → y.In V w.heap.size) := Lib.hid fun V hV h => ⟨(hy.below (hV.mono hB)).more hB, hyo, by omega⟩
  have HKO := Lib.hid hw.keys
  generalize q.cells m = MC at *
  generalize q.kn = kn at *
  obtain ⟨xA, xn, xc, xl⟩ := x
  obtain ⟨yA, yn, yc, yl⟩ := y
  dsimp only [KL7.val] at *
  have HXL := Lib.hid hx.len
  have HYL := Lib.hid hy.len
  have HXO := Lib.hid hxo
  have HYO := Lib.hid hyo
  have HB1 := Lib.hid hb1
  have R1 := Lib.hid hr1
  have L1 := Lib.hid hl1
  clear hm hw hz hx hy hxo hyo rm hb1 hr1 hl1
  generalize hWW : (w.alloc (.cells MC.toArray 41)).alloc (.cells #[Value.slice xA xn xc, .slice yA yn yc] 50) = W at *
  have HWW := Lib.hid hWW
  clear hWW
  have cx : W.cell? ⟨w.heap.size + 1, 0, none⟩ = some (.slice xA xn xc) := L1.out.cell 0
  have cy : W.cell? ⟨w.heap.size + 1, 1, none⟩ = some (.slice yA yn yc) := L1.out.cell 1
  go_enter Try.func5, Try.ntmps5
  go_upto_region 1 with fail
  rw [HWW.out]
  go_wp2_with ((with_reducible show wpList _ _ _ ({ dst := some 20, op := Op.load _ _, type := _, pos := _, after := _, guard := _ } :: _) _ _); go_must (refine wpList_load_whole rfl 41 (.tmp 3) rfl w.heap.size 41 MC _ Try.underlying41 rfl HSM.out R1.out ?_ ?_; go_simp))
  refine (HGREAT.out W HB1.out).mono ?_
  rintro e w1 ⟨⟨b, rfl, hgr⟩, hb1⟩
  have HB2 := Lib.hid (HB1.out.trans (hb1.mono HB1.out.size))
  have R2 := Lib.hid (R1.out.below hb1 R1.out.lt)
  clear hb1 cx cy HWW L1 R1 HB1 HGREAT
  cases b with
  | true =>
    clear hgr
    go_wp2_with fail
    refine (lives7 _).mono ?_
    rintro e w2 ⟨rfl, hb2⟩
    have B3 := Lib.hid (HB2.out.trans (hb2.mono HB2.out.size))
    clear hb2
    go_wp2_with fail
    go_ret
    exact ⟨rfl, B3.out⟩
  | false =>
  obtain ⟨g1, g2, g3, g4⟩ := hgr rfl
  clear hgr
  go_wp2_with ((with_reducible show wpList _ _ _ ({ dst := some 26, op := Op.load _ _, type := _, pos := _, after := _, guard := _ } :: _) _ _); go_must (refine wpList_load_whole rfl 41 (.tmp 3) rfl w.heap.size 41 MC _ Try.underlying41 rfl HSM.out R2.out ?_ ?_; go_simp))
  refine (HOF.out w1 ⟨xA, xn, xc, xl⟩ ⟨yA, yn, yc, yl⟩ w.heap.size HB2.out (Nat.le_refl _) HB2.out.size g2 (HX.out w1 HB2.out g3) (HY.out w1 HB2.out g4)).mono ?_
  rintro e w2 ⟨hb2, hd⟩
  have B2 := Lib.hid (HB2.out.trans (hb2.mono HB2.out.size))
  have RM2 := Lib.hid (R2.out.below hb2 R2.out.lt)
  have HZ12 := Lib.hid HB2.out.size
  clear hb2 HB2 R2
  by_cases hnd : (m.keys ++ (xl ++ yl)).Nodup
  rotate_left
  · rw [if_neg hnd] at hd
    subst hd
    go_wp2_with fail
    refine (lives7 _).mono ?_
    rintro e w3 ⟨rfl, hb3⟩
    have B3 := Lib.hid (B2.out.trans (hb3.mono B2.out.size))
    clear hb3
    go_wp2_with fail
    go_ret
    exact ⟨rfl, B3.out⟩
  rw [if_pos hnd] at hd
  obtain ⟨A, c, rfl, ho⟩ := hd
  have HLR := Lib.hid (roles_own ho rfl (rolesL_ok HKO.out HXO.out HYO.out))
  have HLN : Hid ((rolesL m xl yl).length ≤ 100000) := Lib.hid (by
    have h1 := rolesL_len m xl yl
    have h2 := HXL.out
    have h3 := HYL.out
    have h4 : m.keys.length < 3000 := by unfold total at g1; omega
    omega)
  have hln := HLN.out
  obtain ⟨N, hN⟩ : ∃ N, N = (rolesL m xl yl).length := ⟨_, rfl⟩
  rw [← hN] at HLR hln ⊢
  have HNN := Lib.hid hN
  clear ho hN HLN hnd
  by_cases hN0 : N = 0
  · subst hN0
    go_wp2_with fail
    refine (lives7 _).mono ?_
    rintro e w3 ⟨rfl, hb3⟩
    have B3 := Lib.hid (B2.out.trans (hb3.mono B2.out.size))
    clear hb3
    go_wp2_with fail
    go_ret
    exact ⟨rfl, B3.out⟩
  obtain ⟨t, ht⟩ : ∃ t : Nat, (t : Int) = at_ % (N : Int) := ⟨(at_ % (N : Int)).toNat, Int.toNat_of_nonneg (Int.emod_nonneg _ (by omega))⟩
  have htN : t < N := by
    have := Int.emod_lt_of_pos at_ (b := (N : Int)) (by omega)
    omega
  have hrem : at_.tmod (N : Int) = (t : Int) := by rw [ht, Int.tmod_eq_emod_of_nonneg a0]
  have HT := Lib.hid ht
  clear ht
  obtain ⟨a, r, rfl, hab, hr, hro, hcr⟩ := HLR.out.get htN
  have HIN := Lib.hid (mem_rolesL hr)
  have HCK : Hid (∀ j u, (bv r.key)[j]? = some u → w2.cell? ((a.add (t * 34)).add j) = some u) := Lib.hid fun j u hu => hcr j u (role_key hu)
  have HSZ := Lib.hid (show (Try.prog.info? 46).map (·.size) = some (bv r.key).length by rw [bv_length, hro.1]; exact size_key)
  have HKL : Hid ((bv r.key).length = 32) := Lib.hid (by rw [bv_length, hro.1])
  have H1 := Lib.hid (bv_one r.key)
  have HRO := Lib.hid hro
  clear hr hro hcr HLR
  obtain ⟨X, hX⟩ : ∃ X, X = bv r.key := ⟨_, rfl⟩
  rw [← hX] at HCK HSZ HKL H1
  have HXX := Lib.hid hX
  clear hX
  have hN1 : ¬ ((N : Int) = 0) := by omega
  have hN2 : (0 : Int) < N := by omega
  have wat : IntKind.i64.wrap at_ = at_ := IntWalk.i64_in _ (by omega)
  go_wp2_with (first
    | ((with_reducible show wpList _ _ _ ({ dst := some 56, op := Op.load _ _, type := _, pos := _, after := _, guard := _ } :: _) _ _); go_must (refine wpList_load_at rfl 46 (.tmp 55) rfl (a.add (t * 34)) X _ Try.underlying46 rfl HSZ.out HCK.out ?_ ?_; go_simp))
    | ((with_reducible show wpList _ _ _ ({ dst := none, op := Op.store 46 _ _, type := _, pos := _, after := _, guard := _ } :: _) _ _); go_must (refine wpList_store_new rfl 46 (.tmp 11) (.tmp 56) rfl X HSZ.out H1.out (by rw [HKL.out]; rfl) ?_ ?_ ?_; go_simp; go_simp; intro w3 hr3 hb3 hz3; have R3 := Lib.hid hr3; have HB3 := Lib.hid hb3; clear hr3 hb3 hz3)))
  have B4 := Lib.hid (B2.out.trans (HB3.out.mono B2.out.size))
  have RM4 := Lib.hid (RM2.out.below HB3.out RM2.out.lt)
  have hgk := B2.out.size
  generalize w2.heap.size = gk at *
  clear B2 RM2 HB3 HCK
  refine wp_region_held_drew (S := (fun V => Row V w.heap.size 41 MC ∧ Row V gk 46 X)) (by kernel_rfl) ⟨RM4.out.drew, R3.out.drew⟩ (fun _ => ?_)
  have HS3 := Lib.hid (And.intro RM4.out.drew R3.out.drew)
  have B5 := Lib.hid B4.out.drew
  clear RM4 R3 B4
  generalize w3.drew = W3 at *
  refine takeL (i := 0) (v := .agg MC.toArray) rfl (by kernel_rfl) (by kernel_rfl) (by kernel_rfl) (fun _ _ _ h => h) (Or.inl ⟨by rfl, fun wz hwz => exec_load_at wz 41 (.tmp 3) rfl ⟨w.heap.size, 0, none⟩ MC _ Try.underlying41 rfl HSM.out (fun j u hu => by rw [addr_row, Nat.zero_add]; exact (hwz.1.cell j).trans hu) (by go_simp)⟩) HS3.out ?_
  try simp only [Act.put, List.setIfInBounds_toArray, List.set_cons_zero, List.set_cons_succ]
  refine takeL (i := 1) (v := ?_) rfl (by kernel_rfl) (by kernel_rfl) (by kernel_rfl) (fun _ _ _ h => h) (Or.inl ⟨by rfl, ?_⟩) HS3.out ?_
  rotate_left
  · intro w hw
    try dsimp only at hw
    go_simp
    try with_reducible rfl
  try simp only [Act.put, List.setIfInBounds_toArray, List.set_cons_zero, List.set_cons_succ]
  refine takeL (i := 3) (v := .agg X.toArray) rfl (by kernel_rfl) (by kernel_rfl) (by kernel_rfl) (fun _ _ _ h => h) (Or.inl ⟨by rfl, fun wz hwz => exec_load_at wz 46 (.tmp 11) rfl ⟨gk, 0, none⟩ X _ Try.underlying46 rfl HSZ.out (fun j u hu => by rw [addr_row, Nat.zero_add]; exact (hwz.2.cell j).trans hu) (by go_simp)⟩) HS3.out ?_
  try simp only [Act.put, List.setIfInBounds_toArray, List.set_cons_zero, List.set_cons_succ]
  refine takeL (i := 6) (v := ?_) rfl (by kernel_rfl) (by kernel_rfl) (by kernel_rfl) (fun _ _ _ h => h) (Or.inl ⟨by rfl, ?_⟩) HS3.out ?_
  rotate_left
  · intro w hw
    try dsimp only at hw
    go_simp
    try with_reducible rfl
  try simp only [Act.put, List.setIfInBounds_toArray, List.set_cons_zero, List.set_cons_succ]
  refine readyL2 (i := 2) (j := 4) rfl rfl (by kernel_rfl) (by kernel_rfl) (by kernel_rfl) (fun K hK => ?_) (fun K hK => ?_)
  · have HSEE : Hid (Sees W3 w.heap.size xA (xn * 32) (bv xl.flatten)) := Lib.hid (HX.out W3 B5.out g3).keys.sees
    refine wp_appendN (P := Try.prog) (w := W3) (.const (.slice none 0 0)) (.tmp 59) 25 46 _ 32 32 rfl Try.underlying25 info_key3 (by kernel_rfl) (by omega) (.slice none 0 0) 0 [] W3.heap.size w.heap.size xA xn xc (bv xl.flatten) ?_ (World.ownsRow_nil _ _ _ _) ?_ HSEE.out (bv_one _) (by unfold maxLen; omega) (by omega) (by simp) ?_
    · go_simp
    · go_simp
    intro v5 w5 ho5 hg5
    have HO5 := Lib.hid ho5
    have HS5 : Hid (Row w5 w.heap.size 41 MC ∧ Row w5 gk 46 X) := Lib.hid ⟨HS3.out.1.grown hg5.grown (by simp [Value.ownBlock]), HS3.out.2.grown hg5.grown (by simp [Value.ownBlock])⟩
    have HG5 := Lib.hid hg5.size
    have BB5 := Lib.hid (B5.out.grown hg5.grown B5.out.size (fun k hk => by simp [Value.ownBlock] at hk))
    refine hK.out _ _ HS5.out ?_
    clear hK K hg5 ho5
    try simp only [Act.put, List.setIfInBounds_toArray, List.set_cons_zero, List.set_cons_succ]
    refine readyL (i := 4) rfl (by kernel_rfl) (by kernel_rfl) fun K hK => ?_
    refine wp_buildOne 25 46 (.tmp 61) rfl X _ 32 32 Try.underlying25 info_key3 (by kernel_rfl) (by omega) (by omega) HKL.out ?_ ?_
    · go_simp
    refine hK.out _ _ ⟨HS5.out.1.alloc _, HS5.out.2.alloc _⟩ ?_
    clear hK K
    have HRN := Lib.hid (Row.new w5 46 X)
    have HO6 := Lib.hid (HO5.out.alloc (.cells X.toArray 46))
    have HS6 : Hid (Row (w5.alloc (.cells X.toArray 46)) w.heap.size 41 MC ∧ Row (w5.alloc (.cells X.toArray 46)) gk 46 X) := Lib.hid ⟨HS5.out.1.alloc _, HS5.out.2.alloc _⟩
    have BB6 := Lib.hid (BB5.out.alloc (o := .cells X.toArray 46) BB5.out.size)
    have HW6 : Hid (W3.heap.size ≤ (w5.alloc (.cells X.toArray 46)).heap.size) := Lib.hid (by have := HG5.out; simp; omega)
    generalize hw6 : w5.alloc (.cells X.toArray 46) = w6 at *
    generalize w5.heap.size = gn at *
    clear hw6 HO5 HS5 BB5
    try simp only [Act.put, List.setIfInBounds_toArray, List.set_cons_zero, List.set_cons_succ]
    refine readyL (i := 5) rfl (by kernel_rfl) (by kernel_rfl) fun K hK => ?_
    refine wp_appendN (.tmp 60) (.tmp 62) 25 46 _ 32 32 rfl Try.underlying25 info_key3 (by kernel_rfl) (by omega) v5 (0 + xn) _ W3.heap.size w6.heap.size (some ⟨gn, 0, none⟩) 1 1 X ?_ HO6.out ?_ (by have := HRN.out.sees0; rw [HKL.out] at this; exact this) H1.out (by unfold maxLen; omega) (by omega) HW6.out ?_
    · go_simp
    · go_simp
    intro v7 w7 ho7 hg7
    rw [Nat.zero_add] at ho7
    obtain ⟨A7, c7, rfl⟩ := own_formN ho7
    have HK7 : Hid (KL7.In w7 w7.heap.size ⟨A7, xn + 1, c7, xl ++ [r.key]⟩) := Lib.hid ⟨keys_own (l := xl ++ [r.key]) (base := W3.heap.size) (c := c7) (by
        have := ho7
        rw [List.nil_append, HXX.out, ← bv_append] at this
        rw [List.flatten_append]
        simpa using this) (by rw [List.length_append, HXL.out]; simp) (fun k hk => by
        rcases List.mem_append.1 hk with hk | hk
        · exact (HXO.out k hk).1
        · rw [List.mem_singleton.1 hk]; exact HRO.out.1), fun k hk => by
        rcases List.mem_append.1 hk with hk | hk
        · exact HXO.out k hk
        · rw [List.mem_singleton.1 hk]; exact HRO.out, by show xn + 1 ≤ 4000; omega⟩
    have HLT6 := Lib.hid fun k (hk : v5.ownBlock = some k) => HO6.out.lt k hk
    have HS7 : Hid (Row w7 w.heap.size 41 MC ∧ Row w7 gk 46 X) := Lib.hid ⟨HS6.out.1.grown hg7.grown (fun e => by have := HLT6.out _ e.symm; have := HS3.out.1.lt; omega), HS6.out.2.grown hg7.grown (fun e => by have := HLT6.out _ e.symm; have := HS3.out.2.lt; omega)⟩
    have BB7 := Lib.hid (BB6.out.grown hg7.grown BB6.out.size (fun k hk => by have := HLT6.out _ hk; have := B5.out.size; omega))
    clear ho7 hg7 HLT6 HO6 HS6 BB6 HRN
    refine hK.out _ _ HS7.out ?_
    clear hK K
    try simp only [Act.put, List.setIfInBounds_toArray, List.set_cons_zero, List.set_cons_succ]
    refine readyL (i := 7) rfl (by kernel_rfl) (by kernel_rfl) fun K hK => ?_
    go_simp
    refine (HOF.out w7 ⟨A7, xn + 1, c7, xl ++ [r.key]⟩ ⟨yA, yn, yc, yl⟩ w7.heap.size BB7.out BB7.out.size (Nat.le_refl _) g2 HK7.out ((HY.out w7 BB7.out g4).more BB7.out.size)).mono ?_
    rintro e w8 ⟨hb8, hd⟩
    rw [if_neg (twice_w HIN.out)] at hd
    subst hd
    have BB8 := Lib.hid (BB7.out.trans (hb8.mono BB7.out.size))
    have HS8 : Hid (Row w8 w.heap.size 41 MC ∧ Row w8 gk 46 X) := Lib.hid ⟨HS7.out.1.below hb8 HS7.out.1.lt, HS7.out.2.below hb8 HS7.out.2.lt⟩
    clear hb8
    refine hK.out _ _ HS8.out ?_
    clear hK K
    try simp only [Act.put, List.setIfInBounds_toArray, List.set_cons_zero, List.set_cons_succ]
    refine takeL (i := 8) (v := ?_) rfl (by kernel_rfl) (by kernel_rfl) (by kernel_rfl) (fun _ _ _ h => h) (Or.inl ⟨by rfl, ?_⟩) HS8.out ?_
    rotate_left
    · intro w hw
      try dsimp only at hw
      go_simp
      try with_reducible rfl
    try simp only [Act.put, List.setIfInBounds_toArray, List.set_cons_zero, List.set_cons_succ]
    refine takeL (i := 9) (v := ?_) rfl (by kernel_rfl) (by kernel_rfl) (by kernel_rfl) (fun _ _ _ h => h) (Or.inl ⟨by rfl, ?_⟩) HS8.out ?_
    rotate_left
    · intro w hw
      try dsimp only at hw
      go_simp
      try with_reducible rfl
    try simp only [Act.put, List.setIfInBounds_toArray, List.set_cons_zero, List.set_cons_succ]
    refine takeL (i := 10) (v := ?_) rfl (by kernel_rfl) (by kernel_rfl) (by kernel_rfl) (fun _ _ _ h => h) (Or.inl ⟨by rfl, ?_⟩) HS8.out ?_
    rotate_left
    · intro w hw
      try dsimp only at hw
      go_simp
      try with_reducible rfl
    try simp only [Act.put, List.setIfInBounds_toArray, List.set_cons_zero, List.set_cons_succ]
    refine takeL (i := 11) (v := ?_) rfl (by kernel_rfl) (by kernel_rfl) (by kernel_rfl) (fun _ _ _ h => h) (Or.inl ⟨by rfl, ?_⟩) HS8.out ?_
    rotate_left
    · intro w hw
      try dsimp only at hw
      go_simp
      try with_reducible rfl
    try simp only [Act.put, List.setIfInBounds_toArray, List.set_cons_zero, List.set_cons_succ]
    refine takeL (i := 12) (v := ?_) rfl (by kernel_rfl) (by kernel_rfl) (by kernel_rfl) (fun _ _ _ h => h) (Or.inl ⟨by rfl, ?_⟩) HS8.out ?_
    rotate_left
    · intro w hw
      try dsimp only at hw
      go_simp
      try with_reducible rfl
    try simp only [Act.put, List.setIfInBounds_toArray, List.set_cons_zero, List.set_cons_succ]
    refine wpAnyH_done (by kernel_rfl) ?_ _
    clear HS3 B5 HS7 BB7 HK7
    go_wp2_with fail
    refine wp_region_held_drew (S := (fun V => Row V w.heap.size 41 MC ∧ Row V gk 46 X)) (by kernel_rfl) ⟨HS8.out.1.drew, HS8.out.2.drew⟩ (fun _ => ?_)
    have HT3 := Lib.hid (And.intro HS8.out.1.drew HS8.out.2.drew)
    have C5 := Lib.hid BB8.out.drew
    clear HS8 BB8
    generalize w8.drew = W9 at *
    refine takeL (i := 0) (v := .agg MC.toArray) rfl (by kernel_rfl) (by kernel_rfl) (by kernel_rfl) (fun _ _ _ h => h) (Or.inl ⟨by rfl, fun wz hwz => exec_load_at wz 41 (.tmp 3) rfl ⟨w.heap.size, 0, none⟩ MC _ Try.underlying41 rfl HSM.out (fun j u hu => by rw [addr_row, Nat.zero_add]; exact (hwz.1.cell j).trans hu) (by go_simp)⟩) HT3.out ?_
    try simp only [Act.put, List.setIfInBounds_toArray, List.set_cons_zero, List.set_cons_succ]
    refine takeL (i := 1) (v := ?_) rfl (by kernel_rfl) (by kernel_rfl) (by kernel_rfl) (fun _ _ _ h => h) (Or.inl ⟨by rfl, ?_⟩) HT3.out ?_
    rotate_left
    · intro w hw
      try dsimp only at hw
      go_simp
      try with_reducible rfl
    try simp only [Act.put, List.setIfInBounds_toArray, List.set_cons_zero, List.set_cons_succ]
    refine takeL (i := 2) (v := .agg X.toArray) rfl (by kernel_rfl) (by kernel_rfl) (by kernel_rfl) (fun _ _ _ h => h) (Or.inl ⟨by rfl, fun wz hwz => exec_load_at wz 46 (.tmp 11) rfl ⟨gk, 0, none⟩ X _ Try.underlying46 rfl HSZ.out (fun j u hu => by rw [addr_row, Nat.zero_add]; exact (hwz.2.cell j).trans hu) (by go_simp)⟩) HT3.out ?_
    try simp only [Act.put, List.setIfInBounds_toArray, List.set_cons_zero, List.set_cons_succ]
    refine takeL (i := 4) (v := ?_) rfl (by kernel_rfl) (by kernel_rfl) (by kernel_rfl) (fun _ _ _ h => h) (Or.inl ⟨by rfl, ?_⟩) HT3.out ?_
    rotate_left
    · intro w hw
      try dsimp only at hw
      go_simp
      try with_reducible rfl
    try simp only [Act.put, List.setIfInBounds_toArray, List.set_cons_zero, List.set_cons_succ]
    refine readyL (i := 3) rfl (by kernel_rfl) (by kernel_rfl) fun K hK => ?_
    refine wp_buildOne 25 46 (.tmp 71) rfl X _ 32 32 Try.underlying25 info_key3 (by kernel_rfl) (by omega) (by omega) HKL.out ?_ ?_
    · go_simp
    refine hK.out _ _ ⟨HT3.out.1.alloc _, HT3.out.2.alloc _⟩ ?_
    clear hK K
    have HT4 : Hid (Row (W9.alloc (.cells X.toArray 46)) w.heap.size 41 MC ∧ Row (W9.alloc (.cells X.toArray 46)) gk 46 X) := Lib.hid ⟨HT3.out.1.alloc _, HT3.out.2.alloc _⟩
    have C6 := Lib.hid (C5.out.alloc (o := .cells X.toArray 46) C5.out.size)
    have HO9 := Lib.hid (own_one (Row.new W9 46 X) HKL.out (Nat.le_refl _))
    have HW9 : Hid (W9.heap.size ≤ (W9.alloc (.cells X.toArray 46)).heap.size) := Lib.hid (by simp)
    have HLT9 := Lib.hid (And.intro HT3.out.1.lt HT3.out.2.lt)
    have HSZ9 := Lib.hid C5.out.size
    generalize hw9 : W9.alloc (.cells X.toArray 46) = W10 at *
    generalize W9.heap.size = gn9 at *
    clear hw9
    try simp only [Act.put, List.setIfInBounds_toArray, List.set_cons_zero, List.set_cons_succ]
    refine readyL (i := 5) rfl (by kernel_rfl) (by kernel_rfl) fun K hK => ?_
    refine wp_appendN (.tmp 72) (.tmp 73) 25 46 _ 32 32 rfl Try.underlying25 info_key3 (by kernel_rfl) (by omega) (.slice (some ⟨gn9, 0, none⟩) 1 1) 1 X gn9 w.heap.size yA yn yc (bv yl.flatten) ?_ HO9.out ?_ (HY.out W10 C6.out g4).keys.sees (bv_one _) (by unfold maxLen; omega) (by omega) HW9.out ?_
    · go_simp
    · go_simp
    intro v11 w11 ho11 hg11
    obtain ⟨A11, c11, rfl⟩ := own_formN ho11
    have HK11 : Hid (KL7.In w11 w11.heap.size ⟨A11, 1 + yn, c11, [r.key] ++ yl⟩) := Lib.hid ⟨keys_own (l := [r.key] ++ yl) (base := gn9) (c := c11) (by
        have := ho11
        rw [HXX.out, ← bv_append] at this
        simpa using this) (by rw [List.length_append, HYL.out]; simp) (fun k hk => by
        rcases List.mem_append.1 hk with hk | hk
        · rw [List.mem_singleton.1 hk]; exact HRO.out.1
        · exact (HYO.out k hk).1), fun k hk => by
        rcases List.mem_append.1 hk with hk | hk
        · rw [List.mem_singleton.1 hk]; exact HRO.out
        · exact HYO.out k hk, by show 1 + yn ≤ 4000; omega⟩
    have HLT11 := Lib.hid fun k (hk : (Value.slice (some ⟨gn9, 0, none⟩) 1 1).ownBlock = some k) => HO9.out.lt k hk
    have HS11 : Hid (Row w11 w.heap.size 41 MC ∧ Row w11 gk 46 X) := Lib.hid ⟨HT4.out.1.grown hg11.grown (fun e => by have := HLT11.out _ e.symm; have := HLT9.out.1; omega), HT4.out.2.grown hg11.grown (fun e => by have := HLT11.out _ e.symm; have := HLT9.out.2; omega)⟩
    have BB11 := Lib.hid (C6.out.grown hg11.grown C6.out.size (fun k hk => by have := HLT11.out _ hk; have := HSZ9.out; omega))
    clear ho11 hg11 HLT11 HO9
    refine hK.out _ _ HS11.out ?_
    clear hK K
    try simp only [Act.put, List.setIfInBounds_toArray, List.set_cons_zero, List.set_cons_succ]
    refine readyL (i := 6) rfl (by kernel_rfl) (by kernel_rfl) fun K hK => ?_
    go_simp
    refine (HOF.out w11 ⟨xA, xn, xc, xl⟩ ⟨A11, 1 + yn, c11, [r.key] ++ yl⟩ w11.heap.size BB11.out BB11.out.size (Nat.le_refl _) g2 ((HX.out w11 BB11.out g3).more BB11.out.size) HK11.out).mono ?_
    rintro e w12 ⟨hb12, hd⟩
    rw [if_neg (twice_r HIN.out)] at hd
    subst hd
    have BB12 := Lib.hid (BB11.out.trans (hb12.mono BB11.out.size))
    have HS12 : Hid (Row w12 w.heap.size 41 MC ∧ Row w12 gk 46 X) := Lib.hid ⟨HS11.out.1.below hb12 HS11.out.1.lt, HS11.out.2.below hb12 HS11.out.2.lt⟩
    clear hb12
    refine hK.out _ _ HS12.out ?_
    clear hK K
    try simp only [Act.put, List.setIfInBounds_toArray, List.set_cons_zero, List.set_cons_succ]
    refine takeL (i := 7) (v := ?_) rfl (by kernel_rfl) (by kernel_rfl) (by kernel_rfl) (fun _ _ _ h => h) (Or.inl ⟨by rfl, ?_⟩) HS12.out ?_
    rotate_left
    · intro w hw
      try dsimp only at hw
      go_simp
      try with_reducible rfl
    try simp only [Act.put, List.setIfInBounds_toArray, List.set_cons_zero, List.set_cons_succ]
    refine takeL (i := 8) (v := ?_) rfl (by kernel_rfl) (by kernel_rfl) (by kernel_rfl) (fun _ _ _ h => h) (Or.inl ⟨by rfl, ?_⟩) HS12.out ?_
    rotate_left
    · intro w hw
      try dsimp only at hw
      go_simp
      try with_reducible rfl
    try simp only [Act.put, List.setIfInBounds_toArray, List.set_cons_zero, List.set_cons_succ]
    refine takeL (i := 9) (v := ?_) rfl (by kernel_rfl) (by kernel_rfl) (by kernel_rfl) (fun _ _ _ h => h) (Or.inl ⟨by rfl, ?_⟩) HS12.out ?_
    rotate_left
    · intro w hw
      try dsimp only at hw
      go_simp
      try with_reducible rfl
    try simp only [Act.put, List.setIfInBounds_toArray, List.set_cons_zero, List.set_cons_succ]
    refine takeL (i := 10) (v := ?_) rfl (by kernel_rfl) (by kernel_rfl) (by kernel_rfl) (fun _ _ _ h => h) (Or.inl ⟨by rfl, ?_⟩) HS12.out ?_
    rotate_left
    · intro w hw
      try dsimp only at hw
      go_simp
      try with_reducible rfl
    try simp only [Act.put, List.setIfInBounds_toArray, List.set_cons_zero, List.set_cons_succ]
    refine takeL (i := 11) (v := ?_) rfl (by kernel_rfl) (by kernel_rfl) (by kernel_rfl) (fun _ _ _ h => h) (Or.inl ⟨by rfl, ?_⟩) HS12.out ?_
    rotate_left
    · intro w hw
      try dsimp only at hw
      go_simp
      try with_reducible rfl
    try simp only [Act.put, List.setIfInBounds_toArray, List.set_cons_zero, List.set_cons_succ]
    refine wpAnyH_done (by kernel_rfl) ?_ _
    go_wp2_with fail
    refine (lives7 _).mono ?_
    rintro e w13 ⟨rfl, hb13⟩
    have B13 := Lib.hid (BB12.out.trans (hb13.mono BB12.out.size))
    clear hb13
    go_wp2_with fail
    go_ret
    exact ⟨rfl, B13.out⟩
  · refine wp_buildOne 25 46 (.tmp 61) rfl X _ 32 32 Try.underlying25 info_key3 (by kernel_rfl) (by omega) (by omega) HKL.out ?_ ?_
    · go_simp
    refine hK.out _ _ ⟨HS3.out.1.alloc _, HS3.out.2.alloc _⟩ ?_
    clear hK K
    have HRN0 := Lib.hid (Row.new W3 46 X)
    have HS4 : Hid (Row (W3.alloc (.cells X.toArray 46)) w.heap.size 41 MC ∧ Row (W3.alloc (.cells X.toArray 46)) gk 46 X) := Lib.hid ⟨HS3.out.1.alloc _, HS3.out.2.alloc _⟩
    have BB4 := Lib.hid (B5.out.alloc (o := .cells X.toArray 46) B5.out.size)
    have HW4 : Hid (W3.heap.size ≤ (W3.alloc (.cells X.toArray 46)).heap.size) := Lib.hid (by simp)
    generalize hw4 : W3.alloc (.cells X.toArray 46) = W4 at *
    clear hw4
    try simp only [Act.put, List.setIfInBounds_toArray, List.set_cons_zero, List.set_cons_succ]
    refine readyL (i := 2) rfl (by kernel_rfl) (by kernel_rfl) fun K hK => ?_
    have HSEE : Hid (Sees W4 w.heap.size xA (xn * 32) (bv xl.flatten)) := Lib.hid (HX.out W4 BB4.out g3).keys.sees
    refine wp_appendN (P := Try.prog) (w := W4) (.const (.slice none 0 0)) (.tmp 59) 25 46 _ 32 32 rfl Try.underlying25 info_key3 (by kernel_rfl) (by omega) (.slice none 0 0) 0 [] W3.heap.size w.heap.size xA xn xc (bv xl.flatten) ?_ (World.ownsRow_nil _ _ _ _) ?_ HSEE.out (bv_one _) (by unfold maxLen; omega) (by omega) HW4.out ?_
    · go_simp
    · go_simp
    intro v5 w5 ho5 hg5
    have HO5 := Lib.hid ho5
    have HS5 : Hid (Row w5 w.heap.size 41 MC ∧ Row w5 gk 46 X) := Lib.hid ⟨HS4.out.1.grown hg5.grown (by simp [Value.ownBlock]), HS4.out.2.grown hg5.grown (by simp [Value.ownBlock])⟩
    have HRN := Lib.hid (HRN0.out.grown hg5.grown (by simp [Value.ownBlock]))
    have HW6 := Lib.hid (Nat.le_trans HW4.out hg5.size)
    have BB5 := Lib.hid (BB4.out.grown hg5.grown BB4.out.size (fun k hk => by simp [Value.ownBlock] at hk))
    refine hK.out _ _ HS5.out ?_
    clear hK K ho5
    try simp only [Act.put, List.setIfInBounds_toArray, List.set_cons_zero, List.set_cons_succ]
    have HO6 := HO5
    have HS6 := HS5
    have BB6 := BB5
    clear HO5 HS5 BB5
    obtain ⟨w6, hw6⟩ : ∃ u : World, u = w5 := ⟨_, rfl⟩
    rw [← hw6] at HO6 HS6 BB6 HRN HW6 ⊢
    clear hw6
    refine readyL (i := 5) rfl (by kernel_rfl) (by kernel_rfl) fun K hK => ?_
    refine wp_appendN (.tmp 60) (.tmp 62) 25 46 _ 32 32 rfl Try.underlying25 info_key3 (by kernel_rfl) (by omega) v5 (0 + xn) _ W3.heap.size w6.heap.size (some ⟨W3.heap.size, 0, none⟩) 1 1 X ?_ HO6.out ?_ (by have := HRN.out.sees0; rw [HKL.out] at this; exact this) H1.out (by unfold maxLen; omega) (by omega) HW6.out ?_
    · go_simp
    · go_simp
    intro v7 w7 ho7 hg7
    rw [Nat.zero_add] at ho7
    obtain ⟨A7, c7, rfl⟩ := own_formN ho7
    have HK7 : Hid (KL7.In w7 w7.heap.size ⟨A7, xn + 1, c7, xl ++ [r.key]⟩) := Lib.hid ⟨keys_own (l := xl ++ [r.key]) (base := W3.heap.size) (c := c7) (by
        have := ho7
        rw [List.nil_append, HXX.out, ← bv_append] at this
        rw [List.flatten_append]
        simpa using this) (by rw [List.length_append, HXL.out]; simp) (fun k hk => by
        rcases List.mem_append.1 hk with hk | hk
        · exact (HXO.out k hk).1
        · rw [List.mem_singleton.1 hk]; exact HRO.out.1), fun k hk => by
        rcases List.mem_append.1 hk with hk | hk
        · exact HXO.out k hk
        · rw [List.mem_singleton.1 hk]; exact HRO.out, by show xn + 1 ≤ 4000; omega⟩
    have HLT6 := Lib.hid fun k (hk : v5.ownBlock = some k) => HO6.out.lt k hk
    have HS7 : Hid (Row w7 w.heap.size 41 MC ∧ Row w7 gk 46 X) := Lib.hid ⟨HS6.out.1.grown hg7.grown (fun e => by have := HLT6.out _ e.symm; have := HS3.out.1.lt; omega), HS6.out.2.grown hg7.grown (fun e => by have := HLT6.out _ e.symm; have := HS3.out.2.lt; omega)⟩
    have BB7 := Lib.hid (BB6.out.grown hg7.grown BB6.out.size (fun k hk => by have := HLT6.out _ hk; have := B5.out.size; omega))
    clear ho7 hg7 HLT6 HO6 HS6 BB6 HRN
    refine hK.out _ _ HS7.out ?_
    clear hK K
    try simp only [Act.put, List.setIfInBounds_toArray, List.set_cons_zero, List.set_cons_succ]
    refine readyL (i := 7) rfl (by kernel_rfl) (by kernel_rfl) fun K hK => ?_
    go_simp
    refine (HOF.out w7 ⟨A7, xn + 1, c7, xl ++ [r.key]⟩ ⟨yA, yn, yc, yl⟩ w7.heap.size BB7.out BB7.out.size (Nat.le_refl _) g2 HK7.out ((HY.out w7 BB7.out g4).more BB7.out.size)).mono ?_
    rintro e w8 ⟨hb8, hd⟩
    rw [if_neg (twice_w HIN.out)] at hd
    subst hd
    have BB8 := Lib.hid (BB7.out.trans (hb8.mono BB7.out.size))
    have HS8 : Hid (Row w8 w.heap.size 41 MC ∧ Row w8 gk 46 X) := Lib.hid ⟨HS7.out.1.below hb8 HS7.out.1.lt, HS7.out.2.below hb8 HS7.out.2.lt⟩
    clear hb8
    refine hK.out _ _ HS8.out ?_
    clear hK K
    try simp only [Act.put, List.setIfInBounds_toArray, List.set_cons_zero, List.set_cons_succ]
    refine takeL (i := 8) (v := ?_) rfl (by kernel_rfl) (by kernel_rfl) (by kernel_rfl) (fun _ _ _ h => h) (Or.inl ⟨by rfl, ?_⟩) HS8.out ?_
    rotate_left
    · intro w hw
      try dsimp only at hw
      go_simp
      try with_reducible rfl
    try simp only [Act.put, List.setIfInBounds_toArray, List.set_cons_zero, List.set_cons_succ]
    refine takeL (i := 9) (v := ?_) rfl (by kernel_rfl) (by kernel_rfl) (by kernel_rfl) (fun _ _ _ h => h) (Or.inl ⟨by rfl, ?_⟩) HS8.out ?_
    rotate_left
    · intro w hw
      try dsimp only at hw
      go_simp
      try with_reducible rfl
    try simp only [Act.put, List.setIfInBounds_toArray, List.set_cons_zero, List.set_cons_succ]
    refine takeL (i := 10) (v := ?_) rfl (by kernel_rfl) (by kernel_rfl) (by kernel_rfl) (fun _ _ _ h => h) (Or.inl ⟨by rfl, ?_⟩) HS8.out ?_
    rotate_left
    · intro w hw
      try dsimp only at hw
      go_simp
      try with_reducible rfl
    try simp only [Act.put, List.setIfInBounds_toArray, List.set_cons_zero, List.set_cons_succ]
    refine takeL (i := 11) (v := ?_) rfl (by kernel_rfl) (by kernel_rfl) (by kernel_rfl) (fun _ _ _ h => h) (Or.inl ⟨by rfl, ?_⟩) HS8.out ?_
    rotate_left
    · intro w hw
      try dsimp only at hw
      go_simp
      try with_reducible rfl
    try simp only [Act.put, List.setIfInBounds_toArray, List.set_cons_zero, List.set_cons_succ]
    refine takeL (i := 12) (v := ?_) rfl (by kernel_rfl) (by kernel_rfl) (by kernel_rfl) (fun _ _ _ h => h) (Or.inl ⟨by rfl, ?_⟩) HS8.out ?_
    rotate_left
    · intro w hw
      try dsimp only at hw
      go_simp
      try with_reducible rfl
    try simp only [Act.put, List.setIfInBounds_toArray, List.set_cons_zero, List.set_cons_succ]
    refine wpAnyH_done (by kernel_rfl) ?_ _
    clear HS3 B5 HS7 BB7 HK7
    go_wp2_with fail
    refine wp_region_held_drew (S := (fun V => Row V w.heap.size 41 MC ∧ Row V gk 46 X)) (by kernel_rfl) ⟨HS8.out.1.drew, HS8.out.2.drew⟩ (fun _ => ?_)
    have HT3 := Lib.hid (And.intro HS8.out.1.drew HS8.out.2.drew)
    have C5 := Lib.hid BB8.out.drew
    clear HS8 BB8
    generalize w8.drew = W9 at *
    refine takeL (i := 0) (v := .agg MC.toArray) rfl (by kernel_rfl) (by kernel_rfl) (by kernel_rfl) (fun _ _ _ h => h) (Or.inl ⟨by rfl, fun wz hwz => exec_load_at wz 41 (.tmp 3) rfl ⟨w.heap.size, 0, none⟩ MC _ Try.underlying41 rfl HSM.out (fun j u hu => by rw [addr_row, Nat.zero_add]; exact (hwz.1.cell j).trans hu) (by go_simp)⟩) HT3.out ?_
    try simp only [Act.put, List.setIfInBounds_toArray, List.set_cons_zero, List.set_cons_succ]
    refine takeL (i := 1) (v := ?_) rfl (by kernel_rfl) (by kernel_rfl) (by kernel_rfl) (fun _ _ _ h => h) (Or.inl ⟨by rfl, ?_⟩) HT3.out ?_
    rotate_left
    · intro w hw
      try dsimp only at hw
      go_simp
      try with_reducible rfl
    try simp only [Act.put, List.setIfInBounds_toArray, List.set_cons_zero, List.set_cons_succ]
    refine takeL (i := 2) (v := .agg X.toArray) rfl (by kernel_rfl) (by kernel_rfl) (by kernel_rfl) (fun _ _ _ h => h) (Or.inl ⟨by rfl, fun wz hwz => exec_load_at wz 46 (.tmp 11) rfl ⟨gk, 0, none⟩ X _ Try.underlying46 rfl HSZ.out (fun j u hu => by rw [addr_row, Nat.zero_add]; exact (hwz.2.cell j).trans hu) (by go_simp)⟩) HT3.out ?_
    try simp only [Act.put, List.setIfInBounds_toArray, List.set_cons_zero, List.set_cons_succ]
    refine takeL (i := 4) (v := ?_) rfl (by kernel_rfl) (by kernel_rfl) (by kernel_rfl) (fun _ _ _ h => h) (Or.inl ⟨by rfl, ?_⟩) HT3.out ?_
    rotate_left
    · intro w hw
      try dsimp only at hw
      go_simp
      try with_reducible rfl
    try simp only [Act.put, List.setIfInBounds_toArray, List.set_cons_zero, List.set_cons_succ]
    refine readyL (i := 3) rfl (by kernel_rfl) (by kernel_rfl) fun K hK => ?_
    refine wp_buildOne 25 46 (.tmp 71) rfl X _ 32 32 Try.underlying25 info_key3 (by kernel_rfl) (by omega) (by omega) HKL.out ?_ ?_
    · go_simp
    refine hK.out _ _ ⟨HT3.out.1.alloc _, HT3.out.2.alloc _⟩ ?_
    clear hK K
    have HT4 : Hid (Row (W9.alloc (.cells X.toArray 46)) w.heap.size 41 MC ∧ Row (W9.alloc (.cells X.toArray 46)) gk 46 X) := Lib.hid ⟨HT3.out.1.alloc _, HT3.out.2.alloc _⟩
    have C6 := Lib.hid (C5.out.alloc (o := .cells X.toArray 46) C5.out.size)
    have HO9 := Lib.hid (own_one (Row.new W9 46 X) HKL.out (Nat.le_refl _))
    have HW9 : Hid (W9.heap.size ≤ (W9.alloc (.cells X.toArray 46)).heap.size) := Lib.hid (by simp)
    have HLT9 := Lib.hid (And.intro HT3.out.1.lt HT3.out.2.lt)
    have HSZ9 := Lib.hid C5.out.size
    generalize hw9 : W9.alloc (.cells X.toArray 46) = W10 at *
    generalize W9.heap.size = gn9 at *
    clear hw9
    try simp only [Act.put, List.setIfInBounds_toArray, List.set_cons_zero, List.set_cons_succ]
    refine readyL (i := 5) rfl (by kernel_rfl) (by kernel_rfl) fun K hK => ?_
    refine wp_appendN (.tmp 72) (.tmp 73) 25 46 _ 32 32 rfl Try.underlying25 info_key3 (by kernel_rfl) (by omega) (.slice (some ⟨gn9, 0, none⟩) 1 1) 1 X gn9 w.heap.size yA yn yc (bv yl.flatten) ?_ HO9.out ?_ (HY.out W10 C6.out g4).keys.sees (bv_one _) (by unfold maxLen; omega) (by omega) HW9.out ?_
    · go_simp
    · go_simp
    intro v11 w11 ho11 hg11
    obtain ⟨A11, c11, rfl⟩ := own_formN ho11
    have HK11 : Hid (KL7.In w11 w11.heap.size ⟨A11, 1 + yn, c11, [r.key] ++ yl⟩) := Lib.hid ⟨keys_own (l := [r.key] ++ yl) (base := gn9) (c := c11) (by
        have := ho11
        rw [HXX.out, ← bv_append] at this
        simpa using this) (by rw [List.length_append, HYL.out]; simp) (fun k hk => by
        rcases List.mem_append.1 hk with hk | hk
        · rw [List.mem_singleton.1 hk]; exact HRO.out.1
        · exact (HYO.out k hk).1), fun k hk => by
        rcases List.mem_append.1 hk with hk | hk
        · rw [List.mem_singleton.1 hk]; exact HRO.out
        · exact HYO.out k hk, by show 1 + yn ≤ 4000; omega⟩
    have HLT11 := Lib.hid fun k (hk : (Value.slice (some ⟨gn9, 0, none⟩) 1 1).ownBlock = some k) => HO9.out.lt k hk
    have HS11 : Hid (Row w11 w.heap.size 41 MC ∧ Row w11 gk 46 X) := Lib.hid ⟨HT4.out.1.grown hg11.grown (fun e => by have := HLT11.out _ e.symm; have := HLT9.out.1; omega), HT4.out.2.grown hg11.grown (fun e => by have := HLT11.out _ e.symm; have := HLT9.out.2; omega)⟩
    have BB11 := Lib.hid (C6.out.grown hg11.grown C6.out.size (fun k hk => by have := HLT11.out _ hk; have := HSZ9.out; omega))
    clear ho11 hg11 HLT11 HO9
    refine hK.out _ _ HS11.out ?_
    clear hK K
    try simp only [Act.put, List.setIfInBounds_toArray, List.set_cons_zero, List.set_cons_succ]
    refine readyL (i := 6) rfl (by kernel_rfl) (by kernel_rfl) fun K hK => ?_
    go_simp
    refine (HOF.out w11 ⟨xA, xn, xc, xl⟩ ⟨A11, 1 + yn, c11, [r.key] ++ yl⟩ w11.heap.size BB11.out BB11.out.size (Nat.le_refl _) g2 ((HX.out w11 BB11.out g3).more BB11.out.size) HK11.out).mono ?_
    rintro e w12 ⟨hb12, hd⟩
    rw [if_neg (twice_r HIN.out)] at hd
    subst hd
    have BB12 := Lib.hid (BB11.out.trans (hb12.mono BB11.out.size))
    have HS12 : Hid (Row w12 w.heap.size 41 MC ∧ Row w12 gk 46 X) := Lib.hid ⟨HS11.out.1.below hb12 HS11.out.1.lt, HS11.out.2.below hb12 HS11.out.2.lt⟩
    clear hb12
    refine hK.out _ _ HS12.out ?_
    clear hK K
    try simp only [Act.put, List.setIfInBounds_toArray, List.set_cons_zero, List.set_cons_succ]
    refine takeL (i := 7) (v := ?_) rfl (by kernel_rfl) (by kernel_rfl) (by kernel_rfl) (fun _ _ _ h => h) (Or.inl ⟨by rfl, ?_⟩) HS12.out ?_
    rotate_left
    · intro w hw
      try dsimp only at hw
      go_simp
      try with_reducible rfl
    try simp only [Act.put, List.setIfInBounds_toArray, List.set_cons_zero, List.set_cons_succ]
    refine takeL (i := 8) (v := ?_) rfl (by kernel_rfl) (by kernel_rfl) (by kernel_rfl) (fun _ _ _ h => h) (Or.inl ⟨by rfl, ?_⟩) HS12.out ?_
    rotate_left
    · intro w hw
      try dsimp only at hw
      go_simp
      try with_reducible rfl
    try simp only [Act.put, List.setIfInBounds_toArray, List.set_cons_zero, List.set_cons_succ]
    refine takeL (i := 9) (v := ?_) rfl (by kernel_rfl) (by kernel_rfl) (by kernel_rfl) (fun _ _ _ h => h) (Or.inl ⟨by rfl, ?_⟩) HS12.out ?_
    rotate_left
    · intro w hw
      try dsimp only at hw
      go_simp
      try with_reducible rfl
    try simp only [Act.put, List.setIfInBounds_toArray, List.set_cons_zero, List.set_cons_succ]
    refine takeL (i := 10) (v := ?_) rfl (by kernel_rfl) (by kernel_rfl) (by kernel_rfl) (fun _ _ _ h => h) (Or.inl ⟨by rfl, ?_⟩) HS12.out ?_
    rotate_left
    · intro w hw
      try dsimp only at hw
      go_simp
      try with_reducible rfl
    try simp only [Act.put, List.setIfInBounds_toArray, List.set_cons_zero, List.set_cons_succ]
    refine takeL (i := 11) (v := ?_) rfl (by kernel_rfl) (by kernel_rfl) (by kernel_rfl) (fun _ _ _ h => h) (Or.inl ⟨by rfl, ?_⟩) HS12.out ?_
    rotate_left
    · intro w hw
      try dsimp only at hw
      go_simp
      try with_reducible rfl
    try simp only [Act.put, List.setIfInBounds_toArray, List.set_cons_zero, List.set_cons_succ]
    refine wpAnyH_done (by kernel_rfl) ?_ _
    go_wp2_with fail
    refine (lives7 _).mono ?_
    rintro e w13 ⟨rfl, hb13⟩
    have B13 := Lib.hid (BB12.out.trans (hb13.mono BB12.out.size))
    clear hb13
    go_wp2_with fail
    go_ret
    exact ⟨rfl, B13.out⟩
end Go.Proofs.Ytkpdjjhkocmfoaa

/-
  Of part Open7: what is needed here.
-/
namespace Go.Proofs.Ytkpdjjhkocmfoaa
open Go.ChangeShapes Go.WideShapes Go.RowKit
set_option linter.unusedVariables false
theorem u16_wf {z : Int} (h : (Lit.int .u16 z).wf = true) : 0 ≤ z ∧ z < 65536 := by
  have h' : (decide ((0 : Int) ≤ z) && decide (z ≤ 65535)) = true := h
  rw [Bool.and_eq_true, decide_eq_true_iff, decide_eq_true_iff] at h'
  omega
theorem cellsRole : Try.prog.cellsOf 48 = 34 := by kernel_rfl
theorem bytesRole : Try.prog.bytesOf 48 = 34 := by kernel_rfl
theorem csIn_of {sz : Nat} {w : World} {B : Nat} {A : Option Addr} {n : Nat} {l : List (List Value)} (h0 : 0 < sz) (hn : l.length = n) (h : ∀ (i : Nat) x, l[i]? = some x → x.length = sz ∧ ∃ a, A = some a ∧ a.block < B ∧ ∀ j u, x[j]? = some u → w.cell? (a.add (i * sz + j)) = some u) : CsIn sz w B A n l := by
  have he : ∀ k ∈ l, k.length = sz := fun k hk => by
    obtain ⟨i, hi, rfl⟩ := List.getElem_of_mem hk
    exact (h i _ (List.getElem?_eq_getElem hi)).1
  refine ⟨hn, he, by rw [cs_flat he, hn], fun i u hu => ?_⟩
  have hi := (List.getElem?_eq_some_iff.1 hu).1
  rw [cs_flat he] at hi
  have hk : i / sz < l.length := (Nat.div_lt_iff_lt_mul h0).2 hi
  obtain ⟨h1, a, rfl, h2, h3⟩ := h (i / sz) _ (List.getElem?_eq_getElem hk)
  refine ⟨_, rfl, h2, ?_⟩
  have hj : i % sz < sz := Nat.mod_lt _ h0
  obtain ⟨v, hv⟩ : ∃ v, (l[i / sz])[i % sz]? = some v := ⟨_, List.getElem?_eq_getElem (by rw [h1]; exact hj)⟩
  have hf := flatten_at sz l (i / sz) _ (fun i y hy => he y (List.mem_of_getElem? hy)) (List.getElem?_eq_getElem hk) _ _ hv
  have hmm : i / sz * sz + i % sz = i := by rw [Nat.mul_comm]; exact Nat.div_add_mod i sz
  rw [hmm, hu] at hf
  obtain rfl := Option.some.inj hf
  have := h3 _ _ hv
  rwa [hmm] at this
section
variable {H : Type} {enc : TypeId × Value → H} {w : World} {base b0 : Nat} {held : Bool}
theorem open_role {fuel : Nat} {cs : List Value} {x : DataW H × List MemPlace} (hf : DataW.trod enc Try.prog w base (fun _ => true) held fuel 48 cs = some x) (e3 : cs.length = 34) : ∃ r : LRole, cs = r.cells ∧ RoleOk r := by
  obtain ⟨y0, y1, y2, k, _, hl, t0, t1, t2⟩ := Go.Deep.trod_struct3 Try.underlying48 hf
  have t0' : DataW.trod enc Try.prog w base (fun _ => true) held k 46 (cs.take 32) = some y0 := by simpa [cellsKey] using t0
  obtain ⟨z, hz, hz1, hz2⟩ := open_32 Try.underlying46 cellsKey t0'
  obtain ⟨c1, c2, hc12⟩ : ∃ c1 c2, cs.drop 32 = [c1, c2] := two_of (by rw [List.length_drop, e3])
  have hcs : cs = bv z ++ [c1, c2] := by rw [← hz, ← hc12, List.take_append_drop]
  have t1' : DataW.trod enc Try.prog w base (fun _ => true) held k 4 [c1] = some y1 := by
    have := t1
    simp only [cellsBool] at this
    rw [hc12] at this
    exact this
  have t2' : DataW.trod enc Try.prog w base (fun _ => true) held k 4 [c2] = some y2 := by
    have := t2
    simp only [cellsBool] at this
    rw [show (33 : Nat) = 32 + 1 from rfl, ← List.drop_drop, hc12] at this
    exact this
  obtain ⟨b1, hb1, _⟩ := DataW.trod_bool Try.underlying4 t1'
  obtain ⟨b2, hb2, _⟩ := DataW.trod_bool Try.underlying4 t2'
  obtain rfl : c1 = .bool b1 := by simpa using hb1
  obtain rfl : c2 = .bool b2 := by simpa using hb2
  exact ⟨⟨z, b1, b2⟩, hcs, hz1, hz2⟩
theorem open_roles_v {A : Option Addr} {n c : Nat} {d : DataW H} {p : List MemPlace} (h : DataW.Trod enc Try.prog w base (fun _ => true) held 22 (.slice A n c) d p) (hw : Wt 22 d) :
    ∃ l, n ≤ c ∧ c ≤ maxLen ∧ RolesIn w w.heap.size A n l ∧ l.length ≤ 140737488355328 := by
  obtain ⟨fuel, hf⟩ := h
  obtain ⟨A', n', c', hcs, h1, h2, h3, h4⟩ := open_sl (cs := [.slice A n c]) Try.underlying22 (by rw [cellsRole]; omega) hf hw
  obtain ⟨rfl, rfl, rfl⟩ : A = A' ∧ n = n' ∧ c = c' := by simpa using hcs
  rw [bytesRole] at h3
  have := reach47
  obtain ⟨l, hl, hp⟩ := list_of (α := LRole) (p := fun i z => RoleOk z ∧ ∃ a, A = some a ∧ a.block < w.heap.size ∧ ∀ j u, z.cells[j]? = some u → w.cell? (a.add (i * 34 + j)) = some u) n fun i hi => by
    obtain ⟨a, cs', y, m, e1, e2, e3, e4, e5, _⟩ := h4 i hi
    rw [cellsRole] at e3 e4
    obtain ⟨z, rfl, hz⟩ := open_role e5 e3
    exact ⟨z, hz, a, e1, e2, e4⟩
  subst hl
  refine ⟨l, h1, h2, ⟨csIn_of (by omega) (by simp) fun i x hx => ?_, fun r hr => ?_⟩, by omega⟩
  · rw [List.getElem?_map] at hx
    obtain ⟨r, hr, rfl⟩ := Option.map_eq_some_iff.1 hx
    exact ⟨role_len (hp i r hr).1.1, (hp i r hr).2⟩
  · obtain ⟨i, hi, rfl⟩ := List.getElem_of_mem hr
    exact (hp i _ (List.getElem?_eq_getElem hi)).1
theorem wt_two {y0 y1 : DataW H} (h : Wt 50 (.agg [y0, y1])) : Wt 25 y0 ∧ Wt 25 y1 := by
  refine ⟨fun n hn => h n ?_, fun n hn => h n ?_⟩ <;> simp only [DataW.weights, Try.underlying50] <;> simp [DataW.weightsAll, hn]
theorem cellsTwo : Try.prog.cellsOf 50 = 2 := by kernel_rfl
theorem open_two {r : Reach} {v : Value} {d : DataW H} {p : List MemPlace} (hv : Value.okWide Try.prog w r b0 50 v) (h : DataW.Trod enc Try.prog w base (fun _ => true) held 50 v d p) (hw : Wt 50 d) :
    ∃ A n c l A' n' c' l', v = .agg #[.slice A n c, .slice A' n' c'] ∧ (KeysIn w w.heap.size A n l ∧ ∀ k ∈ l, k.length = 32 ∧ AllBytes k) ∧ (KeysIn w w.heap.size A' n' l' ∧ ∀ k ∈ l', k.length = 32 ∧ AllBytes k) := by
  simp only [Value.okWide, Try.underlying50] at hv
  obtain ⟨arr, rfl, h2, _⟩ := hv
  obtain ⟨fuel, hf⟩ := h
  obtain ⟨xs, m, _, hx, hl, hxs, hat⟩ := DataW.trod_array Try.underlying50 hf
  rw [cellsTwo] at hl
  obtain ⟨y0, y1, rfl⟩ : ∃ y0 y1, xs = [y0, y1] := by
    match xs, hxs with
    | [a, b], _ => exact ⟨a, b, rfl⟩
  have hl' : arr.toList.length = 2 := hl
  obtain ⟨c0, c1, hc⟩ := two_of hl'
  have hc' : (Value.agg arr).cells.toList = [c0, c1] := hc
  rw [hc'] at hat
  have t0 := hat 0 (by omega)
  have t1 := hat 1 (by omega)
  rw [cellsKeys] at t0 t1
  have hx1 : d = .agg [y0.1, y1.1] := by simpa using congrArg Prod.fst hx
  rw [hx1] at hw
  obtain ⟨w0, w1⟩ := wt_two hw
  obtain ⟨A, n, c, l, rfl, _, _, k3, k4, _⟩ := open_keys (v := c0) (x := y0) t0 w0
  obtain ⟨A', n', c', l', rfl, _, _, l3, l4, _⟩ := open_keys (v := c1) (x := y1) t1 w1
  refine ⟨A, n, c, l, A', n', c', l', ?_, ⟨k3, k4⟩, l3, l4⟩
  have : arr = (arr.toList).toArray := by simp
  rw [this, hc]
end
end Go.Proofs.Ytkpdjjhkocmfoaa

/-
  Of part Conf7: what is needed here.
-/
namespace Go.Proofs.Ytkpdjjhkocmfoaa
open Go.RowKit Go.Maps
set_option linter.unusedVariables false
/-- is the key there; is it written -/
def hasK (l : List LRole) (x : List Int) : Bool := l.any fun r => decide (r.key = x)
def isW (l : List LRole) (x : List Int) : Bool := l.any fun r => decide (r.key = x) && r.wr
def hit (l : List LRole) (r : LRole) : Bool := hasK l r.key && (isW l r.key || r.wr)
/-- do they conflict -/
def confl (a b : List LRole) : Bool := b.any (hit a)
/-- what the map reads as -/
def MapOf (D : DataW Unit) (l : List LRole) : Prop := ∀ x, KeyOk7 x → Go.Maps.has D (KL x) = hasK l x ∧ D.atKey (KL x) (.lit (.bool false)) = .lit (.bool (isW l x))
theorem has_take_succ {l : List LRole} {k : Nat} {r : LRole} (h : l[k]? = some r) (x : List Int) : hasK (l.take (k + 1)) x = (hasK (l.take k) x || decide (r.key = x)) := any_take_succ h
theorem isW_take_succ {l : List LRole} {k : Nat} {r : LRole} (h : l[k]? = some r) (x : List Int) : isW (l.take (k + 1)) x = (isW (l.take k) x || (decide (r.key = x) && r.wr)) := any_take_succ h
theorem MapOf.nil : MapOf (DataW.map []) [] := fun x hx => ⟨rfl, by
  have : Go.Maps.has (DataW.map [] : DataW Unit) (KL x) = false := rfl
  exact atKey_of_not_has this _⟩
theorem MapOf.step {D : DataW Unit} {l : List LRole} {k : Nat} {r : LRole} (hD : IsMap D) (h : MapOf D (l.take k)) (hr : l[k]? = some r) (ho : KeyOk7 r.key) : MapOf (D.put (KL r.key) (.lit (.bool (isW (l.take k) r.key || r.wr)))) (l.take (k + 1)) := fun x hx => by
  obtain ⟨h1, h2⟩ := h x hx
  rw [has_take_succ hr, isW_take_succ hr]
  by_cases e : r.key = x
  · subst e
    rw [has_put_same hD (KL_key hx.1 hx.2), atKey_put_same hD (KL_key hx.1 hx.2)]
    simp
  · have hne : KL x ≠ KL r.key := fun e' => e (KL_inj hx.1 hx.2 ho.1 ho.2 e').symm
    rw [has_put_other hne, atKey_put_other hne, h1, h2]
    simp [e]
theorem own_lookup_bool {w : World} {b n : Nat} {D : DataW Unit} (h : w.ownsMap Try.prog 46 (plainElem Try.prog 4) b n D) {x : List Int} (hx : KeyOk7 x) {c : Bool} (hat : D.atKey (KL x) (.lit (.bool false)) = .lit (.bool c)) :
    (Instr.lookup 56 (.map (some b)) (.agg (bv x).toArray) false).run Try.prog w = .ok (.bool c) w := by
  obtain ⟨v, ps, hrun, hv⟩ := h.lookup key_law Try.underlying56 (zero_bool w) (plainElem_bool Try.underlying4 false) (KL_is hx.1 hx.2)
  rw [hat] at hv
  have hvc : v = .bool c := by
    unfold plainElem at hv
    rw [Try.underlying4] at hv
    cases v <;> simp at hv
    exact congrArg Value.bool hv.1
  rw [hrun, hvc]
theorem own_look_ok {w : World} {b n : Nat} {D : DataW Unit} (h : w.ownsMap Try.prog 46 (plainElem Try.prog 4) b n D) {x : List Int} (hx : KeyOk7 x) {c : Bool} (hat : D.atKey (KL x) (.lit (.bool false)) = .lit (.bool c)) :
    (Instr.lookup 56 (.map (some b)) (.agg (bv x).toArray) true).run Try.prog w = .ok (.tuple #[.bool c, .bool (Go.Maps.has D (KL x))]) w := by
  obtain ⟨v, ps, hrun, hv⟩ := h.look_ok key_law Try.underlying56 (zero_bool w) (plainElem_bool Try.underlying4 false) (KL_is hx.1 hx.2)
  rw [hat] at hv
  have hvc : v = .bool c := by
    unfold plainElem at hv
    rw [Try.underlying4] at hv
    cases v <;> simp at hv
    exact congrArg Value.bool hv.1
  rw [hrun, hvc]
/-- the map that the closure captured -/
structure Capt (w : World) (gp mb n : Nat) (D : DataW Unit) (l : List LRole) : Prop where
  own : w.ownsMap Try.prog 46 (plainElem Try.prog 4) mb n D
  is : MapOf D l
  row : Row w gp 56 [.map (some mb)]
theorem Capt.below {w w' : World} {gp mb n : Nat} {D : DataW Unit} {l : List LRole} (h : Capt w gp mb n D l) (hb : Below w.heap.size w w') : Capt w' gp mb n D l :=
  ⟨h.own.kept (grown_none hb) (by simp), h.is, h.row.below hb h.row.lt⟩
set_option maxRecDepth 100000 in
set_option maxHeartbeats 1000000 in
theorem closure7 (gp mb n : Nat) (D : DataW Unit) (l : List LRole) (r : LRole) (w : World) (h : Capt w gp mb n D l) (hr : RoleOk r) :
    Calls Try.prog 27 #[.agg r.cells.toArray, .pointer (some ⟨gp, 0, none⟩)] w fun e w' => e = .returned (.bool (hit l r)) ∧ Below w.heap.size w w' := by
  have hb0 : Below w.heap.size w (w.alloc (.cells r.cells.toArray 48)) := (Below.refl _ _).alloc (Nat.le_refl _) _
  have hW := h.below hb0
  have hrow := Row.new w 48 r.cells
  have cp : (w.alloc (.cells r.cells.toArray 48)).cell? ⟨gp, 0, none⟩ = some (.map (some mb)) := hW.row.cell 0
  have cw : (w.alloc (.cells r.cells.toArray 48)).cell? ⟨w.heap.size, 33, none⟩ = some (.bool r.wr) := (hrow.cell 33).trans (role_wr hr.1)
  have HCK : Hid (∀ j u, (bv r.key)[j]? = some u → (w.alloc (.cells r.cells.toArray 48)).cell? ((⟨w.heap.size, 0, none⟩ : Addr).add j) = some u) := Lib.hid fun j u hu => by rw [addr_row, Nat.zero_add]; exact (hrow.cell j).trans (role_key hu)
  have HSZ := Lib.hid (show (Try.prog.info? 46).map (·.size) = some (bv r.key).length by rw [bv_length, hr.1]; exact size_key)
  obtain ⟨m1, m2⟩ := hW.is r.key hr
  have hlk := own_look_ok hW.own hr m2
  rw [m1] at hlk
  have HQ : Hid (hit l r = (hasK l r.key && (isW l r.key || r.wr))) := Lib.hid rfl
  have HB := Lib.hid hb0
  clear h hW hrow hb0 m1 m2
  generalize hit l r = hh at *
  generalize hasK l r.key = bh at *
  generalize isW l r.key = bw at *
  generalize bv r.key = X at *
  generalize hRC : r.cells.toArray = RC at *
  clear hRC
  cases bh with
  | false =>
    go_enter Try.func27, Try.ntmps27
    go_wp2_with ((with_reducible show wpList _ _ _ ({ dst := some 9, op := Op.load _ _, type := _, pos := _, after := _, guard := _ } :: _) _ _); go_must (refine wpList_load_at rfl 46 (.tmp 8) rfl ⟨w.heap.size, 0, none⟩ X _ Try.underlying46 rfl HSZ.out HCK.out ?_ ?_; go_simp))
    go_ret
    exact ⟨by rw [HQ.out]; rfl, HB.out⟩
  | true =>
    cases bw with
    | true =>
      go_enter Try.func27, Try.ntmps27
      go_wp2_with ((with_reducible show wpList _ _ _ ({ dst := some 9, op := Op.load _ _, type := _, pos := _, after := _, guard := _ } :: _) _ _); go_must (refine wpList_load_at rfl 46 (.tmp 8) rfl ⟨w.heap.size, 0, none⟩ X _ Try.underlying46 rfl HSZ.out HCK.out ?_ ?_; go_simp))
      go_ret
      exact ⟨by rw [HQ.out]; rfl, HB.out⟩
    | false =>
      go_enter Try.func27, Try.ntmps27
      go_wp2_with ((with_reducible show wpList _ _ _ ({ dst := some 9, op := Op.load _ _, type := _, pos := _, after := _, guard := _ } :: _) _ _); go_must (refine wpList_load_at rfl 46 (.tmp 8) rfl ⟨w.heap.size, 0, none⟩ X _ Try.underlying46 rfl HSZ.out HCK.out ?_ ?_; go_simp))
      go_ret
      exact ⟨by rw [HQ.out]; rfl, HB.out⟩
set_option maxRecDepth 100000 in
set_option maxHeartbeats 1000000 in
theorem index7 (A : Option Addr) (n c B gp mb N : Nat) (D : DataW Unit) (l b : List LRole) (w : World) (hs : RolesIn w B A n b) (hB : B ≤ w.heap.size) (hn : n ≤ 4000) (hc : Capt w gp mb N D l) :
    Calls Try.prog 39 #[.slice A n c, .func (.func 27) #[] #[.pointer (some ⟨gp, 0, none⟩)]] w fun e w' => IdxDone (b.any (hit l)) e ∧ Below w.heap.size w w' := by
  have HL := Lib.hid hs.len
  have HIN := Lib.hid hs
  have HC := Lib.hid hc
  clear hs hc
  go_enter Try.func39, Try.ntmps39
  go_wp2
  go_loopw [8] (fun i wr => ∃ k : Nat, k ≤ n ∧ i = .int .i64 k ∧ (b.take k).any (hit l) = false ∧ Below w.heap.size w wr) (fun i _ => n - (intOf i).toNat)
  case atStart => exact ⟨0, Nat.zero_le _, rfl, by simp, Below.refl _ _⟩
  case round =>
    obtain ⟨k, hk, rfl, hany, hbw⟩ := hrel
    have HA := Lib.hid hany
    have HBW := Lib.hid hbw
    clear hany hbw
    by_cases hlt : k < n
    · obtain ⟨a, r, rfl, hab, hr, hro, hcr⟩ := (HIN.out.below (HBW.out.mono hB)).get hlt
      have HCL := Lib.hid (closure7 gp mb N D l r wr (HC.out.below HBW.out) hro)
      have HSR := Lib.hid (size_role hro.1)
      have HCR := Lib.hid hcr
      have HX := Lib.hid hr
      generalize r.cells = rc at *
      clear hr hro hcr
      by_cases hp : hit l r = true
      · have HP := Lib.hid hp
        rw [hp] at HCL
        clear hp
        go_wp2_with ((with_reducible show wpList _ _ _ ({ dst := some 15, op := Op.load _ _, type := _, pos := _, after := _, guard := _ } :: _) _ _); go_must (refine wpList_load_at rfl 48 (.tmp 14) rfl (a.add (k * 34)) rc _ Try.underlying48 rfl HSR.out HCR.out ?_ ?_; go_simp))
        refine HCL.out.mono ?_
        rintro e w2 ⟨rfl, hb2⟩
        have HB2 := Lib.hid (HBW.out.trans (hb2.mono HBW.out.size))
        clear hb2
        go_wp2_with fail
        go_ret
        exact ⟨⟨_, rfl, by constructor; (intro _; exact any_hit HX.out HP.out); (intro _; omega)⟩, HB2.out⟩
      · have hp : hit l r = false := by simpa using hp
        have HP : Hid ((b.take (k + 1)).any (hit l) = false) := Lib.hid (by rw [any_take_succ HX.out, HA.out, hp]; rfl)
        rw [hp] at HCL
        clear hp
        go_wp2_with ((with_reducible show wpList _ _ _ ({ dst := some 15, op := Op.load _ _, type := _, pos := _, after := _, guard := _ } :: _) _ _); go_must (refine wpList_load_at rfl 48 (.tmp 14) rfl (a.add (k * 34)) rc _ Try.underlying48 rfl HSR.out HCR.out ?_ ?_; go_simp))
        refine HCL.out.mono ?_
        rintro e w2 ⟨rfl, hb2⟩
        have HB2 := Lib.hid (HBW.out.trans (hb2.mono HBW.out.size))
        clear hb2
        go_wp2_with fail
        go_roundw
        case rel => exact ⟨k + 1, by omega, by go_num, HP.out, HB2.out⟩
        case measure => simp [intOf]; omega
    · have hkn : k = n := by omega
      have HE : Hid (b.any (hit l) = false) := Lib.hid (by
        have h1 := HA.out
        rwa [hkn, List.take_of_length_le (by rw [HL.out]; exact Nat.le_refl _)] at h1)
      clear hkn
      go_wp2
      go_ret
      exact ⟨⟨_, rfl, by rw [HE.out]; simp⟩, HBW.out⟩
set_option maxHeartbeats 400000 in
theorem contains7 (A : Option Addr) (n c B gp mb N : Nat) (D : DataW Unit) (l b : List LRole) (w : World) (hs : RolesIn w B A n b) (hB : B ≤ w.heap.size) (hn : n ≤ 4000) (hc : Capt w gp mb N D l) :
    Calls Try.prog 26 #[.slice A n c, .func (.func 27) #[] #[.pointer (some ⟨gp, 0, none⟩)]] w fun e w' => e = .returned (.bool (b.any (hit l))) ∧ Below w.heap.size w w' := by
  have HI := Lib.hid (index7 A n c B gp mb N D l b w hs hB hn hc)
  clear hs hc
  go_enter Try.func26, Try.ntmps26
  go_wp2_with fail
  refine HI.out.mono ?_
  rintro e w' ⟨⟨r, rfl, hr⟩, hb⟩
  have HR := Lib.hid hr
  have HB := Lib.hid hb
  clear hr hb
  go_wp2_with fail
  go_ret
  exact ⟨told_bool (idx_told HR.out), HB.out⟩
set_option maxRecDepth 100000 in
set_option maxHeartbeats 4000000 in
theorem conflict7 (A A2 : Option Addr) (n c n2 c2 B : Nat) (l b : List LRole) (w : World) (hl : RolesIn w B A n l) (hb : RolesIn w B A2 n2 b) (hB : B ≤ w.heap.size) (hn : n ≤ 4000) (hn2 : n2 ≤ 4000) :
    Calls Try.prog 10 #[.slice A n c, .slice A2 n2 c2] w fun e w' => e = .returned (.bool (confl l b)) ∧ Below w.heap.size w w' := by
  have hmm := @run_makeMap Try.prog
  have hmf : ∀ (fn : Fn) (first cap : Array Value) (w : World), (Instr.makeFunc fn first cap).run Try.prog w = .ok (.func fn first cap) w := fun _ _ _ _ => rfl
  have HLN := Lib.hid hl.len
  have HL := Lib.hid hl
  have HBI := Lib.hid hb
  have HQ : Hid (confl l b = b.any (hit l)) := Lib.hid rfl
  clear hl hb
  go_enter Try.func10, Try.ntmps10
  go_wp2_with fail
  go_loopw [11] (fun i wr => ∃ (k : Nat) (D : DataW Unit), k ≤ n ∧ i = .int .i64 k ∧ Capt wr (w.heap.size + 1) w.heap.size k D (l.take k) ∧ Below w.heap.size w wr) (fun i _ => n - (intOf i).toNat)
  case atStart =>
    refine ⟨0, DataW.map [], Nat.zero_le _, rfl, ⟨?_, by simpa using MapOf.nil, Row.new' _ 56 [.map (some w.heap.size)] (by simp)⟩, ((Below.refl _ _).alloc (Nat.le_refl _) _).alloc (by simp) _⟩
    exact (World.ownsMap_made _ _ _ _).kept (World.grownBy_alloc _ _ none) (by simp)
  case round =>
    obtain ⟨k, D, hk, rfl, hcap, hbw⟩ := hrel
    have HC := Lib.hid hcap
    have HBW := Lib.hid hbw
    clear hcap hbw
    by_cases hlt : k < n
    · obtain ⟨a, r, rfl, hab, hr, hro, hcr⟩ := (HL.out.below (HBW.out.mono hB)).get hlt
      have HSR := Lib.hid (size_role hro.1)
      have HRL := Lib.hid (role_len hro.1)
      have HR1 := Lib.hid (role_one r)
      have HCR := Lib.hid hcr
      have HWR := Lib.hid (role_wr hro.1)
      have HRK : Hid (∀ j u, (bv r.key)[j]? = some u → r.cells[j]? = some u) := Lib.hid fun j u hu => role_key hu
      have HSZ := Lib.hid (show (Try.prog.info? 46).map (·.size) = some (bv r.key).length by rw [bv_length, hro.1]; exact size_key)
      have HST : Hid (∀ W : World, Capt W (w.heap.size + 1) w.heap.size k D (l.take k) → (Instr.lookup 56 (.map (some w.heap.size)) (.agg (bv r.key).toArray) false).run Try.prog W = .ok (.bool (isW (l.take k) r.key)) W ∧
          ∀ v, v = (isW (l.take k) r.key || r.wr) → ∃ W', (Instr.mapUpdate 56 (.map (some w.heap.size)) (.agg (bv r.key).toArray) (.bool v)).run Try.prog W = .ok () W' ∧ Capt W' (w.heap.size + 1) w.heap.size (k + 1) (D.put (KL r.key) (.lit (.bool v))) (l.take (k + 1)) ∧ W.grownBy W' (some w.heap.size)) := Lib.hid fun W hW => ⟨own_lookup_bool hW.own hro (hW.is r.key hro).2, fun v hv => by
        subst hv
        obtain ⟨W', h1, h2, h3⟩ := hW.own.update key_law Try.underlying56 (by unfold maxLen; omega) (KL_is hro.1 hro.2) (plainElem_bool (H := Unit) Try.underlying4 (isW (l.take k) r.key || r.wr))
        exact ⟨W', h1, ⟨h2, hW.is.step hW.own.isMap hr hro, hW.row.grown h3 (by simp)⟩, h3⟩⟩
      generalize r.cells = rc at *
      generalize bv r.key = X at *
      generalize isW (l.take k) r.key = bo at *
      generalize r.wr = bn at *
      clear hr hro hcr
      go_wp2_with (first
        | ((with_reducible show wpList _ _ _ ({ dst := some 14, op := Op.load _ _, type := _, pos := _, after := _, guard := _ } :: _) _ _); go_must (refine wpList_load_at rfl 48 (.tmp 13) rfl (a.add (k * 34)) rc _ Try.underlying48 rfl HSR.out HCR.out ?_ ?_; go_simp))
        | ((with_reducible show wpList _ _ _ ({ dst := none, op := Op.store 48 _ _, type := _, pos := _, after := _, guard := _ } :: _) _ _); go_must (refine wpList_store_new rfl 48 (.tmp 7) (.tmp 14) rfl rc HSR.out HR1.out (by rw [HRL.out]; rfl) ?_ ?_ ?_; go_simp; go_simp; intro w2 hr1 hb1 hz1; have R1 := Lib.hid hr1; have B1 := Lib.hid hb1; clear hr1 hb1 hz1)))
      have C2 := Lib.hid (HC.out.below B1.out)
      have BB2 := Lib.hid (HBW.out.trans (B1.out.mono HBW.out.size))
      have hgr : w.heap.size < wr.heap.size := Nat.lt_of_lt_of_le (Nat.lt_succ_self _) (Nat.le_of_lt_succ (Nat.lt_succ_of_lt HC.out.row.lt))
      generalize wr.heap.size = gr at *
      refine wp_region_held_drew (S := (fun V => Row V (w.heap.size + 1) 56 [.map (some w.heap.size)] ∧ Row V gr 48 rc)) (by kernel_rfl) ⟨C2.out.row.drew, R1.out.drew⟩ (fun _ => ?_)
      have HS := Lib.hid (And.intro C2.out.row.drew R1.out.drew)
      have C3 : Hid (Capt w2.drew (w.heap.size + 1) w.heap.size k D (l.take k)) := Lib.hid (C2.out.below (Below.refl w2.heap.size w2).drew)
      have BB3 := Lib.hid BB2.out.drew
      clear C2 R1 B1 BB2 HC HBW
      generalize w2.drew = w3 at *
      obtain ⟨hlk, hup⟩ := HST.out w3 C3.out
      have HUP := Lib.hid hup
      clear hup
      cases bo with
      | true =>
        refine takeL (i := 0) (v := ?_) rfl (by kernel_rfl) (by kernel_rfl) (by kernel_rfl) (fun _ _ _ h => h) (Or.inl ⟨by rfl, ?_⟩) HS.out ?_
        rotate_left
        · intro wz hwz
          try dsimp only at hwz
          have q : wz.cell? ⟨w.heap.size + 1, 0, none⟩ = some (.map (some w.heap.size)) := hwz.1.cell 0
          go_simp
          try with_reducible rfl
        try simp only [Act.put, List.setIfInBounds_toArray, List.set_cons_zero, List.set_cons_succ]
        refine takeL (i := 1) (v := ?_) rfl (by kernel_rfl) (by kernel_rfl) (by kernel_rfl) (fun _ _ _ h => h) (Or.inl ⟨by rfl, ?_⟩) HS.out ?_
        rotate_left
        · intro w hw
          try dsimp only at hw
          go_simp
          try with_reducible rfl
        try simp only [Act.put, List.setIfInBounds_toArray, List.set_cons_zero, List.set_cons_succ]
        refine takeL (i := 2) (v := .agg X.toArray) rfl (by kernel_rfl) (by kernel_rfl) (by kernel_rfl) (fun _ _ _ h => h) (Or.inl ⟨by rfl, fun wz hwz => exec_load_at wz 46 (.tmp 16) rfl ⟨gr, 0, none⟩ X _ Try.underlying46 rfl HSZ.out (fun j u hu => by rw [addr_row, Nat.zero_add]; exact (hwz.2.cell j).trans (HRK.out j u hu)) (by go_simp)⟩) HS.out ?_
        try simp only [Act.put, List.setIfInBounds_toArray, List.set_cons_zero, List.set_cons_succ]
        refine takeL (i := 3) (v := ?_) rfl (by kernel_rfl) (by kernel_rfl) (by kernel_rfl) (fun _ _ _ h => h) (Or.inl ⟨by rfl, ?_⟩) HS.out ?_
        rotate_left
        · intro wz hwz
          try dsimp only at hwz
          have q : wz.cell? ⟨w.heap.size + 1, 0, none⟩ = some (.map (some w.heap.size)) := hwz.1.cell 0
          go_simp
          try with_reducible rfl
        try simp only [Act.put, List.setIfInBounds_toArray, List.set_cons_zero, List.set_cons_succ]
        refine takeL (i := 4) (v := ?_) rfl (by kernel_rfl) (by kernel_rfl) (by kernel_rfl) (fun _ _ _ h => h) (Or.inl ⟨by rfl, ?_⟩) HS.out ?_
        rotate_left
        · intro w hw
          try dsimp only at hw
          go_simp
          try with_reducible rfl
        try simp only [Act.put, List.setIfInBounds_toArray, List.set_cons_zero, List.set_cons_succ]
        refine takeL (i := 5) (v := .agg X.toArray) rfl (by kernel_rfl) (by kernel_rfl) (by kernel_rfl) (fun _ _ _ h => h) (Or.inl ⟨by rfl, fun wz hwz => exec_load_at wz 46 (.tmp 19) rfl ⟨gr, 0, none⟩ X _ Try.underlying46 rfl HSZ.out (fun j u hu => by rw [addr_row, Nat.zero_add]; exact (hwz.2.cell j).trans (HRK.out j u hu)) (by go_simp)⟩) HS.out ?_
        try simp only [Act.put, List.setIfInBounds_toArray, List.set_cons_zero, List.set_cons_succ]
        refine readyL (i := 6) rfl (by kernel_rfl) (by kernel_rfl) fun K hK => ?_
        go_simp
        refine hK.out _ _ HS.out ?_
        clear hK K
        try simp only [Act.put, List.setIfInBounds_toArray, List.set_cons_zero, List.set_cons_succ]
        refine takeL (i := 7) (v := ?_) rfl (by kernel_rfl) (by kernel_rfl) (by kernel_rfl) (fun _ _ _ h => h) (Or.inl ⟨by rfl, ?_⟩) HS.out ?_
        rotate_left
        · intro w hw
          try dsimp only at hw
          go_simp
          try with_reducible rfl
        try simp only [Act.put, List.setIfInBounds_toArray, List.set_cons_zero, List.set_cons_succ]
        refine takeL (i := 8) (v := undef) rfl (by kernel_rfl) (by kernel_rfl) (by kernel_rfl) (fun _ _ _ h => h) (Or.inr ⟨by rfl, rfl⟩) HS.out ?_
        try simp only [Act.put, List.setIfInBounds_toArray, List.set_cons_zero, List.set_cons_succ]
        refine takeL (i := 9) (v := undef) rfl (by kernel_rfl) (by kernel_rfl) (by kernel_rfl) (fun _ _ _ h => h) (Or.inr ⟨by rfl, rfl⟩) HS.out ?_
        try simp only [Act.put, List.setIfInBounds_toArray, List.set_cons_zero, List.set_cons_succ]
        refine takeL (i := 10) (v := ?_) rfl (by kernel_rfl) (by kernel_rfl) (by kernel_rfl) (fun _ _ _ h => h) (Or.inl ⟨by rfl, ?_⟩) HS.out ?_
        rotate_left
        · intro w hw
          try dsimp only at hw
          go_simp
          try with_reducible rfl
        try simp only [Act.put, List.setIfInBounds_toArray, List.set_cons_zero, List.set_cons_succ]
        obtain ⟨w5, hrun, C5, hg5⟩ := HUP.out true (by rfl)
        have HC5 := Lib.hid C5
        have HS5 : Hid (Row w5 (w.heap.size + 1) 56 [.map (some w.heap.size)] ∧ Row w5 gr 48 rc) := Lib.hid ⟨C5.row, HS.out.2.grown hg5 (fun e => by have := Option.some.inj e; omega)⟩
        have BB5 := Lib.hid (BB3.out.grown hg5 BB3.out.size (fun j hj => by cases hj; exact Nat.le_refl _))
        clear C5 hg5
        refine readyL (i := 11) rfl (by kernel_rfl) (by kernel_rfl) fun K hK => ?_
        go_simp
        refine hK.out _ _ HS5.out ?_
        clear hK K
        try simp only [Act.put, List.setIfInBounds_toArray, List.set_cons_zero, List.set_cons_succ]
        refine wpAnyH_done (by kernel_rfl) ?_ _
        go_wp2_with fail
        go_roundw
        case rel => exact ⟨k + 1, _, by omega, by go_num, HC5.out, BB5.out⟩
        case measure => simp [intOf]; omega
      | false =>
        refine takeL (i := 0) (v := ?_) rfl (by kernel_rfl) (by kernel_rfl) (by kernel_rfl) (fun _ _ _ h => h) (Or.inl ⟨by rfl, ?_⟩) HS.out ?_
        rotate_left
        · intro wz hwz
          try dsimp only at hwz
          have q : wz.cell? ⟨w.heap.size + 1, 0, none⟩ = some (.map (some w.heap.size)) := hwz.1.cell 0
          go_simp
          try with_reducible rfl
        try simp only [Act.put, List.setIfInBounds_toArray, List.set_cons_zero, List.set_cons_succ]
        refine takeL (i := 1) (v := ?_) rfl (by kernel_rfl) (by kernel_rfl) (by kernel_rfl) (fun _ _ _ h => h) (Or.inl ⟨by rfl, ?_⟩) HS.out ?_
        rotate_left
        · intro w hw
          try dsimp only at hw
          go_simp
          try with_reducible rfl
        try simp only [Act.put, List.setIfInBounds_toArray, List.set_cons_zero, List.set_cons_succ]
        refine takeL (i := 2) (v := .agg X.toArray) rfl (by kernel_rfl) (by kernel_rfl) (by kernel_rfl) (fun _ _ _ h => h) (Or.inl ⟨by rfl, fun wz hwz => exec_load_at wz 46 (.tmp 16) rfl ⟨gr, 0, none⟩ X _ Try.underlying46 rfl HSZ.out (fun j u hu => by rw [addr_row, Nat.zero_add]; exact (hwz.2.cell j).trans (HRK.out j u hu)) (by go_simp)⟩) HS.out ?_
        try simp only [Act.put, List.setIfInBounds_toArray, List.set_cons_zero, List.set_cons_succ]
        refine takeL (i := 3) (v := ?_) rfl (by kernel_rfl) (by kernel_rfl) (by kernel_rfl) (fun _ _ _ h => h) (Or.inl ⟨by rfl, ?_⟩) HS.out ?_
        rotate_left
        · intro wz hwz
          try dsimp only at hwz
          have q : wz.cell? ⟨w.heap.size + 1, 0, none⟩ = some (.map (some w.heap.size)) := hwz.1.cell 0
          go_simp
          try with_reducible rfl
        try simp only [Act.put, List.setIfInBounds_toArray, List.set_cons_zero, List.set_cons_succ]
        refine takeL (i := 4) (v := ?_) rfl (by kernel_rfl) (by kernel_rfl) (by kernel_rfl) (fun _ _ _ h => h) (Or.inl ⟨by rfl, ?_⟩) HS.out ?_
        rotate_left
        · intro w hw
          try dsimp only at hw
          go_simp
          try with_reducible rfl
        try simp only [Act.put, List.setIfInBounds_toArray, List.set_cons_zero, List.set_cons_succ]
        refine takeL (i := 5) (v := .agg X.toArray) rfl (by kernel_rfl) (by kernel_rfl) (by kernel_rfl) (fun _ _ _ h => h) (Or.inl ⟨by rfl, fun wz hwz => exec_load_at wz 46 (.tmp 19) rfl ⟨gr, 0, none⟩ X _ Try.underlying46 rfl HSZ.out (fun j u hu => by rw [addr_row, Nat.zero_add]; exact (hwz.2.cell j).trans (HRK.out j u hu)) (by go_simp)⟩) HS.out ?_
        try simp only [Act.put, List.setIfInBounds_toArray, List.set_cons_zero, List.set_cons_succ]
        refine readyL (i := 6) rfl (by kernel_rfl) (by kernel_rfl) fun K hK => ?_
        go_simp
        refine hK.out _ _ HS.out ?_
        clear hK K
        try simp only [Act.put, List.setIfInBounds_toArray, List.set_cons_zero, List.set_cons_succ]
        refine takeL (i := 7) (v := ?_) rfl (by kernel_rfl) (by kernel_rfl) (by kernel_rfl) (fun _ _ _ h => h) (Or.inl ⟨by rfl, ?_⟩) HS.out ?_
        rotate_left
        · intro w hw
          try dsimp only at hw
          go_simp
          try with_reducible rfl
        try simp only [Act.put, List.setIfInBounds_toArray, List.set_cons_zero, List.set_cons_succ]
        refine takeL (i := 8) (v := ?_) rfl (by kernel_rfl) (by kernel_rfl) (by kernel_rfl) (fun _ _ _ h => h) (Or.inl ⟨by rfl, ?_⟩) HS.out ?_
        rotate_left
        · intro w hw
          try dsimp only at hw
          go_simp
          try with_reducible rfl
        try simp only [Act.put, List.setIfInBounds_toArray, List.set_cons_zero, List.set_cons_succ]
        refine takeL (i := 9) (v := ?_) rfl (by kernel_rfl) (by kernel_rfl) (by kernel_rfl) (fun _ _ _ h => h) (Or.inl ⟨by rfl, ?_⟩) HS.out ?_
        rotate_left
        · intro wz hwz
          try dsimp only at hwz
          have q : wz.cell? ⟨gr, 33, none⟩ = some (.bool bn) := (hwz.2.cell 33).trans HWR.out
          go_simp
          try with_reducible rfl
        try simp only [Act.put, List.setIfInBounds_toArray, List.set_cons_zero, List.set_cons_succ]
        refine takeL (i := 10) (v := ?_) rfl (by kernel_rfl) (by kernel_rfl) (by kernel_rfl) (fun _ _ _ h => h) (Or.inl ⟨by rfl, ?_⟩) HS.out ?_
        rotate_left
        · intro w hw
          try dsimp only at hw
          go_simp
          try with_reducible rfl
        try simp only [Act.put, List.setIfInBounds_toArray, List.set_cons_zero, List.set_cons_succ]
        obtain ⟨w5, hrun, C5, hg5⟩ := HUP.out bn (by rfl)
        have HC5 := Lib.hid C5
        have HS5 : Hid (Row w5 (w.heap.size + 1) 56 [.map (some w.heap.size)] ∧ Row w5 gr 48 rc) := Lib.hid ⟨C5.row, HS.out.2.grown hg5 (fun e => by have := Option.some.inj e; omega)⟩
        have BB5 := Lib.hid (BB3.out.grown hg5 BB3.out.size (fun j hj => by cases hj; exact Nat.le_refl _))
        clear C5 hg5
        refine readyL (i := 11) rfl (by kernel_rfl) (by kernel_rfl) fun K hK => ?_
        go_simp
        refine hK.out _ _ HS5.out ?_
        clear hK K
        try simp only [Act.put, List.setIfInBounds_toArray, List.set_cons_zero, List.set_cons_succ]
        refine wpAnyH_done (by kernel_rfl) ?_ _
        go_wp2_with fail
        go_roundw
        case rel => exact ⟨k + 1, _, by omega, by go_num, HC5.out, BB5.out⟩
        case measure => simp [intOf]; omega
    · obtain rfl : k = n := by omega
      have HC2 : Hid (Capt wr (w.heap.size + 1) w.heap.size k D l) := Lib.hid (by
        have := HC.out
        rwa [List.take_of_length_le (by rw [HLN.out]; exact Nat.le_refl _)] at this)
      have HK := Lib.hid (contains7 A2 n2 c2 B (w.heap.size + 1) w.heap.size k D l b wr (HBI.out.below (HBW.out.mono hB)) (Nat.le_trans hB HBW.out.size) hn2 HC2.out)
      clear HC HC2
      go_wp2_with fail
      refine HK.out.mono ?_
      rintro e w9 ⟨rfl, hb9⟩
      have HB9 := Lib.hid (HBW.out.trans (hb9.mono HBW.out.size))
      clear hb9
      go_wp2_with fail
      go_ret
      exact ⟨by rw [HQ.out]; rfl, HB9.out⟩
end Go.Proofs.Ytkpdjjhkocmfoaa

/-
  Of part Written7: what is needed here.
-/
namespace Go.Proofs.Ytkpdjjhkocmfoaa
open Go.RowKit
set_option linter.unusedVariables false
def wrK (l : List LRole) : List (List Int) := (l.filter fun r => r.wr).map LRole.key
theorem wrK_take_succ {l : List LRole} {k : Nat} {r : LRole} (h : l[k]? = some r) : wrK (l.take (k + 1)) = wrK (l.take k) ++ if r.wr then [r.key] else [] := by
  unfold wrK
  rw [List.take_add_one, h, List.filter_append, List.map_append]
  cases hw : r.wr <;> simp [hw]
theorem wrK_len (l : List LRole) : (wrK l).length ≤ l.length := by
  unfold wrK
  rw [List.length_map]
  exact List.length_filter_le _ _
theorem wrK_ok {l : List LRole} (h : ∀ r ∈ l, RoleOk r) : ∀ k ∈ wrK l, KeyOk7 k := fun k hk => by
  unfold wrK at hk
  obtain ⟨r, hr, rfl⟩ := List.mem_map.1 hk
  exact h r (List.mem_filter.1 hr).1
def WrittenDone (w : World) (l : List LRole) (e : Ending) (w' : World) : Prop :=
  Below w.heap.size w w' ∧ ∃ A c, e = .returned (.slice A (wrK l).length (wrK l).length) ∧ w'.ownsRow w.heap.size 46 32 (.slice A (wrK l).length c) (wrK l).length (bv (wrK l).flatten)
set_option maxRecDepth 100000 in
set_option maxHeartbeats 2000000 in
theorem written_ (A : Option Addr) (n c B : Nat) (l : List LRole) (w : World) (hl : RolesIn w B A n l) (hB : B ≤ w.heap.size) (hn : n ≤ 100000) :
    Calls Try.prog 9 #[.slice A n c] w (WrittenDone w l) := by
  have HLN := Lib.hid hl.len
  have HL := Lib.hid hl
  clear hl
  go_enter Try.func9, Try.ntmps9
  go_wp2_with fail
  go_loopw [8, 3] (fun i v wr => ∃ k : Nat, k ≤ n ∧ i = .int .i64 k ∧ wr.ownsRow w.heap.size 46 32 v (wrK (l.take k)).length (bv (wrK (l.take k)).flatten) ∧ Below w.heap.size w wr) (fun i _ _ => n - (intOf i).toNat)
  case atStart => exact ⟨0, Nat.zero_le _, rfl, by simpa [wrK, bv, cv] using World.ownsRow_nil _ _ _ _, Below.refl _ _⟩
  case round =>
    obtain ⟨k, hk, rfl, ho, hb⟩ := hrel
    have HO := Lib.hid ho
    have HB := Lib.hid hb
    clear ho hb
    by_cases hlt : k < n
    · obtain ⟨a, r, rfl, hab, hr, hro, hcr⟩ := (HL.out.below (HB.out.mono hB)).get hlt
      have HSU := Lib.hid (wrK_take_succ hr)
      have HCR := Lib.hid hcr
      have HSR := Lib.hid (size_role hro.1)
      have HRL := Lib.hid (role_len hro.1)
      have HR1 := Lib.hid (role_one r)
      have HWR := Lib.hid (role_wr hro.1)
      have HRK : Hid (∀ j u, (bv r.key)[j]? = some u → r.cells[j]? = some u) := Lib.hid fun j u hu => role_key hu
      have HSZ := Lib.hid (show (Try.prog.info? 46).map (·.size) = some (bv r.key).length by rw [bv_length, hro.1]; exact size_key)
      have HKL : Hid ((bv r.key).length = 32) := Lib.hid (by rw [bv_length, hro.1])
      have H1 := Lib.hid (bv_one r.key)
      have hwl : (wrK (l.take k)).length ≤ 100000 := by
        have := wrK_len (l.take k)
        rw [List.length_take] at this
        omega
      generalize r.cells = rc at *
      obtain ⟨wn, hwn⟩ : ∃ wn, wn = (wrK (l.take k)).length := ⟨_, rfl⟩
      rw [← hwn] at HO hwl
      have HWN := Lib.hid hwn
      clear hwn
      clear hr hcr hro
      by_cases hw : r.wr = true
      · rw [hw] at HWR HSU
        have HSU2 : Hid (wrK (l.take (k + 1)) = wrK (l.take k) ++ [r.key]) := Lib.hid HSU.out
        have HXX : Hid (bv [r.key].flatten = bv r.key) := Lib.hid (by simp)
        generalize bv r.key = X at *
        clear hw HSU
        go_wp2_with (first
          | ((with_reducible show wpList _ _ _ ({ dst := some 11, op := Op.load _ _, type := _, pos := _, after := _, guard := _ } :: _) _ _); go_must (refine wpList_load_at rfl 48 (.tmp 10) rfl (a.add (k * 34)) rc _ Try.underlying48 rfl HSR.out HCR.out ?_ ?_; go_simp))
          | ((with_reducible show wpList _ _ _ ({ dst := none, op := Op.store 48 _ _, type := _, pos := _, after := _, guard := _ } :: _) _ _); go_must (refine wpList_store_new rfl 48 (.tmp 5) (.tmp 11) rfl rc HSR.out HR1.out (by rw [HRL.out]; rfl) ?_ ?_ ?_; go_simp; go_simp; intro w2 hr1 hb1 hz1; have R1 := Lib.hid hr1; have B1 := Lib.hid hb1; clear hr1 hb1 hz1; have d33 := (R1.out.cell 33).trans HWR.out))
          | ((with_reducible show wpList _ _ _ ({ dst := some 16, op := Op.load _ _, type := _, pos := _, after := _, guard := _ } :: _) _ _); go_must (refine wpList_load_at rfl 46 (.tmp 15) rfl ⟨wr.heap.size, 0, none⟩ X _ Try.underlying46 rfl HSZ.out (fun j u hu => by rw [addr_row, Nat.zero_add]; exact (R1.out.cell j).trans (HRK.out j u hu)) ?_ ?_; go_simp))
          | ((with_reducible show wpList _ _ _ ({ dst := some 17, op := Op.buildSlice _ _ _, type := _, pos := _, after := _, guard := _ } :: _) _ _); go_must (refine wpList_buildOne rfl 25 46 (.tmp 16) rfl X _ 32 32 Try.underlying25 info_key3 (by kernel_rfl) (by omega) (by omega) HKL.out ?_ ?_; go_simp))
          | (at_builtin; go_must (refine wpList_addRow rfl (.tmp 14) (.tmp 17) 25 rfl w.heap.size 46 _ 32 32 Try.underlying25 info_key3 (by kernel_rfl) (by omega) _ wn _ X 1 HKL.out H1.out rfl ?_ (own_below HO.out B1.out) ?_ (HB.out.trans (B1.out.mono HB.out.size)).size (by unfold maxLen; omega) (by omega) ?_; go_simp; go_simp; intro v4 w4 ho4 hg4; have O4 := Lib.hid ho4; have G4 := Lib.hid hg4; clear ho4 hg4)))
        go_roundw
        case rel =>
          refine ⟨k + 1, by omega, by go_num, ?_, (HB.out.trans (B1.out.mono HB.out.size)).grown G4.out.grown (HB.out.trans (B1.out.mono HB.out.size)).size fun j hj => (HO.out.lt j hj).1⟩
          rw [HSU2.out, List.length_append, List.flatten_append, bv_append, HXX.out, ← HWN.out]
          exact O4.out
        case measure => simp [intOf]; omega
      · have hw : r.wr = false := by simpa using hw
        rw [hw] at HWR HSU
        have HSU2 : Hid (wrK (l.take (k + 1)) = wrK (l.take k)) := Lib.hid (by rw [HSU.out]; simp)
        clear hw HSU
        go_wp2_with (first
          | ((with_reducible show wpList _ _ _ ({ dst := some 11, op := Op.load _ _, type := _, pos := _, after := _, guard := _ } :: _) _ _); go_must (refine wpList_load_at rfl 48 (.tmp 10) rfl (a.add (k * 34)) rc _ Try.underlying48 rfl HSR.out HCR.out ?_ ?_; go_simp))
          | ((with_reducible show wpList _ _ _ ({ dst := none, op := Op.store 48 _ _, type := _, pos := _, after := _, guard := _ } :: _) _ _); go_must (refine wpList_store_new rfl 48 (.tmp 5) (.tmp 11) rfl rc HSR.out HR1.out (by rw [HRL.out]; rfl) ?_ ?_ ?_; go_simp; go_simp; intro w2 hr1 hb1 hz1; have R1 := Lib.hid hr1; have B1 := Lib.hid hb1; clear hr1 hb1 hz1; have d33 := (R1.out.cell 33).trans HWR.out)))
        go_roundw
        case rel => exact ⟨k + 1, by omega, by go_num, by rw [HSU2.out, ← HWN.out]; exact own_below HO.out B1.out, HB.out.trans (B1.out.mono HB.out.size)⟩
        case measure => simp [intOf]; omega
    · obtain rfl : k = n := by omega
      have HO2 : Hid (wr.ownsRow w.heap.size 46 32 u3 (wrK l).length (bv (wrK l).flatten)) := Lib.hid (by
        have := HO.out
        rwa [List.take_of_length_le (by rw [HLN.out]; exact Nat.le_refl _)] at this)
      have HN2 : Hid ((wrK l).length = (wrK l).length) := Lib.hid rfl
      clear HO
      obtain ⟨A2, c2, he⟩ := own_formN HO2.out
      subst he
      have HCL := Lib.hid (clipK A2 (wrK l).length c2 wr (own_room HO2.out).1 (by have := (own_room HO2.out).2; unfold maxLen; omega))
      go_wp2_with fail
      refine HCL.out.mono ?_
      rintro e w9 ⟨rfl, rfl⟩
      go_wp2_with fail
      go_ret
      exact ⟨HB.out, A2, c2, rfl, HO2.out⟩
end Go.Proofs.Ytkpdjjhkocmfoaa

/-
  Of part TurnMath7: what is needed here.
-/
namespace Go.Proofs.Ytkpdjjhkocmfoaa
open Go.RowKit
set_option linter.unusedVariables false
theorem hasK_iff {l : List LRole} {x : List Int} : hasK l x = true ↔ ∃ r ∈ l, r.key = x := by simp [hasK]
theorem isW_iff {l : List LRole} {x : List Int} : isW l x = true ↔ ∃ r ∈ l, r.key = x ∧ r.wr = true := by simp [isW]
theorem confl_iff {a b : List LRole} : confl a b = true ↔ ∃ r ∈ a, ∃ s ∈ b, r.key = s.key ∧ (r.wr = true ∨ s.wr = true) := by
  unfold confl
  rw [List.any_eq_true]
  constructor
  · rintro ⟨s, hs, h⟩
    unfold hit at h
    rw [Bool.and_eq_true, Bool.or_eq_true, hasK_iff, isW_iff] at h
    obtain ⟨⟨r, hr, hk⟩, ⟨r', hr', hk', hw⟩ | hw⟩ := h
    · exact ⟨r', hr', s, hs, hk', .inl hw⟩
    · exact ⟨r, hr, s, hs, hk, .inr hw⟩
  · rintro ⟨r, hr, s, hs, hk, hw⟩
    refine ⟨s, hs, ?_⟩
    unfold hit
    rw [Bool.and_eq_true, Bool.or_eq_true, hasK_iff, isW_iff]
    refine ⟨⟨r, hr, hk⟩, ?_⟩
    rcases hw with hw | hw
    · exact .inl ⟨r, hr, hk, hw⟩
    · exact .inr hw
/-- a role that is not written -/
def calmR (r : LRole) : LRole := ⟨r.key, r.sg, false⟩
def calmL (l : List LRole) : List LRole := l.map calmR
theorem confl_turn (a b : List LRole) : confl b a = confl a b := by
  rw [Bool.eq_iff_iff, confl_iff, confl_iff]
  constructor
  · rintro ⟨r, hr, s, hs, hk, hw⟩
    exact ⟨s, hs, r, hr, hk.symm, hw.symm⟩
  · rintro ⟨r, hr, s, hs, hk, hw⟩
    exact ⟨s, hs, r, hr, hk.symm, hw.symm⟩
theorem confl_half (a b : List LRole) : (confl (calmL a) b || confl a (calmL b)) = confl a b := by
  rw [Bool.eq_iff_iff, Bool.or_eq_true, confl_iff, confl_iff, confl_iff]
  constructor
  · rintro (⟨r, hr, s, hs, hk, hw⟩ | ⟨r, hr, s, hs, hk, hw⟩)
    · obtain ⟨r', hr', rfl⟩ := List.mem_map.1 hr
      exact ⟨r', hr', s, hs, hk, .inr (hw.resolve_left (by simp [calmR]))⟩
    · obtain ⟨s', hs', rfl⟩ := List.mem_map.1 hs
      exact ⟨r, hr, s', hs', hk, .inl (hw.resolve_right (by simp [calmR]))⟩
  · rintro ⟨r, hr, s, hs, hk, hw | hw⟩
    · exact .inr ⟨r, hr, _, List.mem_map.2 ⟨s, hs, rfl⟩, hk, .inl hw⟩
    · exact .inl ⟨_, List.mem_map.2 ⟨r, hr, rfl⟩, s, hs, hk, .inr hw⟩
theorem confl_calm (a b : List LRole) : confl (calmL a) (calmL b) = false := by
  rw [← Bool.not_eq_true, confl_iff]
  rintro ⟨r, hr, s, hs, hk, hw⟩
  obtain ⟨r', hr', rfl⟩ := List.mem_map.1 hr
  obtain ⟨s', hs', rfl⟩ := List.mem_map.1 hs
  simp [calmR] at hw
theorem confl_self (a : List LRole) : confl a a = decide ((0 : Int) < ((wrK a).length : Int)) := by
  rw [Bool.eq_iff_iff, confl_iff, decide_eq_true_iff]
  constructor
  · rintro ⟨r, hr, s, hs, hk, hw⟩
    have h : ∃ t ∈ a, t.wr = true := by
      rcases hw with hw | hw
      · exact ⟨r, hr, hw⟩
      · exact ⟨s, hs, hw⟩
    obtain ⟨t, ht, htw⟩ := h
    have hm : t.key ∈ wrK a := List.mem_map.2 ⟨t, List.mem_filter.2 ⟨ht, htw⟩, rfl⟩
    have := List.length_pos_of_mem hm
    omega
  · intro h
    obtain ⟨k, hk⟩ := List.exists_mem_of_length_pos (l := wrK a) (by omega)
    obtain ⟨r, hr, rfl⟩ := List.mem_map.1 hk
    obtain ⟨h1, h2⟩ := List.mem_filter.1 hr
    exact ⟨r, h1, r, h1, rfl, .inl h2⟩
theorem confl_none (a : List LRole) : confl a [] = false := rfl
/-- one cell of a row of the call's own is written -/
theorem own_setCellR {w : World} {base size n c g : Nat} {e : TypeId} {xs : List Value} (h : w.ownsRow base e size (.slice (some ⟨g, 0, none⟩) n c) n xs) (i : Nat) (u : Value) : (w.setCell ⟨g, i, none⟩ u).ownsRow base e size (.slice (some ⟨g, 0, none⟩) n c) n (xs.set i u) := by
  refine ⟨by rw [List.length_set]; exact h.1, ?_⟩
  rcases h.2 with ⟨hv, _⟩ | ⟨g', cap, cur, hv, hg, hh, h1, h2, h3, h4⟩
  · cases hv
  · cases hv
    have hr : Row w g e cur.toList := ⟨by simpa using hh⟩
    have hr2 := (hr.set_ i u).is
    refine .inr ⟨g, c, (cur.toList.set i u).toArray, rfl, hg, hr2, h1, h2, by simp [h3], ?_⟩
    simp only [List.take_set]
    rw [← h4]
theorem own_cellR {w : World} {base size n c g : Nat} {e : TypeId} {xs : List Value} (h : w.ownsRow base e size (.slice (some ⟨g, 0, none⟩) n c) n xs) {i : Nat} {u : Value} (hi : xs[i]? = some u) : w.cell? ⟨g, i, none⟩ = some u ∧ w.frozen? ⟨g, i, none⟩ = false := by
  have h2 := h.cells (g := g) rfl i u hi
  rcases h.2 with ⟨hv, _⟩ | ⟨g', cap, cur, hv, hg, hh, _⟩
  · cases hv
  · cases hv
    have hr : Row w g e cur.toList := ⟨by simpa using hh⟩
    refine ⟨?_, hr.frozen i⟩
    rw [addr_row, Nat.zero_add] at h2
    exact h2
theorem own_someR {w : World} {base size n c : Nat} {A : Option Addr} {e : TypeId} {xs : List Value} (h : w.ownsRow base e size (.slice A n c) n xs) (hn : 1 ≤ n) : ∃ g, A = some ⟨g, 0, none⟩ ∧ base ≤ g ∧ g < w.heap.size := by
  rcases h.2 with ⟨_, h0⟩ | ⟨g, cap, cur, hv, hg, hh, _⟩
  · omega
  · injection hv with h1
    exact ⟨g, h1, hg, (Array.getElem?_eq_some_iff.1 hh).1⟩
/-- the first k are calm -/
def calmTo (l : List LRole) (k : Nat) : List LRole := calmL (l.take k) ++ l.drop k
theorem calmTo_zero (l : List LRole) : calmTo l 0 = l := by simp [calmTo, calmL]
theorem calmTo_all {l : List LRole} {n : Nat} (h : l.length = n) : calmTo l n = calmL l := by
  unfold calmTo
  rw [List.take_of_length_le (by omega), List.drop_of_length_le (by omega), List.append_nil]
theorem calm_ok {l : List LRole} (h : ∀ r ∈ l, RoleOk r) : ∀ r ∈ calmL l, RoleOk r := fun r hr => by
  obtain ⟨r', hr', rfl⟩ := List.mem_map.1 hr
  exact h r' hr'
theorem calmTo_cells {l : List LRole} {k : Nat} {r : LRole} (ho : ∀ r ∈ l, RoleOk r) (hr : l[k]? = some r) : (((calmTo l k).map LRole.cells).flatten).set (k * 34 + 33) (.bool false) = ((calmTo l (k + 1)).map LRole.cells).flatten ∧ (((calmTo l k).map LRole.cells).flatten)[k * 34 + 33]? = some (.bool r.wr) := by
  have hk := (List.getElem?_eq_some_iff.1 hr).1
  have hro := ho r (List.mem_of_getElem? hr)
  have e1 : calmTo l k = calmL (l.take k) ++ (r :: l.drop (k + 1)) := by
    unfold calmTo
    rw [List.drop_eq_getElem_cons hk, (List.getElem?_eq_some_iff.1 hr).2]
  have e2 : calmTo l (k + 1) = calmL (l.take k) ++ (calmR r :: l.drop (k + 1)) := by
    unfold calmTo calmL
    rw [List.take_add_one, hr, List.map_append, List.append_assoc]
    rfl
  have hl : ((calmL (l.take k)).map LRole.cells).flatten.length = k * 34 := by
    rw [cs_flat (roles_each (calm_ok fun r hr => ho r (List.mem_of_mem_take hr))), List.length_map]
    unfold calmL
    rw [List.length_map, List.length_take, Nat.min_eq_left (by omega)]
  have hrc : r.cells = (bv r.key ++ [Value.bool r.sg]) ++ [Value.bool r.wr] := by simp [LRole.cells]
  have hcc : (calmR r).cells = (bv r.key ++ [Value.bool r.sg]) ++ [Value.bool false] := by simp [LRole.cells, calmR]
  have hl2 : (bv r.key ++ [Value.bool r.sg]).length = 33 := by simp [bv_length, hro.1]
  rw [e1, e2]
  simp only [List.map_append, List.map_cons, List.flatten_append, List.flatten_cons]
  constructor
  · rw [List.set_append_right _ _ (by omega), hl, show k * 34 + 33 - k * 34 = 33 by omega, hrc, hcc, List.append_assoc (bv r.key ++ [Value.bool r.sg]), List.set_append_right _ _ (by omega), hl2, Nat.sub_self, List.append_assoc (bv r.key ++ [Value.bool r.sg])]
    rfl
  · rw [List.getElem?_append_right (by omega), hl, show k * 34 + 33 - k * 34 = 33 by omega, hrc, List.append_assoc (bv r.key ++ [Value.bool r.sg]), List.getElem?_append_right (by omega), hl2, Nat.sub_self]
    rfl
end Go.Proofs.Ytkpdjjhkocmfoaa

/-
  Of part Turned7: what is needed here.
-/
namespace Go.Proofs.Ytkpdjjhkocmfoaa
open Go.RowKit
set_option linter.unusedVariables false
theorem roles_one (l : List LRole) : ∀ u ∈ (l.map LRole.cells).flatten, u.oneCell' = true := fun u hu => by
  obtain ⟨cs, hcs, hu⟩ := List.mem_flatten.1 hu
  obtain ⟨r, _, rfl⟩ := List.mem_map.1 hcs
  exact role_one r u hu
set_option maxRecDepth 100000 in
set_option maxHeartbeats 8000000 in
theorem turnedWalk (A A2 : Option Addr) (n c n2 c2 B : Nat) (l b : List LRole) (w : World) (hl : RolesIn w B A n l) (hb : RolesIn w B A2 n2 b) (hB : B ≤ w.heap.size) :
    Calls Try.prog 6 #[.slice A n c, .slice A2 n2 c2] w fun e w' => e = .returned (.bool true) ∧ Below w.heap.size w w' := by
  have HLN := Lib.hid hl.len
  have HBN := Lib.hid hb.len
  have HL := Lib.hid hl
  have HBI := Lib.hid hb
  clear hl hb
  by_cases h1 : (300 : Int) < n
  · go_enter Try.func6, Try.ntmps6
    go_wp2_with fail
    refine (lives7 _).mono ?_
    rintro e w2 ⟨rfl, hb2⟩
    go_wp2_with fail
    go_ret
    exact ⟨rfl, hb2⟩
  by_cases h2 : (300 : Int) < n2
  · go_enter Try.func6, Try.ntmps6
    go_wp2_with fail
    refine (lives7 _).mono ?_
    rintro e w2 ⟨rfl, hb2⟩
    go_wp2_with fail
    go_ret
    exact ⟨rfl, hb2⟩
  have hn : n ≤ 300 := by omega
  have hn2 : n2 ≤ 300 := by omega
  have HC1 := Lib.hid (fun V (hV : Below w.heap.size w V) => conflict7 A A2 n c n2 c2 B l b V (HL.out.below (hV.mono hB)) (HBI.out.below (hV.mono hB)) (Nat.le_trans hB hV.size) (by omega) (by omega))
  have HC2 := Lib.hid (fun V (hV : Below w.heap.size w V) => conflict7 A2 A n2 c2 n c B b l V (HBI.out.below (hV.mono hB)) (HL.out.below (hV.mono hB)) (Nat.le_trans hB hV.size) (by omega) (by omega))
  have HC3 := Lib.hid (fun V (hV : Below w.heap.size w V) => conflict7 A A n c n c B l l V (HL.out.below (hV.mono hB)) (HL.out.below (hV.mono hB)) (Nat.le_trans hB hV.size) (by omega) (by omega))
  have HC4 := Lib.hid (fun V (hV : Below w.heap.size w V) => conflict7 A none n c 0 0 B l [] V (HL.out.below (hV.mono hB)) (RolesIn.nil _ _ _) (Nat.le_trans hB hV.size) (by omega) (by omega))
  have HWR := Lib.hid (fun V (hV : Below w.heap.size w V) => written_ A n c B l V (HL.out.below (hV.mono hB)) (Nat.le_trans hB hV.size) (by omega))
  have HOK := Lib.hid HL.out.ok
  have HOK2 := Lib.hid HBI.out.ok
  have HS1 := Lib.hid HL.out.cs
  have HS2 := Lib.hid HBI.out.cs
  clear HL HBI
  go_enter Try.func6, Try.ntmps6
  go_wp2_with fail
  refine (HC1.out _ (Below.refl _ _)).mono ?_
  rintro e w1 ⟨rfl, hb1⟩
  have B1 := Lib.hid hb1
  clear hb1
  generalize hcc : confl l b = cc at *
  have HCC := Lib.hid hcc
  clear hcc
  have HX1 := Lib.hid (HS1.out.below (B1.out.mono hB))
  go_wp2_with (first
    | ((with_reducible show wpList _ _ _ ({ dst := some 24, op := Op.call _, type := _, pos := _, after := _, guard := _ } :: _) _ _); go_must (refine wpList_appendN rfl (.const (.slice none 0 0)) (.tmp 23) 22 48 _ 34 34 rfl Try.underlying22 infoR zszR (by omega) (.slice none 0 0) 0 [] w1.heap.size B A n c (l.map LRole.cells).flatten ?_ (World.ownsRow_nil _ _ _ _) ?_ HX1.out.sees (roles_one l) (by unfold maxLen; omega) (by omega) (Nat.le_refl _) ?_; go_simp; go_simp; intro v2 w2 ho2 hg2; rw [Nat.zero_add, List.nil_append] at ho2; have O2 := Lib.hid ho2; have B2 := Lib.hid (B1.out.grown hg2.grown B1.out.size (fun k hk => by simp [Value.ownBlock] at hk)); clear ho2 hg2; have HX2 := Lib.hid (HS2.out.below (B2.out.mono hB)); have HZ2 := Lib.hid B2.out.size; obtain ⟨A3, c3, rfl⟩ := own_formN O2.out))
    | ((with_reducible show wpList _ _ _ ({ dst := some 26, op := Op.call _, type := _, pos := _, after := _, guard := _ } :: _) _ _); go_must (refine wpList_appendN rfl (.const (.slice none 0 0)) (.tmp 25) 22 48 _ 34 34 rfl Try.underlying22 infoR zszR (by omega) (.slice none 0 0) 0 [] w2.heap.size B A2 n2 c2 (b.map LRole.cells).flatten ?_ (World.ownsRow_nil _ _ _ _) ?_ HX2.out.sees (roles_one b) (by unfold maxLen; omega) (by omega) (Nat.le_refl _) ?_; go_simp; go_simp; intro v3 w3 ho3 hg3; rw [Nat.zero_add, List.nil_append] at ho3; have O3 := Lib.hid ho3; have hb23 := (Below.refl w2.heap.size w2).grown hg3.grown (Nat.le_refl _) (fun k hk => by simp [Value.ownBlock] at hk); have B3 := Lib.hid (B2.out.trans (hb23.mono B2.out.size)); have O23 := Lib.hid (own_below O2.out hb23); clear ho3 hg3 hb23; obtain ⟨A4, c4, rfl⟩ := own_formN O3.out)))
  have HW12 := Lib.hid (And.intro B1.out.size B2.out.size)
  have HLT2 : Hid (∀ g, (Value.slice A3 n c3).ownBlock = some g → w.heap.size ≤ g ∧ g < w2.heap.size) := Lib.hid fun g hg => by
    have := O2.out.lt g hg
    have := HW12.out.1
    omega
  clear O2 B1 HX1 HX2
  go_loopw [8] (fun i wr => ∃ k : Nat, k ≤ n ∧ i = .int .i64 k ∧ wr.ownsRow w1.heap.size 48 34 (.slice A3 n c3) n (((calmTo l k).map LRole.cells).flatten) ∧ wr.ownsRow w2.heap.size 48 34 (.slice A4 n2 c4) n2 ((b.map LRole.cells).flatten) ∧ Below w.heap.size w wr) (fun i _ => n - (intOf i).toNat)
  case atStart => exact ⟨0, Nat.zero_le _, rfl, by rw [calmTo_zero]; exact O23.out, O3.out, B3.out⟩
  case round =>
  clear O23 O3 B3
  obtain ⟨k, hk, rfl, ho, ho3, hbw⟩ := hrel
  have HO := Lib.hid ho
  have HO3 := Lib.hid ho3
  have HBW := Lib.hid hbw
  clear ho ho3 hbw
  by_cases hlt : k < n
  · obtain ⟨r, hr⟩ : ∃ r, l[k]? = some r := ⟨_, List.getElem?_eq_getElem (by rw [HLN.out]; exact hlt)⟩
    obtain ⟨e1, e2⟩ := calmTo_cells HOK.out hr
    obtain ⟨g, rfl, hg1, hg2⟩ := own_someR HO.out (by omega)
    obtain ⟨d1, d2⟩ := own_cellR HO.out e2
    have HE1 := Lib.hid e1
    have HG := Lib.hid (HLT2.out g rfl)
    clear e1 e2 hr
    go_wp2_with fail
    go_roundw
    case rel =>
      refine ⟨k + 1, by omega, by go_num, ?_, ?_, HBW.out.trans ((turned_setCell wr ⟨g, k * 34 + 33, none⟩ (.bool false)).below (by exact HG.out.1))⟩
      · rw [← HE1.out]
        exact own_setCellR HO.out _ _
      · refine own_keep HO3.out fun j hj => (turned_setCell wr ⟨g, k * 34 + 33, none⟩ (.bool false)).block j (fun e => ?_)
        have h1 := (HO3.out.lt j hj).1
        have h2 := HG.out.2
        have h3 : j = g := e
        omega
    case measure => simp [intOf]; omega
  obtain rfl : k = n := by omega
  have HOA : Hid (wr.ownsRow w1.heap.size 48 34 (.slice A3 k c3) k (((calmL l).map LRole.cells).flatten)) := Lib.hid (by
    have := HO.out
    rwa [calmTo_all HLN.out] at this)
  clear HO
  go_wp2_with fail
  obtain ⟨wm, hwm⟩ : ∃ u : World, u = wr := ⟨_, rfl⟩
  subst hwm
  go_loopw [9] (fun i wr => ∃ j : Nat, j ≤ n2 ∧ i = .int .i64 j ∧ wr.ownsRow w1.heap.size 48 34 (.slice A3 k c3) k (((calmL l).map LRole.cells).flatten) ∧ wr.ownsRow w2.heap.size 48 34 (.slice A4 n2 c4) n2 (((calmTo b j).map LRole.cells).flatten) ∧ Below w.heap.size w wr) (fun i _ => n2 - (intOf i).toNat)
  case atStart => exact ⟨0, Nat.zero_le _, rfl, HOA.out, by rw [calmTo_zero]; exact HO3.out, HBW.out⟩
  case round =>
  clear HOA HO3 HBW
  obtain ⟨j, hj, rfl, ho, ho3, hbw⟩ := hrel
  have HO := Lib.hid ho
  have HO3 := Lib.hid ho3
  have HBW := Lib.hid hbw
  clear ho ho3 hbw
  by_cases hlt : j < n2
  · obtain ⟨r, hr⟩ : ∃ r, b[j]? = some r := ⟨_, List.getElem?_eq_getElem (by rw [HBN.out]; exact hlt)⟩
    obtain ⟨e1, e2⟩ := calmTo_cells HOK2.out hr
    obtain ⟨g, rfl, hg1, hg2⟩ := own_someR HO3.out (by omega)
    obtain ⟨d1, d2⟩ := own_cellR HO3.out e2
    have HE1 := Lib.hid e1
    have HG := Lib.hid hg1
    clear e1 e2 hr
    go_wp2_with fail
    go_roundw
    case rel =>
      refine ⟨j + 1, by omega, by go_num, ?_, ?_, HBW.out.trans ((turned_setCell wr ⟨g, j * 34 + 33, none⟩ (.bool false)).below (Nat.le_trans HW12.out.2 HG.out))⟩
      · refine own_keep HO.out fun i hi => (turned_setCell wr ⟨g, j * 34 + 33, none⟩ (.bool false)).block i (fun e => ?_)
        have h1 := (HLT2.out i hi).2
        have h2 := HG.out
        have h3 : i = g := e
        omega
      · rw [← HE1.out]
        exact own_setCellR HO3.out _ _
    case measure => simp [intOf]; omega
  obtain rfl : j = n2 := by omega
  have HOB : Hid (wr.ownsRow w2.heap.size 48 34 (.slice A4 j c4) j (((calmL b).map LRole.cells).flatten)) := Lib.hid (by
    have := HO3.out
    rwa [calmTo_all HBN.out] at this)
  clear HO3
  have HN1 : Hid ((calmL l).length = k) := Lib.hid (by unfold calmL; rw [List.length_map]; exact HLN.out)
  have HN2 : Hid ((calmL b).length = j) := Lib.hid (by unfold calmL; rw [List.length_map]; exact HBN.out)
  have HK1 := Lib.hid (calm_ok HOK.out)
  have HK2 := Lib.hid (calm_ok HOK2.out)
  have HH := Lib.hid (confl_half l b)
  have HM := Lib.hid (confl_calm l b)
  have HD1 : Hid (∀ V, Below wr.heap.size wr V → Calls Try.prog 10 #[.slice A3 k c3, .slice A2 j c2] V fun e w' => e = .returned (.bool (confl (calmL l) b)) ∧ Below V.heap.size V w') := Lib.hid fun V hV => by
    have h := conflict7 A3 A2 k c3 j c2 V.heap.size (calmL l) b V (roles_own (own_below HO.out hV) HN1.out HK1.out) ⟨(HS2.out.below ((HBW.out.trans (hV.mono HBW.out.size)).mono hB)).more (Nat.le_trans hB (Nat.le_trans HBW.out.size hV.size)), HOK2.out⟩ (Nat.le_refl _) (by omega) (by omega)
    exact h
  have HD2 : Hid (∀ V, Below wr.heap.size wr V → Calls Try.prog 10 #[.slice A k c, .slice A4 j c4] V fun e w' => e = .returned (.bool (confl l (calmL b))) ∧ Below V.heap.size V w') := Lib.hid fun V hV => by
    have h := conflict7 A A4 k c j c4 V.heap.size l (calmL b) V ⟨(HS1.out.below ((HBW.out.trans (hV.mono HBW.out.size)).mono hB)).more (Nat.le_trans hB (Nat.le_trans HBW.out.size hV.size)), HOK.out⟩ (roles_own (own_below HOB.out hV) HN2.out HK2.out) (Nat.le_refl _) (by omega) (by omega)
    exact h
  have HD3 : Hid (∀ V, Below wr.heap.size wr V → Calls Try.prog 10 #[.slice A3 k c3, .slice A4 j c4] V fun e w' => e = .returned (.bool (confl (calmL l) (calmL b))) ∧ Below V.heap.size V w') := Lib.hid fun V hV => by
    have h := conflict7 A3 A4 k c3 j c4 V.heap.size (calmL l) (calmL b) V (roles_own (own_below HO.out hV) HN1.out HK1.out) (roles_own (own_below HOB.out hV) HN2.out HK2.out) (Nat.le_refl _) (by omega) (by omega)
    exact h
  have HTURN : Hid (confl b l = cc) := Lib.hid (by rw [confl_turn, HCC.out])
  rw [HCC.out] at HH
  have HSELF := Lib.hid (confl_self l)
  clear HO HOB HK1 HK2 HN1 HN2 HCC
  generalize confl (calmL l) b = x at *
  generalize confl l (calmL b) = y at *
  go_wp2_with fail
  refine (HD1.out _ (Below.refl _ _)).mono ?_
  rintro e w5 ⟨rfl, hb5⟩
  have D5 := Lib.hid hb5
  clear hb5 HD1
  cases x with
  | true =>
    obtain rfl : cc = true := HH.out.symm
    go_wp2_with fail
    refine (HC2.out _ (HBW.out.trans (D5.out.mono HBW.out.size))).mono ?_
    rintro e w7 ⟨rfl, hb7⟩
    have D7 := Lib.hid (D5.out.trans (hb7.mono D5.out.size))
    rw [HTURN.out]
    clear hb7
    go_wp2_with fail
    refine (HD3.out _ D7.out).mono ?_
    rintro e w8 ⟨rfl, hb8⟩
    have D8 := Lib.hid (D7.out.trans (hb8.mono D7.out.size))
    rw [HM.out]
    clear hb8
    go_wp2_with fail
    refine (HC3.out _ (HBW.out.trans (D8.out.mono HBW.out.size))).mono ?_
    rintro e w9 ⟨rfl, hb9⟩
    have D9 := Lib.hid (D8.out.trans (hb9.mono D8.out.size))
    rw [HSELF.out]
    clear hb9
    go_wp2_with fail
    refine (HWR.out _ (HBW.out.trans (D9.out.mono HBW.out.size))).mono ?_
    rintro e w10 ⟨hb10, A10, c10, rfl, ho10⟩
    have D10 := Lib.hid (D9.out.trans (hb10.mono D9.out.size))
    clear hb10 ho10
    go_wp2_with fail
    refine (HC4.out _ (HBW.out.trans (D10.out.mono HBW.out.size))).mono ?_
    rintro e w11 ⟨rfl, hb11⟩
    have D11 := Lib.hid (D10.out.trans (hb11.mono D10.out.size))
    rw [confl_none]
    clear hb11
    go_wp2_with fail
    refine (lives7 _).mono ?_
    rintro e w12 ⟨rfl, hb12⟩
    have D12 := Lib.hid (D11.out.trans (hb12.mono D11.out.size))
    clear hb12
    go_wp2_with fail
    go_ret
    exact ⟨rfl, HBW.out.trans (D12.out.mono HBW.out.size)⟩
  | false =>
    obtain rfl : cc = y := HH.out.symm
    go_wp2_with fail
    refine (HD2.out _ D5.out).mono ?_
    rintro e w6 ⟨rfl, hb6⟩
    have D6 := Lib.hid (D5.out.trans (hb6.mono D5.out.size))
    clear hb6 HD2
    cases cc with
    | true =>
      go_wp2_with fail
      refine (HC2.out _ (HBW.out.trans (D6.out.mono HBW.out.size))).mono ?_
      rintro e w7 ⟨rfl, hb7⟩
      have D7 := Lib.hid (D6.out.trans (hb7.mono D6.out.size))
      rw [HTURN.out]
      clear hb7
      go_wp2_with fail
      refine (HD3.out _ D7.out).mono ?_
      rintro e w8 ⟨rfl, hb8⟩
      have D8 := Lib.hid (D7.out.trans (hb8.mono D7.out.size))
      rw [HM.out]
      clear hb8
      go_wp2_with fail
      refine (HC3.out _ (HBW.out.trans (D8.out.mono HBW.out.size))).mono ?_
      rintro e w9 ⟨rfl, hb9⟩
      have D9 := Lib.hid (D8.out.trans (hb9.mono D8.out.size))
      rw [HSELF.out]
      clear hb9
      go_wp2_with fail
      refine (HWR.out _ (HBW.out.trans (D9.out.mono HBW.out.size))).mono ?_
      rintro e w10 ⟨hb10, A10, c10, rfl, ho10⟩
      have D10 := Lib.hid (D9.out.trans (hb10.mono D9.out.size))
      clear hb10 ho10
      go_wp2_with fail
      refine (HC4.out _ (HBW.out.trans (D10.out.mono HBW.out.size))).mono ?_
      rintro e w11 ⟨rfl, hb11⟩
      have D11 := Lib.hid (D10.out.trans (hb11.mono D10.out.size))
      rw [confl_none]
      clear hb11
      go_wp2_with fail
      refine (lives7 _).mono ?_
      rintro e w12 ⟨rfl, hb12⟩
      have D12 := Lib.hid (D11.out.trans (hb12.mono D11.out.size))
      clear hb12
      go_wp2_with fail
      go_ret
      exact ⟨rfl, HBW.out.trans (D12.out.mono HBW.out.size)⟩
    | false =>
      go_wp2_with fail
      refine (HC2.out _ (HBW.out.trans (D6.out.mono HBW.out.size))).mono ?_
      rintro e w7 ⟨rfl, hb7⟩
      have D7 := Lib.hid (D6.out.trans (hb7.mono D6.out.size))
      rw [HTURN.out]
      clear hb7
      go_wp2_with fail
      refine (HD3.out _ D7.out).mono ?_
      rintro e w8 ⟨rfl, hb8⟩
      have D8 := Lib.hid (D7.out.trans (hb8.mono D7.out.size))
      rw [HM.out]
      clear hb8
      go_wp2_with fail
      refine (HC3.out _ (HBW.out.trans (D8.out.mono HBW.out.size))).mono ?_
      rintro e w9 ⟨rfl, hb9⟩
      have D9 := Lib.hid (D8.out.trans (hb9.mono D8.out.size))
      rw [HSELF.out]
      clear hb9
      go_wp2_with fail
      refine (HWR.out _ (HBW.out.trans (D9.out.mono HBW.out.size))).mono ?_
      rintro e w10 ⟨hb10, A10, c10, rfl, ho10⟩
      have D10 := Lib.hid (D9.out.trans (hb10.mono D9.out.size))
      clear hb10 ho10
      go_wp2_with fail
      refine (HC4.out _ (HBW.out.trans (D10.out.mono HBW.out.size))).mono ?_
      rintro e w11 ⟨rfl, hb11⟩
      have D11 := Lib.hid (D10.out.trans (hb11.mono D10.out.size))
      rw [confl_none]
      clear hb11
      go_wp2_with fail
      refine (lives7 _).mono ?_
      rintro e w12 ⟨rfl, hb12⟩
      have D12 := Lib.hid (D11.out.trans (hb12.mono D11.out.size))
      clear hb12
      go_wp2_with fail
      go_ret
      exact ⟨rfl, HBW.out.trans (D12.out.mono HBW.out.size)⟩
end Go.Proofs.Ytkpdjjhkocmfoaa
