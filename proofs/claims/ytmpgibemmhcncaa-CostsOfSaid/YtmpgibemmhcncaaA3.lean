/-
  Parts joined: RefDigits RefProduct RefMul RefTimes RefOf9 OfWalk9 Math9 PartsWalk9 MoreWalk9.
-/
import Derived.Below
import Derived.Laws.OwnMore
import Derived.Deep.AppendLies
import Derived.Deep.Draws
import Derived.Lib.Hide
import Derived.Laws.BitsAllLaws
import Derived.WalkKit
import Derived.Test.YtmpgibemmhcncaaRows
import Derived.WalkSpells
import Derived.WalkLawsBesides
import Derived.IntWalk
import Derived.Lib.Mul64
import Derived.Laws.Bits64b
import Derived.Laws.Externs
import Derived.Lib.BitFns
import Derived.Shelf.Small.Bits
import Derived.Deep.QuietTactic
import Derived.Laws.MakeOwn
import Derived.Laws.CopyOwn
import Derived.Laws.Rows
import Derived.Laws.NewBlocks
import Derived.Maps.AppendAt
import Derived.OwnWalk
import Derived.Deep.MidRow
import Derived.Deep.WholeRow
import Derived.Great.BuildSlice
import Derived.Recover
import Derived.Deep.RegionHeld
import Derived.BigQuiet
import Derived.Deep.RegionHeld2
import Derived.Deep.CutBlock
import Derived.Laws.Tables
import Derived.ChangeKeysEq
import Derived.ProofKit
import Derived.OpenShut
import Derived.ShutString
import Derived.ChangeOld
import Derived.Lib.SmallJoins
import Derived.Laws.Slices
import Derived.Deep.Slices
import Derived.Deep.Strs
import Derived.SizedLaws
import Derived.Laws.StructEq
import Derived.Deep.DeepCutAuto
import Derived.Laws.EntriesVeiled
import Derived.Deep.RegionHeld3
import Derived.Maps.OwnSet
import Derived.DeepKeys4
import Derived.WideKeyArr
import Derived.RangeFuncNested
import Derived.RangeFuncBound
import Derived.RangeFuncCalls
import Derived.RangeFuncLeaves
import Derived.Shelf.Abstract
import Derived.Shelf.RegionOpen
import Derived.OwnWalkIn
import Derived.TacticsInMore
import Derived.LoopNIn
import Derived.LoopIn
import Derived.Laws.Append
import Derived.Laws.AppendOwn
import Derived.WideKeyEntry
import Derived.Shelf.SlMaps.Clone
import Derived.LaidMore
import Derived.Deep.RegionWith
import Derived.Test.YtmpgibemmhcncaaA1
import Derived.Test.YtmpgibemmhcncaaA2
/-
  Of part RefDigits: what is needed here.
-/
namespace Go.Proofs.Ytmpgibemmhcncaa
open Go.RowKit
set_option linter.unusedVariables false
theorem quo_step (x : Int) (h : Word x) (j : Nat) : IntKind.u64.wrap ((x / 65536 ^ j).tdiv 65536) = x / 65536 ^ (j + 1) := by
  have p : (0 : Int) < 65536 ^ j := Int.pow_pos (by omega)
  have a := Int.ediv_nonneg h.1 (Int.le_of_lt p)
  have b : x / 65536 ^ j ≤ x := Int.ediv_le_self _ h.1
  have e : x / 65536 ^ (j + 1) = x / 65536 ^ j / 65536 := by rw [Int.pow_succ, ← Int.ediv_ediv_of_nonneg (Int.le_of_lt p)]
  have := h.2
  rw [e, Int.tdiv_eq_ediv_of_nonneg a, IntKind.wrap_u64]
  omega
set_option maxHeartbeats 1000000 in
theorem digits_ (x : Int) (h : Word x) (w : World) :
    Calls Try.prog 26 #[.int .u64 x] w fun e w' => ∃ A c, e = .returned (.slice A 4 c) ∧ Sees w' w'.heap.size A 4 (cv .u64 (dgs x 4)) ∧ Below w.heap.size w w' := by
  obtain ⟨i0, hi, hz0, hz1, hz2⟩ := info_parts info_u64
  have o0 := World.ownsRow_nil w w.heap.size 34 1
  have b0 := Below.refl w.heap.size w
  generalize hB : w.heap.size = B at *
  go_enter Try.func26, Try.ntmps26
  go_wp2
  go_loopw [0, 3, 4] (fun a v i wr => ∃ j : Nat, j ≤ 4 ∧ i = .int .i64 j ∧ a = .int .u64 (x / 65536 ^ j) ∧ wr.ownsRow B 34 1 v j (cv .u64 (dgs x j)) ∧ Below B w wr) (fun _ _ i _ => 4 - (intOf i).toNat)
  case atStart => exact ⟨0, Nat.zero_le _, rfl, by simp, o0, b0⟩
  case round =>
    obtain ⟨j, hj, rfl, rfl, ho, hb⟩ := hrel
    by_cases hlt : j < 4
    · have Q := Lib.hid (quo_step x h j)
      have Q2 := Q.out
      have D := Lib.hid (dgs_succ x j)
      have R0 : (x / 65536 ^ j).tmod 65536 = x / 65536 ^ j % 65536 := Int.tmod_eq_emod_of_nonneg (Int.ediv_nonneg h.1 (Int.le_of_lt (Int.pow_pos (by omega))))
      generalize hy : x / 65536 ^ j = y at *
      generalize hy2 : x / 65536 ^ (j + 1) = y2 at *
      have H2 := Lib.hid hy2
      clear hy hy2
      have O := Lib.hid (own_belowW ho (Nat.le_refl _) ((Below.refl wr.heap.size wr).alloc (Nat.le_refl _) (.cells #[.int .u64 (y % 65536)] 34)))
      have hsz : B ≤ wr.heap.size := by have := hb.size; omega
      have R1 : Row (wr.alloc (.cells #[.int .u64 (y % 65536)] 34)) wr.heap.size 34 (cv .u64 [y % 65536]) := Row.new' _ _ _ rfl
      have S1 := Lib.hid R1.sees0
      have hbA := hb.alloc hsz (.cells #[.int .u64 (y % 65536)] 34)
      clear ho R1
      go_wp2_with (at_builtin; go_must (refine wpList_append_sees rfl (.tmp 9) (.tmp 12) 56 rfl B 34 i0 _ 8 Try.underlying56 hi hz0 hz1 hz2 rfl _ j _ rfl O.out _ (some ⟨wr.heap.size, 0, none⟩) 1 1 _ rfl S1.out (cv_one _ _) (by unfold maxLen; omega) (by omega) (by have := hbA.size; omega) ?_); intro v7 w7 ho7 hg7 _; have hb7 := below_append hbA O.out (Nat.le_refl _) (by have := hbA.size; omega) hg7; rw [← cv_append] at ho7)
      go_roundw
      case rel => exact ⟨j + 1, by omega, by go_num, by rw [H2.out], by rw [D.out]; exact ho7, hb7⟩
      case measure => simp [intOf]; omega
    · have hj4 : j = 4 := by omega
      subst hj4
      obtain ⟨A, c, rfl⟩ := own_form ho
      have O := Lib.hid ho
      clear ho
      go_wp2
      go_ret
      exact ⟨A, c, rfl, Sees.of_own O.out, hb⟩
theorem val_drop (l : List Int) (k : Nat) (h : k < l.length) : val (l.drop k) = l.getD k 0 + 65536 * val (l.drop (k + 1)) := by
  rw [List.drop_eq_getElem_cons h, List.getD_eq_getElem?_getD, List.getElem?_eq_getElem h]
  rfl
theorem whole_step (l : List Int) (hd : Digs l) (hl : l.length = 4) (k : Nat) (hk : k < 4) : IntKind.u64.wrap (IntKind.u64.wrap (65536 * val (l.drop (k + 1))) + l.getD k 0) = val (l.drop k) := by
  have a := val_in _ (digs_drop hd k)
  have b := val_in _ (digs_drop hd (k + 1))
  have p : (65536 : Int) ^ (l.drop k).length ≤ 18446744073709551616 := by
    have h1 : (65536 : Nat) ^ (l.drop k).length ≤ 65536 ^ 4 := Nat.pow_le_pow_right (by omega) (by simp; omega)
    have h2 : ((65536 ^ (l.drop k).length : Nat) : Int) = (65536 : Int) ^ (l.drop k).length := by simp
    omega
  have d := hd k
  rw [val_drop l k (by omega)] at a ⊢
  generalize val (l.drop (k + 1)) = v at *
  simp only [IntKind.wrap_u64]
  omega
set_option maxHeartbeats 1000000 in
theorem wholeDigits_ (A : Option Addr) (c : Nat) (l : List Int) (w : World) (S : Nat) (hx : Sees w S A 4 (cv .u64 l)) (hd : Digs l) :
    Calls Try.prog 23 #[.slice A 4 c] w fun e w' => e = .returned (.int .u64 (val l)) ∧ w = w' := by
  have hl : l.length = 4 := by have := hx.len; rwa [cv_length] at this
  have lx := Lib.hid hl
  clear hl
  go_enter Try.func23, Try.ntmps23
  go_wp2
  go_loop [3, 4] (fun v i => ∃ (k : Nat), k ≤ 4 ∧ i = .int .i64 ((k : Int) - 1) ∧ v = .int .u64 (val (l.drop k))) (fun _ i => (intOf i + 1).toNat)
  case atStart => exact ⟨4, Nat.le_refl _, rfl, by rw [List.drop_eq_nil_of_le (by have := lx.out; omega)]; rfl⟩
  case round =>
    obtain ⟨k, hk, rfl, rfl⟩ := hrel
    by_cases hlt : 0 < k
    · obtain ⟨k, rfl⟩ : ∃ j, k = j + 1 := ⟨k - 1, by omega⟩
      obtain ⟨a, rfl, ha, hca⟩ := hx.num (i := k) (by omega)
      have HS := Lib.hid (whole_step l hd lx.out k (by omega))
      generalize l.getD k 0 = z at *
      generalize val (l.drop (k + 1)) = p at *
      have hc1 : (((k + 1 : Nat) : Int) - 1) = (k : Int) := by omega
      rw [hc1]
      clear hc1
      go_wp2
      go_round
      case rel => exact ⟨k, by omega, by go_num, by rw [HS.out]⟩
      case measure => simp [intOf]
    · have hk0 : k = 0 := by omega
      subst hk0
      have hc1 : (((0 : Nat) : Int) - 1) = -1 := by omega
      rw [hc1]
      clear hc1
      go_wp2
      go_ret
      exact ⟨rfl, rfl⟩
end Go.Proofs.Ytmpgibemmhcncaa

/-
  Of part RefProduct: what is needed here.
-/
namespace Go.Proofs.Ytmpgibemmhcncaa
open Go.RowKit
set_option linter.unusedVariables false
theorem made_words (n : Nat) : (madeCells (Value.int .u64 0).cells (n * 1)).toList = cv .u64 (List.replicate n 0) := by
  apply List.ext_getElem?
  intro i
  simp [madeCells, cv, Value.cells]
  by_cases h : i < n <;> simp [h, Nat.mod_one]
theorem cv_set (k : IntKind) (l : List Int) (j : Nat) (z : Int) : (cv k l).set j (.int k z) = cv k (l.set j z) := by simp [cv, List.map_set]
/-- one round's numbers, as the program makes them -/
theorem round_words {x y o : List Int} {i k : Nat} {c : Int} (hx : Digs x) (hy : Digs y) (s : School x y o i k c) :
    ∃ m t R lo hi, IntKind.u64.wrap (x.getD i 0 * y.getD k 0) = m ∧ IntKind.u64.wrap (o.getD (i + k) 0 + m) = t ∧ IntKind.u64.wrap (t + c) = R ∧ R.tmod 65536 = lo ∧ IntKind.u64.wrap (R.tdiv 65536) = hi ∧
      lo = round x y o i k c % 65536 ∧ hi = round x y o i k c / 65536 := by
  obtain ⟨a, b, d, e, f, g⟩ := round_in hx hy s
  have r : round x y o i k c = o.getD (i + k) 0 + x.getD i 0 * y.getD k 0 + c := rfl
  refine ⟨x.getD i 0 * y.getD k 0, o.getD (i + k) 0 + x.getD i 0 * y.getD k 0, round x y o i k c, _, _, ?_, ?_, ?_, Int.tmod_eq_emod_of_nonneg a, ?_, rfl, rfl⟩
  · rw [IntKind.wrap_u64]; omega
  · rw [IntKind.wrap_u64]; omega
  · rw [IntKind.wrap_u64, ← r]; omega
  · rw [Int.tdiv_eq_ediv_of_nonneg a, IntKind.wrap_u64]; omega
set_option maxHeartbeats 2000000 in
theorem product_ (a b : Int) (ha : Word a) (hb : Word b) (w : World) :
    Calls Try.prog 22 #[.int .u64 a, .int .u64 b] w fun e w' => ∃ g o, e = .returned (.slice (some ⟨g, 0, none⟩) 8 8) ∧ Row w' g 34 (cv .u64 o) ∧ o.length = 8 ∧ Digs o ∧ val o = a * b ∧ Below w.heap.size w w' := by
  obtain ⟨i0, hi, hz0, hz1, hz2⟩ := info_parts info_u64
  have D1 := fun w => digits_ a ha w
  have D2 := fun w => digits_ b hb w
  have vx := Lib.hid (val_four a ha)
  have vy := Lib.hid (val_four b hb)
  have dx := dgs_digs a 4
  have dy := dgs_digs b 4
  have lx := Lib.hid (dgs_len a 4)
  have ly := Lib.hid (dgs_len b 4)
  generalize dgs a 4 = x at *
  generalize dgs b 4 = y at *
  go_enter Try.func22, Try.ntmps22
  go_wp2_with fail
  refine (D1 _).mono ?_
  rintro e w1 ⟨A1, c1, rfl, hs1, hb1⟩
  go_wp2_with fail
  refine (D2 _).mono ?_
  rintro e w2 ⟨A2, c2, rfl, hs2, hb2⟩
  have hb3 := hb1.trans (hb2.mono hb1.size)
  have hs1' := (hs1.below hb2).more (B' := w2.heap.size) hb2.size
  have hsz := hb3.size
  clear hs1 hb1 hb2
  go_wp2_with (at_make; go_must (refine wpList_make_full _ rfl (.const (.int .i64 8)) (.const (.int .i64 8)) 56 rfl w2.heap.size 34 i0 _ 1 Try.underlying56 hi hz0 hz1 .i64 .i64 _ _ 8 rfl rfl (by simp) (by simp) (by rw [hz2]; omega) (by unfold maxLen; omega) (Nat.le_refl _) ?_; intro w3 hown hgrow); rw [made_words] at hown; have hrow := Row.of_own hown; have hb4 := (Below.refl w2.heap.size w2).grown hgrow (Nat.le_refl _) (fun k hk => by cases hk))
  have hb5 := hb3.trans (hb4.mono hsz)
  have S0 : School x y (List.replicate 8 0) 0 0 0 := ⟨by simp, fun i => by
      rw [List.getD_eq_getElem?_getD, List.getElem?_replicate]
      split <;> simp, by omega, by omega, fun j _ => by
      rw [List.getD_eq_getElem?_getD, List.getElem?_replicate]
      split <;> simp, by simp [val, List.replicate]⟩
  have RR := Lib.hid hrow
  clear hrow hown hgrow
  have hs1'' := hs1'.below hb4
  have hs2'' := hs2.below hb4
  clear hs1' hs2
  generalize hg : w2.heap.size = g at *
  go_loopw [8] (fun i wr => ∃ (j : Nat) (o : List Int), j ≤ 4 ∧ i = .int .i64 j ∧ Row wr g 34 (cv .u64 o) ∧ School x y o j 0 0 ∧ Below w.heap.size w wr ∧ Below g w3 wr) (fun i _ => 4 - (intOf i).toNat)
  case atStart => exact ⟨0, _, Nat.zero_le _, rfl, RR.out, S0, hb5, Below.refl _ _⟩
  case round =>
    obtain ⟨i, o, hi4, rfl, hr, hsc, hbr, hbg⟩ := hrel
    by_cases hlt : i < 4
    · go_wp2
      go_loopw [9, 10] (fun cc kk wr => ∃ (k : Nat) (o : List Int) (c : Int), k ≤ 4 ∧ kk = .int .i64 k ∧ cc = .int .u64 c ∧ Row wr g 34 (cv .u64 o) ∧ School x y o i k c ∧ Below w.heap.size w wr ∧ Below g w3 wr) (fun _ kk _ => 4 - (intOf kk).toNat)
      case atStart => exact ⟨0, _, 0, Nat.zero_le _, rfl, rfl, hr, hsc, hbr, hbg⟩
      case round =>
        clear hr hsc hbr hbg o
        obtain ⟨k, o, c, hk4, rfl, rfl, hr, hsc, hbr, hbg⟩ := hrel
        by_cases hkt : k < 4
        · obtain ⟨ax, rfl, hax, hcx⟩ := (hs1''.below hbg).num hlt
          obtain ⟨ay, rfl, hay, hcy⟩ := (hs2''.below hbg).num hkt
          have co := hr.cell (i + k)
          have fo := hr.frozen (i + k)
          rw [cv_at (show i + k < o.length by rw [hsc.len]; omega)] at co
          obtain ⟨m, t, R, lo, hi, E1, E2, E3, E4, E5, E6, E7⟩ := round_words dx dy hsc
          have HR := Lib.hid hr
          have N := hsc.next dx dy ly.out hlt hkt
          rw [← E6, ← E7] at N
          clear hr hsc E6 E7
          generalize x.getD i 0 = p at *
          generalize y.getD k 0 = q at *
          generalize o.getD (i + k) 0 = d at *
          have i1 : (0 : Int) ≤ (i : Int) + k := by omega
          have i2 : (i : Int) + k < 8 := by omega
          have i3 : (i : Int) < 4 := by omega
          have i4 : (k : Int) < 4 := by omega
          go_wp2
          go_quiet (fail)
          go_wp2
          go_roundw
          case rel =>
            refine ⟨k + 1, _, _, by omega, by go_num, rfl, ?_, N, (below_drewN hbr nq).setCell hsz _, (below_drewN hbg nq).setCell (Nat.le_refl _) _⟩
            have h := (HR.out.drewN nq).set_ (i + k) (.int .u64 lo)
            rw [cv_set] at h
            exact h
          case measure => simp [intOf]; omega
        · have hk4' : k = 4 := by omega
          subst hk4'
          have co := hr.cell (i + 4)
          have fo := hr.frozen (i + 4)
          rw [cv_at (show i + 4 < o.length by rw [hsc.len]; omega)] at co
          have HR := Lib.hid hr
          have N := hsc.over dx lx.out ly.out hlt
          clear hr hsc
          generalize o.getD (i + 4) 0 = d at *
          have i1 : (0 : Int) ≤ (i : Int) + 4 := by omega
          have i2 : (i : Int) + 4 < 8 := by omega
          go_wp2
          go_roundw
          case rel =>
            refine ⟨i + 1, _, by omega, by go_num, ?_, N, hbr.setCell hsz _, hbg.setCell (Nat.le_refl _) _⟩
            have h := HR.out.set_ (i + 4) (.int .u64 c)
            rw [cv_set] at h
            exact h
          case measure => simp [intOf]; omega
    · have hi4' : i = 4 := by omega
      subst hi4'
      have HR := Lib.hid hr
      have l8 := hsc.len
      have dg := hsc.digs
      have ev := hsc.eq
      rw [List.take_of_length_le (by have := lx.out; omega), vx.out, vy.out] at ev
      have ev2 : val o = a * b := by
        have h4 : x.getD 4 0 = 0 := by rw [List.getD_eq_getElem?_getD, List.getElem?_eq_none (by have := lx.out; omega)]; rfl
        rw [h4] at ev
        simpa using ev
      have EV := Lib.hid ev2
      clear hr hsc ev ev2
      go_wp2
      go_ret
      exact ⟨g, o, rfl, HR.out, l8, dg, EV.out, hbr⟩
end Go.Proofs.Ytmpgibemmhcncaa

/-
  Of part RefMul: what is needed here.
-/
namespace Go.Proofs.Ytmpgibemmhcncaa
open Go.RowKit
set_option linter.unusedVariables false
theorem eight_words (o : List Int) (hl : o.length = 8) (hd : Digs o) {N : Int} (h : val o = N) (h0 : 0 ≤ N) : val (o.drop 4) = N / 18446744073709551616 ∧ val (o.take 4) = N % 18446744073709551616 := by
  have s := val_split o 4 (by omega)
  have a := val_in _ (digs_take hd 4)
  rw [show (o.take 4).length = 4 by simp; omega] at a
  rw [h] at s
  have p : (65536 : Int) ^ 4 = 18446744073709551616 := by decide
  rw [p] at a s
  omega
set_option maxHeartbeats 1000000 in
theorem refMul_ (a b : Int) (ha : Word a) (hb : Word b) (w : World) :
    Calls Try.prog 20 #[.int .u64 a, .int .u64 b] w fun e w' => e = .returned (.tuple #[.int .u64 (a * b / 18446744073709551616), .int .u64 (a * b % 18446744073709551616)]) ∧ Below w.heap.size w w' := by
  have P := product_ a b ha hb w
  have pp := Lib.hid (word_prod ha hb).1
  obtain ⟨h, eh⟩ : ∃ h, a * b / 18446744073709551616 = h := ⟨_, rfl⟩
  obtain ⟨l, el⟩ : ∃ l, a * b % 18446744073709551616 = l := ⟨_, rfl⟩
  rw [eh, el]
  have EH := Lib.hid eh
  have EL := Lib.hid el
  clear eh el
  go_enter Try.func20, Try.ntmps20
  go_wp2_with fail
  refine P.mono ?_
  rintro e w1 ⟨g, o, rfl, hr, hl, hd, hv, hbel⟩
  obtain ⟨v1, v2⟩ := eight_words o hl hd hv pp.out
  have s1 := hr.sees 4
  have s2 := (hr.sees 0).take 4 (by rw [cv_length]; omega)
  rw [cv_length, hl] at s1
  have s1' : Sees w1 w1.heap.size (some ⟨g, 4, none⟩) 4 (cv .u64 (o.drop 4)) := by simpa [cv] using s1
  have s2' : Sees w1 w1.heap.size (some ⟨g, 0, none⟩) 4 (cv .u64 (o.take 4)) := by simpa [cv] using s2
  have C1 : ∀ n, Calls Try.prog 23 #[.slice (some ⟨g, 4, none⟩) 4 4] (w1.drewN n) fun e w' => e = .returned (.int .u64 h) ∧ w' = w1.drewN n := fun n => by
    have := wholeDigits_ _ 4 _ (w1.drewN n) _ (s1'.drewN n) (digs_drop hd 4)
    rw [v1, EH.out] at this
    exact this.mono fun e w' ⟨h, h'⟩ => ⟨h, h'.symm⟩
  have C2 : ∀ n, Calls Try.prog 23 #[.slice (some ⟨g, 0, none⟩) 4 8] (w1.drewN n) fun e w' => e = .returned (.int .u64 l) ∧ w' = w1.drewN n := fun n => by
    have := wholeDigits_ _ 8 _ (w1.drewN n) _ (s2'.drewN n) (digs_take hd 4)
    rw [v2, EL.out] at this
    exact this.mono fun e w' ⟨h, h'⟩ => ⟨h, h'.symm⟩
  have H1 := Lib.hid C1
  have H2 := Lib.hid C2
  clear C1 C2 s1 s2 s1' s2' v1 v2 hr
  go_wp2
  go_quiet (first | (go_at_call 23; with_reducible refine Calls.quiet_of_same (H1.out _)) | (go_at_call 23; with_reducible refine Calls.quiet_of_same (H2.out _)))
  go_wp2
  go_ret2
  exact ⟨rfl, below_drewN hbel nq⟩
set_option maxHeartbeats 1000000 in
theorem refSum_ (A : Option Addr) (n c : Nat) (zs : List Int) (w : World) (S : Nat) (hx : Sees w S A n (cv .u64 zs)) (hn : n ≤ maxLen) (hz : ∀ z ∈ zs, Word z) :
    Calls Try.prog 13 #[.slice A n c] w fun e w' => e = .returned (.int .u64 (held zs)) ∧ w = w' := by
  unfold maxLen at hn
  have lx := Lib.hid (show zs.length = n by have := hx.len; rwa [cv_length] at this)
  go_enter Try.func13, Try.ntmps13
  go_wp2
  go_loop [3, 4] (fun v i => ∃ j : Nat, j ≤ n ∧ i = .int .i64 j ∧ v = .int .u64 (zs.take j).sum ∧ (zs.take j).sum ≤ 18446744073709551615) (fun _ i => n - (intOf i).toNat)
  case atStart => exact ⟨0, Nat.zero_le _, rfl, rfl, by simp⟩
  case round =>
    obtain ⟨j, hj, rfl, rfl, hs⟩ := hrel
    by_cases hlt : j < n
    · obtain ⟨a, rfl, ha, hca⟩ := hx.num hlt
      have wz := word_getD hz j
      have s0 := sum_nonneg (word_take hz j)
      have E := sum_take zs j (by have := lx.out; omega)
      have s1 := sum_nonneg (word_take hz (j + 1))
      have s2 : (zs.take (j + 1)).sum ≤ zs.sum := by
        have h1 := sum_app (zs.take (j + 1)) (zs.drop (j + 1))
        rw [List.take_append_drop] at h1
        have h2 := sum_nonneg (zs := zs.drop (j + 1)) (fun z hz' => hz z (List.mem_of_mem_drop hz'))
        omega
      have F : IntKind.u64.wrap (18446744073709551615 - (zs.take j).sum) = 18446744073709551615 - (zs.take j).sum := by rw [IntKind.wrap_u64]; omega
      by_cases hc : 18446744073709551615 - (zs.take j).sum < zs.getD j 0
      · have HH := Lib.hid (show held zs = 18446744073709551615 by unfold held cap; rw [if_pos (by omega)])
        clear s1 s2 E
        generalize zs.getD j 0 = z at *
        generalize (zs.take j).sum = s at *
        go_wp2
        go_ret
        rw [HH.out]
        exact ⟨rfl, rfl⟩
      · have G : IntKind.u64.wrap ((zs.take j).sum + zs.getD j 0) = (zs.take (j + 1)).sum := by rw [IntKind.wrap_u64, E]; have := wz.1; omega
        have hs' : (zs.take (j + 1)).sum ≤ 18446744073709551615 := by omega
        clear s1 s2 E
        generalize zs.getD j 0 = z at *
        generalize (zs.take j).sum = s at *
        generalize hs2 : (zs.take (j + 1)).sum = s' at *
        have H2 := Lib.hid hs2
        clear hs2
        go_wp2
        go_round
        case rel => exact ⟨j + 1, by omega, by go_num, by rw [H2.out], by rw [H2.out]; exact hs'⟩
        case measure => simp [intOf]; omega
    · have hj' : j = n := by omega
      have hn' : ¬ n < n := by omega
      have HH := Lib.hid (show held zs = (zs.take j).sum by
        rw [List.take_of_length_le (by have := lx.out; omega)] at hs ⊢
        unfold held cap
        rw [if_neg (by omega)])
      subst hj'
      generalize (zs.take j).sum = s at *
      go_wp2
      go_ret
      rw [HH.out]
      exact ⟨rfl, rfl⟩
end Go.Proofs.Ytmpgibemmhcncaa

/-
  Of part RefTimes: what is needed here.
-/
namespace Go.Proofs.Ytmpgibemmhcncaa
open Go.RowKit
set_option linter.unusedVariables false
theorem u64_and1 (x : Int) (h : Word x) : bits .and .u64 x 1 = x % 2 := by
  obtain ⟨n, rfl, hn⟩ := h.nat
  have e := bits_and_u64_nat n 1 hn (by omega)
  rw [show n &&& 1 = n % 2 from Nat.and_one_is_mod n] at e
  rw [show ((1 : Nat) : Int) = 1 from rfl] at e
  rw [e]; omega
theorem word_shift {x : Int} (h : Word x) (k : Nat) : Word (x / 2 ^ k) := by
  have p : (0 : Int) < 2 ^ k := Int.pow_pos (by omega)
  have : x / 2 ^ k ≤ x := Int.ediv_le_self _ h.1
  exact ⟨Int.ediv_nonneg h.1 (Int.le_of_lt p), by have := h.2; omega⟩
theorem bit_hi {N : Int} (hN : 0 ≤ N) (hh : Word (N / 18446744073709551616)) (k : Nat) (hk : 63 < k) : bits .and .u64 (N / 18446744073709551616 / 2 ^ (k - 64)) 1 = N / 2 ^ k % 2 := by
  have e : (2 : Int) ^ k = 18446744073709551616 * 2 ^ (k - 64) := by
    rw [show (18446744073709551616 : Int) = 2 ^ 64 from rfl, ← Int.pow_add]; congr 1; omega
  rw [u64_and1 _ (word_shift hh _), e, ← Int.ediv_ediv_of_nonneg (by omega)]
theorem bit_lo {N : Int} (k : Nat) (hk : k ≤ 63) : bits .and .u64 (N % 18446744073709551616 / 2 ^ k) 1 = N / 2 ^ k % 2 := by
  rw [u64_and1 _ (word_shift (word_mod N) _)]
  have p : (0 : Int) < 2 ^ k := Int.pow_pos (by omega)
  have e : (18446744073709551616 : Int) = 2 ^ k * (2 * 2 ^ (63 - k)) := by
    rw [show (18446744073709551616 : Int) = 2 ^ 64 from rfl, ← Int.pow_succ', ← Int.pow_add]; congr 1; omega
  have d := Int.mul_ediv_add_emod N 18446744073709551616
  have f : N = N % 18446744073709551616 + 2 ^ k * (2 * 2 ^ (63 - k) * (N / 18446744073709551616)) := by
    rw [← Int.mul_assoc, ← e]; omega
  have g : N / 2 ^ k = N % 18446744073709551616 / 2 ^ k + 2 * (2 ^ (63 - k) * (N / 18446744073709551616)) := by
    conv => lhs; rw [f]
    rw [Int.add_mul_ediv_left _ _ (by omega), Int.mul_assoc]
  rw [g]
  omega
/-- one bit more -/
theorem bit_step {N d : Int} (hN : 0 ≤ N) (hd : 0 < d) (hd' : d < 18446744073709551616) (k : Nat) :
    ∃ x y t X Y z : Int, N / 2 ^ (k + 1) % d = x ∧ N / 2 ^ (k + 1) / d = y ∧ N / 2 ^ k % 2 = t ∧ N / 2 ^ k % d = X ∧ N / 2 ^ k / d = Y ∧ IntKind.u64.wrap (IntKind.u64.wrap (2 * x) + t) = z ∧ 0 ≤ y ∧
      ((9223372036854775808 ≤ x ∧ IntKind.u64.wrap (z - d) = X ∧ Y = 2 * y + 1) ∨ (¬ 9223372036854775808 ≤ x ∧ d ≤ z ∧ IntKind.u64.wrap (z - d) = X ∧ Y = 2 * y + 1) ∨ (¬ 9223372036854775808 ≤ x ∧ ¬ d ≤ z ∧ z = X ∧ Y = 2 * y)) := by
  have p : (0 : Int) < 2 ^ k := Int.pow_pos (by omega)
  have e : N / 2 ^ (k + 1) = N / 2 ^ k / 2 := by rw [Int.pow_succ, ← Int.ediv_ediv_of_nonneg (Int.le_of_lt p)]
  rw [e]
  have hP : 0 ≤ N / 2 ^ k := Int.ediv_nonneg hN (Int.le_of_lt p)
  generalize N / 2 ^ k = P at *
  have q0 : 0 ≤ P / 2 := by omega
  have q1 : P = 2 * (P / 2) + P % 2 := by omega
  have r0 := Int.emod_nonneg (P / 2) (show d ≠ 0 by omega)
  have r1 := Int.emod_lt_of_pos (P / 2) hd
  have r2 := Int.mul_ediv_add_emod (P / 2) d
  have y0 : 0 ≤ P / 2 / d := Int.ediv_nonneg q0 (by omega)
  have t0 : 0 ≤ P % 2 ∧ P % 2 < 2 := by omega
  have key : ∀ c Z : Int, 0 ≤ Z → Z < d → P = d * c + Z → P % d = Z ∧ P / d = c := by
    intro c Z z0 z1 h
    subst h
    constructor
    · rw [Int.add_comm, Int.add_mul_emod_self_left]; exact Int.emod_eq_of_lt z0 z1
    · rw [Int.add_comm, Int.add_mul_ediv_left _ _ (by omega), Int.ediv_eq_zero_of_lt z0 z1]; omega
  refine ⟨_, _, _, _, _, _, rfl, rfl, rfl, rfl, rfl, rfl, y0, ?_⟩
  generalize P / 2 % d = x at *
  generalize P / 2 / d = y at *
  generalize P % 2 = t at *
  simp only [IntKind.wrap_u64]
  have m : d * (2 * y) = 2 * (d * y) := by rw [Int.mul_left_comm]
  have m' : d * (2 * y + 1) = 2 * (d * y) + d := by rw [Int.mul_add, m, Int.mul_one]
  generalize hdy : d * y = D at *
  by_cases c : d ≤ 2 * x + t
  · obtain ⟨k1, k2⟩ := key (2 * y + 1) (2 * x + t - d) (by omega) (by omega) (by rw [m']; omega)
    rw [k1, k2]
    by_cases c2 : 9223372036854775808 ≤ x
    · left; exact ⟨c2, by omega, rfl⟩
    · right; left; exact ⟨c2, by omega, by omega, rfl⟩
  · obtain ⟨k1, k2⟩ := key (2 * y) (2 * x + t) (by omega) (by omega) (by rw [m]; omega)
    rw [k1, k2]
    right; right
    exact ⟨by omega, by omega, by omega, rfl⟩
/-- too big long before the end -/
theorem bit_big {a b d : Int} (ha : Word a) (hb : Word b) (hd : 0 < d) (up : Bool) (k : Nat) (h : 9223372036854775808 ≤ a * b / 2 ^ (k + 1) / d) : times a b d up = 18446744073709551615 := by
  have p := word_prod ha hb
  unfold times
  rw [if_pos]
  have e : (0 : Int) < 2 ^ k := Int.pow_pos (by omega)
  have h1 : 9223372036854775808 * d ≤ a * b / 2 ^ (k + 1) := by
    have := Int.mul_le_of_le_ediv hd h
    exact this
  have h2 : 9223372036854775808 * d * 2 ^ (k + 1) ≤ a * b := Int.mul_le_of_le_ediv (Int.pow_pos (by omega)) h1
  have h3 : 18446744073709551616 * d ≤ 9223372036854775808 * d * 2 ^ (k + 1) := by
    rw [Int.pow_succ, Int.mul_comm ((2 : Int) ^ k) 2, ← Int.mul_assoc]
    have : 9223372036854775808 * d * 2 * 1 ≤ 9223372036854775808 * d * 2 * 2 ^ k := Int.mul_le_mul_of_nonneg_left (by omega) (by omega)
    omega
  exact Int.le_ediv_of_mul_le (by omega) (by omega)
theorem bit_start {a b d : Int} (ha : Word a) (hb : Word b) (hd : 0 < d) : a * b / 2 ^ 128 = 0 := by
  have p := word_prod ha hb
  exact Int.ediv_eq_zero_of_lt p.1 (by omega)
theorem bit_end {a b d : Int} (ha : Word a) (hb : Word b) (hd : 0 < d) (up : Bool) (h : a * b / d ≤ 18446744073709551615) :
    times a b d up = if up = true ∧ 0 < a * b % d then cap (a * b / d + 1) else a * b / d := by
  have p := word_prod ha hb
  unfold times
  rw [if_neg]
  intro c
  have h1 : 18446744073709551616 * d ≤ a * b := by
    have := Int.mul_le_of_le_ediv (show (0 : Int) < 18446744073709551616 by omega) c
    omega
  have := Int.le_ediv_of_mul_le hd h1
  omega
set_option maxHeartbeats 8000000 in
set_option maxRecDepth 100000 in
theorem refTimes_ (a b d : Int) (up : Bool) (w : World) (ha : Word a) (hb : Word b) (hd : Word d) (hd0 : 0 < d) :
    Calls Try.prog 14 #[.int .u64 a, .int .u64 b, .int .u64 d, .bool up] w fun e w' => e = .returned (.int .u64 (times a b d up)) ∧ Below w.heap.size w w' := by
  have M := refMul_ a b ha hb w
  have z0 : (d == 0) = false := by simp; omega
  have hh := word_hi ha hb
  have pp := word_prod ha hb
  have BIG := Lib.hid (bit_big ha hb hd0 up)
  have START := Lib.hid (bit_start ha hb hd0)
  have END := Lib.hid (bit_end ha hb hd0 up)
  obtain ⟨T, eT⟩ : ∃ T, times a b d up = T := ⟨_, rfl⟩
  rw [eT] at BIG END ⊢
  clear eT
  obtain ⟨N, eN⟩ : ∃ N, a * b = N := ⟨_, rfl⟩
  rw [eN] at M hh pp BIG START END
  clear eN
  obtain ⟨hi, eh⟩ : ∃ h, N / 18446744073709551616 = h := ⟨_, rfl⟩
  obtain ⟨lo, el⟩ : ∃ l, N % 18446744073709551616 = l := ⟨_, rfl⟩
  rw [eh, el] at M
  have EH := Lib.hid eh
  have EL := Lib.hid el
  clear eh el
  go_enter Try.func14, Try.ntmps14
  go_wp2_with fail
  refine M.mono ?_
  rintro e w1 ⟨rfl, hbel⟩
  go_wp2
  go_loop [11, 12, 13] (fun r n i => ∃ (k : Nat), k ≤ 128 ∧ i = .int .i64 ((k : Int) - 1) ∧ r = .int .u64 (N / 2 ^ k % d) ∧ n = .int .u64 (N / 2 ^ k / d) ∧ N / 2 ^ k / d ≤ 18446744073709551615) (fun _ _ i => (intOf i + 1).toNat)
  case atStart => exact ⟨128, Nat.le_refl _, rfl, by rw [START.out]; simp, by rw [START.out]; simp, by rw [START.out]; simp⟩
  case round =>
    obtain ⟨k, hk, rfl, rfl, rfl, hq⟩ := hrel
    by_cases hlt : 0 < k
    · obtain ⟨k, rfl⟩ : ∃ j, k = j + 1 := ⟨k - 1, by omega⟩
      have hc1 : (((k + 1 : Nat) : Int) - 1) = (k : Int) := by omega
      rw [hc1]
      clear hc1
      obtain ⟨x, y, t, X, Y, z, hx, hy, ht, hX, hY, hz, y0, hw⟩ := bit_step pp.1 hd0 hd.2 k
      have HB := Lib.hid (BIG.out k)
      have B1 : 63 < k → bits .and .u64 (hi / 2 ^ (k - 64)) 1 = t := fun h => by rw [← EH.out, ← ht]; exact bit_hi pp.1 hh k h
      have B2 : k ≤ 63 → bits .and .u64 (lo / 2 ^ k) 1 = t := fun h => by rw [← EL.out, ← ht]; exact bit_lo k h
      rw [hx, hy]
      rw [hy] at hq HB
      have HX := Lib.hid hX
      have HY := Lib.hid hY
      clear hx hy ht hX hY
      by_cases hbig : 9223372036854775808 ≤ y
      · have HT := Lib.hid (HB.out hbig)
        clear HB
        by_cases hk6 : 63 < k
        · replace B1 := B1 hk6
          clear B2
          have hk7 : 63 < (k : Int) := by omega
          rcases hw with ⟨c1, c2, _⟩ | ⟨c1, c2, c3, _⟩ | ⟨c1, c2, rfl, _⟩
          · go_wp2
            go_ret
            rw [HT.out]
            exact ⟨rfl, hbel⟩
          · go_wp2
            go_ret
            rw [HT.out]
            exact ⟨rfl, hbel⟩
          · go_wp2
            go_ret
            rw [HT.out]
            exact ⟨rfl, hbel⟩
        · replace B2 := B2 (by omega)
          clear B1
          have hk7 : ¬ 63 < (k : Int) := by omega
          have hk8 : min k 64 = k := by omega
          rcases hw with ⟨c1, c2, _⟩ | ⟨c1, c2, c3, _⟩ | ⟨c1, c2, rfl, _⟩
          · go_wp2
            go_ret
            rw [HT.out]
            exact ⟨rfl, hbel⟩
          · go_wp2
            go_ret
            rw [HT.out]
            exact ⟨rfl, hbel⟩
          · go_wp2
            go_ret
            rw [HT.out]
            exact ⟨rfl, hbel⟩
      · clear HB
        have E1 : IntKind.u64.wrap (2 * y) = 2 * y := by rw [IntKind.wrap_u64]; omega
        have E2 : IntKind.u64.wrap (2 * y + 1) = 2 * y + 1 := by rw [IntKind.wrap_u64]; omega
        have y9 : Y ≤ 18446744073709551615 := by omega
        by_cases hk6 : 63 < k
        · replace B1 := B1 hk6
          clear B2
          have hk7 : 63 < (k : Int) := by omega
          rcases hw with ⟨c1, c2, rfl⟩ | ⟨c1, c2, c3, rfl⟩ | ⟨c1, c2, rfl, rfl⟩
          · go_wp2
            go_round
            case rel => exact ⟨k, by omega, by go_num, by rw [HX.out], by rw [HY.out], by rw [HY.out]; exact y9⟩
            case measure => simp [intOf]
          · go_wp2
            go_round
            case rel => exact ⟨k, by omega, by go_num, by rw [HX.out], by rw [HY.out], by rw [HY.out]; exact y9⟩
            case measure => simp [intOf]
          · go_wp2
            go_round
            case rel => exact ⟨k, by omega, by go_num, by rw [HX.out], by rw [HY.out], by rw [HY.out]; exact y9⟩
            case measure => simp [intOf]
        · replace B2 := B2 (by omega)
          clear B1
          have hk7 : ¬ 63 < (k : Int) := by omega
          have hk8 : min k 64 = k := by omega
          rcases hw with ⟨c1, c2, rfl⟩ | ⟨c1, c2, c3, rfl⟩ | ⟨c1, c2, rfl, rfl⟩
          · go_wp2
            go_round
            case rel => exact ⟨k, by omega, by go_num, by rw [HX.out], by rw [HY.out], by rw [HY.out]; exact y9⟩
            case measure => simp [intOf]
          · go_wp2
            go_round
            case rel => exact ⟨k, by omega, by go_num, by rw [HX.out], by rw [HY.out], by rw [HY.out]; exact y9⟩
            case measure => simp [intOf]
          · go_wp2
            go_round
            case rel => exact ⟨k, by omega, by go_num, by rw [HX.out], by rw [HY.out], by rw [HY.out]; exact y9⟩
            case measure => simp [intOf]
    · have hk0 : k = 0 := by omega
      subst hk0
      have hc1 : (((0 : Nat) : Int) - 1) = -1 := by omega
      rw [hc1]
      clear hc1
      have e1 : N / 2 ^ 0 = N := by simp
      rw [e1] at hq ⊢
      have END2 := Lib.hid (END.out hq)
      have r0 := Int.emod_nonneg N (show d ≠ 0 by omega)
      have q0 : 0 ≤ N / d := Int.ediv_nonneg pp.1 (by omega)
      clear BIG START END e1
      generalize N / d = q at *
      generalize N % d = r at *
      cases up
      · go_wp2
        go_ret
        rw [END2.out]
        exact ⟨by simp, hbel⟩
      · by_cases h1 : 0 < r
        · by_cases h2 : q < 18446744073709551615
          · have E1 : IntKind.u64.wrap (q + 1) = cap (q + 1) := by rw [IntKind.wrap_u64]; unfold cap; rw [if_neg (by omega)]; omega
            go_wp2
            go_ret
            rw [END2.out, if_pos (by simp [h1])]
            exact ⟨rfl, hbel⟩
          · have E3 := Lib.hid (show cap (q + 1) = q by unfold cap; rw [if_pos (by omega)]; omega)
            go_wp2
            go_ret
            rw [END2.out, if_pos (by simp [h1]), E3.out]
            exact ⟨rfl, hbel⟩
        · go_wp2
          go_ret
          rw [END2.out, if_neg (by omega)]
          exact ⟨rfl, hbel⟩
end Go.Proofs.Ytmpgibemmhcncaa

/-
  Of part RefOf9: what is needed here.
-/
namespace Go.Proofs.Ytmpgibemmhcncaa
open Go.RowKit
set_option linter.unusedVariables false
set_option maxRecDepth 100000 in
set_option maxHeartbeats 4000000 in
theorem refCost_ (cs : List Value) (ns n : Nat) (SA A : Option Addr) (sc c B : Nat) (l : List LIn) (wr u : Int) (w : World) (hl : cs.length = 40) (hc0 : cs[0]? = some (.slice SA ns sc)) (hc38 : cs[38]? = some (.slice A n c))
    (hin : InsIn w B A n l) (hB : B ≤ w.heap.size) (h1 : ns ≤ 4000) (h2 : n ≤ 4000) (h3 : dat9 l ≤ 4000) (h4 : -9223372036854775808 ≤ wr) (h5 : wr < 9223372036854775808) (h6 : Word u) :
    Calls Try.prog 10 #[.agg cs.toArray, .int .i64 wr, .int .u64 u] w fun e w' => e = .returned (.int .u64 (cost9 ns (dat9 l) wr u)) ∧ Below w.heap.size w w' := by
  have HW := Lib.hid (parts9_word (ns := ns) (d := dat9 l) (wr := wr) (u := u) (by omega) (by omega) (by omega) h6)
  have T0 := Lib.hid (fun w => refTimes_ (ns : Int) 720 1 false w ⟨by omega, by omega⟩ ⟨by decide, by decide⟩ ⟨by decide, by decide⟩ (by decide))
  have T1 := Lib.hid (fun w => refTimes_ (max 0 wr) 300 1 false w ⟨by omega, by omega⟩ ⟨by decide, by decide⟩ ⟨by decide, by decide⟩ (by decide))
  have e0 : max (ns : Int) 0 = ns := by omega
  have HP : Hid (cost9 ns (dat9 l) wr u = held [times (ns : Int) 720 1 false, times (max 0 wr) 300 1 false, (dat9 l : Int) / 4, u]) := Lib.hid (by unfold cost9 parts9 each9; rw [e0, Int.max_comm wr 0])
  have HWW : Hid (∀ z ∈ [times (ns : Int) 720 1 false, times (max 0 wr) 300 1 false, (dat9 l : Int) / 4, u], Word z) := Lib.hid (by have := HW.out; unfold parts9 each9 at this; rw [e0, Int.max_comm wr 0] at this; exact this)
  have b0 := (Below.refl w.heap.size w).alloc (Nat.le_refl _) (.cells cs.toArray 33)
  have r0 := Row.new w 33 cs
  have d0 := Lib.hid ((r0.cell 0).trans hc0)
  have d38 := Lib.hid ((r0.cell 38).trans hc38)
  have HIN := Lib.hid ((hin.below (b0.mono hB)))
  have s0 := Lib.hid (show (w.alloc (.cells cs.toArray 33)).heap.size = w.heap.size + 1 by simp)
  have HB := Lib.hid hB
  have HL := Lib.hid hin.len
  have HD := Lib.hid h3
  have HB0 := Lib.hid b0
  rw [HP.out]
  have H4 := Lib.hid h4
  have H5 := Lib.hid h5
  clear hc0 hc38 hin hB hl h3 b0 r0 HW e0 HP h6 h4 h5
  generalize times (ns : Int) 720 1 false = p0 at *
  generalize times (max 0 wr) 300 1 false = p1 at *
  go_enter Try.func10, Try.ntmps10
  go_wp2_with fail
  generalize (w.alloc (Obj.cells cs.toArray 33)) = W0 at *
  have e38 := d38.out
  go_loop [7, 8] (fun s i => ∃ k : Nat, k ≤ n ∧ i = .int .i64 k ∧ s = .int .u64 (dat9 (l.take k) : Nat)) (fun _ i => n - (intOf i).toNat)
  case atStart => exact ⟨0, Nat.zero_le _, rfl, rfl⟩
  case round =>
    obtain ⟨k, hk, rfl, rfl⟩ := hrel
    by_cases hlt : k < n
    · obtain ⟨a, x, va, vd, rfl, hab, hx, hat⟩ := HIN.out.get hlt
      have HS := Lib.hid (dat9_succ hx)
      have hs1 := dat9_take l (k + 1)
      have hs3 := HD.out
      obtain ⟨DA, dc, hvd, hds, hdn, hdm⟩ := hat.dat.is
      subst hvd
      have hcd : W0.cell? ⟨(a.add (k * 3)).block, (a.add (k * 3)).off + 2, none⟩ = some (.slice DA x.dat.length dc) := hat.cells 2 _ rfl
      have hs4 : dat9 (l.take k) + x.dat.length ≤ 4000 := by have := HS.out; omega
      have e1 : IntKind.u64.wrap (x.dat.length : Nat) = (x.dat.length : Nat) := by rw [IntKind.wrap_u64]; omega
      have e2 : IntKind.u64.wrap ((dat9 (l.take k) : Nat) + (x.dat.length : Nat)) = (dat9 (l.take k) : Nat) + (x.dat.length : Nat) := by rw [IntKind.wrap_u64]; omega
      have HC : Hid (((dat9 (l.take k) : Nat) : Int) + (x.dat.length : Nat) = (dat9 (l.take (k + 1)) : Nat)) := Lib.hid (by rw [HS.out]; omega)
      clear hat hab hx hds hdn hdm hs1 hs3
      generalize x.dat.length = m at *
      generalize dat9 (l.take k) = s at *
      go_wp2
      go_round
      case rel => exact ⟨k + 1, by omega, by go_num, by rw [HC.out]⟩
      case measure => simp [intOf]; omega
    · obtain rfl : k = n := by omega
      have e : l.take k = l := List.take_of_length_le (by have := HL.out; omega)
      rw [e]
      have e0 := d0.out
      have e3 : IntKind.u64.wrap (ns : Nat) = (ns : Nat) := by rw [IntKind.wrap_u64]; omega
      go_wp2_with fail
      refine (T0.out _).mono ?_
      rintro e w1 ⟨rfl, hb1⟩
      have e5 : IntKind.u64.wrap ((dat9 l : Int) / 4) = (dat9 l : Int) / 4 := by rw [IntKind.wrap_u64]; have := HD.out; omega
      have h4 := H4.out
      have h5 := H5.out
      go_wp2_with fail
      refine (T1.out _).mono ?_
      rintro e w2 ⟨rfl, hb2⟩
      have HB2 := Lib.hid (HB0.out.trans ((hb1.trans (hb2.mono hb1.size)).mono HB0.out.size))
      clear hb1 hb2
      go_wp2_with fail
      refine (refSum_ _ 4 _ [p0, p1, (dat9 l : Int) / 4, u] _ _ (Row.new' w2 34 [.int .u64 p0, .int .u64 p1, .int .u64 ((dat9 l : Int) / 4), .int .u64 u] rfl).sees0 (by simp [maxLen]) HWW.out).mono ?_
      rintro e w3 ⟨rfl, rfl⟩
      go_wp2
      go_ret
      exact ⟨rfl, HB2.out.alloc HB2.out.size _⟩
end Go.Proofs.Ytmpgibemmhcncaa

/-
  Of part OfWalk9: what is needed here.
-/
namespace Go.Proofs.Ytmpgibemmhcncaa
open Go.RowKit
set_option linter.unusedVariables false
theorem dat9_le : ∀ (l : List LIn), dat9 l ≤ inSize l
  | [] => Nat.le_refl _
  | x :: r => by
    have := dat9_le r
    unfold dat9 inSize at *
    simp only [List.map_cons, List.sum_cons]
    omega
theorem wf9_u64 {z : Int} (h : (Lit.int .u64 z).wf = true) : Word z := by
  have h' : (decide ((0 : Int) ≤ z) && decide (z ≤ 18446744073709551615)) = true := h
  rw [Bool.and_eq_true, decide_eq_true_iff, decide_eq_true_iff] at h'
  exact ⟨by omega, by omega⟩
theorem wf9_u16 {z : Int} (h : (Lit.int .u16 z).wf = true) : 0 ≤ z ∧ z < 65536 := by
  have h' : (decide ((0 : Int) ≤ z) && decide (z ≤ 65535)) = true := h
  rw [Bool.and_eq_true, decide_eq_true_iff, decide_eq_true_iff] at h'
  exact ⟨by omega, by omega⟩
theorem wf9_i64 {z : Int} (h : (Lit.int .i64 z).wf = true) : -9223372036854775808 ≤ z ∧ z < 9223372036854775808 := by
  have h' : (decide ((-9223372036854775808 : Int) ≤ z) && decide (z ≤ 9223372036854775807)) = true := h
  rw [Bool.and_eq_true, decide_eq_true_iff, decide_eq_true_iff] at h'
  exact ⟨by omega, by omega⟩
/-- the document's cost of it -/
theorem CX.refCost {w : World} {B : Nat} {cs : List Value} {ns : Nat} {l : List LIn} (h : CX w B cs ns l) (hB : B ≤ w.heap.size) (h1 : ns ≤ 4000) (h2 : l.length ≤ 4000) (h3 : dat9 l ≤ 4000) (wr u : Int) (h4 : -9223372036854775808 ≤ wr) (h5 : wr < 9223372036854775808) (h6 : Word u) :
    Calls Try.prog 10 #[.agg cs.toArray, .int .i64 wr, .int .u64 u] w fun e w' => e = .returned (.int .u64 (cost9 ns (dat9 l) wr u)) ∧ Below w.heap.size w w' := by
  obtain ⟨A, n, c, hc, hin⟩ := h.c38
  obtain ⟨SA, sc, h0⟩ := h.c0
  exact refCost_ cs ns n SA A sc c B l wr u w h.len h0 hc hin hB h1 (by rw [← hin.len]; exact h2) h3 h4 h5 h6
set_option maxRecDepth 100000 in
set_option maxHeartbeats 8000000 in
theorem of_walk9 (s : TRaw) (x : LTx) (wr u : Int) (w : World) (hm : TxIn w w.heap.size s x) (hs : Sized x.m) (hl : x.sigs.length ≤ 140737488355328) (h4 : -9223372036854775808 ≤ wr) (h5 : wr < 9223372036854775808) (h6 : Word u) :
    Calls Try.prog 3 #[.agg (s.cells x).toArray, .int .i64 wr, .int .u64 u] w fun e w' => e = .returned (.bool true) ∧ Below w.heap.size w w' := by
  have hrow := Row.new w 33 (s.cells x)
  have hb0 := (Below.refl w.heap.size w).alloc (Nat.le_refl _) (.cells (s.cells x).toArray 33)
  have hm0 := hm.below hb0
  have HG := Lib.hid (great_ s.q x.m w.heap.size _ hm0.m hb0.size hs)
  have HX0 := Lib.hid (CX.of hm0)
  have HSM := Lib.hid (show (Try.prog.info? 31).map (·.size) = some (s.q.cells x.m).length by rw [size_msg, cells_len hm.m.recent])
  have HST := Lib.hid (show (Try.prog.info? 33).map (·.size) = some (s.cells x).length by rw [tcells_len hm.m.recent]; exact size_tx9)
  have HCM := Lib.hid (tcells_m (s := s) (x := x))
  have c0 : (s.cells x)[0]? = some (.slice s.SA x.sigs.length s.sc) := by rw [hm.sigs.len]; rfl
  have HC0 := Lib.hid c0
  have HDT := Lib.hid (dat9_le x.m.ins)
  have HIT := Lib.hid (show x.m.ins.length + inSize x.m.ins ≤ total x.m by unfold total; omega)
  have HSM2 := Lib.hid hl
  generalize s.cells x = cs at *
  generalize s.q.cells x.m = mc at *
  generalize x.m.ins = l at *
  generalize x.sigs.length = ns at *
  have HROW := Lib.hid hrow
  have HB0 := Lib.hid hb0
  clear hrow hb0 hm0 c0 hl
  have H4 := Lib.hid h4
  have H5 := Lib.hid h5
  have H6 := Lib.hid h6
  clear h4 h5 h6 hm hs
  go_enter Try.func3, Try.ntmps3
  go_wp2_with ((with_reducible show wpList _ _ _ ({ dst := some 8, op := Op.load _ _, type := _, pos := _, after := _, guard := _ } :: _) _ _); go_must (refine wpList_load_at rfl 31 (.tmp 7) rfl ⟨w.heap.size, 1, none⟩ mc _ Try.underlying31 rfl HSM.out (fun j v hv => by rw [addr_row, HROW.out.cell, HCM.out]; exact hv) ?_ ?_; go_simp))
  refine HG.out.mono ?_
  rintro e w1 ⟨⟨b, rfl, hgr⟩, hb1⟩
  have B1 := Lib.hid (HB0.out.trans (hb1.mono HB0.out.size))
  have RX := Lib.hid (HROW.out.below hb1 HROW.out.lt)
  have e0 := (RX.out.cell 0).trans HC0.out
  have HX1 := Lib.hid (HX0.out.below (hb1.mono HB0.out.size))
  cases b
  rotate_left
  · clear hb1 hgr e0
    go_wp2_with fail
    refine (lives9 _).mono ?_
    rintro e wl ⟨rfl, hbl⟩
    go_wp2_with fail
    go_ret
    exact ⟨rfl, B1.out.trans (hbl.mono B1.out.size)⟩
  have hgr := hgr rfl
  have hz := HSM2.out
  by_cases h : 300 < (ns : Int)
  · clear hb1
    go_wp2_with fail
    refine (lives9 _).mono ?_
    rintro e wl ⟨rfl, hbl⟩
    go_wp2_with fail
    go_ret
    exact ⟨rfl, B1.out.trans (hbl.mono B1.out.size)⟩
  have HN : Hid (ns ≤ 300 ∧ l.length ≤ 4000 ∧ dat9 l ≤ 4000) := Lib.hid (by have := HDT.out; have := HIT.out; omega)
  clear hb1 hgr
  go_upto_region 3 with fail
  have HV := Lib.hid ((Below.refl w1.heap.size w1).drew)
  have C1 : Hid (∀ V : World, Below w1.heap.size w1 V → Calls Try.prog 9 #[.agg cs.toArray, .int .i64 wr, .int .u64 u] V fun e w' => e = .returned (.int .u64 (cost9 ns (dat9 l) wr u)) ∧ Below V.heap.size V w') := Lib.hid fun V hV => (HX1.out.below (hV.mono B1.out.size)).cost (Nat.le_trans B1.out.size hV.size) (by have := HN.out; omega) HN.out.2.1 HN.out.2.2 wr u H4.out H5.out H6.out
  have C2 : Hid (∀ V : World, Below w1.heap.size w1 V → Calls Try.prog 10 #[.agg cs.toArray, .int .i64 wr, .int .u64 u] V fun e w' => e = .returned (.int .u64 (cost9 ns (dat9 l) wr u)) ∧ Below V.heap.size V w') := Lib.hid fun V hV => (HX1.out.below (hV.mono B1.out.size)).refCost (Nat.le_trans B1.out.size hV.size) (by have := HN.out; omega) HN.out.2.1 HN.out.2.2 wr u H4.out H5.out H6.out
  generalize cost9 ns (dat9 l) wr u = cc at *
  refine wp_region_held_drew (S := fun V => Below w1.heap.size w1 V) (by kernel_rfl) HV.out (fun _ => ?_)
  generalize w1.drew = V0 at *
  refine takeL (i := 0) (v := .agg cs.toArray) rfl (by kernel_rfl) (by kernel_rfl) (by kernel_rfl) (fun _ _ _ h => h) (Or.inl ⟨by rfl, fun wz hwz => exec_load_at wz 33 (.tmp 3) rfl ⟨w.heap.size, 0, none⟩ cs _ Try.underlying33 rfl HST.out (fun j u hu => (hwz.cell (p := (⟨w.heap.size, 0, none⟩ : Addr).add j) (by rw [addr_row]; exact RX.out.lt)).trans (by rw [addr_row, RX.out.cell]; simpa using hu)) (by go_simp)⟩) HV.out ?_
  try simp only [Act.put, List.setIfInBounds_toArray, List.set_cons_zero, List.set_cons_succ]
  refine takeL (i := 1) (v := ?_) rfl (by kernel_rfl) (by kernel_rfl) (by kernel_rfl) (fun _ _ _ h => h) (Or.inl ⟨by rfl, ?_⟩) HV.out ?_
  rotate_left
  · intro w hw
    try dsimp only at hw
    go_simp
    try with_reducible rfl
  try simp only [Act.put, List.setIfInBounds_toArray, List.set_cons_zero, List.set_cons_succ]
  refine takeL (i := 2) (v := ?_) rfl (by kernel_rfl) (by kernel_rfl) (by kernel_rfl) (fun _ _ _ h => h) (Or.inl ⟨by rfl, ?_⟩) HV.out ?_
  rotate_left
  · intro w hw
    try dsimp only at hw
    go_simp
    try with_reducible rfl
  try simp only [Act.put, List.setIfInBounds_toArray, List.set_cons_zero, List.set_cons_succ]
  refine takeL (i := 4) (v := .agg cs.toArray) rfl (by kernel_rfl) (by kernel_rfl) (by kernel_rfl) (fun _ _ _ h => h) (Or.inl ⟨by rfl, fun wz hwz => exec_load_at wz 33 (.tmp 3) rfl ⟨w.heap.size, 0, none⟩ cs _ Try.underlying33 rfl HST.out (fun j u hu => (hwz.cell (p := (⟨w.heap.size, 0, none⟩ : Addr).add j) (by rw [addr_row]; exact RX.out.lt)).trans (by rw [addr_row, RX.out.cell]; simpa using hu)) (by go_simp)⟩) HV.out ?_
  try simp only [Act.put, List.setIfInBounds_toArray, List.set_cons_zero, List.set_cons_succ]
  refine takeL (i := 5) (v := ?_) rfl (by kernel_rfl) (by kernel_rfl) (by kernel_rfl) (fun _ _ _ h => h) (Or.inl ⟨by rfl, ?_⟩) HV.out ?_
  rotate_left
  · intro w hw
    try dsimp only at hw
    go_simp
    try with_reducible rfl
  try simp only [Act.put, List.setIfInBounds_toArray, List.set_cons_zero, List.set_cons_succ]
  refine takeL (i := 6) (v := ?_) rfl (by kernel_rfl) (by kernel_rfl) (by kernel_rfl) (fun _ _ _ h => h) (Or.inl ⟨by rfl, ?_⟩) HV.out ?_
  rotate_left
  · intro w hw
    try dsimp only at hw
    go_simp
    try with_reducible rfl
  try simp only [Act.put, List.setIfInBounds_toArray, List.set_cons_zero, List.set_cons_succ]
  refine readyL (i := 3) rfl (by kernel_rfl) (by kernel_rfl) fun K hK => ?_
  go_simp
  refine (C1.out V0 HV.out).mono ?_
  rintro e V1 ⟨rfl, hb⟩
  simp only []
  have HV := Lib.hid (HV.out.trans (hb.mono HV.out.size))
  clear hb
  refine hK.out _ _ HV.out ?_
  clear hK K
  try simp only [Act.put, List.setIfInBounds_toArray, List.set_cons_zero, List.set_cons_succ]
  refine readyL (i := 7) rfl (by kernel_rfl) (by kernel_rfl) fun K hK => ?_
  go_simp
  refine (C2.out V1 HV.out).mono ?_
  rintro e V2 ⟨rfl, hb⟩
  simp only []
  have HV := Lib.hid (HV.out.trans (hb.mono HV.out.size))
  clear hb
  refine hK.out _ _ HV.out ?_
  clear hK K
  try simp only [Act.put, List.setIfInBounds_toArray, List.set_cons_zero, List.set_cons_succ]
  refine takeL (i := 8) (v := .bool true) rfl (by kernel_rfl) (by kernel_rfl) (by kernel_rfl) (fun _ _ _ h => h) (Or.inl ⟨by kernel_rfl, fun wz hwz => by go_simp⟩) HV.out ?_
  try simp only [Act.put, List.setIfInBounds_toArray, List.set_cons_zero, List.set_cons_succ]
  refine takeL (i := 9) (v := ?_) rfl (by kernel_rfl) (by kernel_rfl) (by kernel_rfl) (fun _ _ _ h => h) (Or.inl ⟨by rfl, ?_⟩) HV.out ?_
  rotate_left
  · intro w hw
    try dsimp only at hw
    go_simp
    try with_reducible rfl
  try simp only [Act.put, List.setIfInBounds_toArray, List.set_cons_zero, List.set_cons_succ]
  refine readyL (i := 10) rfl (by kernel_rfl) (by kernel_rfl) fun K hK => ?_
  go_simp
  refine (lives9 V2).mono ?_
  rintro e V3 ⟨rfl, hb⟩
  simp only []
  have HV := Lib.hid (HV.out.trans (hb.mono HV.out.size))
  clear hb
  refine hK.out _ _ HV.out ?_
  clear hK K
  try simp only [Act.put, List.setIfInBounds_toArray, List.set_cons_zero, List.set_cons_succ]
  refine takeL (i := 11) (v := .bool true) rfl (by kernel_rfl) (by kernel_rfl) (by kernel_rfl) (fun _ _ _ h => h) (Or.inl ⟨by kernel_rfl, fun wz hwz => by go_simp⟩) HV.out ?_
  try simp only [Act.put, List.setIfInBounds_toArray, List.set_cons_zero, List.set_cons_succ]
  refine takeL (i := 12) (v := ?_) rfl (by kernel_rfl) (by kernel_rfl) (by kernel_rfl) (fun _ _ _ h => h) (Or.inl ⟨by rfl, ?_⟩) HV.out ?_
  rotate_left
  · intro w hw
    try dsimp only at hw
    go_simp
    try with_reducible rfl
  try simp only [Act.put, List.setIfInBounds_toArray, List.set_cons_zero, List.set_cons_succ]
  refine wpAnyH_done (by kernel_rfl) ?_ _
  go_wp2_with fail
  go_ret
  exact ⟨rfl, B1.out.trans (HV.out.mono B1.out.size)⟩
end Go.Proofs.Ytmpgibemmhcncaa

/-
  Of part Math9: what is needed here.
-/
namespace Go.Proofs.Ytmpgibemmhcncaa
open Go.RowKit
set_option linter.unusedVariables false
theorem each9_small {n c : Int} (hn : 0 ≤ n) (hc : 0 ≤ c) (h : n * c < 18446744073709551616) : each9 n c = n * c := by
  unfold each9 times
  have e : max n 0 = n := by omega
  have hp : 0 ≤ n * c := Int.mul_nonneg hn hc
  rw [e, if_neg (by omega), if_neg (by simp)]
  omega
theorem each9_neg {n c : Int} (hn : n ≤ 0) : each9 n c = 0 := by
  unfold each9 times
  have e : max n 0 = 0 := by omega
  rw [e, Int.zero_mul]
  rfl
theorem held_four (a b c d : Int) : held [a, b, c, d] = cap (a + b + c + d) := by
  unfold held
  simp only [List.sum_cons, List.sum_nil]
  congr 1
  omega
theorem cost9_is {ns d : Nat} {wr u : Int} (h1 : ns ≤ 4000) (h2 : 0 ≤ wr) (h3 : wr ≤ 70000) : cost9 ns d wr u = cap (720 * (ns : Int) + 300 * wr + (d : Int) / 4 + u) := by
  unfold cost9 parts9
  rw [each9_small (by omega) (by omega) (by omega), each9_small h2 (by omega) (by omega), held_four]
  congr 1
  omega
theorem cost9_neg {ns d : Nat} {wr u : Int} (h : wr ≤ 0) : cost9 ns d wr u = cost9 ns d 0 u := by
  unfold cost9 parts9
  rw [each9_neg h, each9_neg (Int.le_refl 0)]
theorem cap_small {x : Int} (h : x ≤ 18446744073709551615) : cap x = x := by unfold cap; rw [if_neg (by omega)]
theorem cap_great {x : Int} (h : 18446744073709551615 < x) : cap x = 18446744073709551615 := by unfold cap; rw [if_pos h]
theorem dat9_nil : dat9 [] = 0 := rfl
theorem dat9_app (l l' : List LIn) : dat9 (l ++ l') = dat9 l + dat9 l' := by unfold dat9; simp
/-- the parts, by themselves -/
theorem parts_alone {ns d : Nat} {wr u : Int} (h1 : ns ≤ 4000) (h2 : d ≤ 4000) (h3 : 0 ≤ wr) (h4 : wr ≤ 70000) (hu : Word u) :
    cost9 ns 0 0 0 = 720 * (ns : Int) ∧ cost9 0 d 0 0 = (d : Int) / 4 ∧ cost9 0 0 wr 0 = 300 * wr ∧
    cost9 ns d wr u = (if u ≤ 18446744073709551615 - (720 * (ns : Int) + (d : Int) / 4 + 300 * wr) then 720 * (ns : Int) + (d : Int) / 4 + 300 * wr + u else 18446744073709551615) := by
  obtain ⟨u0, u1⟩ := hu
  refine ⟨?_, ?_, ?_, ?_⟩
  · rw [cost9_is h1 (by omega) (by omega), cap_small (by omega)]; omega
  · rw [cost9_is (by omega) (by omega) (by omega), cap_small (by omega)]; omega
  · rw [cost9_is (by omega) h3 h4, cap_small (by omega)]; omega
  · rw [cost9_is h1 h3 h4]
    split
    · rw [cap_small (by omega)]; omega
    · rw [cap_great (by omega)]
/-- a signature, a key, four bytes, a unit more -/
theorem cost_more {ns d : Nat} {wr u : Int} (h1 : ns ≤ 3000) (h2 : d ≤ 3000) (h3 : 0 ≤ wr) (h4 : wr ≤ 65536) (hu : Word u) :
    (18446744073709550895 < cost9 ns d wr u → cost9 (ns + 1) d wr u = 18446744073709551615 ∧ cost9 ns d wr u ≤ cost9 ns (d + 4) wr u) ∧
    (cost9 ns d wr u ≤ 18446744073709550895 → cost9 (ns + 1) d wr u = cost9 ns d wr u + 720 ∧ cost9 ns d (wr + 1) u = cost9 ns d wr u + 300 ∧ cost9 ns (d + 4) wr u = cost9 ns d wr u + 1 ∧ u < 18446744073709551615 ∧ cost9 ns d wr (u + 1) = cost9 ns d wr u + 1) ∧ Word (cost9 ns d wr u) := by
  obtain ⟨u0, u1⟩ := hu
  rw [cost9_is (by omega) h3 (by omega), cost9_is (by omega) h3 (by omega), cost9_is (by omega) h3 (by omega), cost9_is (by omega) (by omega) (by omega), cost9_is (by omega) h3 (by omega)]
  have e1 : ((ns + 1 : Nat) : Int) = ns + 1 := by omega
  have e2 : ((d + 4 : Nat) : Int) / 4 = (d : Int) / 4 + 1 := by omega
  rw [e1, e2]
  generalize (d : Int) / 4 = D at *
  have hD : 0 ≤ 720 * (ns : Int) + 300 * wr := by omega
  unfold cap
  refine ⟨fun h => ?_, fun h => ?_, ?_⟩
  · repeat' split at *
    all_goals (first | omega | (constructor <;> omega))
  · repeat' split at *
    all_goals (first | omega | (refine ⟨?_, ?_, ?_, ?_, ?_⟩ <;> omega))
  · split <;> (constructor <;> omega)
end Go.Proofs.Ytmpgibemmhcncaa

/-
  Of part PartsWalk9: what is needed here.
-/
namespace Go.Proofs.Ytmpgibemmhcncaa
open Go.RowKit
set_option linter.unusedVariables false
theorem built9_m (m : List Value) (h : m.length = 39) : Try.prog.built 33 [(1, .agg m.toArray)] = some (.slice none 0 0 :: m).toArray := by
  obtain ⟨f, rfl⟩ := split39 m h
  kernel_rfl
/-- the message alone -/
theorem CX.msg {w : World} {B : Nat} {s : TRaw} {x : LTx} (h : TxIn w B s x) : CX w B (.slice none 0 0 :: s.q.cells x.m) 0 x.m.ins :=
  CX.of (s := ⟨none, 0, 0, s.q⟩) (x := ⟨[], x.m⟩) ⟨⟨rfl, fun k hk => by simp at hk, Sees.nil _ _ _⟩, by simp [maxLen], h.m⟩
set_option maxRecDepth 100000 in
set_option maxHeartbeats 8000000 in
theorem parts_walk9 (s : TRaw) (x : LTx) (wr u : Int) (w : World) (hm : TxIn w w.heap.size s x) (hs : Sized x.m) (hl : x.sigs.length ≤ 140737488355328) (h4 : 0 ≤ wr) (h5 : wr < 65536) (h6 : Word u) :
    Calls Try.prog 5 #[.agg (s.cells x).toArray, .int .u16 wr, .int .u64 u] w fun e w' => e = .returned (.bool true) ∧ Below w.heap.size w w' := by
  have hrow := Row.new w 33 (s.cells x)
  have hb0 := (Below.refl w.heap.size w).alloc (Nat.le_refl _) (.cells (s.cells x).toArray 33)
  have hm0 := hm.below hb0
  have HG := Lib.hid (great_ s.q x.m w.heap.size _ hm0.m hb0.size hs)
  have HX0 := Lib.hid (CX.of hm0)
  have HSM := Lib.hid (show (Try.prog.info? 31).map (·.size) = some (s.q.cells x.m).length by rw [size_msg, cells_len hm.m.recent])
  have HST := Lib.hid (show (Try.prog.info? 33).map (·.size) = some (s.cells x).length by rw [tcells_len hm.m.recent]; exact size_tx9)
  have HCM := Lib.hid (tcells_m (s := s) (x := x))
  have c0 : (s.cells x)[0]? = some (.slice s.SA x.sigs.length s.sc) := by rw [hm.sigs.len]; rfl
  have HC0 := Lib.hid c0
  have HDT := Lib.hid (dat9_le x.m.ins)
  have HIT := Lib.hid (show x.m.ins.length + inSize x.m.ins ≤ total x.m by unfold total; omega)
  have HSM2 := Lib.hid hl
  have HXM := Lib.hid (CX.msg hm0)
  have HML := Lib.hid (built9_m (s.q.cells x.m) (cells_len hm.m.recent))
  generalize s.cells x = cs at *
  generalize s.q.cells x.m = mc at *
  generalize x.m.ins = l at *
  generalize x.sigs.length = ns at *
  have HROW := Lib.hid hrow
  have HB0 := Lib.hid hb0
  clear hrow hb0 hm0 c0 hl
  have H6 := Lib.hid h6
  have H45 := Lib.hid (And.intro h4 h5)
  have e16 : IntKind.i64.wrap wr = wr := IntWalk.i64_in _ (by omega)
  clear h6 hm hs h4 h5
  go_enter Try.func5, Try.ntmps5
  go_wp2_with ((with_reducible show wpList _ _ _ ({ dst := some 13, op := Op.load _ _, type := _, pos := _, after := _, guard := _ } :: _) _ _); go_must (refine wpList_load_at rfl 31 (.tmp 12) rfl ⟨w.heap.size, 1, none⟩ mc _ Try.underlying31 rfl HSM.out (fun j v hv => by rw [addr_row, HROW.out.cell, HCM.out]; exact hv) ?_ ?_; go_simp))
  refine HG.out.mono ?_
  rintro e w1 ⟨⟨b, rfl, hgr⟩, hb1⟩
  have B1 := Lib.hid (HB0.out.trans (hb1.mono HB0.out.size))
  have RX := Lib.hid (HROW.out.below hb1 HROW.out.lt)
  have e0 := (RX.out.cell 0).trans HC0.out
  have HX1 := Lib.hid (HX0.out.below (hb1.mono HB0.out.size))
  have HM1 := Lib.hid (HXM.out.below (hb1.mono HB0.out.size))
  cases b
  rotate_left
  · clear hb1 hgr e0
    go_wp2_with fail
    refine (lives9 _).mono ?_
    rintro e wl ⟨rfl, hbl⟩
    go_wp2_with fail
    go_ret
    exact ⟨rfl, B1.out.trans (hbl.mono B1.out.size)⟩
  have hgr := hgr rfl
  have hz := HSM2.out
  by_cases h : 300 < (ns : Int)
  · clear hb1
    go_wp2_with fail
    refine (lives9 _).mono ?_
    rintro e wl ⟨rfl, hbl⟩
    go_wp2_with fail
    go_ret
    exact ⟨rfl, B1.out.trans (hbl.mono B1.out.size)⟩
  have HN : Hid (ns ≤ 300 ∧ l.length ≤ 4000 ∧ dat9 l ≤ 4000) := Lib.hid (by have := HDT.out; have := HIT.out; omega)
  clear hb1 hgr
  obtain ⟨pa, pb, pc, pd⟩ := parts_alone (ns := ns) (d := dat9 l) (wr := wr) (u := u) (by have := HN.out; omega) HN.out.2.2 H45.out.1 (by have := H45.out; omega) H6.out
  have PN : Hid (cost9 ns (dat9 l) (-1 - wr) u = cost9 ns (dat9 l) 0 u) := Lib.hid (cost9_neg (by have := H45.out; omega))
  -- what each call answers
  have C0 : Hid (∀ V : World, Calls Try.prog 9 #[.agg (tzero.set 0 (.slice s.SA ns s.sc)).toArray, .int .i64 0, .int .u64 0] V fun e w' => e = .returned (.int .u64 (720 * (ns : Int))) ∧ Below V.heap.size V w') := Lib.hid fun V => by
    have := (CX.sigs (CX.zero V 0) s.SA ns s.sc).cost (Nat.zero_le _) (by have := HN.out; omega) (by simp) (by decide) 0 0 (by omega) (by omega) ⟨by decide, by decide⟩
    rwa [dat9_nil, pa] at this
  have C1 : Hid (∀ V : World, Below w1.heap.size w1 V → Calls Try.prog 9 #[.agg (.slice none 0 0 :: mc).toArray, .int .i64 0, .int .u64 0] V fun e w' => e = .returned (.int .u64 ((dat9 l : Int) / 4)) ∧ Below V.heap.size V w') := Lib.hid fun V hV => by
    have := (HM1.out.below (hV.mono B1.out.size)).cost (Nat.le_trans B1.out.size hV.size) (by omega) HN.out.2.1 HN.out.2.2 0 0 (by omega) (by omega) ⟨by decide, by decide⟩
    rwa [pb] at this
  have C2 : Hid (∀ V : World, Calls Try.prog 9 #[.agg tzero.toArray, .int .i64 wr, .int .u64 0] V fun e w' => e = .returned (.int .u64 (300 * wr)) ∧ Below V.heap.size V w') := Lib.hid fun V => by
    have := (CX.zero V 0).cost (Nat.zero_le _) (by omega) (by simp) (by decide) wr 0 (by have := H45.out; omega) (by have := H45.out; omega) ⟨by decide, by decide⟩
    rwa [dat9_nil, pc] at this
  have CA : Hid (∀ (V : World) (wq : Int), Below w1.heap.size w1 V → -9223372036854775808 ≤ wq → wq < 9223372036854775808 → Calls Try.prog 9 #[.agg cs.toArray, .int .i64 wq, .int .u64 u] V fun e w' => e = .returned (.int .u64 (cost9 ns (dat9 l) wq u)) ∧ Below V.heap.size V w') := Lib.hid fun V wq hV k1 k2 => (HX1.out.below (hV.mono B1.out.size)).cost (Nat.le_trans B1.out.size hV.size) (by have := HN.out; omega) HN.out.2.1 HN.out.2.2 wq u k1 k2 H6.out
  have PD := Lib.hid pd
  have HA : 0 ≤ 720 * (ns : Int) ∧ 720 * (ns : Int) ≤ 3000000 := by have := HN.out; omega
  have HB : 0 ≤ (dat9 l : Int) / 4 ∧ (dat9 l : Int) / 4 ≤ 1000 := by have := HN.out; omega
  have HC : 0 ≤ 300 * wr ∧ 300 * wr ≤ 30000000 := by have := H45.out; omega
  have HS0 := Lib.hid (built9_s s.SA ns s.sc)
  clear pa pb pc pd
  have HCC : Hid (∃ A B C : Int, 720 * (ns : Int) = A ∧ (dat9 l : Int) / 4 = B ∧ 300 * wr = C) := Lib.hid ⟨_, _, _, rfl, rfl, rfl⟩
  obtain ⟨A, B, C, hA, hB, hC⟩ := HCC.out
  rw [hA] at C0 PD HA
  rw [hB] at C1 PD HB
  rw [hC] at C2 PD HC
  clear hA hB hC HCC HX0 HXM HX1 HM1
  have ea : IntKind.u64.wrap (A + B) = A + B := by rw [IntKind.wrap_u64]; omega
  have eb : IntKind.u64.wrap (A + B + C) = A + B + C := by rw [IntKind.wrap_u64]; omega
  have ec : IntKind.u64.wrap (18446744073709551615 - (A + B + C)) = 18446744073709551615 - (A + B + C) := by rw [IntKind.wrap_u64]; omega
  obtain ⟨hA0, hA1⟩ := HA
  obtain ⟨hB0, hB1⟩ := HB
  obtain ⟨hC0, hC1⟩ := HC
  go_wp2_with ((with_reducible show wpList _ _ _ ({ dst := some 24, op := Op.build _ _, type := _, pos := _, after := _, guard := _ } :: _) _ _); go_must (refine BigFrame.wpList_want (by kernel_rfl) fun K hK => wp_built _ _ _ rfl (by simp only [List.map_toArray, List.map_cons, List.map_nil]; exact HS0.out) (hK _ _ ?_)))
  refine (C0.out _).mono ?_
  rintro e w2 ⟨rfl, hb2⟩
  have HV := Lib.hid hb2
  have RX2 := Lib.hid (RX.out.below hb2 RX.out.lt)
  clear hb2 e0 C0
  go_wp2_with (first
    | ((with_reducible show wpList _ _ _ ({ dst := some 27, op := Op.load _ _, type := _, pos := _, after := _, guard := _ } :: _) _ _); go_must (refine wpList_load_at rfl 31 (.tmp 26) rfl ⟨w.heap.size, 1, none⟩ mc _ Try.underlying31 rfl HSM.out (fun j v hv => by rw [addr_row, RX2.out.cell, HCM.out]; exact hv) ?_ ?_; go_simp))
    | ((with_reducible show wpList _ _ _ ({ dst := some 28, op := Op.build _ _, type := _, pos := _, after := _, guard := _ } :: _) _ _); go_must (refine BigFrame.wpList_want (by kernel_rfl) fun K hK => wp_built _ _ _ rfl (by simp only [List.map_toArray, List.map_cons, List.map_nil]; exact HML.out) (hK _ _ ?_))))
  refine (C1.out _ HV.out).mono ?_
  rintro e w3 ⟨rfl, hb3⟩
  have HV := Lib.hid (HV.out.trans (hb3.mono HV.out.size))
  clear hb3 C1 RX2
  go_wp2_with ((with_reducible show wpList _ _ _ ({ dst := some 30, op := Op.build _ _, type := _, pos := _, after := _, guard := _ } :: _) _ _); go_must (refine BigFrame.wpList_want (by kernel_rfl) fun K hK => wp_built _ _ _ rfl (by simp only [List.map_toArray, List.map_nil]; exact built9_0) (hK _ _ ?_)))
  refine (C2.out _).mono ?_
  rintro e w4 ⟨rfl, hb4⟩
  have HV := Lib.hid (HV.out.trans (hb4.mono HV.out.size))
  clear hb4 C2
  by_cases hu : u ≤ 18446744073709551615 - (A + B + C)
  · have PX : Hid (cost9 ns (dat9 l) wr u = A + B + C + u) := Lib.hid (by rw [PD.out, if_pos hu])
    have hx := H6.out.1
    have ed : IntKind.u64.wrap (A + B + C + u) = A + B + C + u := by rw [IntKind.wrap_u64]; omega
    go_upto_region 10 with fail
    have h16 := H45.out.1
    have h17 := H45.out.2
    have eg : IntKind.i64.wrap (-1 - wr) = -1 - wr := IntWalk.i64_in _ (by omega)
    have HV := Lib.hid HV.out.drew
    have CB := Lib.hid (fun V hV => CA.out V wr hV (by omega) (by omega))
    have CD := Lib.hid (fun V hV => CA.out V (-1 - wr) hV (by omega) (by omega))
    have CE := Lib.hid (fun V hV => CA.out V 0 hV (by omega) (by omega))
    rw [PX.out] at CB
    rw [PN.out] at CD
    clear CA PX PD PN h16 h17
    generalize cost9 ns (dat9 l) 0 u = cz at *
    clear hu hx
    generalize A + B + C + u = cw at *
    refine wp_region_held_drew (S := fun V => Below w1.heap.size w1 V) (by kernel_rfl) HV.out (fun _ => ?_)
    generalize w4.drew = V4 at *
    refine takeL (i := 0) (v := .agg cs.toArray) rfl (by kernel_rfl) (by kernel_rfl) (by kernel_rfl) (fun _ _ _ h => h) (Or.inl ⟨by rfl, fun wz hwz => exec_load_at wz 33 (.tmp 3) rfl ⟨w.heap.size, 0, none⟩ cs _ Try.underlying33 rfl HST.out (fun j u hu => (hwz.cell (p := (⟨w.heap.size, 0, none⟩ : Addr).add j) (by rw [addr_row]; exact RX.out.lt)).trans (by rw [addr_row, RX.out.cell]; simpa using hu)) (by go_simp)⟩) HV.out ?_
    try simp only [Act.put, List.setIfInBounds_toArray, List.set_cons_zero, List.set_cons_succ]
    refine takeL (i := 1) (v := ?_) rfl (by kernel_rfl) (by kernel_rfl) (by kernel_rfl) (fun _ _ _ h => h) (Or.inl ⟨by rfl, ?_⟩) HV.out ?_
    rotate_left
    · intro w hw
      try dsimp only at hw
      go_simp
      try with_reducible rfl
    try simp only [Act.put, List.setIfInBounds_toArray, List.set_cons_zero, List.set_cons_succ]
    refine takeL (i := 2) (v := ?_) rfl (by kernel_rfl) (by kernel_rfl) (by kernel_rfl) (fun _ _ _ h => h) (Or.inl ⟨by rfl, ?_⟩) HV.out ?_
    rotate_left
    · intro w hw
      try dsimp only at hw
      go_simp
      try with_reducible rfl
    try simp only [Act.put, List.setIfInBounds_toArray, List.set_cons_zero, List.set_cons_succ]
    refine takeL (i := 3) (v := ?_) rfl (by kernel_rfl) (by kernel_rfl) (by kernel_rfl) (fun _ _ _ h => h) (Or.inl ⟨by rfl, ?_⟩) HV.out ?_
    rotate_left
    · intro w hw
      try dsimp only at hw
      go_simp
      try with_reducible rfl
    try simp only [Act.put, List.setIfInBounds_toArray, List.set_cons_zero, List.set_cons_succ]
    refine takeL (i := 5) (v := ?_) rfl (by kernel_rfl) (by kernel_rfl) (by kernel_rfl) (fun _ _ _ h => h) (Or.inl ⟨by rfl, ?_⟩) HV.out ?_
    rotate_left
    · intro w hw
      try dsimp only at hw
      go_simp
      try with_reducible rfl
    try simp only [Act.put, List.setIfInBounds_toArray, List.set_cons_zero, List.set_cons_succ]
    refine readyL (i := 4) rfl (by kernel_rfl) (by kernel_rfl) fun K hK => ?_
    go_simp
    refine (CB.out V4 HV.out).mono ?_
    rintro e V5 ⟨rfl, hb⟩
    simp only []
    have HV := Lib.hid (HV.out.trans (hb.mono HV.out.size))
    clear hb
    refine hK.out _ _ HV.out ?_
    clear hK K
    try simp only [Act.put, List.setIfInBounds_toArray, List.set_cons_zero, List.set_cons_succ]
    refine takeL (i := 6) (v := .bool true) rfl (by kernel_rfl) (by kernel_rfl) (by kernel_rfl) (fun _ _ _ h => h) (Or.inl ⟨by kernel_rfl, fun wz hwz => by go_simp⟩) HV.out ?_
    try simp only [Act.put, List.setIfInBounds_toArray, List.set_cons_zero, List.set_cons_succ]
    refine takeL (i := 7) (v := ?_) rfl (by kernel_rfl) (by kernel_rfl) (by kernel_rfl) (fun _ _ _ h => h) (Or.inl ⟨by kernel_rfl, ?_⟩) HV.out ?_
    rotate_left
    · intro w hw
      try dsimp only at hw
      go_simp
      try with_reducible rfl
    try simp only [Act.put, List.setIfInBounds_toArray, List.set_cons_zero, List.set_cons_succ]
    refine takeL (i := 8) (v := .agg cs.toArray) rfl (by kernel_rfl) (by kernel_rfl) (by kernel_rfl) (fun _ _ _ h => h) (Or.inl ⟨by kernel_rfl, fun wz hwz => exec_load_at wz 33 (.tmp 3) rfl ⟨w.heap.size, 0, none⟩ cs _ Try.underlying33 rfl HST.out (fun j u hu => (hwz.cell (p := (⟨w.heap.size, 0, none⟩ : Addr).add j) (by rw [addr_row]; exact RX.out.lt)).trans (by rw [addr_row, RX.out.cell]; simpa using hu)) (by go_simp)⟩) HV.out ?_
    try simp only [Act.put, List.setIfInBounds_toArray, List.set_cons_zero, List.set_cons_succ]
    refine takeL (i := 9) (v := ?_) rfl (by kernel_rfl) (by kernel_rfl) (by kernel_rfl) (fun _ _ _ h => h) (Or.inl ⟨by kernel_rfl, ?_⟩) HV.out ?_
    rotate_left
    · intro w hw
      try dsimp only at hw
      go_simp
      try with_reducible rfl
    try simp only [Act.put, List.setIfInBounds_toArray, List.set_cons_zero, List.set_cons_succ]
    refine takeL (i := 10) (v := ?_) rfl (by kernel_rfl) (by kernel_rfl) (by kernel_rfl) (fun _ _ _ h => h) (Or.inl ⟨by kernel_rfl, ?_⟩) HV.out ?_
    rotate_left
    · intro w hw
      try dsimp only at hw
      go_simp
      try with_reducible rfl
    try simp only [Act.put, List.setIfInBounds_toArray, List.set_cons_zero, List.set_cons_succ]
    refine takeL (i := 11) (v := ?_) rfl (by kernel_rfl) (by kernel_rfl) (by kernel_rfl) (fun _ _ _ h => h) (Or.inl ⟨by kernel_rfl, ?_⟩) HV.out ?_
    rotate_left
    · intro w hw
      try dsimp only at hw
      go_simp
      try with_reducible rfl
    try simp only [Act.put, List.setIfInBounds_toArray, List.set_cons_zero, List.set_cons_succ]
    refine takeL (i := 12) (v := ?_) rfl (by kernel_rfl) (by kernel_rfl) (by kernel_rfl) (fun _ _ _ h => h) (Or.inl ⟨by kernel_rfl, ?_⟩) HV.out ?_
    rotate_left
    · intro w hw
      try dsimp only at hw
      go_simp
      try with_reducible rfl
    try simp only [Act.put, List.setIfInBounds_toArray, List.set_cons_zero, List.set_cons_succ]
    refine takeL (i := 14) (v := .agg cs.toArray) rfl (by kernel_rfl) (by kernel_rfl) (by kernel_rfl) (fun _ _ _ h => h) (Or.inl ⟨by kernel_rfl, fun wz hwz => exec_load_at wz 33 (.tmp 3) rfl ⟨w.heap.size, 0, none⟩ cs _ Try.underlying33 rfl HST.out (fun j u hu => (hwz.cell (p := (⟨w.heap.size, 0, none⟩ : Addr).add j) (by rw [addr_row]; exact RX.out.lt)).trans (by rw [addr_row, RX.out.cell]; simpa using hu)) (by go_simp)⟩) HV.out ?_
    try simp only [Act.put, List.setIfInBounds_toArray, List.set_cons_zero, List.set_cons_succ]
    refine takeL (i := 15) (v := ?_) rfl (by kernel_rfl) (by kernel_rfl) (by kernel_rfl) (fun _ _ _ h => h) (Or.inl ⟨by kernel_rfl, ?_⟩) HV.out ?_
    rotate_left
    · intro w hw
      try dsimp only at hw
      go_simp
      try with_reducible rfl
    try simp only [Act.put, List.setIfInBounds_toArray, List.set_cons_zero, List.set_cons_succ]
    refine readyL (i := 13) rfl (by kernel_rfl) (by kernel_rfl) fun K hK => ?_
    go_simp
    refine (CD.out V5 HV.out).mono ?_
    rintro e V6 ⟨rfl, hb⟩
    simp only []
    have HV := Lib.hid (HV.out.trans (hb.mono HV.out.size))
    clear hb
    refine hK.out _ _ HV.out ?_
    clear hK K
    try simp only [Act.put, List.setIfInBounds_toArray, List.set_cons_zero, List.set_cons_succ]
    refine readyL (i := 16) rfl (by kernel_rfl) (by kernel_rfl) fun K hK => ?_
    go_simp
    refine (CE.out V6 HV.out).mono ?_
    rintro e V7 ⟨rfl, hb⟩
    simp only []
    have HV := Lib.hid (HV.out.trans (hb.mono HV.out.size))
    clear hb
    refine hK.out _ _ HV.out ?_
    clear hK K
    try simp only [Act.put, List.setIfInBounds_toArray, List.set_cons_zero, List.set_cons_succ]
    refine takeL (i := 17) (v := .bool true) rfl (by kernel_rfl) (by kernel_rfl) (by kernel_rfl) (fun _ _ _ h => h) (Or.inl ⟨by kernel_rfl, fun wz hwz => by go_simp⟩) HV.out ?_
    try simp only [Act.put, List.setIfInBounds_toArray, List.set_cons_zero, List.set_cons_succ]
    refine takeL (i := 18) (v := .bool true) rfl (by kernel_rfl) (by kernel_rfl) (by kernel_rfl) (fun _ _ _ h => h) (Or.inl ⟨by kernel_rfl, fun wz hwz => by go_simp⟩) HV.out ?_
    try simp only [Act.put, List.setIfInBounds_toArray, List.set_cons_zero, List.set_cons_succ]
    refine takeL (i := 19) (v := ?_) rfl (by kernel_rfl) (by kernel_rfl) (by kernel_rfl) (fun _ _ _ h => h) (Or.inl ⟨by kernel_rfl, ?_⟩) HV.out ?_
    rotate_left
    · intro w hw
      try dsimp only at hw
      go_simp
      try with_reducible rfl
    try simp only [Act.put, List.setIfInBounds_toArray, List.set_cons_zero, List.set_cons_succ]
    refine readyL (i := 20) rfl (by kernel_rfl) (by kernel_rfl) fun K hK => ?_
    go_simp
    refine (lives9 V7).mono ?_
    rintro e V8 ⟨rfl, hb⟩
    simp only []
    have HV := Lib.hid (HV.out.trans (hb.mono HV.out.size))
    clear hb
    refine hK.out _ _ HV.out ?_
    clear hK K
    try simp only [Act.put, List.setIfInBounds_toArray, List.set_cons_zero, List.set_cons_succ]
    refine takeL (i := 21) (v := .bool true) rfl (by kernel_rfl) (by kernel_rfl) (by kernel_rfl) (fun _ _ _ h => h) (Or.inl ⟨by kernel_rfl, fun wz hwz => by go_simp⟩) HV.out ?_
    try simp only [Act.put, List.setIfInBounds_toArray, List.set_cons_zero, List.set_cons_succ]
    refine takeL (i := 22) (v := ?_) rfl (by kernel_rfl) (by kernel_rfl) (by kernel_rfl) (fun _ _ _ h => h) (Or.inl ⟨by kernel_rfl, ?_⟩) HV.out ?_
    rotate_left
    · intro w hw
      try dsimp only at hw
      go_simp
      try with_reducible rfl
    try simp only [Act.put, List.setIfInBounds_toArray, List.set_cons_zero, List.set_cons_succ]
    refine wpAnyH_done (by kernel_rfl) ?_ _
    go_wp2_with fail
    go_ret
    exact ⟨rfl, B1.out.trans (HV.out.mono B1.out.size)⟩
  · have PX : Hid (cost9 ns (dat9 l) wr u = 18446744073709551615) := Lib.hid (by rw [PD.out, if_neg hu])
    go_upto_region 10 with fail
    have h16 := H45.out.1
    have h17 := H45.out.2
    have eg : IntKind.i64.wrap (-1 - wr) = -1 - wr := IntWalk.i64_in _ (by omega)
    have HV := Lib.hid HV.out.drew
    have CB := Lib.hid (fun V hV => CA.out V wr hV (by omega) (by omega))
    have CD := Lib.hid (fun V hV => CA.out V (-1 - wr) hV (by omega) (by omega))
    have CE := Lib.hid (fun V hV => CA.out V 0 hV (by omega) (by omega))
    rw [PX.out] at CB
    rw [PN.out] at CD
    clear CA PX PD PN h16 h17
    generalize cost9 ns (dat9 l) 0 u = cz at *
    refine wp_region_held_drew (S := fun V => Below w1.heap.size w1 V) (by kernel_rfl) HV.out (fun _ => ?_)
    generalize w4.drew = V4 at *
    refine takeL (i := 0) (v := .agg cs.toArray) rfl (by kernel_rfl) (by kernel_rfl) (by kernel_rfl) (fun _ _ _ h => h) (Or.inl ⟨by rfl, fun wz hwz => exec_load_at wz 33 (.tmp 3) rfl ⟨w.heap.size, 0, none⟩ cs _ Try.underlying33 rfl HST.out (fun j u hu => (hwz.cell (p := (⟨w.heap.size, 0, none⟩ : Addr).add j) (by rw [addr_row]; exact RX.out.lt)).trans (by rw [addr_row, RX.out.cell]; simpa using hu)) (by go_simp)⟩) HV.out ?_
    try simp only [Act.put, List.setIfInBounds_toArray, List.set_cons_zero, List.set_cons_succ]
    refine takeL (i := 1) (v := ?_) rfl (by kernel_rfl) (by kernel_rfl) (by kernel_rfl) (fun _ _ _ h => h) (Or.inl ⟨by rfl, ?_⟩) HV.out ?_
    rotate_left
    · intro w hw
      try dsimp only at hw
      go_simp
      try with_reducible rfl
    try simp only [Act.put, List.setIfInBounds_toArray, List.set_cons_zero, List.set_cons_succ]
    refine takeL (i := 2) (v := ?_) rfl (by kernel_rfl) (by kernel_rfl) (by kernel_rfl) (fun _ _ _ h => h) (Or.inl ⟨by rfl, ?_⟩) HV.out ?_
    rotate_left
    · intro w hw
      try dsimp only at hw
      go_simp
      try with_reducible rfl
    try simp only [Act.put, List.setIfInBounds_toArray, List.set_cons_zero, List.set_cons_succ]
    refine takeL (i := 3) (v := ?_) rfl (by kernel_rfl) (by kernel_rfl) (by kernel_rfl) (fun _ _ _ h => h) (Or.inl ⟨by rfl, ?_⟩) HV.out ?_
    rotate_left
    · intro w hw
      try dsimp only at hw
      go_simp
      try with_reducible rfl
    try simp only [Act.put, List.setIfInBounds_toArray, List.set_cons_zero, List.set_cons_succ]
    refine takeL (i := 5) (v := ?_) rfl (by kernel_rfl) (by kernel_rfl) (by kernel_rfl) (fun _ _ _ h => h) (Or.inl ⟨by rfl, ?_⟩) HV.out ?_
    rotate_left
    · intro w hw
      try dsimp only at hw
      go_simp
      try with_reducible rfl
    try simp only [Act.put, List.setIfInBounds_toArray, List.set_cons_zero, List.set_cons_succ]
    refine readyL (i := 4) rfl (by kernel_rfl) (by kernel_rfl) fun K hK => ?_
    go_simp
    refine (CB.out V4 HV.out).mono ?_
    rintro e V5 ⟨rfl, hb⟩
    simp only []
    have HV := Lib.hid (HV.out.trans (hb.mono HV.out.size))
    clear hb
    refine hK.out _ _ HV.out ?_
    clear hK K
    try simp only [Act.put, List.setIfInBounds_toArray, List.set_cons_zero, List.set_cons_succ]
    refine takeL (i := 6) (v := .bool true) rfl (by kernel_rfl) (by kernel_rfl) (by kernel_rfl) (fun _ _ _ h => h) (Or.inl ⟨by kernel_rfl, fun wz hwz => by go_simp⟩) HV.out ?_
    try simp only [Act.put, List.setIfInBounds_toArray, List.set_cons_zero, List.set_cons_succ]
    refine takeL (i := 7) (v := ?_) rfl (by kernel_rfl) (by kernel_rfl) (by kernel_rfl) (fun _ _ _ h => h) (Or.inl ⟨by kernel_rfl, ?_⟩) HV.out ?_
    rotate_left
    · intro w hw
      try dsimp only at hw
      go_simp
      try with_reducible rfl
    try simp only [Act.put, List.setIfInBounds_toArray, List.set_cons_zero, List.set_cons_succ]
    refine takeL (i := 8) (v := .agg cs.toArray) rfl (by kernel_rfl) (by kernel_rfl) (by kernel_rfl) (fun _ _ _ h => h) (Or.inl ⟨by kernel_rfl, fun wz hwz => exec_load_at wz 33 (.tmp 3) rfl ⟨w.heap.size, 0, none⟩ cs _ Try.underlying33 rfl HST.out (fun j u hu => (hwz.cell (p := (⟨w.heap.size, 0, none⟩ : Addr).add j) (by rw [addr_row]; exact RX.out.lt)).trans (by rw [addr_row, RX.out.cell]; simpa using hu)) (by go_simp)⟩) HV.out ?_
    try simp only [Act.put, List.setIfInBounds_toArray, List.set_cons_zero, List.set_cons_succ]
    refine takeL (i := 9) (v := ?_) rfl (by kernel_rfl) (by kernel_rfl) (by kernel_rfl) (fun _ _ _ h => h) (Or.inl ⟨by kernel_rfl, ?_⟩) HV.out ?_
    rotate_left
    · intro w hw
      try dsimp only at hw
      go_simp
      try with_reducible rfl
    try simp only [Act.put, List.setIfInBounds_toArray, List.set_cons_zero, List.set_cons_succ]
    refine takeL (i := 10) (v := ?_) rfl (by kernel_rfl) (by kernel_rfl) (by kernel_rfl) (fun _ _ _ h => h) (Or.inl ⟨by kernel_rfl, ?_⟩) HV.out ?_
    rotate_left
    · intro w hw
      try dsimp only at hw
      go_simp
      try with_reducible rfl
    try simp only [Act.put, List.setIfInBounds_toArray, List.set_cons_zero, List.set_cons_succ]
    refine takeL (i := 11) (v := ?_) rfl (by kernel_rfl) (by kernel_rfl) (by kernel_rfl) (fun _ _ _ h => h) (Or.inl ⟨by kernel_rfl, ?_⟩) HV.out ?_
    rotate_left
    · intro w hw
      try dsimp only at hw
      go_simp
      try with_reducible rfl
    try simp only [Act.put, List.setIfInBounds_toArray, List.set_cons_zero, List.set_cons_succ]
    refine takeL (i := 12) (v := ?_) rfl (by kernel_rfl) (by kernel_rfl) (by kernel_rfl) (fun _ _ _ h => h) (Or.inl ⟨by kernel_rfl, ?_⟩) HV.out ?_
    rotate_left
    · intro w hw
      try dsimp only at hw
      go_simp
      try with_reducible rfl
    try simp only [Act.put, List.setIfInBounds_toArray, List.set_cons_zero, List.set_cons_succ]
    refine takeL (i := 14) (v := .agg cs.toArray) rfl (by kernel_rfl) (by kernel_rfl) (by kernel_rfl) (fun _ _ _ h => h) (Or.inl ⟨by kernel_rfl, fun wz hwz => exec_load_at wz 33 (.tmp 3) rfl ⟨w.heap.size, 0, none⟩ cs _ Try.underlying33 rfl HST.out (fun j u hu => (hwz.cell (p := (⟨w.heap.size, 0, none⟩ : Addr).add j) (by rw [addr_row]; exact RX.out.lt)).trans (by rw [addr_row, RX.out.cell]; simpa using hu)) (by go_simp)⟩) HV.out ?_
    try simp only [Act.put, List.setIfInBounds_toArray, List.set_cons_zero, List.set_cons_succ]
    refine takeL (i := 15) (v := ?_) rfl (by kernel_rfl) (by kernel_rfl) (by kernel_rfl) (fun _ _ _ h => h) (Or.inl ⟨by kernel_rfl, ?_⟩) HV.out ?_
    rotate_left
    · intro w hw
      try dsimp only at hw
      go_simp
      try with_reducible rfl
    try simp only [Act.put, List.setIfInBounds_toArray, List.set_cons_zero, List.set_cons_succ]
    refine readyL (i := 13) rfl (by kernel_rfl) (by kernel_rfl) fun K hK => ?_
    go_simp
    refine (CD.out V5 HV.out).mono ?_
    rintro e V6 ⟨rfl, hb⟩
    simp only []
    have HV := Lib.hid (HV.out.trans (hb.mono HV.out.size))
    clear hb
    refine hK.out _ _ HV.out ?_
    clear hK K
    try simp only [Act.put, List.setIfInBounds_toArray, List.set_cons_zero, List.set_cons_succ]
    refine readyL (i := 16) rfl (by kernel_rfl) (by kernel_rfl) fun K hK => ?_
    go_simp
    refine (CE.out V6 HV.out).mono ?_
    rintro e V7 ⟨rfl, hb⟩
    simp only []
    have HV := Lib.hid (HV.out.trans (hb.mono HV.out.size))
    clear hb
    refine hK.out _ _ HV.out ?_
    clear hK K
    try simp only [Act.put, List.setIfInBounds_toArray, List.set_cons_zero, List.set_cons_succ]
    refine takeL (i := 17) (v := .bool true) rfl (by kernel_rfl) (by kernel_rfl) (by kernel_rfl) (fun _ _ _ h => h) (Or.inl ⟨by kernel_rfl, fun wz hwz => by go_simp⟩) HV.out ?_
    try simp only [Act.put, List.setIfInBounds_toArray, List.set_cons_zero, List.set_cons_succ]
    refine takeL (i := 18) (v := .bool true) rfl (by kernel_rfl) (by kernel_rfl) (by kernel_rfl) (fun _ _ _ h => h) (Or.inl ⟨by kernel_rfl, fun wz hwz => by go_simp⟩) HV.out ?_
    try simp only [Act.put, List.setIfInBounds_toArray, List.set_cons_zero, List.set_cons_succ]
    refine takeL (i := 19) (v := ?_) rfl (by kernel_rfl) (by kernel_rfl) (by kernel_rfl) (fun _ _ _ h => h) (Or.inl ⟨by kernel_rfl, ?_⟩) HV.out ?_
    rotate_left
    · intro w hw
      try dsimp only at hw
      go_simp
      try with_reducible rfl
    try simp only [Act.put, List.setIfInBounds_toArray, List.set_cons_zero, List.set_cons_succ]
    refine readyL (i := 20) rfl (by kernel_rfl) (by kernel_rfl) fun K hK => ?_
    go_simp
    refine (lives9 V7).mono ?_
    rintro e V8 ⟨rfl, hb⟩
    simp only []
    have HV := Lib.hid (HV.out.trans (hb.mono HV.out.size))
    clear hb
    refine hK.out _ _ HV.out ?_
    clear hK K
    try simp only [Act.put, List.setIfInBounds_toArray, List.set_cons_zero, List.set_cons_succ]
    refine takeL (i := 21) (v := .bool true) rfl (by kernel_rfl) (by kernel_rfl) (by kernel_rfl) (fun _ _ _ h => h) (Or.inl ⟨by kernel_rfl, fun wz hwz => by go_simp⟩) HV.out ?_
    try simp only [Act.put, List.setIfInBounds_toArray, List.set_cons_zero, List.set_cons_succ]
    refine takeL (i := 22) (v := ?_) rfl (by kernel_rfl) (by kernel_rfl) (by kernel_rfl) (fun _ _ _ h => h) (Or.inl ⟨by kernel_rfl, ?_⟩) HV.out ?_
    rotate_left
    · intro w hw
      try dsimp only at hw
      go_simp
      try with_reducible rfl
    try simp only [Act.put, List.setIfInBounds_toArray, List.set_cons_zero, List.set_cons_succ]
    refine wpAnyH_done (by kernel_rfl) ?_ _
    go_wp2_with fail
    go_ret
    exact ⟨rfl, B1.out.trans (HV.out.mono B1.out.size)⟩
end Go.Proofs.Ytmpgibemmhcncaa

/-
  Of part MoreWalk9: what is needed here.
-/
namespace Go.Proofs.Ytmpgibemmhcncaa
open Go.RowKit
set_option linter.unusedVariables false
theorem built9_sig : Try.prog.built 41 [] = some (bv (List.replicate 64 0)).toArray := by kernel_rfl
theorem one9 (A : Option Addr) (n c : Nat) : ∀ u ∈ inCells 0 (.slice none 0 0) (.slice A n c), u.oneCell' = true := by
  intro u hu
  simp only [inCells, List.mem_cons, List.not_mem_nil, or_false] at hu
  rcases hu with rfl | rfl | rfl <;> rfl
/-- an own row does not lie in a block of another type -/
theorem own_no9 {w : World} {base n size g : Nat} {e t : TypeId} {v : Value} {xs ys : List Value} (h : w.ownsRow base e size v n xs) (hr : Row w g t ys) (hne : e ≠ t) : v.ownBlock ≠ some g := fun hk => by
  obtain ⟨cur, hc⟩ := own_is h hk
  rw [hr.is] at hc
  injection (Option.some.inj hc) with _ h3 _
  exact hne h3.symm
def new9 : LIn := ⟨0, [], [1, 2, 3, 4]⟩
theorem dat9_new (l : List LIn) : dat9 (l ++ [new9]) = dat9 l + 4 := by rw [dat9_app]; rfl
set_option maxRecDepth 100000 in
set_option maxHeartbeats 8000000 in
theorem more_walk9 (s : TRaw) (x : LTx) (wr u : Int) (w : World) (hm : TxIn w w.heap.size s x) (hs : Sized x.m) (hl : x.sigs.length ≤ 140737488355328) (h4 : 0 ≤ wr) (h5 : wr < 65536) (h6 : Word u) :
    Calls Try.prog 4 #[.agg (s.cells x).toArray, .int .u16 wr, .int .u64 u] w fun e w' => e = .returned (.bool true) ∧ Below w.heap.size w w' := by
  have hrow := Row.new w 33 (s.cells x)
  have hb0 := (Below.refl w.heap.size w).alloc (Nat.le_refl _) (.cells (s.cells x).toArray 33)
  have hm0 := hm.below hb0
  have HG := Lib.hid (great_ s.q x.m w.heap.size _ hm0.m hb0.size hs)
  have HX0 := Lib.hid (CX.of hm0)
  have HSM := Lib.hid (show (Try.prog.info? 31).map (·.size) = some (s.q.cells x.m).length by rw [size_msg, cells_len hm.m.recent])
  have HST := Lib.hid (show (Try.prog.info? 33).map (·.size) = some (s.cells x).length by rw [tcells_len hm.m.recent]; exact size_tx9)
  have HCM := Lib.hid (tcells_m (s := s) (x := x))
  have c0 : (s.cells x)[0]? = some (.slice s.SA x.sigs.length s.sc) := by rw [hm.sigs.len]; rfl
  have HC0 := Lib.hid c0
  have HDT := Lib.hid (dat9_le x.m.ins)
  have HIT := Lib.hid (show x.m.ins.length + inSize x.m.ins ≤ total x.m by unfold total; omega)
  have HSM2 := Lib.hid hl
  have h38 : (s.cells x)[38]? = some (.slice s.q.IA s.q.n s.q.ic) := (tcells_m 37).trans (cells_37 hm.m.recent)
  have hgen := fun (V : World) (h : TxIn V w.heap.size s x) => CX.of h
  generalize s.cells x = cs at *
  generalize s.q.cells x.m = mc at *
  have HM0 := Lib.hid hm0
  have HGEN := Lib.hid hgen
  clear hgen
  generalize hgl : x.m.ins = l at *
  generalize hgn : x.sigs.length = ns at *
  have HSGL := Lib.hid (And.intro (hm.sigs.len.symm.trans hgn) (hm.m.ins.len.symm.trans (congrArg List.length hgl)))
  have HGL := Lib.hid hgl
  have HROW := Lib.hid hrow
  have HB0 := Lib.hid hb0
  clear hrow hb0 hm0 c0 hl
  have HC38 : Hid (cs[38]? = some (.slice s.q.IA s.q.n s.q.ic)) := Lib.hid h38
  clear h38
  have H6 := Lib.hid h6
  have H45 := Lib.hid (And.intro h4 h5)
  have e16 : IntKind.i64.wrap wr = wr := IntWalk.i64_in _ (by omega)
  clear h6 hm hs h4 h5 hgl hgn
  go_enter Try.func4, Try.ntmps4
  go_wp2_with ((with_reducible show wpList _ _ _ ({ dst := some 12, op := Op.load _ _, type := _, pos := _, after := _, guard := _ } :: _) _ _); go_must (refine wpList_load_at rfl 31 (.tmp 11) rfl ⟨w.heap.size, 1, none⟩ mc _ Try.underlying31 rfl HSM.out (fun j v hv => by rw [addr_row, HROW.out.cell, HCM.out]; exact hv) ?_ ?_; go_simp))
  refine HG.out.mono ?_
  rintro e w1 ⟨⟨b, rfl, hgr⟩, hb1⟩
  have B1 := Lib.hid (HB0.out.trans (hb1.mono HB0.out.size))
  have RX := Lib.hid (HROW.out.below hb1 HROW.out.lt)
  have e0 := (RX.out.cell 0).trans HC0.out
  have HX1 := Lib.hid (HX0.out.below (hb1.mono HB0.out.size))
  have HM1 := Lib.hid (HM0.out.below (hb1.mono HB0.out.size))
  cases b
  rotate_left
  · clear hb1 hgr e0
    go_wp2_with fail
    refine (lives9 _).mono ?_
    rintro e wl ⟨rfl, hbl⟩
    go_wp2_with fail
    go_ret
    exact ⟨rfl, B1.out.trans (hbl.mono B1.out.size)⟩
  have hgr := hgr rfl
  have hz := HSM2.out
  by_cases h : 300 < (ns : Int)
  · clear hb1
    go_wp2_with fail
    refine (lives9 _).mono ?_
    rintro e wl ⟨rfl, hbl⟩
    go_wp2_with fail
    go_ret
    exact ⟨rfl, B1.out.trans (hbl.mono B1.out.size)⟩
  have HN : Hid (ns ≤ 300 ∧ l.length ≤ 3000 ∧ dat9 l ≤ 3000) := Lib.hid (by have := HDT.out; have := HIT.out; omega)
  clear hb1 hgr HG HX0 HM0 HROW HB0 HSM HCM HDT HIT
  have MORE := Lib.hid (cost_more (ns := ns) (d := dat9 l) (wr := wr) (u := u) (by have := HN.out; omega) HN.out.2.2 H45.out.1 (by have := H45.out; omega) H6.out)
  have CX1 := Lib.hid (HX1.out.cost B1.out.size (by have := HN.out; omega) (by have := HN.out; omega) (by have := HN.out; omega) wr u (by have := H45.out; omega) (by have := H45.out; omega) H6.out)
  have HTL := Lib.hid HX1.out.len
  have HTO := Lib.hid HX1.out.one
  obtain ⟨cc, hcc⟩ : ∃ cc, cost9 ns (dat9 l) wr u = cc := ⟨_, rfl⟩
  rw [hcc] at MORE CX1
  clear hcc
  go_wp2_with ((with_reducible show wpList _ _ _ ({ dst := some 23, op := Op.load _ _, type := _, pos := _, after := _, guard := _ } :: _) _ _); go_must (refine wpList_load_whole rfl 33 (.tmp 3) rfl w.heap.size 33 cs _ Try.underlying33 rfl HST.out RX.out ?_ ?_; go_simp))
  refine CX1.out.mono ?_
  rintro e w2 ⟨rfl, hb2⟩
  have B2 := Lib.hid (B1.out.trans (hb2.mono B1.out.size))
  have RX2 := Lib.hid (RX.out.below hb2 RX.out.lt)
  have M2 := Lib.hid (HM1.out.below (hb2.mono B1.out.size))
  clear hb2 CX1 RX HM1 e0 h hz
  obtain ⟨gy, hgy⟩ : ∃ gy, gy = w2.heap.size := ⟨_, rfl⟩
  go_upto_region 6 with (first
    | ((with_reducible show wpList _ _ _ ({ dst := some 27, op := Op.load _ _, type := _, pos := _, after := _, guard := _ } :: _) _ _); go_must (refine wpList_load_whole rfl 33 (.tmp 3) rfl w.heap.size 33 cs _ Try.underlying33 rfl HST.out RX2.out ?_ ?_; go_simp))
    | ((with_reducible show wpList _ _ _ ({ dst := none, op := Op.store 33 _ _, type := _, pos := _, after := _, guard := _ } :: _) _ _); go_must (refine wpList_store_new rfl 33 (.tmp 9) (.tmp 27) rfl cs HST.out HTO.out (by rw [HTL.out]; rfl) ?_ ?_ ?_; go_simp; go_simp; intro w3 hr3 hb3 hz3)))
  rw [← hgy] at hr3 hb3 ⊢
  have RY := Lib.hid hr3
  have RX3 := Lib.hid (RX2.out.below hb3 (by rw [hgy]; exact RX2.out.lt))
  have B3 : Hid (Below w.heap.size w w3) := Lib.hid (B2.out.trans (hb3.mono (by rw [hgy]; exact B2.out.size)))
  have GX3 : Hid (w.heap.size < gy) := Lib.hid (by rw [hgy]; exact RX2.out.lt)
  have GY : Hid (w.heap.size ≤ gy) := Lib.hid (by rw [hgy]; exact B2.out.size)
  have M3 := Lib.hid (M2.out.below (hb3.mono GY.out))
  clear hr3 hb3 hz3 hgy RX2 B2 M2
  have d0 := (RX3.out.cell 0).trans HC0.out
  have hnl := HN.out
  rw [← HSGL.out.2] at hnl
  go_upto_region 7 with (first
    | ((with_reducible show wpList _ _ _ ({ dst := some 30, op := _, type := _, pos := _, after := _, guard := _ } :: _) _ _); go_must (refine wpList_appendN rfl (.const (.slice none 0 0)) (.tmp 29) 22 41 _ 64 64 rfl Try.underlying22 info_sig (by kernel_rfl) (by omega) (.slice none 0 0) 0 [] w3.heap.size w.heap.size s.SA ns s.sc (bv x.sigs.flatten) rfl (own_nilN _ _ _ _) ?_ (by have := M3.out.sigs.sees; rw [HSGL.out.1] at this; exact this) (bv_one _) (by unfold maxLen; omega) (by omega) (Nat.le_refl _) ?_; go_simp; intro v1 u1 ho1 hg1; rw [Nat.zero_add, List.nil_append] at ho1; obtain ⟨A1, c1, rfl, _, _, _, hlt1⟩ := own_form2 ho1; have hb1 : Below w3.heap.size w3 u1 := (Below.refl w3.heap.size w3).grown hg1.grown (Nat.le_refl _) (fun k hk => by cases hk); have RB := Lib.hid (Row.new u1 41 (bv (List.replicate 64 0))); have OA := Lib.hid (ho1.alloc (.cells (bv (List.replicate 64 0)).toArray 41)); have BUA : Hid (Below w3.heap.size w3 (u1.alloc (.cells (bv (List.replicate 64 0)).toArray 41))) := Lib.hid (hb1.alloc hb1.size _); clear ho1 hg1 hlt1 hb1))
    | ((with_reducible show wpList _ _ _ ({ dst := some 31, op := Op.build _ _, type := _, pos := _, after := _, guard := _ } :: _) _ _); go_must (refine BigFrame.wpList_want (by kernel_rfl) fun K hK => wp_built _ _ _ rfl (by simp only [List.map_toArray, List.map_nil]; exact built9_sig) (hK _ _ ?_)))
    | ((with_reducible show wpList _ _ _ ({ dst := some 32, op := _, type := _, pos := _, after := _, guard := _ } :: _) _ _); go_must (refine wpList_buildOne rfl 22 41 (.tmp 31) rfl (bv (List.replicate 64 0)) _ 64 64 Try.underlying22 info_sig (by kernel_rfl) (by omega) (by omega) (by rfl) ?_ ?_; go_simp))
    | ((with_reducible show wpList _ _ _ ({ dst := some 33, op := _, type := _, pos := _, after := _, guard := _ } :: _) _ _); go_must (refine wpList_appendN rfl (.tmp 30) (.tmp 32) 22 41 _ 64 64 rfl Try.underlying22 info_sig (by kernel_rfl) (by omega) (.slice A1 ns c1) ns (bv x.sigs.flatten) w3.heap.size _ (some ⟨u1.heap.size, 0, none⟩) 1 1 (bv (List.replicate 64 0)) ?_ OA.out ?_ RB.out.sees0 (bv_one _) (by unfold maxLen; omega) (by omega) BUA.out.size ?_; go_simp; go_simp; intro v2 u3 ho3 hg3; obtain ⟨A2, c2, rfl, _, _, _, _⟩ := own_form2 ho3; have hne : ∀ g, (Value.slice A1 ns c1).ownBlock = some g → w3.heap.size ≤ g := fun g hg => (OA.out.lt g hg).1; have hb3 : Below w3.heap.size w3 u3 := BUA.out.grown hg3.grown BUA.out.size (fun k hk => hne k hk); have BU3 := Lib.hid hb3; have RY3 := Lib.hid (RY.out.below hb3 RY.out.lt); have cy0 := (RY3.out.cell 0).trans HC0.out; have fy0 := RY3.out.frozen 0; clear ho3 hg3 hne hb3)))
  obtain ⟨w4, h4⟩ : ∃ w4, w4 = u3.setCell ⟨gy, 0, none⟩ (.slice A2 (ns + 1) c2) := ⟨_, rfl⟩
  have ht := turned_setCell u3 ⟨gy, 0, none⟩ (.slice A2 (ns + 1) c2)
  have hy := RY3.out.set_ 0 (.slice A2 (ns + 1) c2)
  rw [← h4] at ht hy ⊢
  have RY4 := Lib.hid hy
  have hb4 : Below gy w3 w4 := (BU3.out.mono (Nat.le_of_lt RY.out.lt)).trans (ht.below (Nat.le_refl _))
  have RX4 := Lib.hid ((RX3.out.below BU3.out RX3.out.lt).below (ht.below (Nat.le_refl _)) (by have := RX3.out.lt; have := GX3.out; omega))
  have B4 : Hid (Below w.heap.size w w4) := Lib.hid (B3.out.trans (hb4.mono GY.out))
  have M4 := Lib.hid (M3.out.below (hb4.mono GY.out))
  clear h4 ht hy hb4 RY RY3 RX3 B3 M3 BU3 BUA OA RB cy0 fy0 d0
  obtain ⟨gz, hgz⟩ : ∃ gz, gz = w4.heap.size := ⟨_, rfl⟩
  obtain ⟨ys, hys⟩ : ∃ ys, ys = cs.set 0 (.slice A2 (ns + 1) c2) := ⟨_, rfl⟩
  rw [← hys] at RY4
  have HYS := Lib.hid hys
  clear hys
  go_upto_region 8 with (first
    | ((with_reducible show wpList _ _ _ ({ dst := some 35, op := Op.load _ _, type := _, pos := _, after := _, guard := _ } :: _) _ _); go_must (refine wpList_load_whole rfl 33 (.tmp 3) rfl w.heap.size 33 cs _ Try.underlying33 rfl HST.out RX4.out ?_ ?_; go_simp))
    | ((with_reducible show wpList _ _ _ ({ dst := none, op := Op.store 33 _ _, type := _, pos := _, after := _, guard := _ } :: _) _ _); go_must (refine wpList_store_new rfl 33 (.tmp 10) (.tmp 35) rfl cs HST.out HTO.out (by rw [HTL.out]; rfl) ?_ ?_ ?_; go_simp; go_simp; intro w5 hr5 hb5 hz5)))
  rw [← hgz] at hr5 hb5 ⊢
  have RZ := Lib.hid hr5
  have RX5 := Lib.hid (RX4.out.below hb5 (by rw [hgz]; exact RX4.out.lt))
  have RY5 := Lib.hid (RY4.out.below hb5 (by rw [hgz]; exact RY4.out.lt))
  have GZ : Hid (gy < gz) := Lib.hid (by rw [hgz]; exact RY4.out.lt)
  have B5 : Hid (Below w.heap.size w w5) := Lib.hid (B4.out.trans (hb5.mono (by rw [hgz]; exact B4.out.size)))
  have M5 := Lib.hid (M4.out.below (hb5.mono (by rw [hgz]; exact B4.out.size)))
  obtain ⟨nw, hic, hsee⟩ := M5.out.m.ins.cells
  have HIC := Lib.hid hic
  have HSEE := Lib.hid hsee
  clear hr5 hb5 hz5 hgz RX4 RY4 B4 M4 hic hsee
  have d38 : w5.cell? ⟨w.heap.size, 38, none⟩ = some (.slice s.q.IA l.length s.q.ic) := (RX5.out.cell 38).trans (by rw [HC38.out, HSGL.out.2])
  have hil := HN.out
  go_upto_region 9 with (first
    | ((with_reducible show wpList _ _ _ ({ dst := some 39, op := _, type := _, pos := _, after := _, guard := _ } :: _) _ _); go_must (refine wpList_appendN rfl (.const (.slice none 0 0)) (.tmp 38) 28 44 _ 3 56 rfl Try.underlying28 info_ins5 (by kernel_rfl) (by omega) (.slice none 0 0) 0 [] w5.heap.size w.heap.size s.q.IA l.length s.q.ic nw rfl (own_nilN _ _ _ _) ?_ (by have := HSEE.out; rw [HSGL.out.2] at this; exact this) HIC.out.one (by unfold maxLen; omega) (by omega) (Nat.le_refl _) ?_; go_simp; intro v1 u4 ho1 hg1; rw [Nat.zero_add, List.nil_append] at ho1; obtain ⟨A3, c3, rfl, _, _, _, hlt1⟩ := own_form2 ho1; have hb1 : Below w5.heap.size w5 u4 := (Below.refl w5.heap.size w5).grown hg1.grown (Nat.le_refl _) (fun k hk => by cases hk); have RN := Lib.hid ((Row.new u4 5 [Value.int .u8 1, .int .u8 2, .int .u8 3, .int .u8 4]).alloc (.cells (inCells 0 (.slice none 0 0) (.slice (some ⟨u4.heap.size, 0, none⟩) 4 4)).toArray 44)); have RI := Lib.hid (Row.new (u4.alloc (.cells [Value.int .u8 1, .int .u8 2, .int .u8 3, .int .u8 4].toArray 5)) 44 (inCells 0 (.slice none 0 0) (.slice (some ⟨u4.heap.size, 0, none⟩) 4 4))); have O3 := Lib.hid ((ho1.alloc (.cells [Value.int .u8 1, .int .u8 2, .int .u8 3, .int .u8 4].toArray 5)).alloc (.cells (inCells 0 (.slice none 0 0) (.slice (some ⟨u4.heap.size, 0, none⟩) 4 4)).toArray 44)); have BU5 : Hid (Below w5.heap.size w5 ((u4.alloc (.cells [Value.int .u8 1, .int .u8 2, .int .u8 3, .int .u8 4].toArray 5)).alloc (.cells (inCells 0 (.slice none 0 0) (.slice (some ⟨u4.heap.size, 0, none⟩) 4 4)).toArray 44))) := Lib.hid ((hb1.alloc hb1.size _).alloc (Nat.le_trans hb1.size (by simp)) _); have GN : Hid (w5.heap.size ≤ u4.heap.size) := Lib.hid hb1.size; clear ho1 hg1 hlt1 hb1))
    | ((with_reducible show wpList _ _ _ ({ dst := some 41, op := Op.build _ _, type := _, pos := _, after := _, guard := _ } :: _) _ _); go_must (refine BigFrame.wpList_want (by kernel_rfl) fun K hK => wp_built _ _ _ rfl (by simp only [List.map_toArray, List.map_cons, List.map_nil]; exact built9_in _ _ _) (hK _ _ ?_)))
    | ((with_reducible show wpList _ _ _ ({ dst := some 42, op := _, type := _, pos := _, after := _, guard := _ } :: _) _ _); go_must (refine wpList_buildOne rfl 28 44 (.tmp 41) rfl (inCells 0 (.slice none 0 0) (.slice (some ⟨u4.heap.size, 0, none⟩) 4 4)) _ 3 56 Try.underlying28 info_ins5 (by kernel_rfl) (by omega) (by omega) rfl ?_ ?_; go_simp))
    | ((with_reducible show wpList _ _ _ ({ dst := some 43, op := _, type := _, pos := _, after := _, guard := _ } :: _) _ _); go_must (refine wpList_appendN rfl (.tmp 39) (.tmp 42) 28 44 _ 3 56 rfl Try.underlying28 info_ins5 (by kernel_rfl) (by omega) (.slice A3 l.length c3) l.length nw w5.heap.size _ (some ⟨(u4.alloc (.cells [Value.int .u8 1, .int .u8 2, .int .u8 3, .int .u8 4].toArray 5)).heap.size, 0, none⟩) 1 1 (inCells 0 (.slice none 0 0) (.slice (some ⟨u4.heap.size, 0, none⟩) 4 4)) ?_ O3.out ?_ RI.out.sees0 (one9 _ _ _) (by unfold maxLen; omega) (by omega) BU5.out.size ?_; go_simp; go_simp; intro v2 u6 ho3 hg3; obtain ⟨A4, c4, rfl, _, k1, k2, _⟩ := own_form2 ho3; have hne : ∀ g, (Value.slice A3 l.length c3).ownBlock = some g → w5.heap.size ≤ g := fun g hg => (O3.out.lt g hg).1; have hb3 : Below w5.heap.size w5 u6 := BU5.out.grown hg3.grown BU5.out.size (fun k hk => hne k hk); have BU6 := Lib.hid hb3; have O6 := Lib.hid ho3; have HC4 := Lib.hid (And.intro k1 k2); have RN6 : Hid (Row u6 u4.heap.size 5 [Value.int .u8 1, .int .u8 2, .int .u8 3, .int .u8 4]) := Lib.hid ⟨(hg3.grown.block _ RN.out.lt (fun e => own_no9 O3.out RN.out (by decide) e.symm)).trans RN.out.is⟩; have RZ6 := Lib.hid (RZ.out.below hb3 RZ.out.lt); have cz0 := (RZ6.out.cell 38).trans HC38.out; have fz0 := RZ6.out.frozen 38; clear ho3 hg3 hne hb3 k1 k2)))
  obtain ⟨w7, h7⟩ : ∃ w7, w7 = u6.setCell ⟨gz, 38, none⟩ (.slice A4 (l.length + 1) c4) := ⟨_, rfl⟩
  have ht := turned_setCell u6 ⟨gz, 38, none⟩ (.slice A4 (l.length + 1) c4)
  have hz := RZ6.out.set_ 38 (.slice A4 (l.length + 1) c4)
  rw [← h7] at ht hz ⊢
  have g5 := RZ.out.lt
  have g6 := RX5.out.lt
  have g7 := RY5.out.lt
  have g8 := GX3.out
  have g9 := GZ.out
  have hb57 : Below gz w5 w7 := (BU6.out.mono (Nat.le_of_lt g5)).trans (ht.below (Nat.le_refl _))
  have hb7 : Below w.heap.size w5 w7 := hb57.mono (by omega)
  have RZ7 := Lib.hid hz
  have RX7 := Lib.hid (RX5.out.below hb57 (by omega))
  have RY7 := Lib.hid (RY5.out.below hb57 (by omega))
  have B7 := Lib.hid (B5.out.trans hb7)
  have hgn := GN.out
  have rn7 := ht.row RN6.out (show u4.heap.size ≠ gz by omega)
  have o7 := own_turned O6.out RZ6.out (by decide) ht
  obtain ⟨_, _, e7, hs7, _, _, _⟩ := own_form2 o7
  cases e7
  have hic7 := ((HIC.out.below hb7).more B7.out.size).snoc (y := new9) (va := .slice none 0 0) (vd := .slice (some ⟨u4.heap.size, 0, none⟩) 4 4) (show IsByte 0 by unfold IsByte; omega) (bytes_nil _ _) (bytes_row9 (xs := [1, 2, 3, 4]) rn7 rn7.lt rfl (by unfold maxLen; omega))
  rw [HGL.out] at hic7
  have cx7 := (HGEN.out w7 (M5.out.below hb7)).more B7.out.size
  have cxd := cx7.ins (c := c4) (hic7.in_ hs7 (by simp))
  have cxs := cx7.sigs A2 (ns + 1) c2
  rw [← HYS.out] at cxs
  obtain ⟨zs, hzs⟩ : ∃ zs, zs = cs.set 38 (.slice A4 (l.length + 1) c4) := ⟨_, rfl⟩
  rw [← hzs] at cxd RZ7
  have HSY := Lib.hid (show (Try.prog.info? 33).map (·.size) = some ys.length by rw [cxs.len]; exact size_tx9)
  have HSZ := Lib.hid (show (Try.prog.info? 33).map (·.size) = some zs.length by rw [cxd.len]; exact size_tx9)
  have h16 := H45.out
  have hnn := HN.out
  have CTS : Hid (∀ V : World, Below w7.heap.size w7 V → Calls Try.prog 9 #[.agg ys.toArray, .int .i64 wr, .int .u64 u] V fun e w' => e = .returned (.int .u64 (cost9 (ns + 1) (dat9 l) wr u)) ∧ Below V.heap.size V w') := Lib.hid fun V hV => (cxs.below hV).cost hV.size (by omega) (by omega) (by omega) wr u (by omega) (by omega) H6.out
  have CTD : Hid (∀ V : World, Below w7.heap.size w7 V → Calls Try.prog 9 #[.agg zs.toArray, .int .i64 wr, .int .u64 u] V fun e w' => e = .returned (.int .u64 (cost9 ns (dat9 l + 4) wr u)) ∧ Below V.heap.size V w') := Lib.hid fun V hV => by
    have := (cxd.below hV).cost hV.size (by omega) (by simp; omega) (by rw [dat9_new]; omega) wr u (by omega) (by omega) H6.out
    rwa [dat9_new] at this
  have CTX : Hid (∀ (V : World) (wq uq : Int), Below w7.heap.size w7 V → 0 ≤ wq → wq ≤ 65536 → Word uq → Calls Try.prog 9 #[.agg cs.toArray, .int .i64 wq, .int .u64 uq] V fun e w' => e = .returned (.int .u64 (cost9 ns (dat9 l) wq uq)) ∧ Below V.heap.size V w') := Lib.hid fun V wq uq hV k1 k2 k3 => (cx7.below hV).cost hV.size (by omega) (by omega) (by omega) wq uq (by omega) (by omega) k3
  clear h7 ht hz hb57 hb7 rn7 o7 hs7 hic7 cx7 cxd cxs hzs RZ RZ6 RX5 RY5 B5 M5 O6 O3 RN RN6 RI BU5 BU6 cz0 fz0 d38 hil hnl g5 g6 g7 g8 g9 hgn
  by_cases hq : 18446744073709550895 < cc
  · have HV := Lib.hid (Below.refl w7.heap.size w7)
    obtain ⟨m1, m2⟩ := MORE.out.1 hq
    rw [m1] at CTS
    generalize cost9 ns (dat9 l + 4) wr u = cd at *
    have m3 : 0 ≤ cc := MORE.out.2.2.1
    clear MORE m1 h16 hnn CTX
    go_wp2_with ((with_reducible show wpList _ _ _ ({ dst := some 48, op := Op.load _ _, type := _, pos := _, after := _, guard := _ } :: _) _ _); go_must (refine wpList_load_whole rfl 33 (.tmp 9) rfl gy 33 ys _ Try.underlying33 rfl HSY.out RY7.out ?_ ?_; go_simp))
    refine (CTS.out w7 HV.out).mono ?_
    rintro e v8 ⟨rfl, hb⟩
    have HV := Lib.hid (HV.out.trans (hb.mono HV.out.size))
    clear hb
    have RX7v := Lib.hid (RX7.out.below HV.out RX7.out.lt)
    have RY7v := Lib.hid (RY7.out.below HV.out RY7.out.lt)
    have RZ7v := Lib.hid (RZ7.out.below HV.out RZ7.out.lt)
    go_wp2_with ((with_reducible show wpList _ _ _ ({ dst := some 54, op := Op.load _ _, type := _, pos := _, after := _, guard := _ } :: _) _ _); go_must (refine wpList_load_atg (by kernel_rfl) 33 (.tmp 10) rfl ⟨gz, 0, none⟩ zs _ Try.underlying33 rfl HSZ.out (fun j v hv => by rw [addr_row, RZ7v.out.cell]; simpa using hv) ?_ ?_; go_simp))
    refine (CTD.out v8 HV.out).mono ?_
    rintro e v9 ⟨rfl, hb⟩
    have HV := Lib.hid (HV.out.trans (hb.mono HV.out.size))
    clear hb
    have RX7v := Lib.hid (RX7.out.below HV.out RX7.out.lt)
    have RY7v := Lib.hid (RY7.out.below HV.out RY7.out.lt)
    have RZ7v := Lib.hid (RZ7.out.below HV.out RZ7.out.lt)
    go_wp2_with fail
    refine (lives9 _).mono ?_
    rintro e v10 ⟨rfl, hb⟩
    have HV := Lib.hid (HV.out.trans (hb.mono HV.out.size))
    clear hb
    go_wp2_with fail
    go_ret
    exact ⟨rfl, B7.out.trans (HV.out.mono B7.out.size)⟩
  · have HV := Lib.hid (Below.refl w7.heap.size w7)
    obtain ⟨m1, m2, m3, m4, m5⟩ := MORE.out.2.1 (by omega)
    obtain ⟨m6, m7⟩ := MORE.out.2.2
    obtain ⟨m8, m9⟩ := H6.out
    have X1 := Lib.hid (fun V hV => CTX.out V (wr + 1) u hV (by omega) (by omega) H6.out)
    have X2 := Lib.hid (fun V hV => CTX.out V wr (u + 1) hV (by omega) (by omega) ⟨by omega, by omega⟩)
    rw [m1] at CTS
    rw [m3] at CTD
    rw [m2] at X1
    rw [m5] at X2
    have e1 : IntKind.u64.wrap (cc + 720) = cc + 720 := by rw [IntKind.wrap_u64]; omega
    have e2 : IntKind.u64.wrap (cc + 300) = cc + 300 := by rw [IntKind.wrap_u64]; omega
    have e3 : IntKind.u64.wrap (cc + 1) = cc + 1 := by rw [IntKind.wrap_u64]; omega
    have e4 : IntKind.u64.wrap (u + 1) = u + 1 := by rw [IntKind.wrap_u64]; omega
    have e5 : IntKind.i64.wrap (wr + 1) = wr + 1 := IntWalk.i64_in _ (by omega)
    clear MORE m1 m2 m3 m5 m6 m7 CTX h16 hnn m8 m9 m4
    go_wp2_with ((with_reducible show wpList _ _ _ ({ dst := some 64, op := Op.load _ _, type := _, pos := _, after := _, guard := _ } :: _) _ _); go_must (refine wpList_load_whole rfl 33 (.tmp 9) rfl gy 33 ys _ Try.underlying33 rfl HSY.out RY7.out ?_ ?_; go_simp))
    refine (CTS.out w7 HV.out).mono ?_
    rintro e v8 ⟨rfl, hb⟩
    have HV := Lib.hid (HV.out.trans (hb.mono HV.out.size))
    clear hb
    have RX7v := Lib.hid (RX7.out.below HV.out RX7.out.lt)
    have RY7v := Lib.hid (RY7.out.below HV.out RY7.out.lt)
    have RZ7v := Lib.hid (RZ7.out.below HV.out RZ7.out.lt)
    go_wp2_with ((with_reducible show wpList _ _ _ ({ dst := some 72, op := Op.load _ _, type := _, pos := _, after := _, guard := _ } :: _) _ _); go_must (refine wpList_load_atg (by kernel_rfl) 33 (.tmp 3) rfl ⟨w.heap.size, 0, none⟩ cs _ Try.underlying33 rfl HST.out (fun j v hv => by rw [addr_row, RX7v.out.cell]; simpa using hv) ?_ ?_; go_simp))
    refine (X1.out v8 HV.out).mono ?_
    rintro e v9 ⟨rfl, hb⟩
    have HV := Lib.hid (HV.out.trans (hb.mono HV.out.size))
    clear hb
    have RX7v := Lib.hid (RX7.out.below HV.out RX7.out.lt)
    have RY7v := Lib.hid (RY7.out.below HV.out RY7.out.lt)
    have RZ7v := Lib.hid (RZ7.out.below HV.out RZ7.out.lt)
    go_wp2_with ((with_reducible show wpList _ _ _ ({ dst := some 82, op := Op.load _ _, type := _, pos := _, after := _, guard := _ } :: _) _ _); go_must (refine wpList_load_atg (by kernel_rfl) 33 (.tmp 10) rfl ⟨gz, 0, none⟩ zs _ Try.underlying33 rfl HSZ.out (fun j v hv => by rw [addr_row, RZ7v.out.cell]; simpa using hv) ?_ ?_; go_simp))
    refine (CTD.out v9 HV.out).mono ?_
    rintro e v10 ⟨rfl, hb⟩
    have HV := Lib.hid (HV.out.trans (hb.mono HV.out.size))
    clear hb
    have RX7v := Lib.hid (RX7.out.below HV.out RX7.out.lt)
    have RY7v := Lib.hid (RY7.out.below HV.out RY7.out.lt)
    have RZ7v := Lib.hid (RZ7.out.below HV.out RZ7.out.lt)
    go_wp2_with ((with_reducible show wpList _ _ _ ({ dst := some 90, op := Op.load _ _, type := _, pos := _, after := _, guard := _ } :: _) _ _); go_must (refine wpList_load_whole rfl 33 (.tmp 3) rfl w.heap.size 33 cs _ Try.underlying33 rfl HST.out RX7v.out ?_ ?_; go_simp))
    refine (X2.out v10 HV.out).mono ?_
    rintro e v11 ⟨rfl, hb⟩
    have HV := Lib.hid (HV.out.trans (hb.mono HV.out.size))
    clear hb
    have RX7v := Lib.hid (RX7.out.below HV.out RX7.out.lt)
    have RY7v := Lib.hid (RY7.out.below HV.out RY7.out.lt)
    have RZ7v := Lib.hid (RZ7.out.below HV.out RZ7.out.lt)
    go_wp2_with fail
    refine (lives9 _).mono ?_
    rintro e v12 ⟨rfl, hb⟩
    have HV := Lib.hid (HV.out.trans (hb.mono HV.out.size))
    clear hb
    go_wp2_with fail
    go_ret
    exact ⟨rfl, B7.out.trans (HV.out.mono B7.out.size)⟩
end Go.Proofs.Ytmpgibemmhcncaa
