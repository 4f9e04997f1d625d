/-
  Parts joined: Len17 Nums17 Same17 Lives17 Pair17 PairPut17 PairActs17 PairEq17.
-/
import Derived.Below
import Derived.Laws.OwnMore
import Derived.Deep.AppendLies
import Derived.Deep.Draws
import Derived.Lib.Hide
import Derived.Laws.BitsAllLaws
import Derived.WalkSmall
import Derived.Laws.MakeOwn
import Derived.Laws.CopyOwn
import Derived.Laws.Rows
import Derived.Maps.AppendAt
import Derived.OwnWalk
import Derived.WalkKit
import Derived.Test.YtkhcgclnmdgpbaaRows
import Derived.WalkSpells
import Derived.WalkLawsBesides
import Derived.IntWalk
import Derived.Deep.MidRow
import Derived.Deep.WholeRow
import Derived.Great.BuildSlice
import Derived.Recover
import Derived.Deep.RegionHeld
import Derived.Deep.QuietTactic
import Derived.BigQuiet
import Derived.Deep.RegionHeld2
import Derived.Deep.CutBlock
import Derived.Laws.Tables
import Derived.ChangeKeysEq
import Derived.ProofKit
import Derived.OpenShut
import Derived.ShutString
import Derived.ChangeOld
import Derived.Lib.SmallJoins
import Derived.Laws.Slices
import Derived.Deep.Slices
import Derived.Deep.Strs
import Derived.SizedLaws
import Derived.Laws.StructEq
import Derived.Deep.DeepCutAuto
import Derived.Laws.EntriesVeiled
import Derived.Deep.RegionHeld3
import Derived.Maps.OwnSet
import Derived.DeepKeys4
import Derived.WideKeyArr
import Derived.WideKeyEntry
import Derived.Shelf.SlMaps.Clone
import Derived.Laws.Append
import Derived.Laws.AppendOwn
import Derived.WalkMore
import Derived.LaidMore
import Derived.Test.YtkhcgclnmdgpbaaZ1
/-
  Of part Len17: what is needed here.
-/
namespace Go.Proofs.Ytkhcgclnmdgpbaa
open Go.RowKit
set_option linter.unusedVariables false
set_option maxRecDepth 100000
/-- how many of the numbers below n are had -/
def cnt17 (f : F17) (n : Nat) : Nat := (List.range n).countP fun k => (f k).isSome
/-- which -/
def nums17 (f : F17) (n : Nat) : List Nat := (List.range n).filter fun k => (f k).isSome
theorem size_sh17 (x y : Value) : (Try.prog.info? 67).map (·.size) = some [x, y].length := by
  show _ = some 2
  kernel_rfl
theorem zero_sh17 : (Try.prog.info? 67).map (·.zero) = some (some (.agg [.int .u64 0, .slice none 0 0].toArray)) := by kernel_rfl
theorem th_one17 (x : Int) (t : Option Nat) : ∀ u ∈ [Value.int .u64 x, thV17 t], u.oneCell' = true := by
  intro u hu
  simp only [List.mem_cons, List.not_mem_nil, or_false] at hu
  rcases hu with rfl | rfl
  · rfl
  · cases t <;> rfl
section
variable {w w' : World} {P : Nat → Prop} {sb gb room : Nat} {f : F17}
theorem cnt_succ17 (f : F17) (n : Nat) : cnt17 f (n + 1) = cnt17 f n + if (f n).isSome then 1 else 0 := by
  unfold cnt17
  rw [List.range_succ, List.countP_append]
  simp
theorem nums_succ17 (f : F17) (n : Nat) : nums17 f (n + 1) = nums17 f n ++ if (f n).isSome then [n] else [] := by
  unfold nums17
  rw [List.range_succ, List.filter_append]
  congr 1
  cases h : (f n).isSome <;> simp [h]
theorem nums_len17 (f : F17) (n : Nat) : (nums17 f n).length = cnt17 f n := by
  unfold nums17 cnt17
  rw [List.countP_eq_length_filter]
theorem cnt_seg17 (f : F17) (i : Nat) : cnt17 f (i * 64 + 64) = cnt17 f (i * 64) + pop17 64 (wd17 (seg17 f i)) := by
  have h1 := wd_pop17 (seg17 f i)
  rw [seg_len17] at h1
  rw [h1]
  have h2 : ∀ n, cnt17 f (i * 64 + n) = cnt17 f (i * 64) + ((List.range n).map fun k => f (i * 64 + k)).countP Option.isSome := by
    intro n
    induction n with
    | zero => rfl
    | succ n ih =>
      rw [← Nat.add_assoc, cnt_succ17, ih, List.range_succ, List.map_append, List.countP_append]
      simp only [List.map_cons, List.map_nil, List.countP_cons, List.countP_nil]
      omega
  exact h2 64
theorem cnt_le17 (f : F17) (n : Nat) : cnt17 f n ≤ n := by
  have := List.countP_le_length (p := fun k => (f k).isSome) (l := List.range n)
  rw [List.length_range] at this
  exact this
theorem cnt_out17 {f : F17} {room : Nat} (h : ∀ n, room ≤ n → f n = none) : ∀ n, room ≤ n → cnt17 f n = cnt17 f room := fun n hn => by
  induction n with
  | zero => rw [show room = 0 by omega]
  | succ n ih =>
    rcases Nat.lt_or_ge n room with h1 | h1
    · rw [show room = n + 1 by omega]
    · rw [cnt_succ17, ih h1, h n h1]
      rfl
set_option maxHeartbeats 2000000 in
theorem len17 (h : Slab17 w P sb gb room f) : Calls Try.prog 19 #[.pointer (some ⟨sb, 0, none⟩)] w fun e w' => e = .returned (.int .i64 (cnt17 f room)) ∧ Below w.heap.size w w' := by
  have HT := Lib.hid (there17 h)
  have HN : Hid (cnt17 f ((room + 63) / 64 * 64) = cnt17 f room) := Lib.hid (cnt_out17 h.out _ (by omega))
  have hrm := h.rm
  have HH := Lib.hid h
  have oc1 : w.cell? ⟨sb, 1, none⟩ = _ := h.top.cell 1
  obtain ⟨m, hm⟩ : ∃ m, m = (room + 63) / 64 := ⟨_, rfl⟩
  have HM : Hid (m = (room + 63) / 64) := Lib.hid hm
  have hm64 : m ≤ 64 := by omega
  rw [← hm] at oc1 HN
  clear h hm hrm
  go_enter Try.func19, Try.ntmps19
  go_wp2_with fail
  refine HT.out.mono ?_
  rintro e w1 ⟨rfl, rfl⟩
  go_wp2_with fail
  go_loopw [3, 14] (fun n c wr => ∃ i : Nat, i ≤ m ∧ n = .int .i64 (cnt17 f (i * 64) : Nat) ∧ c = .int .i64 i ∧ Hid (Below w.heap.size w wr)) (fun n c _ => m - (intOf c).toNat)
  case atStart => exact ⟨0, Nat.zero_le _, rfl, rfl, Lib.hid (Below.refl _ _)⟩
  case round =>
    obtain ⟨i, hi, rfl, rfl, HB⟩ := hrel
    have hcl := cnt_le17 f (i * 64)
    by_cases hlt : i < m
    · have hlt' : (i : Int) < m := by omega
      obtain ⟨t, h1, h2, _, _, _, h3⟩ := HH.out.shelf (i := i) (by rw [← HM.out]; exact hlt)
      have HX := Lib.hid (wd_seg17 f i)
      have HS := Lib.hid (cnt_seg17 f i)
      obtain ⟨x, hx⟩ : ∃ x, x = wd17 (seg17 f i) := ⟨_, rfl⟩
      rw [← hx] at h1 HX HS
      have HCC : Hid (∀ j u, [Value.int .u64 x, thV17 t][j]? = some u → wr.cell? ((⟨gb, i * 2, none⟩ : Addr).add j) = some u) := Lib.hid fun j u hu => by
        rw [addr_row, HB.out.cell (p := ⟨gb, i * 2 + j, none⟩) h3]
        match j, hu with
        | 0, hu => cases hu; exact h1
        | 1, hu => cases hu; exact h2
      clear h1 h2 h3 hx
      go_upto_region 7 with (first
        | ((with_reducible show wpList _ _ _ ({ dst := some 17, op := Op.load _ _, type := _, pos := _, after := _, guard := _ } :: _) _ _); go_must (refine wpList_load_at rfl 67 (.tmp 16) rfl ⟨gb, i * 2, none⟩ [Value.int .u64 x, thV17 t] _ Try.underlying67 rfl (size_sh17 _ _) HCC.out ?_ ?_; go_simp))
        | ((with_reducible show wpList _ _ _ ({ dst := some 5, op := Op.alloc _, type := _, pos := _, after := _, guard := _ } :: _) _ _); go_must (refine wpList_alloc_zero rfl 67 rfl [.int .u64 0, .slice none 0 0] zero_sh17 ?_))
        | ((with_reducible show wpList _ _ _ ({ dst := none, op := Op.store 67 (.tmp 5) _, type := _, pos := _, after := _, guard := _ } :: _) _ _); go_must (refine wpList_store_new rfl 67 (.tmp 5) (.tmp 17) rfl [Value.int .u64 x, thV17 t] (size_sh17 _ _) (th_one17 _ _) rfl ?_ ?_ ?_; go_simp; go_simp; intro w1 hr1 hb1 hz1)))
      have oc5 : w1.cell? ⟨wr.heap.size, 0, none⟩ = _ := hr1.cell 0
      have HB1 := Lib.hid (HB.out.trans (hb1.mono HB.out.size))
      clear hr1 hb1 hz1
      go_wp2_with fail
      refine (ones17 x w1 HX.out).mono ?_
      rintro e w2 ⟨rfl, rfl⟩
      have hpl := pop_le17 64 x
      have HS2 : Hid ((cnt17 f (i * 64) : Int) + (pop17 64 x : Nat) = (cnt17 f (i * 64 + 64) : Nat)) := Lib.hid (by rw [HS.out]; omega)
      have hn4096 : i * 64 ≤ 4096 := by omega
      generalize cnt17 f (i * 64) = c0 at *
      generalize pop17 64 x = p0 at *
      go_wp2_with fail
      go_roundw
      case rel => exact ⟨i + 1, by omega, by rw [show (i + 1) * 64 = i * 64 + 64 by omega, ← HS2.out], by go_num, HB1⟩
      case measure => simp [intOf]; omega
    · have hie : i = m := by omega
      have hlt' : ¬ (i : Int) < m := by omega
      subst hie
      rw [HN.out]
      go_wp2_with fail
      go_ret
      exact ⟨rfl, HB.out⟩
end
end Go.Proofs.Ytkhcgclnmdgpbaa

/-
  Of part Nums17: what is needed here.
-/
namespace Go.Proofs.Ytkhcgclnmdgpbaa
open Go.RowKit
set_option linter.unusedVariables false
set_option maxRecDepth 100000
/-- a list of numbers of the call's own -/
def OwnI17 (w : World) (base : Nat) (v : Value) (xs : List Int) : Prop := w.ownsRow base 3 1 v xs.length (cv .i64 xs)
theorem info_int17 : (Try.prog.info? 3).map (fun i => (i.zero, i.size, i.bytes)) = some (some (.int .i64 0), 1, 8) := by kernel_rfl
theorem OwnI17.below {w w' : World} {base : Nat} {v : Value} {xs : List Int} (h : OwnI17 w base v xs) (hb : Below w.heap.size w w') : OwnI17 w' base v xs := own_below h hb
theorem OwnI17.nil (w : World) (base : Nat) : OwnI17 w base (.slice none 0 0) [] := ⟨rfl, .inl ⟨rfl, rfl⟩⟩
theorem add_int17 {w : World} {ops : Array Oper} {rest : List Oper} {o : Oper} {a : Act} {Q : Exit → Act → World → Prop} (hgd : o.guard = none) (s x : Operand)
    (ho : o.op = .call { callee := .builtin .append, args := #[s, x], argTypes := #[40, 40] }) (base : Nat) (v : Value) (xs : List Int) (n : Int) (g c : Nat) (hs : a.eval s = v) (hown : OwnI17 w base v xs)
    (hx : a.eval x = .slice (some ⟨g, 0, none⟩) 1 c) (hr : Row w g 3 [.int .i64 n]) (hb : base ≤ w.heap.size) (hl : xs.length ≤ 5000)
    (k : ∀ v' w', OwnI17 w' base v' (xs ++ [n]) → Below base w w' → wpList Try.prog ops Q rest (a.put o.dst v') w') : wpList Try.prog ops Q (o :: rest) a w := by
  obtain ⟨i, hi, hz0, hz1, hz2⟩ := info_parts info_int17
  refine wpList_append_sees hgd s x 40 ho base 3 i (.int .i64 0) 8 Try.underlying40 hi hz0 hz1 hz2 rfl v xs.length (cv .i64 xs) hs hown w.heap.size _ 1 c [.int .i64 n] hx hr.sees0 (fun u hu => by rw [List.mem_singleton.1 hu]; rfl) (by unfold maxLen; omega) (by omega) hb ?_
  intro v' w' ho' hg hv
  refine k v' w' ?_ (below_append (Below.refl base w) hown (Nat.le_refl _) hb hg)
  unfold OwnI17
  rw [List.length_append]
  simp only [cv, List.map_append, List.map_cons, List.map_nil]
  exact ho'
def intsN (l : List Nat) : List Int := l.map fun (n : Nat) => (n : Int)
def NumsDone17 (l : List Nat) (w : World) (e : Ending) (w' : World) : Prop := ∃ v, e = .returned v ∧ OwnI17 w' w.heap.size v (intsN l) ∧ Below w.heap.size w w'
section
variable {w w' : World} {P : Nat → Prop} {sb gb room : Nat} {f : F17}
set_option maxHeartbeats 2000000 in
theorem nums17_ (h : Slab17 w P sb gb room f) : Calls Try.prog 18 #[.pointer (some ⟨sb, 0, none⟩)] w (NumsDone17 (nums17 f room) w) := by
  have HL := Lib.hid (len17 h)
  have HH := Lib.hid h
  have hrm := h.rm
  have hcl := cnt_le17 f room
  have HNL : Hid ((nums17 f room).length = cnt17 f room) := Lib.hid (nums_len17 f room)
  have HEN : Hid (cnt17 f room = 0 → nums17 f room = []) := Lib.hid fun e => List.eq_nil_of_length_eq_zero (by rw [nums_len17, e])
  have HD : Hid (∀ v V, OwnI17 V w.heap.size v (intsN (nums17 f room)) → Below w.heap.size w V → NumsDone17 (nums17 f room) w (.returned v) V) := Lib.hid fun v V h1 h2 => ⟨v, rfl, h1, h2⟩
  clear h
  generalize NumsDone17 (nums17 f room) w = D at *
  generalize hct : cnt17 f room = ct at *
  clear hct
  go_enter Try.func18, Try.ntmps18
  go_wp2_with fail
  refine HL.out.mono ?_
  rintro e w1 ⟨rfl, hb1⟩
  have HB1 := Lib.hid hb1
  clear hb1
  by_cases h0 : ct = 0
  · subst h0
    have HF := Lib.hid (HD.out (.slice none 0 0) w1 (by rw [HEN.out rfl]; exact OwnI17.nil w1 w.heap.size) HB1.out)
    go_wp2_with fail
    exact HF.out
  · have h0' : ¬ (ct : Int) = 0 := by omega
    go_upto_region 5 with (first
      | (at_make; (obtain ⟨i0, hi, hz0, hz1, hz2⟩ := info_parts info_int17); go_must (refine wpList_make_own _ rfl (.const (.int .i64 0)) (.tmp 10) 40 rfl w.heap.size 3 i0 _ 1 Try.underlying40 hi hz0 hz1 .i64 .i64 _ ct rfl ?_ rfl (by rw [hz2]; omega) (by unfold maxLen; omega) HB1.out.size ?_; go_simp; intro w2 hown hgrow)))
    have hb2 := HB1.out.grown hgrow HB1.out.size (fun k hk => by cases hk)
    have HB2 := Lib.hid hb2
    have HO2 : Hid (OwnI17 w2 w.heap.size (.slice (some ⟨w1.heap.size, 0, none⟩) 0 ct) (intsN (nums17 f 0))) := Lib.hid hown
    have oc0 : w2.cell? ⟨sb, 0, none⟩ = _ := (HH.out.below hb2).top.cell 0
    clear hown hgrow hb2
    go_wp2_with fail
    clear oc0
    go_loopw [4, 16] (fun l c wr => ∃ k : Nat, k ≤ room ∧ c = .int .i64 k ∧ Hid (OwnI17 wr w.heap.size l (intsN (nums17 f k))) ∧ Hid (Below w.heap.size w wr)) (fun _ c _ => room - (intOf c).toNat)
    case atStart => exact ⟨0, Nat.zero_le _, rfl, HO2, HB2⟩
    case round =>
      obtain ⟨k, hk, rfl, HO, HB⟩ := hrel
      by_cases hlt : k < room
      · have hlt' : (k : Int) < room := by omega
        obtain ⟨i, hi⟩ : ∃ i, i = k / 64 := ⟨_, rfl⟩
        obtain ⟨j, hj⟩ : ∃ j, j = k % 64 := ⟨_, rfl⟩
        obtain ⟨m, hm⟩ : ∃ m, m = (room + 63) / 64 := ⟨_, rfl⟩
        have him : i < m := by omega
        have hjl : j < 64 := by omega
        have hi64 : i < 64 := by omega
        have him' : (i : Int) < m := by omega
        have hq : (k : Int).tdiv 64 = (i : Int) := by rw [hi, Int.tdiv_eq_ediv_of_nonneg (by omega)]; omega
        have hq2 : (k : Int).tmod 64 = (j : Int) := by rw [hj, Int.tmod_eq_emod_of_nonneg (by omega)]; omega
        have hq3 : (k : Int) / 64 = (i : Int) := by rw [hi]; omega
        have hq4 : (k : Int) % 64 = (j : Int) := by rw [hj]; omega
        have oc1 : wr.cell? ⟨sb, 1, none⟩ = some (.slice (some ⟨gb, 0, none⟩) m m) := by rw [hm]; exact (HH.out.below HB.out).top.cell 1
        have HS : Hid (Calls Try.prog 33 #[.pointer (some ⟨gb, i * 2, none⟩), .int .i64 j] wr fun e w' => e = .returned (.bool (f k).isSome) ∧ wr = w') := Lib.hid (by
          have := (HH.out.below HB.out).has (i := i) (j := j) (by omega) hjl
          rwa [show i * 64 + j = k by omega] at this)
        have HLE : Hid ((intsN (nums17 f k)).length ≤ 5000) := Lib.hid (by
          have h1 := nums_len17 f k
          have h2 := cnt_le17 f k
          unfold intsN
          rw [List.length_map]
          omega)
        clear hi hj hm
        go_wp2_with fail
        refine HS.out.mono ?_
        rintro e w3 ⟨rfl, rfl⟩
        have HNS := Lib.hid (nums_succ17 f k)
        generalize (f k).isSome = b at *
        cases b with
        | false =>
          go_wp2_with fail
          go_roundw
          case rel => exact ⟨k + 1, by omega, by go_num, Lib.hid (by rw [HNS.out]; simpa using HO.out), HB⟩
          case measure => simp [intOf]; omega
        | true =>
          obtain ⟨xs, hxs⟩ : ∃ xs, xs = intsN (nums17 f k) := ⟨_, rfl⟩
          have HXS : Hid (intsN (nums17 f (k + 1)) = xs ++ [(k : Int)]) := Lib.hid (by rw [HNS.out, hxs]; simp [intsN])
          rw [← hxs] at HO HLE
          clear hxs HNS oc1
          have hbw := (Below.refl wr.heap.size wr).alloc (Nat.le_refl _) (.cells #[.int .i64 k] 3)
          have HO3 := Lib.hid (HO.out.below hbw)
          have HB3 := Lib.hid (HB.out.trans (hbw.mono HB.out.size))
          have RX := Lib.hid (Row.new wr 3 [.int .i64 k])
          have HGE := Lib.hid HB.out.size
          clear hbw
          go_wp2_with (first
            | ((with_reducible show wpList _ _ _ ({ dst := some 32, op := _, type := _, pos := _, after := _, guard := _ } :: _) _ _); go_must (refine add_int17 rfl (.tmp 29) (.tmp 31) rfl w.heap.size _ xs k _ 1 (by go_simp) HO3.out (by go_simp) RX.out HB3.out.size HLE.out ?_; intro v4 w4 ho4 hb4))
            | fail)
          go_roundw
          case rel => exact ⟨k + 1, by omega, by go_num, Lib.hid (by rw [HXS.out]; exact ho4), Lib.hid (HB3.out.trans hb4)⟩
          case measure => simp [intOf]; omega
      · have hke : k = room := by omega
        have hlt' : ¬ (k : Int) < room := by omega
        subst hke
        have HF := Lib.hid (HD.out _ wr HO.out HB.out)
        go_wp2_with fail
        exact HF.out
end
end Go.Proofs.Ytkhcgclnmdgpbaa

/-
  Of part Same17: what is needed here.
-/
namespace Go.Proofs.Ytkhcgclnmdgpbaa
open Go.RowKit
set_option linter.unusedVariables false
set_option maxRecDepth 100000
theorem cv_at17 {xs : List Int} {i : Nat} {w : World} {B n : Nat} {A : Option Addr} (h : Sees w B A n (cv .i64 xs)) (hi : i < n) : ∃ a x, A = some a ∧ a.block < B ∧ xs[i]? = some x ∧ w.cell? (a.add i) = some (.int .i64 x) := by
  obtain ⟨a, u, ea, hb, hu, hc⟩ := h.at_ hi
  have hl : i < xs.length := by have := h.len; rw [cv_length] at this; omega
  have hx : xs[i]? = some xs[i] := List.getElem?_eq_getElem hl
  refine ⟨a, xs[i], ea, hb, hx, ?_⟩
  unfold cv at hu
  rw [List.getElem?_map, hx] at hu
  cases hu
  exact hc
set_option maxHeartbeats 1000000 in
theorem same17 (xs ys : List Int) (A B : Option Addr) (n m c d : Nat) (w : World) (hx : Sees w w.heap.size A n (cv .i64 xs)) (hy : Sees w w.heap.size B m (cv .i64 ys)) (hn : n ≤ 5000) (hm : m ≤ 5000) :
    Calls Try.prog 20 #[.slice A n c, .slice B m d] w fun e w' => e = .returned (.bool (decide (xs = ys))) ∧ Below w.heap.size w w' := by
  have HX := Lib.hid hx
  have HY := Lib.hid hy
  have HLX : Hid (xs.length = n) := Lib.hid (by have := hx.len; rwa [cv_length] at this)
  have HLY : Hid (ys.length = m) := Lib.hid (by have := hy.len; rwa [cv_length] at this)
  obtain ⟨b, hb⟩ : ∃ b, b = decide (xs = ys) := ⟨_, rfl⟩
  rw [← hb]
  have HB := Lib.hid hb
  clear hx hy hb
  go_enter Try.func20, Try.ntmps20
  go_wp2_with fail
  go_loopw [5] (fun i wr => ∃ k : Nat, k ≤ n ∧ k ≤ m ∧ i = .int .i64 k ∧ Hid (∀ j, j < k → xs[j]? = ys[j]?) ∧ Hid (Below w.heap.size w wr)) (fun i _ => n - (intOf i).toNat)
  case atStart => exact ⟨0, Nat.zero_le _, Nat.zero_le _, rfl, Lib.hid (fun j hj => absurd hj (by omega)), Lib.hid (Below.refl _ _)⟩
  case round =>
    obtain ⟨k, hkn, hkm, rfl, HE, HW⟩ := hrel
    rename World => wr
    by_cases h1 : k < n
    · have h1' : (k : Int) < n := by omega
      have d1 : decide ((k : Int) < n) = true := decide_eq_true h1'
      by_cases h2 : k < m
      · have h2' : (k : Int) < m := by omega
        have d2 : decide ((k : Int) < m) = true := decide_eq_true h2'
        obtain ⟨a, x, ea, hab, hxk, hac⟩ := cv_at17 HX.out h1
        obtain ⟨a2, y, ea2, hab2, hyk, hac2⟩ := cv_at17 HY.out h2
        subst ea
        subst ea2
        have oc1 : wr.cell? (a.add k) = some (.int .i64 x) := (HW.out.cell (by rw [addr_block]; exact hab)).trans hac
        have oc2 : wr.cell? (a2.add k) = some (.int .i64 y) := (HW.out.cell (by rw [addr_block]; exact hab2)).trans hac2
        have HXK := Lib.hid hxk
        have HYK := Lib.hid hyk
        have hbd : Hid (Below w.heap.size w wr.drew) := Lib.hid HW.out.drew
        clear hxk hyk hab hab2 hac hac2
        go_upto_region 4 with fail
        go_region
        by_cases hxy : x = y
        · have hxy' : ((x != y) = false) := by rw [hxy]; simp
          have HNX : Hid (∀ j, j < k + 1 → xs[j]? = ys[j]?) := Lib.hid fun j hj => by
            rcases Nat.lt_succ_iff_lt_or_eq.1 hj with hj | rfl
            · exact HE.out j hj
            · rw [HXK.out, HYK.out, hxy]
          clear oc1 oc2
          subst hxy
          go_wp2_with fail
          go_roundw
          case rel => exact ⟨k + 1, by omega, by omega, by go_num, HNX, hbd⟩
          case measure => simp [intOf]; omega
        · have hbf : Hid (b = false) := Lib.hid (by
            rw [HB.out]
            exact decide_eq_false fun e => hxy (by
              have h3 := HXK.out
              rw [e, HYK.out] at h3
              exact (Option.some.inj h3).symm))
          have hb0 := hbf.out
          subst hb0
          clear oc1 oc2
          go_wp2_with fail
          go_ret
          exact ⟨rfl, hbd.out⟩
      · have h2' : ¬ (k : Int) < m := by omega
        have d2 : decide ((k : Int) < m) = false := decide_eq_false h2'
        have hbf : Hid (b = false) := Lib.hid (by
          rw [HB.out]
          exact decide_eq_false fun e => by have := HLX.out; have := HLY.out; rw [e] at *; omega)
        have hb0 := hbf.out
        subst hb0
        have hnm : ¬ (n : Int) = (m : Int) := by omega
        have hnm2 : ((n : Int) == (m : Int)) = false := by rw [beq_eq_false_iff_ne]; exact hnm
        go_wp2_with fail
        go_ret
        exact ⟨rfl, HW.out⟩
    · have h1' : ¬ (k : Int) < n := by omega
      have d1 : decide ((k : Int) < n) = false := decide_eq_false h1'
      have hke : k = n := by omega
      by_cases hnm : n = m
      · have hbt : Hid (b = true) := Lib.hid (by
          rw [HB.out]
          refine decide_eq_true (List.ext_getElem? fun j => ?_)
          by_cases hj : j < k
          · exact HE.out j hj
          · rw [List.getElem?_eq_none (by have := HLX.out; omega), List.getElem?_eq_none (by have := HLY.out; omega)])
        have hb0 := hbt.out
        subst hb0
        subst hnm
        go_wp2_with fail
        go_ret
        exact ⟨rfl, HW.out⟩
      · have hbf : Hid (b = false) := Lib.hid (by
          rw [HB.out]
          exact decide_eq_false fun e => hnm (by have h3 := HLX.out; have h4 := HLY.out; rw [e] at h3; omega))
        have hb0 := hbf.out
        subst hb0
        have hnm3 : ¬ (n : Int) = (m : Int) := by omega
        have hnm2 : ((n : Int) == (m : Int)) = false := by rw [beq_eq_false_iff_ne]; exact hnm3
        go_wp2_with fail
        go_ret
        exact ⟨rfl, HW.out⟩
end Go.Proofs.Ytkhcgclnmdgpbaa

/-
  Of part Lives17: what is needed here.
-/
namespace Go.Proofs.Ytkhcgclnmdgpbaa
open Go.RowKit
set_option linter.unusedVariables false
set_option maxRecDepth 100000
theorem lst_is17 {f : F17} {n : Nat} (hl : Lst17 f n) (m : Nat) (h1 : ∀ k, k < m → (f k).isSome = true) (h2 : f m = none) : n = m := by
  rcases Nat.lt_trichotomy n m with h | h | h
  · have := h1 n h
    rw [hl.2] at this
    cases this
  · exact h
  · have := hl.1 m h
    rw [h2] at this
    cases this
set_option maxHeartbeats 2000000 in
theorem lives17 (w : World) : Calls Try.prog 9 #[] w fun e w' => e = .returned (.bool true) ∧ Below w.heap.size w w' := by
  go_enter Try.func9, Try.ntmps9
  go_wp2_with fail
  refine (new17 (w := w) (P := fun k => w.heap.size ≤ k) 2 2 rfl (by omega) (fun k hk => hk)).mono ?_
  rintro e w0 ⟨sb, gb, rfl, hs, _, _, hb⟩
  have HP : Hid (∀ k, w.heap.size ≤ k → (fun k => w.heap.size ≤ k) k) := Lib.hid fun k hk => hk
  have HPB : Hid (∀ k, (fun k => w.heap.size ≤ k) k → w.heap.size ≤ k) := Lib.hid fun k hk => hk
  generalize (fun k => w.heap.size ≤ k) = P at *
  have S0 := Lib.hid hs
  have O0 : Hid (Only17 P w w0) := Lib.hid (Only17.of hb (Nat.le_refl _))
  clear hs hb
  go_wp2_with fail
  refine (put17 S0.out 7 (fun k hk => HP.out k (Nat.le_trans O0.out.size hk))).mono ?_
  rintro e w1 ⟨n, hl, hc⟩
  have hn := lst_is17 hl 0 (fun k hk => absurd hk (Nat.not_lt_zero k)) (rfl)
  subst hn
  rcases hc with ⟨h9, _, _⟩ | ⟨_, rfl, hs, ho⟩
  · omega
  have S1 := Lib.hid hs
  have O1 := Lib.hid (O0.out.trans ho)
  clear hl hs ho
  go_wp2_with fail
  refine (put17 S1.out 8 (fun k hk => HP.out k (Nat.le_trans O1.out.size hk))).mono ?_
  rintro e w2 ⟨n, hl, hc⟩
  have hn := lst_is17 hl 1 (fun k hk => match k, hk with | 0, _ => rfl) (rfl)
  subst hn
  rcases hc with ⟨h9, _, _⟩ | ⟨_, rfl, hs, ho⟩
  · omega
  have S2 := Lib.hid hs
  have O2 := Lib.hid (O1.out.trans ho)
  clear hl hs ho
  go_wp2_with fail
  refine (put17 S2.out 9 (fun k hk => HP.out k (Nat.le_trans O2.out.size hk))).mono ?_
  rintro e w3 ⟨n, hl, hc⟩
  have hn := lst_is17 hl 2 (fun k hk => match k, hk with | 0, _ => rfl | 1, _ => rfl) rfl
  subst hn
  rcases hc with ⟨_, rfl, rfl⟩ | ⟨h9, _, _, _⟩
  rotate_left
  · omega
  clear hl
  go_wp2_with fail
  refine (freed17 S2.out 0).mono ?_
  rintro e w3 hc
  rcases hc with ⟨h9, _, _⟩ | ⟨n, x, hz, _, _, rfl, hs, ho⟩
  · cases h9
  have hn : n = 0 := by omega
  subst hn
  have S3 := Lib.hid hs
  have O3 := Lib.hid (O2.out.trans ho)
  clear hs ho hz
  go_wp2_with fail
  refine (put17 S3.out 9 (fun k hk => HP.out k (Nat.le_trans O3.out.size hk))).mono ?_
  rintro e w4 ⟨n, hl, hc⟩
  have hn := lst_is17 hl 0 (fun k hk => absurd hk (Nat.not_lt_zero k)) (rfl)
  subst hn
  rcases hc with ⟨h9, _, _⟩ | ⟨_, rfl, hs, ho⟩
  · omega
  have S4 := Lib.hid hs
  have O4 := Lib.hid (O3.out.trans ho)
  clear hl hs ho
  go_wp2_with fail
  have G0 : Hid (at17 (up17 (up17 (up17 (up17 none17 0 (some 7)) 1 (some 8)) 0 none) 0 (some 9)) 0 = some 9) := Lib.hid rfl
  have G2 : Hid (at17 (up17 (up17 (up17 (up17 none17 0 (some 7)) 1 (some 8)) 0 none) 0 (some 9)) 2 = none) := Lib.hid rfl
  have GN : Hid (nums17 (up17 (up17 (up17 (up17 none17 0 (some 7)) 1 (some 8)) 0 none) 0 (some 9)) 2 = [0, 1]) := Lib.hid rfl
  generalize up17 (up17 (up17 (up17 none17 0 (some 7)) 1 (some 8)) 0 none) 0 (some 9) = f at *
  refine (get17 S4.out 0).mono ?_
  rintro e w5 ⟨rfl, rfl⟩
  rw [G0.out]
  simp only [got17]
  go_wp2_with fail
  refine (get17 S4.out 2).mono ?_
  rintro e w5 ⟨rfl, rfl⟩
  rw [G2.out]
  simp only [got17]
  go_wp2_with fail
  refine (new_bad17 0 (by omega)).mono ?_
  rintro e w5 ⟨rfl, rfl⟩
  go_wp2_with fail
  refine (new_bad17 4097 (by omega)).mono ?_
  rintro e w5 ⟨rfl, rfl⟩
  go_wp2_with fail
  refine (nums17_ S4.out).mono ?_
  rintro e w5 ⟨v, rfl, ho, hb⟩
  rw [GN.out] at ho
  obtain ⟨A, c, rfl⟩ := own_form ho
  have HB5 := Lib.hid ((O4.out.below HPB.out (Nat.le_refl _)).trans (hb.mono O4.out.size))
  have HO5 : Hid (OwnI17 w5 w4.heap.size (.slice A 2 c) [0, 1]) := Lib.hid ho
  clear ho hb
  go_wp2_with fail
  have hbx := (Below.refl w5.heap.size w5).alloc (Nat.le_refl _) (.cells #[.int .i64 0, .int .i64 1] 3)
  have HO6 := Lib.hid (Sees.of_own (HO5.out.below hbx))
  have RX := Lib.hid (Row.new w5 3 [.int .i64 0, .int .i64 1])
  have HB6 := Lib.hid (HB5.out.trans (hbx.mono HB5.out.size))
  refine (same17 [0, 1] [0, 1] A (some ⟨w5.heap.size, 0, none⟩) 2 2 _ _ _ HO6.out RX.out.sees0 (by omega) (by omega)).mono ?_
  rintro e w6 ⟨rfl, hb6⟩
  have HB7 := Lib.hid (HB6.out.trans (hb6.mono HB6.out.size))
  clear hb6 hbx
  rw [decide_eq_true rfl]
  go_wp2_with fail
  go_ret
  exact ⟨rfl, HB7.out⟩
end Go.Proofs.Ytkhcgclnmdgpbaa

/-
  Of part Pair17: what is needed here.
-/
namespace Go.Proofs.Ytkhcgclnmdgpbaa
open Go.RowKit
set_option linter.unusedVariables false
set_option maxRecDepth 100000
/-- the things of one shelf, in memory -/
structure ThP17 (val : Int → Int × Int) (w : World) (P : Nat → Prop) (l : List (Option Int)) (t : Option Nat) : Prop where
  no : t = none → ∀ x ∈ l, x = none
  yes : ∀ g, t = some g → P g ∧ ∃ ys : List Value, Row w g 59 ys ∧ ys.length = 128 ∧ ∀ (k : Nat) (c : Int), l[k]? = some (some c) → ys[k * 2]? = some (.int .u64 (val c).1) ∧ ys[k * 2 + 1]? = some (.int .u64 (val c).2)
/-- a slab in memory: what it may write lies in blocks of P -/
structure SlabP17 (val : Int → Int × Int) (w : World) (P : Nat → Prop) (sb gb room : Nat) (f : F17) : Prop where
  rm : 1 ≤ room ∧ room ≤ 4096
  out : ∀ n, room ≤ n → f n = none
  top : Row w sb 80 [.int .i64 room, .slice (some ⟨gb, 0, none⟩) ((room + 63) / 64) ((room + 63) / 64)]
  own : P gb
  she : ∃ (xs : List Value) (th : Nat → Option Nat), Row w gb 83 xs ∧ xs.length = (room + 63) / 64 * 2 ∧
    (∀ i, i < (room + 63) / 64 → xs[i * 2]? = some (.int .u64 (wd17 (seg17 f i))) ∧ xs[i * 2 + 1]? = some (thV17 (th i)) ∧ ThP17 val w P (seg17 f i) (th i)) ∧
    ∀ i j t, i ≠ j → i < (room + 63) / 64 → j < (room + 63) / 64 → th i = some t → th j ≠ some t
section
variable {val : Int → Int × Int} {w w' w'' : World} {P P' : Nat → Prop} {sb gb room : Nat} {f : F17}
theorem ThP17.keep {l : List (Option Int)} {t : Option Nat} (h : ThP17 val w P l t) (hk : ∀ k, k < w.heap.size → P k → w'.heap[k]? = w.heap[k]?) : ThP17 val w' P l t :=
  ⟨h.no, fun g hg => by
    obtain ⟨h1, ys, h2, h3⟩ := h.yes g hg
    exact ⟨h1, ys, ⟨(hk g h2.lt h1).trans h2.is⟩, h3⟩⟩
theorem SlabP17.keep (h : SlabP17 val w P sb gb room f) (hs : w'.heap[sb]? = w.heap[sb]?) (hk : ∀ k, k < w.heap.size → P k → w'.heap[k]? = w.heap[k]?) : SlabP17 val w' P sb gb room f := by
  obtain ⟨xs, th, h1, h2, h3, h4⟩ := h.she
  exact ⟨h.rm, h.out, ⟨hs.trans h.top.is⟩, h.own, xs, th, ⟨(hk gb h1.lt h.own).trans h1.is⟩, h2, fun i hi => ⟨(h3 i hi).1, (h3 i hi).2.1, (h3 i hi).2.2.keep hk⟩, h4⟩
theorem SlabP17.below (h : SlabP17 val w P sb gb room f) (hb : Below w.heap.size w w') : SlabP17 val w' P sb gb room f :=
  h.keep (hb.block _ h.top.lt) fun k hk _ => hb.block k hk
theorem SlabP17.mono (h : SlabP17 val w P sb gb room f) (hp : ∀ k, k < w.heap.size → P k → P' k) : SlabP17 val w P' sb gb room f := by
  obtain ⟨xs, th, h1, h2, h3, h4⟩ := h.she
  exact ⟨h.rm, h.out, h.top, hp _ h1.lt h.own, xs, th, h1, h2, fun i hi => ⟨(h3 i hi).1, (h3 i hi).2.1, (h3 i hi).2.2.no, fun g hg => by
    obtain ⟨k1, ys, k2, k3⟩ := (h3 i hi).2.2.yes g hg
    exact ⟨hp g k2.lt k1, ys, k2, k3⟩⟩, h4⟩
/-- a shelf's cells -/
theorem SlabP17.shelf (h : SlabP17 val w P sb gb room f) {i : Nat} (hi : i < (room + 63) / 64) : ∃ t, w.cell? ⟨gb, i * 2, none⟩ = some (.int .u64 (wd17 (seg17 f i))) ∧ w.cell? ⟨gb, i * 2 + 1, none⟩ = some (thV17 t) ∧ w.frozen? ⟨gb, i * 2, none⟩ = false ∧ w.frozen? ⟨gb, i * 2 + 1, none⟩ = false ∧ ThP17 val w P (seg17 f i) t ∧ gb < w.heap.size := by
  obtain ⟨xs, th, h1, h2, h3, h4⟩ := h.she
  exact ⟨th i, (h1.cell _).trans (h3 i hi).1, (h1.cell _).trans (h3 i hi).2.1, h1.frozen _, h1.frozen _, (h3 i hi).2.2, h1.lt⟩
end
set_option maxHeartbeats 1000000 in
theorem hasP17 (q : Addr) (h k : Nat) (w : World) (hc : w.cell? q = some (.int .u64 h)) (hh : h < 18446744073709551616) (hk : k < 64) :
    Calls Try.prog 39 #[.pointer (some q), .int .i64 k] w fun e w' => e = .returned (.bool (h.testBit k)) ∧ w = w' := by
  have h0 : (0 : Int) ≤ k := by omega
  have h1 : (k : Int) ≤ 64 := by omega
  have hdk : (h : Int) / 2 ^ k = ((h / 2 ^ k : Nat) : Int) := by rw [two_pow17]; exact (Int.natCast_ediv h (2 ^ k)).symm
  have hdl := Nat.div_le_self h (2 ^ k)
  obtain ⟨r, hr⟩ : ∃ r, r = (h : Int) / 2 ^ k % 2 := ⟨_, rfl⟩
  have e1 : bits .and .u64 ((h : Int) / 2 ^ k) 1 = r := by
    rw [hr, hdk]
    clear hdk hr
    generalize h / 2 ^ k = d at *
    exact and_one_u64 _ (by omega) (by omega)
  have e2 : (r == 1) = h.testBit k := by
    rw [Bool.eq_iff_iff, ← has_bit17, ← hr, beq_iff_eq]
  clear hdk hdl
  clear hr
  generalize h.testBit k = b at *
  go_enter Try.func39, Try.ntmps39
  go_wp2_with fail
  go_ret
  exact ⟨rfl, rfl⟩
section
variable {val : Int → Int × Int} {w w' : World} {P : Nat → Prop} {sb gb room : Nat} {f : F17}
set_option maxHeartbeats 1000000 in
theorem thereP17 (h : SlabP17 val w P sb gb room f) : Calls Try.prog 35 #[.pointer (some ⟨sb, 0, none⟩)] w fun e w' => e = .returned (.bool true) ∧ w = w' := by
  have oc1 : w.cell? ⟨sb, 1, none⟩ = _ := h.top.cell 1
  generalize (room + 63) / 64 = m at oc1
  clear h
  go_enter Try.func35, Try.ntmps35
  go_wp2_with fail
  go_ret
  exact ⟨rfl, rfl⟩
set_option maxHeartbeats 400000 in
theorem findP17 (h : SlabP17 val w P sb gb room f) (n : Nat) (z : Int) (hz : z = n) (hn : n < room) : Calls Try.prog 38 #[.pointer (some ⟨sb, 0, none⟩), .int .i64 z] w fun e w' => e = .returned (fnd17 gb (n / 64) (f n).isSome) ∧ w = w' := by
  have HT := Lib.hid (thereP17 h)
  have oc0 : w.cell? ⟨sb, 0, none⟩ = _ := h.top.cell 0
  have oc1 : w.cell? ⟨sb, 1, none⟩ = _ := h.top.cell 1
  have hrm := h.rm
  obtain ⟨i, hi⟩ : ∃ i, i = n / 64 := ⟨_, rfl⟩
  obtain ⟨j, hj⟩ : ∃ j, j = n % 64 := ⟨_, rfl⟩
  obtain ⟨m, hm⟩ : ∃ m, m = (room + 63) / 64 := ⟨_, rfl⟩
  have him : i < m := by omega
  have hjl : j < 64 := by omega
  obtain ⟨t, hs, _⟩ := h.shelf (i := i) (by omega)
  have HB : Hid ((wd17 (seg17 f i)).testBit j = (f n).isSome) := Lib.hid (by rw [bit_seg17 hjl, hi, hj]; congr 2; omega)
  have hq : z.tdiv 64 = (i : Int) := by rw [hi, Int.tdiv_eq_ediv_of_nonneg (by omega)]; omega
  have hq2 : z.tmod 64 = (j : Int) := by rw [hj, Int.tmod_eq_emod_of_nonneg (by omega)]; omega
  have hq3 : z / 64 = (i : Int) := by rw [hi]; omega
  have hq4 : z % 64 = (j : Int) := by rw [hj]; omega
  have HS := Lib.hid hs
  have HW := Lib.hid (wd_seg17 f i)
  have him' : (i : Int) < m := by omega
  have h0 : ¬ z < 0 := by omega
  have hnr : ¬ (room : Int) ≤ z := by omega
  rw [← hm] at oc1
  rw [← hi]
  have hi64 : i < 64 := by omega
  have d0 : decide (z < 0) = false := decide_eq_false h0
  have d1 : decide ((room : Int) ≤ z) = false := decide_eq_false hnr
  clear h hs hi hj hm hrm hz
  generalize (f n).isSome = b at *
  go_enter Try.func38, Try.ntmps38
  go_wp2_with fail
  refine HT.out.mono ?_
  rintro e w1 ⟨rfl, rfl⟩
  go_wp2_with fail
  refine (hasP17 _ _ j w HS.out HW.out hjl).mono ?_
  rintro e w1 ⟨rfl, rfl⟩
  rw [HB.out]
  cases b with
  | true =>
    go_wp2_with fail
    go_ret2
    exact ⟨rfl, rfl⟩
  | false =>
    go_wp2_with fail
    go_ret2
    exact ⟨rfl, rfl⟩
end
section
variable {val : Int → Int × Int} {w w' : World} {P : Nat → Prop} {sb gb room : Nat} {f : F17}
theorem SlabP17.has (h : SlabP17 val w P sb gb room f) {i j : Nat} (hi : i < (room + 63) / 64) (hj : j < 64) :
    Calls Try.prog 39 #[.pointer (some ⟨gb, i * 2, none⟩), .int .i64 j] w fun e w' => e = .returned (.bool (f (i * 64 + j)).isSome) ∧ w = w' := by
  obtain ⟨t, hs, _⟩ := h.shelf hi
  rw [← bit_seg17 hj]
  exact hasP17 _ _ j w hs (wd_seg17 f i) hj
set_option maxHeartbeats 2000000 in
theorem freeP17 (h : SlabP17 val w P sb gb room f) : Calls Try.prog 36 #[.pointer (some ⟨sb, 0, none⟩)] w (FreeDone17 f w) := by
  have oc1 : w.cell? ⟨sb, 1, none⟩ = _ := h.top.cell 1
  have hrm := h.rm
  obtain ⟨m, hm⟩ : ∃ m, m = (room + 63) / 64 := ⟨_, rfl⟩
  have HAS : Hid (∀ i j : Nat, i < m → j < 64 → Calls Try.prog 39 #[.pointer (some ⟨gb, i * 2, none⟩), .int .i64 j] w fun e w' => e = .returned (.bool (f (i * 64 + j)).isSome) ∧ w = w') := Lib.hid fun i j hi hj => h.has (by omega) hj
  have HO : Hid (f (m * 64) = none) := Lib.hid (h.out _ (by omega))
  have hm64 : m ≤ 64 := by omega
  rw [← hm] at oc1
  have HE : Hid (∀ (n : Nat) (z : Int), z = n → Lst17 f n → FreeDone17 f w (.returned (.int .i64 z)) w) := Lib.hid fun n z hz hn => ⟨⟨n, hn, by rw [hz]⟩, rfl⟩
  generalize FreeDone17 f w = D at *
  clear h hm hrm
  go_enter Try.func36, Try.ntmps36
  go_wp2_with fail
  go_step3
  go_wp2_with fail
  go_step3
  go_wp2_with fail
  go_loopw [3, 11] (fun n c wr => ∃ i : Nat, i ≤ m ∧ n = .int .i64 ((i * 64 : Nat) : Int) ∧ c = .int .i64 i ∧ Hid (∀ k, k < i * 64 → (f k).isSome = true) ∧ wr = w) (fun n c _ => m - (intOf c).toNat)
  case atStart => exact ⟨0, Nat.zero_le _, rfl, rfl, Lib.hid (fun k hk => absurd hk (by omega)), rfl⟩
  case round =>
    obtain ⟨i, hi, rfl, rfl, HI, hw⟩ := hrel
    have hw' := hw.symm
    subst hw'
    by_cases hlt : i < m
    · have hlt' : (i : Int) < m := by omega
      go_wp2_with fail
      go_loopw [3, 14] (fun n c wr => ∃ j : Nat, j ≤ 64 ∧ n = .int .i64 ((i * 64 + j : Nat) : Int) ∧ c = .int .i64 j ∧ Hid (∀ k, k < i * 64 + j → (f k).isSome = true) ∧ wr = w) (fun n c _ => 64 - (intOf c).toNat)
      case atStart => exact ⟨0, Nat.zero_le _, rfl, rfl, HI, rfl⟩
      case round =>
        obtain ⟨j, hj, rfl, rfl, HJ, hw⟩ := hrel
        have hw' := hw.symm
        subst hw'
        by_cases hj6 : j < 64
        · have hj6' : (j : Int) < 64 := by omega
          go_wp2_with fail
          refine (HAS.out i j hlt hj6).mono ?_
          rintro e w' ⟨rfl, rfl⟩
          obtain ⟨b, hb⟩ : ∃ b, b = (f (i * 64 + j)).isSome := ⟨_, rfl⟩
          have HBB := Lib.hid hb
          rw [← hb]
          clear hb
          cases b with
          | true =>
            go_wp2_with fail
            go_roundw
            case rel => exact ⟨j + 1, by omega, by go_num, by go_num, Lib.hid (fun k hk => by
              rcases Nat.lt_succ_iff_lt_or_eq.1 (show k < i * 64 + j + 1 by omega) with hk | rfl
              · exact HJ.out k hk
              · exact HBB.out.symm), trivial⟩
            case measure => simp [intOf]; omega
          | false =>
            have hx : Hid (Lst17 f (i * 64 + j)) := Lib.hid ⟨HJ.out, by cases hfn : f (i * 64 + j) with
              | none => rfl
              | some v => have := HBB.out; rw [hfn] at this; cases this⟩
            go_wp2_with fail
            exact HE.out (i * 64 + j) _ (by omega) hx.out
        · have hje : j = 64 := by omega
          have hj6' : ¬ (j : Int) < 64 := by omega
          subst hje
          go_wp2_with fail
          go_roundw
          case rel => exact ⟨i + 1, by omega, by go_num, by go_num, Lib.hid (fun k hk => HJ.out k (by omega)), trivial⟩
          case measure => simp [intOf]; omega
    · have hie : i = m := by omega
      have hlt' : ¬ (i : Int) < m := by omega
      subst hie
      have hx : Hid (Lst17 f (i * 64)) := Lib.hid ⟨HI.out, HO.out⟩
      go_wp2_with fail
      exact HE.out (i * 64) _ (by omega) hx.out
end
theorem size_shP17 (x y : Value) : (Try.prog.info? 83).map (·.size) = some [x, y].length := by
  show _ = some 2
  kernel_rfl
theorem zero_shP17 : (Try.prog.info? 83).map (·.zero) = some (some (.agg [.int .u64 0, .slice none 0 0].toArray)) := by kernel_rfl
theorem th_oneP17 (x : Int) (t : Option Nat) : ∀ u ∈ [Value.int .u64 x, thV17 t], u.oneCell' = true := by
  intro u hu
  simp only [List.mem_cons, List.not_mem_nil, or_false] at hu
  rcases hu with rfl | rfl
  · rfl
  · cases t <;> rfl
section
variable {val : Int → Int × Int} {w w' : World} {P : Nat → Prop} {sb gb room : Nat} {f : F17}
set_option maxHeartbeats 2000000 in
theorem lenP17 (h : SlabP17 val w P sb gb room f) : Calls Try.prog 25 #[.pointer (some ⟨sb, 0, none⟩)] w fun e w' => e = .returned (.int .i64 (cnt17 f room)) ∧ Below w.heap.size w w' := by
  have HT := Lib.hid (thereP17 h)
  have HN : Hid (cnt17 f ((room + 63) / 64 * 64) = cnt17 f room) := Lib.hid (cnt_out17 h.out _ (by omega))
  have hrm := h.rm
  have HH := Lib.hid h
  have oc1 : w.cell? ⟨sb, 1, none⟩ = _ := h.top.cell 1
  obtain ⟨m, hm⟩ : ∃ m, m = (room + 63) / 64 := ⟨_, rfl⟩
  have HM : Hid (m = (room + 63) / 64) := Lib.hid hm
  have hm64 : m ≤ 64 := by omega
  rw [← hm] at oc1 HN
  clear h hm hrm
  go_enter Try.func25, Try.ntmps25
  go_wp2_with fail
  refine HT.out.mono ?_
  rintro e w1 ⟨rfl, rfl⟩
  go_wp2_with fail
  go_loopw [3, 14] (fun n c wr => ∃ i : Nat, i ≤ m ∧ n = .int .i64 (cnt17 f (i * 64) : Nat) ∧ c = .int .i64 i ∧ Hid (Below w.heap.size w wr)) (fun n c _ => m - (intOf c).toNat)
  case atStart => exact ⟨0, Nat.zero_le _, rfl, rfl, Lib.hid (Below.refl _ _)⟩
  case round =>
    obtain ⟨i, hi, rfl, rfl, HB⟩ := hrel
    have hcl := cnt_le17 f (i * 64)
    by_cases hlt : i < m
    · have hlt' : (i : Int) < m := by omega
      obtain ⟨t, h1, h2, _, _, _, h3⟩ := HH.out.shelf (i := i) (by rw [← HM.out]; exact hlt)
      have HX := Lib.hid (wd_seg17 f i)
      have HS := Lib.hid (cnt_seg17 f i)
      obtain ⟨x, hx⟩ : ∃ x, x = wd17 (seg17 f i) := ⟨_, rfl⟩
      rw [← hx] at h1 HX HS
      have HCC : Hid (∀ j u, [Value.int .u64 x, thV17 t][j]? = some u → wr.cell? ((⟨gb, i * 2, none⟩ : Addr).add j) = some u) := Lib.hid fun j u hu => by
        rw [addr_row, HB.out.cell (p := ⟨gb, i * 2 + j, none⟩) h3]
        match j, hu with
        | 0, hu => cases hu; exact h1
        | 1, hu => cases hu; exact h2
      clear h1 h2 h3 hx
      go_upto_region 7 with (first
        | ((with_reducible show wpList _ _ _ ({ dst := some 17, op := Op.load _ _, type := _, pos := _, after := _, guard := _ } :: _) _ _); go_must (refine wpList_load_at rfl 83 (.tmp 16) rfl ⟨gb, i * 2, none⟩ [Value.int .u64 x, thV17 t] _ Try.underlying83 rfl (size_shP17 _ _) HCC.out ?_ ?_; go_simp))
        | ((with_reducible show wpList _ _ _ ({ dst := some 5, op := Op.alloc _, type := _, pos := _, after := _, guard := _ } :: _) _ _); go_must (refine wpList_alloc_zero rfl 83 rfl [.int .u64 0, .slice none 0 0] zero_shP17 ?_))
        | ((with_reducible show wpList _ _ _ ({ dst := none, op := Op.store 83 (.tmp 5) _, type := _, pos := _, after := _, guard := _ } :: _) _ _); go_must (refine wpList_store_new rfl 83 (.tmp 5) (.tmp 17) rfl [Value.int .u64 x, thV17 t] (size_shP17 _ _) (th_oneP17 _ _) rfl ?_ ?_ ?_; go_simp; go_simp; intro w1 hr1 hb1 hz1)))
      have oc5 : w1.cell? ⟨wr.heap.size, 0, none⟩ = _ := hr1.cell 0
      have HB1 := Lib.hid (HB.out.trans (hb1.mono HB.out.size))
      clear hr1 hb1 hz1
      go_wp2_with fail
      refine (ones17 x w1 HX.out).mono ?_
      rintro e w2 ⟨rfl, rfl⟩
      have hpl := pop_le17 64 x
      have HS2 : Hid ((cnt17 f (i * 64) : Int) + (pop17 64 x : Nat) = (cnt17 f (i * 64 + 64) : Nat)) := Lib.hid (by rw [HS.out]; omega)
      have hn4096 : i * 64 ≤ 4096 := by omega
      generalize cnt17 f (i * 64) = c0 at *
      generalize pop17 64 x = p0 at *
      go_wp2_with fail
      go_roundw
      case rel => exact ⟨i + 1, by omega, by rw [show (i + 1) * 64 = i * 64 + 64 by omega, ← HS2.out], by go_num, HB1⟩
      case measure => simp [intOf]; omega
    · have hie : i = m := by omega
      have hlt' : ¬ (i : Int) < m := by omega
      subst hie
      rw [HN.out]
      go_wp2_with fail
      go_ret
      exact ⟨rfl, HB.out⟩
end
theorem info_shP17 : (Try.prog.info? 83).map (fun i => (i.zero, i.size, i.bytes)) = some (some (.agg [.int .u64 0, .slice none 0 0].toArray), 2, 32) := by kernel_rfl
theorem made_shP17 (m : Nat) : (madeCells (Value.agg [.int .u64 0, .slice none 0 0].toArray).cells (m * 2)).toList.length = m * 2 ∧ ∀ i, i < m → (madeCells (Value.agg [.int .u64 0, .slice none 0 0].toArray).cells (m * 2)).toList[i * 2]? = some (.int .u64 0) ∧ (madeCells (Value.agg [.int .u64 0, .slice none 0 0].toArray).cells (m * 2)).toList[i * 2 + 1]? = some (.slice none 0 0) := by
  refine ⟨by simp [madeCells], fun i hi => ⟨?_, ?_⟩⟩
  · have h1 : i * 2 < m * 2 := by omega
    have h2 : i * 2 % 2 = 0 := by omega
    simp [madeCells, Value.cells, h1, h2]
  · have h1 : i * 2 + 1 < m * 2 := by omega
    have h2 : (i * 2 + 1) % 2 = 1 := by omega
    simp [madeCells, Value.cells, h1, h2]
theorem built_slabP17 (z : Int) (g m : Nat) : Try.prog.built 80 [(0, .int .i64 z), (1, .slice (some ⟨g, 0, none⟩) m m)] = some [Value.int .i64 z, .slice (some ⟨g, 0, none⟩) m m].toArray := by kernel_rfl
section
variable {val : Int → Int × Int} {w w' : World} {P : Nat → Prop}
set_option maxHeartbeats 2000000 in
theorem newP17 (room : Nat) (z : Int) (hz : z = room) (hr : 1 ≤ room ∧ room ≤ 4096) (hP : ∀ k, w.heap.size ≤ k → P k) : Calls Try.prog 22 #[.int .i64 z] w fun e w' => ∃ sb gb, e = .returned (.tuple #[.pointer (some ⟨sb, 0, none⟩), .int .i64 0]) ∧ SlabP17 val w' P sb gb room none17 ∧ w.heap.size ≤ sb ∧ w.heap.size ≤ gb ∧ Below w.heap.size w w' := by
  obtain ⟨m, hm⟩ : ∃ m, m = (room + 63) / 64 := ⟨_, rfl⟩
  have d0 : decide (z < 1) = false := decide_eq_false (by omega)
  have d1 : decide (4096 < z) = false := decide_eq_false (by omega)
  have hz1 : 1 ≤ z := by omega
  have hz2 : z ≤ 4096 := by omega
  have hq1 : (z + 64 - 1).tdiv 64 = (m : Int) := by rw [Int.tdiv_eq_ediv_of_nonneg (by omega)]; omega
  have hq2 : (z + 63).tdiv 64 = (m : Int) := by rw [Int.tdiv_eq_ediv_of_nonneg (by omega)]; omega
  have hm64 : m ≤ 64 := by omega
  have HZ := Lib.hid hz
  have HM := Lib.hid hm
  have HP := Lib.hid hP
  clear hz hm hP
  go_enter Try.func22, Try.ntmps22
  go_wp2_with (first
    | (at_make; (obtain ⟨i0, hi, hz0, hz1, hz2⟩ := info_parts info_shP17); go_must (refine wpList_make_full _ rfl (.tmp 14) (.tmp 14) 78 rfl w.heap.size 83 i0 _ 2 Try.underlying78 hi hz0 hz1 .i64 .i64 _ _ m ?_ ?_ rfl rfl (by rw [hz2]; omega) (by unfold maxLen; omega) (Nat.le_refl _) ?_; go_simp; go_simp; intro w1 hown hgrow))
    | ((with_reducible show wpList _ _ _ ({ dst := some 16, op := Op.build _ _, type := _, pos := _, after := _, guard := _ } :: _) _ _); go_must (refine wpList_plain rfl fun K hK => wp_built _ _ _ rfl (by simp only [List.map_toArray, List.map_cons, List.map_nil]; exact (built_slabP17 _ _ _)) (hK _ _ ?_)))
    | ((with_reducible show wpList _ _ _ ({ dst := some 17, op := Op.box _ _, type := _, pos := _, after := _, guard := _ } :: _) _ _); go_must (refine wpList_box_new rfl 80 (.tmp 16) rfl [.int .i64 z, .slice (some ⟨w.heap.size, 0, none⟩) m m] ?_ ?_; go_simp))
    | fail)
  go_ret2
  obtain ⟨h1, h2⟩ := made_shP17 m
  have hrow : Row w1 w.heap.size 83 _ ∧ _ := row_own17 hown
  have hb1 := (Below.refl w.heap.size w).grown hgrow (Nat.le_refl _) (fun k hk => by cases hk)
  have hb := hb1.alloc hb1.size (.cells [Value.int .i64 z, .slice (some ⟨w.heap.size, 0, none⟩) m m].toArray 80)
  refine ⟨w1.heap.size, w.heap.size, rfl, ⟨hr, fun _ _ => rfl, ?_, HP.out _ (Nat.le_refl _), _, fun _ => none, hrow.1.alloc _, by rw [h1, HM.out], fun i hi => ⟨?_, ?_, ⟨fun _ => seg_none17 i, fun g hg => by cases hg⟩⟩, fun i j t _ _ _ ht => by cases ht⟩, hb1.size, Nat.le_refl _, hb⟩
  · rw [← HM.out, ← HZ.out]
    exact Row.new w1 80 _
  · rw [wd_zero17.2 (seg_none17 i)]
    exact (h2 i (by rw [HM.out]; exact hi)).1
  · exact (h2 i (by rw [HM.out]; exact hi)).2
end
end Go.Proofs.Ytkhcgclnmdgpbaa

/-
  Of part PairPut17: what is needed here.
-/
namespace Go.Proofs.Ytkhcgclnmdgpbaa
open Go.RowKit
set_option linter.unusedVariables false
set_option maxRecDepth 100000
section
variable {val : Int → Int × Int} {w w' : World} {P : Nat → Prop} {sb gb room : Nat} {f : F17}
theorem slab_upP17 {n i0 : Nat} {v : Option Int} {t' : Option Nat} {xs zs : List Value} {th : Nat → Option Nat} (h : SlabP17 val w P sb gb room f) (hn : n < room) (hi0 : i0 = n / 64) (h1 : Row w gb 83 xs) (h2 : xs.length = (room + 63) / 64 * 2)
    (h3 : ∀ i, i < (room + 63) / 64 → xs[i * 2]? = some (.int .u64 (wd17 (seg17 f i))) ∧ xs[i * 2 + 1]? = some (thV17 (th i)) ∧ ThP17 val w P (seg17 f i) (th i))
    (h4 : ∀ i j t, i ≠ j → i < (room + 63) / 64 → j < (room + 63) / 64 → th i = some t → th j ≠ some t)
    (hs : w'.heap[sb]? = w.heap[sb]?) (hg : Row w' gb 83 zs) (hzl : zs.length = xs.length) (hz1 : zs[i0 * 2]? = some (.int .u64 (wd17 (seg17 (up17 f n v) i0)))) (hz2 : zs[i0 * 2 + 1]? = some (thV17 t')) (hzk : ∀ k, k ≠ i0 * 2 → k ≠ i0 * 2 + 1 → zs[k]? = xs[k]?)
    (ht : ThP17 val w' P (seg17 (up17 f n v) i0) t') (hk : ∀ k, k < w.heap.size → k ≠ gb → th i0 ≠ some k → w'.heap[k]? = w.heap[k]?) (hne : ∀ t, t' = some t → t = w.heap.size ∨ th i0 = some t) : SlabP17 val w' P sb gb room (up17 f n v) := by
  subst hi0
  have hnm : n / 64 < (room + 63) / 64 := by omega
  have hlt : ∀ i t, i < (room + 63) / 64 → th i = some t → t < w.heap.size ∧ t ≠ gb := fun i t hi e => by
    obtain ⟨_, ys, hr, _⟩ := (h3 i hi).2.2.yes t e
    exact ⟨hr.lt, row_ne12 hr h1 (by decide)⟩
  refine ⟨h.rm, fun k hk2 => ?_, ⟨hs.trans h.top.is⟩, h.own, _, thS17 th (n / 64) t', hg, by rw [hzl]; exact h2, fun i hi => ?_, fun i j t hij hi hj e1 e2 => ?_⟩
  · simp only [up17]
    rw [if_neg (by omega)]
    exact h.out k hk2
  · by_cases hin : i = n / 64
    · subst hin
      rw [ths_self17]
      exact ⟨hz1, hz2, ht⟩
    · rw [ths_ne17 th t' hin, hzk _ (by omega) (by omega), hzk _ (by omega) (by omega), seg_ne17 f v hin]
      refine ⟨(h3 i hi).1, (h3 i hi).2.1, (h3 i hi).2.2.no, fun g hg2 => ?_⟩
      obtain ⟨k1, ys, k2, k3⟩ := (h3 i hi).2.2.yes g hg2
      exact ⟨k1, ys, ⟨(hk g k2.lt (hlt i g hi hg2).2 (h4 i (n / 64) g hin hi hnm hg2)).trans k2.is⟩, k3⟩
  · by_cases hin : i = n / 64
    · rw [hin, ths_self17] at e1
      rw [ths_ne17 th t' (by omega)] at e2
      rcases hne t e1 with h5 | h5
      · have := (hlt j t hj e2).1; omega
      · exact h4 j (n / 64) t (by omega) hj hnm e2 h5
    · rw [ths_ne17 th t' hin] at e1
      by_cases hjn : j = n / 64
      · rw [hjn, ths_self17] at e2
        rcases hne t e2 with h5 | h5
        · have := (hlt i t hi e1).1; omega
        · exact h4 i (n / 64) t hin hi hnm e1 h5
      · rw [ths_ne17 th t' hjn] at e2
        exact h4 i j t hij hi hj e1 e2
theorem th_upP17 {n i j t : Nat} {c : Int} {ys zs : List Value} (hi : i = n / 64) (hj : j = n % 64) (hr : Row w' t 59 zs) (hl : zs.length = 128) (hp : P t) (h1 : zs[j * 2]? = some (.int .u64 (val c).1)) (h2 : zs[j * 2 + 1]? = some (.int .u64 (val c).2)) (hk : ∀ k, k ≠ j * 2 → k ≠ j * 2 + 1 → zs[k]? = ys[k]?)
    (hy : ∀ (k : Nat) (c : Int), (seg17 f i)[k]? = some (some c) → ys[k * 2]? = some (.int .u64 (val c).1) ∧ ys[k * 2 + 1]? = some (.int .u64 (val c).2)) :
    ThP17 val w' P (seg17 (up17 f n (some c)) i) (some t) := by
  refine ⟨fun e => (by cases e), fun g hg => ?_⟩
  cases hg
  refine ⟨hp, _, hr, hl, fun k y hkk => ?_⟩
  rw [hi, seg_up17, ← hj, ← hi, List.getElem?_set, seg_len17] at hkk
  by_cases hjk : j = k
  · rw [if_pos hjk, if_pos (by omega)] at hkk
    obtain rfl := Option.some.inj (Option.some.inj hkk)
    rw [← hjk]
    exact ⟨h1, h2⟩
  · rw [if_neg hjk] at hkk
    rw [hk _ (by omega) (by omega), hk _ (by omega) (by omega)]
    exact hy k y hkk
theorem size_pr17 (x y : Value) : (Try.prog.info? 59).map (·.size) = some [x, y].length := by
  show _ = some 2
  kernel_rfl
theorem pr_one17 (x y : Int) : ∀ u ∈ [Value.int .u64 x, .int .u64 y], u.oneCell' = true := by
  intro u hu
  simp only [List.mem_cons, List.not_mem_nil, or_false] at hu
  rcases hu with rfl | rfl <;> rfl
theorem info_pr17 : (Try.prog.info? 59).map (fun i => (i.zero, i.size, i.bytes)) = some (some (.agg #[.int .u64 0, .int .u64 0]), 2, 16) := by kernel_rfl
theorem part_self17 {zs ys : List Value} {o : Nat} {a b : Value} (h : o + 2 ≤ ys.length) (e : zs = ys.take o ++ [a, b] ++ ys.drop (o + [a, b].length)) : zs.length = ys.length ∧ zs[o]? = some a ∧ zs[o + 1]? = some b ∧ ∀ k, k ≠ o → k ≠ o + 1 → zs[k]? = ys[k]? := by
  subst e
  have ht : (ys.take o).length = o := by rw [List.length_take]; omega
  have h2 : ([a, b] : List Value).length = 2 := rfl
  refine ⟨by simp; omega, ?_, ?_, fun k h3 h4 => ?_⟩
  · rw [List.append_assoc, List.getElem?_append_right (by omega), ht, Nat.sub_self]; rfl
  · rw [List.append_assoc, List.getElem?_append_right (by omega), ht, Nat.add_sub_cancel_left]; rfl
  · rcases Nat.lt_or_ge k o with h5 | h5
    · rw [List.append_assoc, List.getElem?_append_left (by omega), List.getElem?_take_of_lt h5]
    · rw [List.getElem?_append_right (by rw [List.length_append, ht, h2]; omega), List.length_append, ht, h2, List.getElem?_drop]
      congr 1
      omega
set_option maxHeartbeats 400000 in
theorem shputP17 (h : SlabP17 val w P sb gb room f) (n : Nat) (x a b : Int) (hv : val x = (a, b)) (i j : Nat) (hi : i = n / 64) (hj : j = n % 64) (hn : n < room) (hP : ∀ k, w.heap.size ≤ k → P k) :
    Calls Try.prog 37 #[.pointer (some ⟨gb, i * 2, none⟩), .int .i64 j, .agg #[.int .u64 a, .int .u64 b]] w fun e w' => e = .returned (.tuple #[]) ∧ SlabP17 val w' P sb gb room (up17 f n (some x)) ∧ Only17 P w w' := by
  have hbx := (Below.refl w.heap.size w).alloc (Nat.le_refl _) (.cells #[.int .u64 a, .int .u64 b] 59)
  have HBO : Hid (Only17 P w (w.alloc (.cells #[.int .u64 a, .int .u64 b] 59))) := Lib.hid (Only17.of hbx (Nat.le_refl _))
  have HX5 : Hid (Row (w.alloc (.cells #[.int .u64 a, .int .u64 b] 59)) w.heap.size 59 [.int .u64 a, .int .u64 b]) := Lib.hid (Row.new w 59 [.int .u64 a, .int .u64 b])
  obtain ⟨g5, hg5⟩ : ∃ g, g = w.heap.size := ⟨_, rfl⟩
  have HG5 : Hid (w.heap.size = g5) := Lib.hid hg5.symm
  rw [← hg5] at HX5
  have h := h.below hbx
  have hP : ∀ k, (w.alloc (.cells #[.int .u64 a, .int .u64 b] 59)).heap.size ≤ k → P k := fun k hk => hP k (Nat.le_trans hbx.size hk)
  clear hbx hg5
  go_enter Try.func37, Try.ntmps37
  go_upto_region 1 with (first
    | ((with_reducible show wpList _ _ _ ({ dst := some 5, op := Op.box _ _, type := _, pos := _, after := _, guard := _ } :: _) _ _); go_must (refine wpList_box_new rfl 59 (.tmp 2) rfl [.int .u64 a, .int .u64 b] ?_ ?_; go_simp)))
  rw [HG5.out]
  have HVV := Lib.hid hv
  clear hv
  generalize w.alloc (.cells #[.int .u64 a, .int .u64 b] 59) = w at *
  obtain ⟨xs, th, h1, h2, h3, h4⟩ := h.she
  obtain ⟨c1, c2, c3⟩ := h3 i (by omega)
  have hjl : j < 64 := by omega
  have h0 : (0 : Int) ≤ j := by omega
  have h64 : (j : Int) ≤ 64 := by omega
  have oc : w.cell? ⟨gb, i * 2, none⟩ = some (.int .u64 (wd17 (seg17 f i))) := (h1.cell _).trans c1
  have oc1 : w.cell? ⟨gb, i * 2 + 1, none⟩ = some (thV17 (th i)) := (h1.cell _).trans c2
  have fr := h1.frozen (i * 2)
  have HW : Hid (wd17 (seg17 (up17 f n (some x)) i) = wd17 (seg17 f i) ||| 2 ^ j) := Lib.hid (by rw [hi, hj, seg_up17, wd_set17 (by rw [seg_len17]; omega)])
  obtain ⟨wd, hwd⟩ : ∃ d, d = wd17 (seg17 f i) := ⟨_, rfl⟩
  have HWL := wd_seg17 f i
  rw [← hwd] at oc HW HWL
  have e2 := or_bit17 wd j HWL hjl
  rw [← HW.out] at e2
  have e3 : IntKind.u64.wrap (1 * 2 ^ j) = IntKind.u64.wrap (2 ^ j) := by rw [Int.one_mul]
  obtain ⟨pw, hpw⟩ : ∃ p, p = IntKind.u64.wrap (2 ^ j) := ⟨_, rfl⟩
  rw [e3, ← hpw] at e2
  rw [← hpw] at e3
  have e4 := hpw.symm
  have HHWD := Lib.hid hwd
  have H0 := Lib.hid h
  have H1 := Lib.hid h1
  have H2 := Lib.hid h2
  have H3 := Lib.hid h3
  have H4 := Lib.hid h4
  have HI := Lib.hid hi
  have HJ := Lib.hid hj
  have C3 := Lib.hid c3
  clear h h1 h2 h3 h4 c1 c2 c3 hpw hwd hi hj
  by_cases hz : wd = 0
  · have HZ := Lib.hid hz
    subst hz
    have e20 : bits .or .u64 0 pw = ((wd17 (seg17 (up17 f n (some x)) i) : Nat) : Int) := e2
    have oc0 : w.cell? ⟨gb, i * 2, none⟩ = some (.int .u64 0) := oc
    clear e2 oc
    have HNO : Hid (∀ (k : Nat) (y : Int), (seg17 f i)[k]? ≠ some (some y)) := Lib.hid fun k y hk => by
      have := wd_zero17.1 (HHWD.out.symm.trans rfl) _ (List.mem_of_getElem? hk)
      cases this
    obtain ⟨tn, htn⟩ : ∃ t, t = w.heap.size := ⟨_, rfl⟩
    have HTN : Hid (w.heap.size = tn) := Lib.hid htn.symm
    have HP := Lib.hid hP
    have HL1 : Hid (i * 2 + 1 < xs.length) := Lib.hid (by have := H2.out; have := HI.out; have := H0.out.rm; omega)
    clear oc1 hP
    go_upto_region 3 with (first
      | (at_make; (obtain ⟨i0, hii, hzz0, hzz1, hzz2⟩ := info_parts info_pr17); go_must (refine wpList_make_full _ rfl (.const (.int .i64 64)) (.const (.int .i64 64)) 81 rfl w.heap.size 59 i0 _ 2 Try.underlying81 hii hzz0 hzz1 .i64 .i64 _ _ 64 rfl rfl rfl rfl (by rw [hzz2]; omega) (by unfold maxLen; omega) (Nat.le_refl _) ?_; intro w1 hown hgrow; have oc9 : w1.cell? ⟨gb, i * 2 + 1, none⟩ = _ := ((H1.out.grown hgrow (by simp)).cell (i * 2 + 1)).trans (List.getElem?_eq_getElem HL1.out); have fr9 := (H1.out.grown hgrow (by simp)).frozen (i * 2 + 1)))
      | fail)
    obtain ⟨hr9, hl9⟩ := row_own17 hown
    have hg1 := H1.out.grown hgrow (by simp)
    rw [← htn] at hr9 ⊢
    generalize hyz : (madeCells (Value.agg #[.int .u64 0, .int .u64 0]).cells (64 * 2)).toList = ys at *
    have YL : ys.length = 128 := hl9
    have RXS : Row (w1.setCell ⟨gb, i * 2 + 1, none⟩ (.slice (some ⟨tn, 0, none⟩) 64 64)) gb 83 (xs.set (i * 2 + 1) (.slice (some ⟨tn, 0, none⟩) 64 64)) := hg1.set_ _ _
    have RYS : Row (w1.setCell ⟨gb, i * 2 + 1, none⟩ (.slice (some ⟨tn, 0, none⟩) 64 64)) tn 59 ys := hr9.far (by show tn ≠ gb; exact row_ne12 hr9 hg1 (by decide)) _
    have RBA : Row (w1.setCell ⟨gb, i * 2 + 1, none⟩ (.slice (some ⟨tn, 0, none⟩) 64 64)) g5 59 [.int .u64 a, .int .u64 b] := (HX5.out.grown hgrow (by simp)).far (by show g5 ≠ gb; exact row_ne12 (HX5.out.grown hgrow (by simp)) hg1 (by decide)) _
    have HKW : Hid (∀ k, k < w.heap.size → k ≠ gb → (w1.setCell ⟨gb, i * 2 + 1, none⟩ (.slice (some ⟨tn, 0, none⟩) 64 64)).heap[k]? = w.heap[k]?) := Lib.hid fun k h5 h6 => (Below.heap_setCell w1 ⟨gb, i * 2 + 1, none⟩ _ k h6).trans (hgrow.block k h5 (fun e => by cases e))
    have HW1 : Hid (Only17 P w (w1.setCell ⟨gb, i * 2 + 1, none⟩ (.slice (some ⟨tn, 0, none⟩) 64 64))) := Lib.hid ((only_grown17 hgrow).trans (only_cell17 H0.out.own))
    clear hown hgrow hr9 hl9 hg1 hyz oc9 fr9 htn
    generalize w1.setCell ⟨gb, i * 2 + 1, none⟩ (.slice (some ⟨tn, 0, none⟩) 64 64) = wa at *
    have OCS : (xs.set (i * 2 + 1) (.slice (some ⟨tn, 0, none⟩) 64 64))[i * 2 + 1]? = some (.slice (some ⟨tn, 0, none⟩) 64 64) := List.getElem?_set_self HL1.out
    have oc' : wa.cell? ⟨gb, i * 2, none⟩ = some (.int .u64 0) := by
      rw [RXS.cell, List.getElem?_set_ne (by omega), ← H1.out.cell]
      exact oc0
    have fr' : wa.frozen? ⟨gb, i * 2, none⟩ = false := RXS.frozen _
    clear oc0 fr
    go_region
    clear oc'
    have RG : Hid (Row (wa.setCell ⟨gb, i * 2, none⟩ (.int .u64 ((wd17 (seg17 (up17 f n (some x)) i) : Nat) : Int))).drew gb 83 ((xs.set (i * 2 + 1) (.slice (some ⟨tn, 0, none⟩) 64 64)).set (i * 2) (.int .u64 ((wd17 (seg17 (up17 f n (some x)) i) : Nat) : Int)))) := Lib.hid (RXS.set_ _ _).drew
    have RT : Hid (Row (wa.setCell ⟨gb, i * 2, none⟩ (.int .u64 ((wd17 (seg17 (up17 f n (some x)) i) : Nat) : Int))).drew tn 59 ys) := Lib.hid (RYS.far (by show tn ≠ gb; exact row_ne12 RYS RXS (by decide)) _).drew
    have HK : Hid (∀ k, k ≠ gb → (wa.setCell ⟨gb, i * 2, none⟩ (.int .u64 ((wd17 (seg17 (up17 f n (some x)) i) : Nat) : Int))).drew.heap[k]? = wa.heap[k]?) := Lib.hid fun k hk => Below.heap_setCell wa ⟨gb, i * 2, none⟩ _ k hk
    have HO : Hid (Only17 P wa (wa.setCell ⟨gb, i * 2, none⟩ (.int .u64 ((wd17 (seg17 (up17 f n (some x)) i) : Nat) : Int))).drew) := Lib.hid (only_set17 H0.out.own)
    have RB : Hid (Row (wa.setCell ⟨gb, i * 2, none⟩ (.int .u64 ((wd17 (seg17 (up17 f n (some x)) i) : Nat) : Int))).drew g5 59 [.int .u64 a, .int .u64 b]) := Lib.hid (RBA.far (by show g5 ≠ gb; exact row_ne12 RBA RXS (by decide)) _).drew
    generalize (wa.setCell ⟨gb, i * 2, none⟩ (.int .u64 ((wd17 (seg17 (up17 f n (some x)) i) : Nat) : Int))).drew = w2 at *
    have oc2 : w2.cell? ⟨gb, i * 2 + 1, none⟩ = some (.slice (some ⟨tn, 0, none⟩) 64 64) := by rw [RG.out.cell, List.getElem?_set_ne (by omega)]; exact OCS
    have oc3 := 0
    have fr3 := RT.out.frozen j
    have hj64 : (j : Int) < 64 := by omega
    go_upto_region 4 with fail
    clear oc2 oc3 fr3
    refine wp_region_held_drew (S := fun _ => True) (by kernel_rfl) trivial (fun _ => ?_)
    try dsimp only [List.append]
    have RG := Lib.hid RG.out.drew
    have RT := Lib.hid RT.out.drew
    have RB := Lib.hid RB.out.drew
    have HOD : Hid (Only17 P w w2.drew) := Lib.hid ((HW1.out.trans HO.out).trans (Only17.of (Below.refl _ _).drew (Nat.le_refl _)))
    have HKD : Hid (∀ k, k < w.heap.size → k ≠ gb → w2.drew.heap[k]? = w.heap[k]?) := Lib.hid fun k hk hkg => (HK.out k hkg).trans (HKW.out k hk hkg)
    generalize w2.drew = w3 at *
    have OC3 : Hid (w3.cell? ⟨gb, i * 2 + 1, none⟩ = some (.slice (some ⟨tn, 0, none⟩) 64 64)) := Lib.hid (by rw [RG.out.cell, List.getElem?_set_ne (by omega)]; exact OCS)
    refine takeL (i := 0) (v := ?_) rfl (by kernel_rfl) (by kernel_rfl) (by kernel_rfl) (fun _ _ _ h => h) (Or.inl ⟨by rfl, ?_⟩) trivial ?_
    rotate_left
    · intro w hw
      try dsimp only at hw
      go_simp
      try with_reducible rfl
    try simp only [Act.put, List.setIfInBounds_toArray, List.set_cons_zero, List.set_cons_succ]
    refine takeL (i := 1) (v := ?_) rfl (by kernel_rfl) (by kernel_rfl) (by kernel_rfl) (fun _ _ _ h => h) (Or.inl ⟨by rfl, ?_⟩) trivial ?_
    rotate_left
    · intro w hw
      try dsimp only at hw
      go_simp
      try with_reducible rfl
    try simp only [Act.put, List.setIfInBounds_toArray, List.set_cons_zero, List.set_cons_succ]
    refine takeL (i := 2) (v := ?_) rfl (by kernel_rfl) (by kernel_rfl) (by kernel_rfl) (fun _ _ _ h => h) (Or.inl ⟨by rfl, ?_⟩) trivial ?_
    rotate_left
    · intro w hw
      try dsimp only at hw
      go_simp
      try with_reducible rfl
    try simp only [Act.put, List.setIfInBounds_toArray, List.set_cons_zero, List.set_cons_succ]
    refine takeL (i := 4) (v := ?_) rfl (by kernel_rfl) (by kernel_rfl) (by kernel_rfl) (fun _ _ _ h => h) (Or.inl ⟨by rfl, ?_⟩) trivial ?_
    rotate_left
    · intro w hw
      try dsimp only at hw
      go_simp
      try with_reducible rfl
    try simp only [Act.put, List.setIfInBounds_toArray, List.set_cons_zero, List.set_cons_succ]
    refine readyL2 (i := 3) (j := 5) rfl rfl (by kernel_rfl) (by kernel_rfl) (by kernel_rfl) (fun K hK => ?_) (fun K hK => ?_)
    · have oc := OC3.out
      go_simp
      clear oc
      refine hK.out _ _ trivial ?_
      clear hK K
      try simp only [Act.put, List.setIfInBounds_toArray, List.set_cons_zero, List.set_cons_succ]
      refine readyL (i := 5) rfl (by kernel_rfl) (by kernel_rfl) fun K hK => ?_
      unfold Oper.wp
      rw [exec_load_at w3 59 (.tmp 5) rfl ⟨g5, 0, none⟩ [.int .u64 a, .int .u64 b] _ Try.underlying59 rfl (size_pr17 _ _) (fun k u hu => by rw [addr_row, Nat.zero_add]; exact (RB.out.cell k).trans hu) (by go_simp)]
      refine hK.out _ _ trivial ?_
      clear hK K
      try simp only [Act.put, List.setIfInBounds_toArray, List.set_cons_zero, List.set_cons_succ]
      refine takeL (i := 6) (v := ?_) rfl (by kernel_rfl) (by kernel_rfl) (by kernel_rfl) (fun _ _ _ h => h) (Or.inl ⟨by rfl, ?_⟩) trivial ?_
      rotate_left
      · intro w hw
        try dsimp only at hw
        go_simp
        try with_reducible rfl
      try simp only [Act.put, List.setIfInBounds_toArray, List.set_cons_zero, List.set_cons_succ]
      refine readyL (i := 7) rfl (by kernel_rfl) (by kernel_rfl) fun K hK => ?_
      refine wp_store_part 59 (.tmp 30) (.tmp 29) rfl tn 59 (j * 2) ys [.int .u64 a, .int .u64 b] RT.out (size_pr17 _ _) (by rw [YL]; show j * 2 + 2 ≤ 128; omega) (pr_one17 _ _) (by go_simp) (by go_simp) ?_
      intro w4 hr4 ht4
      refine hK.out _ _ trivial ?_
      clear hK K
      try simp only [Act.put]
      refine wpAnyH_done (by kernel_rfl) ?_ _
      obtain ⟨zs, hzs⟩ : ∃ zs, zs = ys.take (j * 2) ++ [Value.int .u64 a, .int .u64 b] ++ ys.drop (j * 2 + [Value.int .u64 a, .int .u64 b].length) := ⟨_, rfl⟩
      rw [← hzs] at hr4
      obtain ⟨pl, p1, p2, pk⟩ := part_self17 (by rw [YL]; omega) hzs
      have hgt : gb ≠ tn := row_ne12 RG.out RT.out (by decide)
      have hst : sb ≠ gb := row_ne12 H0.out.top H1.out (by decide)
      go_wp2_with fail
      refine bodyPost_end (results_none rfl _ _ _) rfl ?_
      refine ⟨rfl, slab_upP17 H0.out hn HI.out H1.out H2.out H3.out H4.out ?_ ⟨(ht4.block gb hgt).trans RG.out.is⟩ ?_ ?_ ?_ ?_ (th_upP17 HI.out HJ.out hr4 (pl.trans YL) (HP.out _ (by have := HTN.out; omega)) (by rw [HVV.out]; exact p1) (by rw [HVV.out]; exact p2) pk (fun k c hk => absurd hk (HNO.out k c))) ?_ ?_, HBO.out.trans (HOD.out.trans ⟨ht4.os, ht4.tape, ht4.output, Nat.le_of_eq ht4.size.symm, fun k hk hp => ht4.block k fun e => hp (by rw [e]; exact (HP.out _ (by have := HTN.out; omega)))⟩)⟩
      · exact (ht4.block sb (by have := HTN.out; have := H0.out.top.lt; omega)).trans (HKD.out sb H0.out.top.lt hst)
      · rw [List.length_set, List.length_set]
      · rw [List.getElem?_set_self (by rw [List.length_set]; have := H2.out; have := HI.out; have := H0.out.rm; omega)]
      · rw [List.getElem?_set_ne (by omega)]; exact OCS
      · intro k h5 h6; rw [List.getElem?_set_ne (by omega), List.getElem?_set_ne (by omega)]
      · intro k hk hkg hkt
        exact (ht4.block k (by have := HTN.out; omega)).trans (HKD.out k hk hkg)
      · intro g hg; cases hg; exact .inl HTN.out.symm
    · unfold Oper.wp
      rw [exec_load_at w3 59 (.tmp 5) rfl ⟨g5, 0, none⟩ [.int .u64 a, .int .u64 b] _ Try.underlying59 rfl (size_pr17 _ _) (fun k u hu => by rw [addr_row, Nat.zero_add]; exact (RB.out.cell k).trans hu) (by go_simp)]
      refine hK.out _ _ trivial ?_
      clear hK K
      try simp only [Act.put, List.setIfInBounds_toArray, List.set_cons_zero, List.set_cons_succ]
      refine readyL (i := 3) rfl (by kernel_rfl) (by kernel_rfl) fun K hK => ?_
      have oc := OC3.out
      go_simp
      clear oc
      refine hK.out _ _ trivial ?_
      clear hK K
      try simp only [Act.put, List.setIfInBounds_toArray, List.set_cons_zero, List.set_cons_succ]
      refine takeL (i := 6) (v := ?_) rfl (by kernel_rfl) (by kernel_rfl) (by kernel_rfl) (fun _ _ _ h => h) (Or.inl ⟨by rfl, ?_⟩) trivial ?_
      rotate_left
      · intro w hw
        try dsimp only at hw
        go_simp
        try with_reducible rfl
      try simp only [Act.put, List.setIfInBounds_toArray, List.set_cons_zero, List.set_cons_succ]
      refine readyL (i := 7) rfl (by kernel_rfl) (by kernel_rfl) fun K hK => ?_
      refine wp_store_part 59 (.tmp 30) (.tmp 29) rfl tn 59 (j * 2) ys [.int .u64 a, .int .u64 b] RT.out (size_pr17 _ _) (by rw [YL]; show j * 2 + 2 ≤ 128; omega) (pr_one17 _ _) (by go_simp) (by go_simp) ?_
      intro w4 hr4 ht4
      refine hK.out _ _ trivial ?_
      clear hK K
      try simp only [Act.put]
      refine wpAnyH_done (by kernel_rfl) ?_ _
      obtain ⟨zs, hzs⟩ : ∃ zs, zs = ys.take (j * 2) ++ [Value.int .u64 a, .int .u64 b] ++ ys.drop (j * 2 + [Value.int .u64 a, .int .u64 b].length) := ⟨_, rfl⟩
      rw [← hzs] at hr4
      obtain ⟨pl, p1, p2, pk⟩ := part_self17 (by rw [YL]; omega) hzs
      have hgt : gb ≠ tn := row_ne12 RG.out RT.out (by decide)
      have hst : sb ≠ gb := row_ne12 H0.out.top H1.out (by decide)
      go_wp2_with fail
      refine bodyPost_end (results_none rfl _ _ _) rfl ?_
      refine ⟨rfl, slab_upP17 H0.out hn HI.out H1.out H2.out H3.out H4.out ?_ ⟨(ht4.block gb hgt).trans RG.out.is⟩ ?_ ?_ ?_ ?_ (th_upP17 HI.out HJ.out hr4 (pl.trans YL) (HP.out _ (by have := HTN.out; omega)) (by rw [HVV.out]; exact p1) (by rw [HVV.out]; exact p2) pk (fun k c hk => absurd hk (HNO.out k c))) ?_ ?_, HBO.out.trans (HOD.out.trans ⟨ht4.os, ht4.tape, ht4.output, Nat.le_of_eq ht4.size.symm, fun k hk hp => ht4.block k fun e => hp (by rw [e]; exact (HP.out _ (by have := HTN.out; omega)))⟩)⟩
      · exact (ht4.block sb (by have := HTN.out; have := H0.out.top.lt; omega)).trans (HKD.out sb H0.out.top.lt hst)
      · rw [List.length_set, List.length_set]
      · rw [List.getElem?_set_self (by rw [List.length_set]; have := H2.out; have := HI.out; have := H0.out.rm; omega)]
      · rw [List.getElem?_set_ne (by omega)]; exact OCS
      · intro k h5 h6; rw [List.getElem?_set_ne (by omega), List.getElem?_set_ne (by omega)]
      · intro k hk hkg hkt
        exact (ht4.block k (by have := HTN.out; omega)).trans (HKD.out k hk hkg)
      · intro g hg; cases hg; exact .inl HTN.out.symm
  · have hz2 : ¬ (wd : Int) = 0 := by omega
    have hz' : ((wd : Int) == 0) = false := by rw [beq_eq_false_iff_ne]; omega
    obtain ⟨t, hti⟩ : ∃ t, th i = some t := by
      cases hti : th i with
      | some t => exact ⟨t, rfl⟩
      | none => exact absurd (HHWD.out.trans (wd_zero17.2 (C3.out.no hti))) hz
    rw [hti] at oc1
    obtain ⟨kp, ys, k2, k3, k4⟩ := C3.out.yes t hti
    have K4 := Lib.hid k4
    clear k4
    have OCS : xs[i * 2 + 1]? = some (.slice (some ⟨t, 0, none⟩) 64 64) := ((H1.out.cell _).symm.trans oc1)
    have RXS := H1.out
    have RYS := k2
    have YL := k3
    clear oc1
    go_upto_region 3 with fail

    go_region
    clear oc
    have RG : Hid (Row (w.setCell ⟨gb, i * 2, none⟩ (.int .u64 ((wd17 (seg17 (up17 f n (some x)) i) : Nat) : Int))).drew gb 83 (xs.set (i * 2) (.int .u64 ((wd17 (seg17 (up17 f n (some x)) i) : Nat) : Int)))) := Lib.hid (RXS.set_ _ _).drew
    have RT : Hid (Row (w.setCell ⟨gb, i * 2, none⟩ (.int .u64 ((wd17 (seg17 (up17 f n (some x)) i) : Nat) : Int))).drew t 59 ys) := Lib.hid (RYS.far (by show t ≠ gb; exact row_ne12 RYS RXS (by decide)) _).drew
    have HK : Hid (∀ k, k ≠ gb → (w.setCell ⟨gb, i * 2, none⟩ (.int .u64 ((wd17 (seg17 (up17 f n (some x)) i) : Nat) : Int))).drew.heap[k]? = w.heap[k]?) := Lib.hid fun k hk => Below.heap_setCell w ⟨gb, i * 2, none⟩ _ k hk
    have HO : Hid (Only17 P w (w.setCell ⟨gb, i * 2, none⟩ (.int .u64 ((wd17 (seg17 (up17 f n (some x)) i) : Nat) : Int))).drew) := Lib.hid (only_set17 H0.out.own)
    have RB : Hid (Row (w.setCell ⟨gb, i * 2, none⟩ (.int .u64 ((wd17 (seg17 (up17 f n (some x)) i) : Nat) : Int))).drew g5 59 [.int .u64 a, .int .u64 b]) := Lib.hid (HX5.out.far (by show g5 ≠ gb; exact row_ne12 HX5.out RXS (by decide)) _).drew
    generalize (w.setCell ⟨gb, i * 2, none⟩ (.int .u64 ((wd17 (seg17 (up17 f n (some x)) i) : Nat) : Int))).drew = w2 at *
    have oc2 : w2.cell? ⟨gb, i * 2 + 1, none⟩ = some (.slice (some ⟨t, 0, none⟩) 64 64) := by rw [RG.out.cell, List.getElem?_set_ne (by omega)]; exact OCS
    have oc3 := 0
    have fr3 := RT.out.frozen j
    have hj64 : (j : Int) < 64 := by omega
    go_upto_region 4 with fail
    clear oc2 oc3 fr3
    refine wp_region_held_drew (S := fun _ => True) (by kernel_rfl) trivial (fun _ => ?_)
    try dsimp only [List.append]
    have RG := Lib.hid RG.out.drew
    have RT := Lib.hid RT.out.drew
    have RB := Lib.hid RB.out.drew
    have HOD : Hid (Only17 P w w2.drew) := Lib.hid (HO.out.trans (Only17.of (Below.refl _ _).drew (Nat.le_refl _)))
    have HKD : Hid (∀ k, k < w.heap.size → k ≠ gb → w2.drew.heap[k]? = w.heap[k]?) := Lib.hid fun k hk hkg => HK.out k hkg
    generalize w2.drew = w3 at *
    have OC3 : Hid (w3.cell? ⟨gb, i * 2 + 1, none⟩ = some (.slice (some ⟨t, 0, none⟩) 64 64)) := Lib.hid (by rw [RG.out.cell, List.getElem?_set_ne (by omega)]; exact OCS)
    refine takeL (i := 0) (v := ?_) rfl (by kernel_rfl) (by kernel_rfl) (by kernel_rfl) (fun _ _ _ h => h) (Or.inl ⟨by rfl, ?_⟩) trivial ?_
    rotate_left
    · intro w hw
      try dsimp only at hw
      go_simp
      try with_reducible rfl
    try simp only [Act.put, List.setIfInBounds_toArray, List.set_cons_zero, List.set_cons_succ]
    refine takeL (i := 1) (v := ?_) rfl (by kernel_rfl) (by kernel_rfl) (by kernel_rfl) (fun _ _ _ h => h) (Or.inl ⟨by rfl, ?_⟩) trivial ?_
    rotate_left
    · intro w hw
      try dsimp only at hw
      go_simp
      try with_reducible rfl
    try simp only [Act.put, List.setIfInBounds_toArray, List.set_cons_zero, List.set_cons_succ]
    refine takeL (i := 2) (v := ?_) rfl (by kernel_rfl) (by kernel_rfl) (by kernel_rfl) (fun _ _ _ h => h) (Or.inl ⟨by rfl, ?_⟩) trivial ?_
    rotate_left
    · intro w hw
      try dsimp only at hw
      go_simp
      try with_reducible rfl
    try simp only [Act.put, List.setIfInBounds_toArray, List.set_cons_zero, List.set_cons_succ]
    refine takeL (i := 4) (v := ?_) rfl (by kernel_rfl) (by kernel_rfl) (by kernel_rfl) (fun _ _ _ h => h) (Or.inl ⟨by rfl, ?_⟩) trivial ?_
    rotate_left
    · intro w hw
      try dsimp only at hw
      go_simp
      try with_reducible rfl
    try simp only [Act.put, List.setIfInBounds_toArray, List.set_cons_zero, List.set_cons_succ]
    refine readyL2 (i := 3) (j := 5) rfl rfl (by kernel_rfl) (by kernel_rfl) (by kernel_rfl) (fun K hK => ?_) (fun K hK => ?_)
    · have oc := OC3.out
      go_simp
      clear oc
      refine hK.out _ _ trivial ?_
      clear hK K
      try simp only [Act.put, List.setIfInBounds_toArray, List.set_cons_zero, List.set_cons_succ]
      refine readyL (i := 5) rfl (by kernel_rfl) (by kernel_rfl) fun K hK => ?_
      unfold Oper.wp
      rw [exec_load_at w3 59 (.tmp 5) rfl ⟨g5, 0, none⟩ [.int .u64 a, .int .u64 b] _ Try.underlying59 rfl (size_pr17 _ _) (fun k u hu => by rw [addr_row, Nat.zero_add]; exact (RB.out.cell k).trans hu) (by go_simp)]
      refine hK.out _ _ trivial ?_
      clear hK K
      try simp only [Act.put, List.setIfInBounds_toArray, List.set_cons_zero, List.set_cons_succ]
      refine takeL (i := 6) (v := ?_) rfl (by kernel_rfl) (by kernel_rfl) (by kernel_rfl) (fun _ _ _ h => h) (Or.inl ⟨by rfl, ?_⟩) trivial ?_
      rotate_left
      · intro w hw
        try dsimp only at hw
        go_simp
        try with_reducible rfl
      try simp only [Act.put, List.setIfInBounds_toArray, List.set_cons_zero, List.set_cons_succ]
      refine readyL (i := 7) rfl (by kernel_rfl) (by kernel_rfl) fun K hK => ?_
      refine wp_store_part 59 (.tmp 30) (.tmp 29) rfl t 59 (j * 2) ys [.int .u64 a, .int .u64 b] RT.out (size_pr17 _ _) (by rw [YL]; show j * 2 + 2 ≤ 128; omega) (pr_one17 _ _) (by go_simp) (by go_simp) ?_
      intro w4 hr4 ht4
      refine hK.out _ _ trivial ?_
      clear hK K
      try simp only [Act.put]
      refine wpAnyH_done (by kernel_rfl) ?_ _
      obtain ⟨zs, hzs⟩ : ∃ zs, zs = ys.take (j * 2) ++ [Value.int .u64 a, .int .u64 b] ++ ys.drop (j * 2 + [Value.int .u64 a, .int .u64 b].length) := ⟨_, rfl⟩
      rw [← hzs] at hr4
      obtain ⟨pl, p1, p2, pk⟩ := part_self17 (by rw [YL]; omega) hzs
      have hgt : gb ≠ t := row_ne12 RG.out RT.out (by decide)
      have hst : sb ≠ gb := row_ne12 H0.out.top H1.out (by decide)
      go_wp2_with fail
      refine bodyPost_end (results_none rfl _ _ _) rfl ?_
      refine ⟨rfl, slab_upP17 H0.out hn HI.out H1.out H2.out H3.out H4.out ?_ ⟨(ht4.block gb hgt).trans RG.out.is⟩ ?_ ?_ ?_ ?_ (th_upP17 HI.out HJ.out hr4 (pl.trans YL) kp (by rw [HVV.out]; exact p1) (by rw [HVV.out]; exact p2) pk K4.out) ?_ ?_, HBO.out.trans (HOD.out.trans ⟨ht4.os, ht4.tape, ht4.output, Nat.le_of_eq ht4.size.symm, fun k hk hp => ht4.block k fun e => hp (by rw [e]; exact kp)⟩)⟩
      · exact (ht4.block sb (row_ne12 H0.out.top k2 (by decide))).trans (HKD.out sb H0.out.top.lt hst)
      · rw [List.length_set]
      · rw [List.getElem?_set_self (by  have := H2.out; have := HI.out; have := H0.out.rm; omega)]
      · rw [List.getElem?_set_ne (by omega)]; exact OCS
      · intro k h5 h6; rw [List.getElem?_set_ne (by omega)]
      · intro k hk hkg hkt
        exact (ht4.block k (fun e => hkt (by rw [e]; exact hti))).trans (HKD.out k hk hkg)
      · intro g hg; cases hg; exact .inr hti
    · unfold Oper.wp
      rw [exec_load_at w3 59 (.tmp 5) rfl ⟨g5, 0, none⟩ [.int .u64 a, .int .u64 b] _ Try.underlying59 rfl (size_pr17 _ _) (fun k u hu => by rw [addr_row, Nat.zero_add]; exact (RB.out.cell k).trans hu) (by go_simp)]
      refine hK.out _ _ trivial ?_
      clear hK K
      try simp only [Act.put, List.setIfInBounds_toArray, List.set_cons_zero, List.set_cons_succ]
      refine readyL (i := 3) rfl (by kernel_rfl) (by kernel_rfl) fun K hK => ?_
      have oc := OC3.out
      go_simp
      clear oc
      refine hK.out _ _ trivial ?_
      clear hK K
      try simp only [Act.put, List.setIfInBounds_toArray, List.set_cons_zero, List.set_cons_succ]
      refine takeL (i := 6) (v := ?_) rfl (by kernel_rfl) (by kernel_rfl) (by kernel_rfl) (fun _ _ _ h => h) (Or.inl ⟨by rfl, ?_⟩) trivial ?_
      rotate_left
      · intro w hw
        try dsimp only at hw
        go_simp
        try with_reducible rfl
      try simp only [Act.put, List.setIfInBounds_toArray, List.set_cons_zero, List.set_cons_succ]
      refine readyL (i := 7) rfl (by kernel_rfl) (by kernel_rfl) fun K hK => ?_
      refine wp_store_part 59 (.tmp 30) (.tmp 29) rfl t 59 (j * 2) ys [.int .u64 a, .int .u64 b] RT.out (size_pr17 _ _) (by rw [YL]; show j * 2 + 2 ≤ 128; omega) (pr_one17 _ _) (by go_simp) (by go_simp) ?_
      intro w4 hr4 ht4
      refine hK.out _ _ trivial ?_
      clear hK K
      try simp only [Act.put]
      refine wpAnyH_done (by kernel_rfl) ?_ _
      obtain ⟨zs, hzs⟩ : ∃ zs, zs = ys.take (j * 2) ++ [Value.int .u64 a, .int .u64 b] ++ ys.drop (j * 2 + [Value.int .u64 a, .int .u64 b].length) := ⟨_, rfl⟩
      rw [← hzs] at hr4
      obtain ⟨pl, p1, p2, pk⟩ := part_self17 (by rw [YL]; omega) hzs
      have hgt : gb ≠ t := row_ne12 RG.out RT.out (by decide)
      have hst : sb ≠ gb := row_ne12 H0.out.top H1.out (by decide)
      go_wp2_with fail
      refine bodyPost_end (results_none rfl _ _ _) rfl ?_
      refine ⟨rfl, slab_upP17 H0.out hn HI.out H1.out H2.out H3.out H4.out ?_ ⟨(ht4.block gb hgt).trans RG.out.is⟩ ?_ ?_ ?_ ?_ (th_upP17 HI.out HJ.out hr4 (pl.trans YL) kp (by rw [HVV.out]; exact p1) (by rw [HVV.out]; exact p2) pk K4.out) ?_ ?_, HBO.out.trans (HOD.out.trans ⟨ht4.os, ht4.tape, ht4.output, Nat.le_of_eq ht4.size.symm, fun k hk hp => ht4.block k fun e => hp (by rw [e]; exact kp)⟩)⟩
      · exact (ht4.block sb (row_ne12 H0.out.top k2 (by decide))).trans (HKD.out sb H0.out.top.lt hst)
      · rw [List.length_set]
      · rw [List.getElem?_set_self (by  have := H2.out; have := HI.out; have := H0.out.rm; omega)]
      · rw [List.getElem?_set_ne (by omega)]; exact OCS
      · intro k h5 h6; rw [List.getElem?_set_ne (by omega)]
      · intro k hk hkg hkt
        exact (ht4.block k (fun e => hkt (by rw [e]; exact hti))).trans (HKD.out k hk hkg)
      · intro g hg; cases hg; exact .inr hti
end
end Go.Proofs.Ytkhcgclnmdgpbaa

/-
  Of part PairActs17: what is needed here.
-/
namespace Go.Proofs.Ytkhcgclnmdgpbaa
open Go.RowKit
set_option linter.unusedVariables false
set_option maxRecDepth 100000
theorem zero_pr17 : (Try.prog.info? 59).map (·.zero) = some (some (.agg [.int .u64 0, .int .u64 0].toArray)) := by kernel_rfl
section
variable {val : Int → Int × Int} {w w' : World} {P : Nat → Prop} {sb gb room : Nat} {f : F17}
theorem SlabP17.thing (h : SlabP17 val w P sb gb room f) {n i j : Nat} {c : Int} (hi : i = n / 64) (hj : j = n % 64) (hn : n < room) (hx : f n = some c) : ∃ t, w.cell? ⟨gb, i * 2 + 1, none⟩ = some (.slice (some ⟨t, 0, none⟩) 64 64) ∧ ∀ k u, [Value.int .u64 (val c).1, .int .u64 (val c).2][k]? = some u → w.cell? ((⟨t, j * 2, none⟩ : Addr).add k) = some u := by
  obtain ⟨t, _, h2, _, _, h3, _⟩ := h.shelf (i := i) (by have := h.rm; omega)
  have hij : i * 64 + j = n := by omega
  have hsg : (seg17 f i)[j]? = some (some c) := by rw [seg_get17 (by omega), hij, hx]
  cases t with
  | none => have := h3.no rfl _ (List.mem_of_getElem? hsg); cases this
  | some g =>
    obtain ⟨_, ys, hr, _, hy⟩ := h3.yes g rfl
    obtain ⟨y1, y2⟩ := hy j c hsg
    refine ⟨g, h2, fun k u hu => ?_⟩
    rw [addr_row, hr.cell]
    match k, hu with
    | 0, hu => cases hu; exact y1
    | 1, hu => cases hu; exact y2
theorem find_yesP17 (h : SlabP17 val w P sb gb room f) (n : Nat) (z x : Int) (hz : z = n) (hn : n < room) (hx : f n = some x) : Calls Try.prog 38 #[.pointer (some ⟨sb, 0, none⟩), .int .i64 z] w fun e w' => e = .returned (.tuple #[.pointer (some ⟨gb, n / 64 * 2, none⟩), .int .i64 0]) ∧ w = w' := by
  have h1 := findP17 h n z hz hn
  rw [hx] at h1
  exact h1
theorem find_noP17 (h : SlabP17 val w P sb gb room f) (n : Nat) (z : Int) (hz : z = n) (hn : n < room) (hx : f n = none) : Calls Try.prog 38 #[.pointer (some ⟨sb, 0, none⟩), .int .i64 z] w fun e w' => e = .returned (.tuple #[.pointer none, .int .i64 11]) ∧ w = w' := by
  have h1 := findP17 h n z hz hn
  rw [hx] at h1
  exact h1
set_option maxHeartbeats 2000000 in
theorem putP17 (h : SlabP17 val w P sb gb room f) (n : Nat) (x a b : Int) (hv : val x = (a, b)) (hl : Lst17 f n) (hn : n < room) (hP : ∀ k, w.heap.size ≤ k → P k) : Calls Try.prog 23 #[.pointer (some ⟨sb, 0, none⟩), .agg #[.int .u64 a, .int .u64 b]] w fun e w' => e = .returned (.tuple #[.int .i64 n, .int .i64 0]) ∧ SlabP17 val w' P sb gb room (up17 f n (some x)) ∧ Only17 P w w' := by
  have hbx := (Below.refl w.heap.size w).alloc (Nat.le_refl _) (.cells #[.int .u64 a, .int .u64 b] 59)
  have HBO : Hid (Only17 P w (w.alloc (.cells #[.int .u64 a, .int .u64 b] 59))) := Lib.hid (Only17.of hbx (Nat.le_refl _))
  have HX5 : Hid (Row (w.alloc (.cells #[.int .u64 a, .int .u64 b] 59)) w.heap.size 59 [.int .u64 a, .int .u64 b]) := Lib.hid (Row.new w 59 [.int .u64 a, .int .u64 b])
  obtain ⟨g5, hg5⟩ : ∃ g, g = w.heap.size := ⟨_, rfl⟩
  have HG5 : Hid (w.heap.size = g5) := Lib.hid hg5.symm
  rw [← hg5] at HX5
  have h := h.below hbx
  have HP : Hid (∀ k, (w.alloc (.cells #[.int .u64 a, .int .u64 b] 59)).heap.size ≤ k → P k) := Lib.hid fun k hk => hP k (Nat.le_trans hbx.size hk)
  clear hbx hg5 hP
  go_enter Try.func23, Try.ntmps23
  go_upto_region 1 with (first
    | ((with_reducible show wpList _ _ _ ({ dst := some 3, op := Op.box _ _, type := _, pos := _, after := _, guard := _ } :: _) _ _); go_must (refine wpList_box_new rfl 59 (.tmp 1) rfl [.int .u64 a, .int .u64 b] ?_ ?_; go_simp)))
  rw [HG5.out]
  generalize w.alloc (.cells #[.int .u64 a, .int .u64 b] 59) = w at *
  have HT := Lib.hid (thereP17 h)
  have HF := Lib.hid (freeP17 h)
  have HH := Lib.hid h
  have HL := Lib.hid hl
  have HVV := Lib.hid hv
  have oc0 : w.cell? ⟨sb, 0, none⟩ = _ := h.top.cell 0
  have hrm := h.rm
  clear h hl hv
  go_wp2_with fail
  refine HT.out.mono ?_
  rintro e w1 ⟨rfl, rfl⟩
  go_wp2_with fail
  refine HF.out.mono ?_
  rintro e w1 ⟨⟨n2, hn2, rfl⟩, rfl⟩
  have hnn := lst_is17 hn2 n HL.out.1 HL.out.2
  subst hnn
  clear hn2
  have hnr' : ((n2 : Int) == (room : Int)) = false := by rw [beq_eq_false_iff_ne]; omega
  have hnr2 : ¬ (n2 : Int) = (room : Int) := by omega
  obtain ⟨i, hi⟩ : ∃ i, i = n2 / 64 := ⟨_, rfl⟩
  obtain ⟨j, hj⟩ : ∃ j, j = n2 % 64 := ⟨_, rfl⟩
  obtain ⟨m, hm⟩ : ∃ m, m = (room + 63) / 64 := ⟨_, rfl⟩
  have hi64 : i < 64 := by omega
  have him' : (i : Int) < m := by omega
  have hq : (n2 : Int).tdiv 64 = (i : Int) := by rw [hi, Int.tdiv_eq_ediv_of_nonneg (by omega)]; omega
  have hq2 : (n2 : Int).tmod 64 = (j : Int) := by rw [hj, Int.tmod_eq_emod_of_nonneg (by omega)]; omega
  have hq3 : (n2 : Int) / 64 = (i : Int) := by rw [hi]; omega
  have hq4 : (n2 : Int) % 64 = (j : Int) := by rw [hj]; omega
  have hj64 : j < 64 := by omega
  have hwi : IntKind.i64.wrap (i : Int) = (i : Int) := IntWalk.i64_in _ (by omega)
  have hwj : IntKind.i64.wrap (j : Int) = (j : Int) := IntWalk.i64_in _ (by omega)
  have HI := Lib.hid hi
  have HJ := Lib.hid hj
  have HNR := Lib.hid hn
  have hnl : n2 ≤ 4096 := by omega
  have HM := Lib.hid hm
  clear hi hj hm hn
  go_upto_region 6 with fail
  refine wp_region_held_drew (S := fun _ => True) (by kernel_rfl) trivial (fun _ => ?_)
  try dsimp only [List.append]
  have hbd : Below w.heap.size w w.drew := (Below.refl _ _).drew
  have S3 := Lib.hid (HH.out.below hbd)
  have X3 := Lib.hid (HX5.out.below hbd HX5.out.lt)
  have O3 : Hid (Only17 P w w.drew) := Lib.hid (Only17.of hbd (Nat.le_refl _))
  have HP3 : Hid (∀ k, w.drew.heap.size ≤ k → P k) := Lib.hid fun k hk => HP.out k (Nat.le_trans hbd.size hk)
  clear hbd
  generalize w.drew = w3 at *
  have OC3 : Hid (w3.cell? ⟨sb, 1, none⟩ = some (.slice (some ⟨gb, 0, none⟩) m m)) := Lib.hid (by rw [HM.out]; exact S3.out.top.cell 1)
  refine takeL (i := 0) (v := ?_) rfl (by kernel_rfl) (by kernel_rfl) (by kernel_rfl) (fun _ _ _ h => h) (Or.inl ⟨by rfl, ?_⟩) trivial ?_
  rotate_left
  · intro w hw
    try dsimp only at hw
    go_simp
    try with_reducible rfl
  try simp only [Act.put, List.setIfInBounds_toArray, List.set_cons_zero, List.set_cons_succ]
  refine takeL (i := 1) (v := ?_) rfl (by kernel_rfl) (by kernel_rfl) (by kernel_rfl) (fun _ _ _ h => h) (Or.inl ⟨by rfl, ?_⟩) trivial ?_
  rotate_left
  · intro w hw
    try dsimp only at hw
    go_simp
    try with_reducible rfl
  try simp only [Act.put, List.setIfInBounds_toArray, List.set_cons_zero, List.set_cons_succ]
  refine takeL (i := 2) (v := ?_) rfl (by kernel_rfl) (by kernel_rfl) (by kernel_rfl) (fun _ _ _ h => h) (Or.inl ⟨by rfl, ?_⟩) trivial ?_
  rotate_left
  · intro w hw
    try dsimp only at hw
    go_simp
    try with_reducible rfl
  try simp only [Act.put, List.setIfInBounds_toArray, List.set_cons_zero, List.set_cons_succ]
  refine takeL (i := 4) (v := ?_) rfl (by kernel_rfl) (by kernel_rfl) (by kernel_rfl) (fun _ _ _ h => h) (Or.inl ⟨by rfl, ?_⟩) trivial ?_
  rotate_left
  · intro w hw
    try dsimp only at hw
    go_simp
    try with_reducible rfl
  try simp only [Act.put, List.setIfInBounds_toArray, List.set_cons_zero, List.set_cons_succ]
  refine takeL (i := 5) (v := ?_) rfl (by kernel_rfl) (by kernel_rfl) (by kernel_rfl) (fun _ _ _ h => h) (Or.inl ⟨by rfl, ?_⟩) trivial ?_
  rotate_left
  · intro w hw
    try dsimp only at hw
    go_simp
    try with_reducible rfl
  try simp only [Act.put, List.setIfInBounds_toArray, List.set_cons_zero, List.set_cons_succ]
  refine takeL (i := 7) (v := ?_) rfl (by kernel_rfl) (by kernel_rfl) (by kernel_rfl) (fun _ _ _ h => h) (Or.inl ⟨by rfl, ?_⟩) trivial ?_
  rotate_left
  · intro w hw
    try dsimp only at hw
    go_simp
    try with_reducible rfl
  try simp only [Act.put, List.setIfInBounds_toArray, List.set_cons_zero, List.set_cons_succ]
  refine takeL (i := 8) (v := ?_) rfl (by kernel_rfl) (by kernel_rfl) (by kernel_rfl) (fun _ _ _ h => h) (Or.inl ⟨by rfl, ?_⟩) trivial ?_
  rotate_left
  · intro w hw
    try dsimp only at hw
    go_simp
    try with_reducible rfl
  try simp only [Act.put, List.setIfInBounds_toArray, List.set_cons_zero, List.set_cons_succ]
  refine readyL2 (i := 3) (j := 9) rfl rfl (by kernel_rfl) (by kernel_rfl) (by kernel_rfl) (fun K hK => ?_) (fun K hK => ?_)
  · have oc := OC3.out
    go_simp
    clear oc
    refine hK.out _ _ trivial ?_
    clear hK K
    try simp only [Act.put, List.setIfInBounds_toArray, List.set_cons_zero, List.set_cons_succ]
    refine takeL (i := 6) (v := ?_) rfl (by kernel_rfl) (by kernel_rfl) (by kernel_rfl) (fun _ _ _ h => h) (Or.inl ⟨by rfl, ?_⟩) trivial ?_
    rotate_left
    · intro w hw
      try dsimp only at hw
      go_simp
      try with_reducible rfl
    try simp only [Act.put, List.setIfInBounds_toArray, List.set_cons_zero, List.set_cons_succ]
    refine readyL (i := 9) rfl (by kernel_rfl) (by kernel_rfl) fun K hK => ?_
    unfold Oper.wp
    rw [exec_load_at w3 59 (.tmp 3) rfl ⟨g5, 0, none⟩ [.int .u64 a, .int .u64 b] _ Try.underlying59 rfl (size_pr17 _ _) (fun k u hu => by rw [addr_row, Nat.zero_add]; exact (X3.out.cell k).trans hu) (by go_simp)]
    refine hK.out _ _ trivial ?_
    clear hK K
    try simp only [Act.put, List.setIfInBounds_toArray, List.set_cons_zero, List.set_cons_succ]
    refine readyL (i := 10) rfl (by kernel_rfl) (by kernel_rfl) fun K hK => ?_
    go_simp
    refine (shputP17 S3.out n2 x a b HVV.out i j HI.out HJ.out HNR.out HP3.out).mono ?_
    rintro e w5 ⟨rfl, hs, ho⟩
    have HS := Lib.hid (And.intro hs ho)
    clear hs ho
    refine hK.out _ _ trivial ?_
    clear hK K
    try simp only [Act.put, List.setIfInBounds_toArray, List.set_cons_zero, List.set_cons_succ]
    refine wpAnyH_done (by kernel_rfl) ?_ _
    go_wp2_with fail
    go_ret2
    exact ⟨rfl, HS.out.1, HBO.out.trans (O3.out.trans HS.out.2)⟩
  · unfold Oper.wp
    rw [exec_load_at w3 59 (.tmp 3) rfl ⟨g5, 0, none⟩ [.int .u64 a, .int .u64 b] _ Try.underlying59 rfl (size_pr17 _ _) (fun k u hu => by rw [addr_row, Nat.zero_add]; exact (X3.out.cell k).trans hu) (by go_simp)]
    refine hK.out _ _ trivial ?_
    clear hK K
    try simp only [Act.put, List.setIfInBounds_toArray, List.set_cons_zero, List.set_cons_succ]
    refine readyL (i := 3) rfl (by kernel_rfl) (by kernel_rfl) fun K hK => ?_
    have oc := OC3.out
    go_simp
    clear oc
    refine hK.out _ _ trivial ?_
    clear hK K
    try simp only [Act.put, List.setIfInBounds_toArray, List.set_cons_zero, List.set_cons_succ]
    refine takeL (i := 6) (v := ?_) rfl (by kernel_rfl) (by kernel_rfl) (by kernel_rfl) (fun _ _ _ h => h) (Or.inl ⟨by rfl, ?_⟩) trivial ?_
    rotate_left
    · intro w hw
      try dsimp only at hw
      go_simp
      try with_reducible rfl
    try simp only [Act.put, List.setIfInBounds_toArray, List.set_cons_zero, List.set_cons_succ]
    refine readyL (i := 10) rfl (by kernel_rfl) (by kernel_rfl) fun K hK => ?_
    go_simp
    refine (shputP17 S3.out n2 x a b HVV.out i j HI.out HJ.out HNR.out HP3.out).mono ?_
    rintro e w5 ⟨rfl, hs, ho⟩
    have HS := Lib.hid (And.intro hs ho)
    clear hs ho
    refine hK.out _ _ trivial ?_
    clear hK K
    try simp only [Act.put, List.setIfInBounds_toArray, List.set_cons_zero, List.set_cons_succ]
    refine wpAnyH_done (by kernel_rfl) ?_ _
    go_wp2_with fail
    go_ret2
    exact ⟨rfl, HS.out.1, HBO.out.trans (O3.out.trans HS.out.2)⟩
set_option maxHeartbeats 2000000 in
theorem getP17 (h : SlabP17 val w P sb gb room f) (n : Nat) (z c a b : Int) (hz : z = n) (hn : n < room) (hf : f n = some c) (hv : val c = (a, b)) : Calls Try.prog 24 #[.pointer (some ⟨sb, 0, none⟩), .int .i64 z] w fun e w' => e = .returned (.tuple #[.agg #[.int .u64 a, .int .u64 b], .int .i64 0]) ∧ Below w.heap.size w w' := by
  have hbx := (Below.refl w.heap.size w).alloc (Nat.le_refl _) (.cells [Value.int .u64 0, .int .u64 0].toArray 59)
  have HR := Lib.hid (Row.new w 59 [.int .u64 0, .int .u64 0])
  have h2 := h.below hbx
  obtain ⟨i, hi⟩ : ∃ i, i = n / 64 := ⟨_, rfl⟩
  obtain ⟨j, hj⟩ : ∃ j, j = n % 64 := ⟨_, rfl⟩
  have HF := Lib.hid (find_yesP17 h2 n z c hz hn hf)
  obtain ⟨t, oc1, hc2⟩ := h2.thing hi hj hn hf
  rw [hv] at hc2
  have HC := Lib.hid hc2
  have hq2 : z.tmod 64 = (j : Int) := by rw [hj, Int.tmod_eq_emod_of_nonneg (by omega)]; omega
  have hq4 : z % 64 = (j : Int) := by rw [hj]; omega
  have hj64 : (j : Int) < 64 := by omega
  rw [← hi] at HF
  obtain ⟨g4, hg4⟩ : ∃ g, g = w.heap.size := ⟨_, rfl⟩
  have HG4 : Hid (w.heap.size = g4) := Lib.hid hg4.symm
  have HB := Lib.hid hbx
  rw [← hg4] at HR
  clear h hz hn hf hv hi hj hc2 h2 hbx hg4
  go_enter Try.func24, Try.ntmps24
  go_upto_region 1 with (first
    | ((with_reducible show wpList _ _ _ ({ dst := some 4, op := Op.alloc _, type := _, pos := _, after := _, guard := _ } :: _) _ _); go_must (refine wpList_alloc_zero rfl 59 rfl [.int .u64 0, .int .u64 0] zero_pr17 ?_)))
  rw [HG4.out]
  generalize w.alloc (.cells [Value.int .u64 0, .int .u64 0].toArray 59) = w1 at *
  go_wp2_with fail
  refine HF.out.mono ?_
  rintro e w2 ⟨rfl, rfl⟩
  go_wp2_with (first
    | ((with_reducible show wpList _ _ _ ({ dst := some 24, op := Op.load _ _, type := _, pos := _, after := _, guard := _ } :: _) _ _); go_must (refine wpList_load_at rfl 59 (.tmp 23) rfl ⟨t, j * 2, none⟩ [.int .u64 a, .int .u64 b] _ Try.underlying59 rfl (size_pr17 _ _) HC.out ?_ ?_; go_simp))
    | ((with_reducible show wpList _ _ _ ({ dst := none, op := Op.store 59 (.tmp 4) _, type := _, pos := _, after := _, guard := _ } :: _) _ _); go_must (refine wpList_store_whole rfl 59 (.tmp 4) (.tmp 24) rfl g4 [.int .u64 0, .int .u64 0] [.int .u64 a, .int .u64 b] HR.out (size_pr17 _ _) rfl (pr_one17 _ _) ?_ ?_ ?_; go_simp; go_simp; intro w5 hr5 ht5))
    | fail)
  refine bodyPost_ret (results_cell1 (h := rfl) _ w5 ⟨g4, 0, none⟩ _ _ (by rfl) (by rfl) (run_loadVar_row w5 g4 59 59 [Value.int .u64 a, .int .u64 b].toArray (0, 0) _ hr5.is Try.underlying59 rfl (by rw [List.size_toArray]; exact size_pr17 _ _))) rfl ?_
  exact ⟨rfl, HB.out.trans (ht5.below (by rw [HG4.out]; exact Nat.le_refl _))⟩
set_option maxHeartbeats 2000000 in
theorem get_noP17 (h : SlabP17 val w P sb gb room f) (n : Nat) (z : Int) (hz : z = n) (hn : n < room) (hf : f n = none) : Calls Try.prog 24 #[.pointer (some ⟨sb, 0, none⟩), .int .i64 z] w fun e w' => e = .returned (.tuple #[.agg #[.int .u64 0, .int .u64 0], .int .i64 11]) ∧ Below w.heap.size w w' := by
  have hbx := (Below.refl w.heap.size w).alloc (Nat.le_refl _) (.cells [Value.int .u64 0, .int .u64 0].toArray 59)
  have HR := Lib.hid (Row.new w 59 [.int .u64 0, .int .u64 0])
  have HF := Lib.hid (find_noP17 (h.below hbx) n z hz hn hf)
  obtain ⟨g4, hg4⟩ : ∃ g, g = w.heap.size := ⟨_, rfl⟩
  have HG4 : Hid (w.heap.size = g4) := Lib.hid hg4.symm
  have HB := Lib.hid hbx
  rw [← hg4] at HR
  clear h hz hn hf hbx hg4
  go_enter Try.func24, Try.ntmps24
  go_upto_region 1 with (first
    | ((with_reducible show wpList _ _ _ ({ dst := some 4, op := Op.alloc _, type := _, pos := _, after := _, guard := _ } :: _) _ _); go_must (refine wpList_alloc_zero rfl 59 rfl [.int .u64 0, .int .u64 0] zero_pr17 ?_)))
  rw [HG4.out]
  generalize w.alloc (.cells [Value.int .u64 0, .int .u64 0].toArray 59) = w1 at *
  go_wp2_with fail
  refine HF.out.mono ?_
  rintro e w2 ⟨rfl, rfl⟩
  go_wp2_with (first
    | ((with_reducible show wpList _ _ _ ({ dst := some 15, op := Op.load _ _, type := _, pos := _, after := _, guard := _ } :: _) _ _); go_must (refine wpList_load_whole rfl 59 (.tmp 4) rfl g4 _ [.int .u64 0, .int .u64 0] _ Try.underlying59 rfl (size_pr17 _ _) HR.out ?_ ?_; go_simp))
    | ((with_reducible show wpList _ _ _ ({ dst := none, op := Op.store 59 (.tmp 4) _, type := _, pos := _, after := _, guard := _ } :: _) _ _); go_must (refine wpList_store_whole rfl 59 (.tmp 4) (.tmp 15) rfl g4 [.int .u64 0, .int .u64 0] [.int .u64 0, .int .u64 0] HR.out (size_pr17 _ _) rfl (pr_one17 _ _) ?_ ?_ ?_; go_simp; go_simp; intro w5 hr5 ht5))
    | fail)
  refine bodyPost_ret (results_cell1 (h := rfl) _ w5 ⟨g4, 0, none⟩ _ _ (by rfl) (by rfl) (run_loadVar_row w5 g4 59 59 [Value.int .u64 0, .int .u64 0].toArray (0, 0) _ hr5.is Try.underlying59 rfl (by rw [List.size_toArray]; exact size_pr17 _ _))) rfl ?_
  exact ⟨rfl, HB.out.trans (ht5.below (by rw [HG4.out]; exact Nat.le_refl _))⟩
set_option maxHeartbeats 2000000 in
theorem setP17 (h : SlabP17 val w P sb gb room f) (n : Nat) (z c x a b : Int) (hz : z = n) (hn : n < room) (hf : f n = some c) (hv : val x = (a, b)) (hP : ∀ k, w.heap.size ≤ k → P k) : Calls Try.prog 26 #[.pointer (some ⟨sb, 0, none⟩), .int .i64 z, .agg #[.int .u64 a, .int .u64 b]] w fun e w' => e = .returned (.int .i64 0) ∧ SlabP17 val w' P sb gb room (up17 f n (some x)) ∧ Only17 P w w' := by
  have hbx := (Below.refl w.heap.size w).alloc (Nat.le_refl _) (.cells #[.int .u64 a, .int .u64 b] 59)
  have HBO : Hid (Only17 P w (w.alloc (.cells #[.int .u64 a, .int .u64 b] 59))) := Lib.hid (Only17.of hbx (Nat.le_refl _))
  have HR := Lib.hid (Row.new w 59 [.int .u64 a, .int .u64 b])
  have h2 := h.below hbx
  obtain ⟨i, hi⟩ : ∃ i, i = n / 64 := ⟨_, rfl⟩
  obtain ⟨j, hj⟩ : ∃ j, j = n % 64 := ⟨_, rfl⟩
  have HF := Lib.hid (find_yesP17 h2 n z c hz hn hf)
  have HC := Lib.hid (shputP17 h2 n x a b hv i j hi hj hn (fun k hk => hP k (Nat.le_trans hbx.size hk)))
  have hq2 : z.tmod 64 = (j : Int) := by rw [hj, Int.tmod_eq_emod_of_nonneg (by omega)]; omega
  have hq4 : z % 64 = (j : Int) := by rw [hj]; omega
  have hj64 : (j : Int) < 64 := by omega
  rw [← hi] at HF
  obtain ⟨g5, hg5⟩ : ∃ g, g = w.heap.size := ⟨_, rfl⟩
  have HG5 : Hid (w.heap.size = g5) := Lib.hid hg5.symm
  rw [← hg5] at HR
  clear h hz hn hf hv hi hj h2 hbx hg5 hP
  go_enter Try.func26, Try.ntmps26
  go_upto_region 1 with (first
    | ((with_reducible show wpList _ _ _ ({ dst := some 5, op := Op.box _ _, type := _, pos := _, after := _, guard := _ } :: _) _ _); go_must (refine wpList_box_new rfl 59 (.tmp 2) rfl [.int .u64 a, .int .u64 b] ?_ ?_; go_simp)))
  rw [HG5.out]
  generalize w.alloc (.cells #[.int .u64 a, .int .u64 b] 59) = w1 at *
  go_wp2_with fail
  refine HF.out.mono ?_
  rintro e w2 ⟨rfl, rfl⟩
  go_wp2_with (first
    | ((with_reducible show wpList _ _ _ ({ dst := some 20, op := Op.load _ _, type := _, pos := _, after := _, guard := _ } :: _) _ _); go_must (refine wpList_load_whole rfl 59 (.tmp 5) rfl g5 _ [.int .u64 a, .int .u64 b] _ Try.underlying59 rfl (size_pr17 _ _) HR.out ?_ ?_; go_simp))
    | fail)
  refine HC.out.mono ?_
  rintro e w3 ⟨rfl, hs, ho⟩
  have HS := Lib.hid (And.intro hs ho)
  clear hs ho
  go_wp2_with fail
  go_ret
  exact ⟨rfl, HS.out.1, HBO.out.trans HS.out.2⟩
end
end Go.Proofs.Ytkhcgclnmdgpbaa

/-
  Of part PairEq17: what is needed here.
-/
namespace Go.Proofs.Ytkhcgclnmdgpbaa
open Go.RowKit
set_option linter.unusedVariables false
set_option maxRecDepth 100000
theorem cellsU64_17b : Try.prog.cellsOf 27 = 1 := by kernel_rfl
theorem pr_items17 (d : Nat) (x y : Int) (w : World) : (Op.eqItems (d + 1) 27 1 [Value.int .u64 x, .int .u64 y].toArray [Value.int .u64 x, .int .u64 y].toArray [0, 1]).run Try.prog w = .ok true w := by
  have p0 : (part 27 [Value.int .u64 x, .int .u64 y].toArray (0 * 1)).run Try.prog w = .ok (.int .u64 x) w := run_part_plain (P := Try.prog) w (by kernel_rfl) rfl
  have p1 : (part 27 [Value.int .u64 x, .int .u64 y].toArray (1 * 1)).run Try.prog w = .ok (.int .u64 y) w := run_part_plain (P := Try.prog) w (by kernel_rfl) rfl
  have q0 : (Op.equalIn (d + 1) 27 (.int .u64 x) (.int .u64 x)).run Try.prog w = .ok true w := by rw [run_equalIn_int w d 27 .u64 .u64 _ _ Try.underlying27]; simp
  have q1 : (Op.equalIn (d + 1) 27 (.int .u64 y) (.int .u64 y)).run Try.prog w = .ok true w := by rw [run_equalIn_int w d 27 .u64 .u64 _ _ Try.underlying27]; simp
  simp only [Op.eqItems, Sem.run_bind, p0, Result.andThen_ok, q0]
  rw [if_neg (by decide)]
  simp only [Sem.run_bind, p1, Result.andThen_ok, q1]
  rfl
theorem pr_eqIn17 (x y : Int) (w : World) : (Op.equalIn 10000 59 (.agg [Value.int .u64 x, .int .u64 y].toArray) (.agg [Value.int .u64 x, .int .u64 y].toArray)).run Try.prog w = .ok true w := by
  obtain ⟨i, hi, _⟩ := info_parts info_u17
  obtain ⟨d, hd⟩ : ∃ d, d = 9998 := ⟨_, rfl⟩
  rw [show (10000 : Nat) = d + 1 + 1 by omega, run_equalIn_array w (d + 1) _ _ Try.underlying59 hi, cellsU64_17b]
  exact pr_items17 d x y w
theorem pr_eql17 (x y : Int) (w : World) : (binOp .eql 59 (.agg [Value.int .u64 x, .int .u64 y].toArray) (.agg [Value.int .u64 x, .int .u64 y].toArray)).run Try.prog w = .ok (.bool true) w := by
  rw [run_eql_struct, pr_eqIn17]
  rfl
theorem pr_neq17 (x y : Int) (w : World) : (binOp .neq 59 (.agg [Value.int .u64 x, .int .u64 y].toArray) (.agg [Value.int .u64 x, .int .u64 y].toArray)).run Try.prog w = .ok (.bool false) w := by
  rw [run_neq_struct, pr_eqIn17]
  rfl
theorem exec_bin17 {o : Oper} {a : Act} (w : World) (b : BinOp) (t : TypeId) {u : TypeId} (x y : Operand) {X Y : Array Value} {v : Value} (hm : Try.prog.eqGuardType Try.prog.depth t = false) (ho : o.op = .binOp b t x y u) (hx : a.eval x = .agg X) (hy : a.eval y = .agg Y) (h : (binOp b t (.agg X) (.agg Y)).run Try.prog w = .ok v w) : (execOp a.eval o).run Try.prog w = .ok (.value v) w := by
  unfold execOp
  rw [ho]
  simp only [hx, hy]
  rw [Sem.run_bind, Sem.run_bind, run_eqGuard_agg (hm := hm), Result.andThen_ok, h]
  rfl
theorem guard_pr17 : Try.prog.eqGuardType Try.prog.depth 59 = false := by kernel_rfl
end Go.Proofs.Ytkhcgclnmdgpbaa
