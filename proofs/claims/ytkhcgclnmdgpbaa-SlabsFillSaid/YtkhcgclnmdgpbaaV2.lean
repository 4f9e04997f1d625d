/-
  Parts joined: Len17 Nums17 Same17 Lives17 Void17 FillWalk17 Open7.
-/
import Derived.Below
import Derived.Laws.OwnMore
import Derived.Deep.AppendLies
import Derived.Deep.Draws
import Derived.Lib.Hide
import Derived.Laws.BitsAllLaws
import Derived.WalkSmall
import Derived.Laws.MakeOwn
import Derived.Laws.CopyOwn
import Derived.Laws.Rows
import Derived.Maps.AppendAt
import Derived.OwnWalk
import Derived.WalkKit
import Derived.Test.YtkhcgclnmdgpbaaRows
import Derived.WalkSpells
import Derived.WalkLawsBesides
import Derived.IntWalk
import Derived.Deep.MidRow
import Derived.Deep.WholeRow
import Derived.Deep.QuietTactic
import Derived.BigQuiet
import Derived.Great.BuildSlice
import Derived.Recover
import Derived.Deep.RegionHeld
import Derived.ChangeKeysEq
import Derived.Deep.RegionHeld2
import Derived.Deep.CutBlock
import Derived.Laws.Tables
import Derived.ProofKit
import Derived.OpenShut
import Derived.ShutString
import Derived.ChangeOld
import Derived.Lib.SmallJoins
import Derived.Deep.Slices
import Derived.Deep.Strs
import Derived.SizedLaws
import Derived.Laws.StructEq
import Derived.Laws.Slices
import Derived.Deep.DeepCutAuto
import Derived.Laws.EntriesVeiled
import Derived.Deep.RegionHeld3
import Derived.Maps.OwnSet
import Derived.DeepKeys4
import Derived.WideKeyArr
import Derived.WideKeyEntry
import Derived.Shelf.SlMaps.Clone
import Derived.Laws.Append
import Derived.Laws.AppendOwn
import Derived.WalkMore
import Derived.LaidMore
import Derived.Test.YtkhcgclnmdgpbaaV1
/-
  Of part Len17: what is needed here.
-/
namespace Go.Proofs.Ytkhcgclnmdgpbaa
open Go.RowKit
set_option linter.unusedVariables false
set_option maxRecDepth 100000
/-- how many of the numbers below n are had -/
def cnt17 (f : F17) (n : Nat) : Nat := (List.range n).countP fun k => (f k).isSome
/-- which -/
def nums17 (f : F17) (n : Nat) : List Nat := (List.range n).filter fun k => (f k).isSome
theorem size_sh17 (x y : Value) : (Try.prog.info? 67).map (·.size) = some [x, y].length := by
  show _ = some 2
  kernel_rfl
theorem zero_sh17 : (Try.prog.info? 67).map (·.zero) = some (some (.agg [.int .u64 0, .slice none 0 0].toArray)) := by kernel_rfl
theorem th_one17 (x : Int) (t : Option Nat) : ∀ u ∈ [Value.int .u64 x, thV17 t], u.oneCell' = true := by
  intro u hu
  simp only [List.mem_cons, List.not_mem_nil, or_false] at hu
  rcases hu with rfl | rfl
  · rfl
  · cases t <;> rfl
section
variable {w w' : World} {P : Nat → Prop} {sb gb room : Nat} {f : F17}
theorem cnt_succ17 (f : F17) (n : Nat) : cnt17 f (n + 1) = cnt17 f n + if (f n).isSome then 1 else 0 := by
  unfold cnt17
  rw [List.range_succ, List.countP_append]
  simp
theorem nums_succ17 (f : F17) (n : Nat) : nums17 f (n + 1) = nums17 f n ++ if (f n).isSome then [n] else [] := by
  unfold nums17
  rw [List.range_succ, List.filter_append]
  congr 1
  cases h : (f n).isSome <;> simp [h]
theorem nums_len17 (f : F17) (n : Nat) : (nums17 f n).length = cnt17 f n := by
  unfold nums17 cnt17
  rw [List.countP_eq_length_filter]
theorem cnt_seg17 (f : F17) (i : Nat) : cnt17 f (i * 64 + 64) = cnt17 f (i * 64) + pop17 64 (wd17 (seg17 f i)) := by
  have h1 := wd_pop17 (seg17 f i)
  rw [seg_len17] at h1
  rw [h1]
  have h2 : ∀ n, cnt17 f (i * 64 + n) = cnt17 f (i * 64) + ((List.range n).map fun k => f (i * 64 + k)).countP Option.isSome := by
    intro n
    induction n with
    | zero => rfl
    | succ n ih =>
      rw [← Nat.add_assoc, cnt_succ17, ih, List.range_succ, List.map_append, List.countP_append]
      simp only [List.map_cons, List.map_nil, List.countP_cons, List.countP_nil]
      omega
  exact h2 64
theorem cnt_le17 (f : F17) (n : Nat) : cnt17 f n ≤ n := by
  have := List.countP_le_length (p := fun k => (f k).isSome) (l := List.range n)
  rw [List.length_range] at this
  exact this
theorem cnt_out17 {f : F17} {room : Nat} (h : ∀ n, room ≤ n → f n = none) : ∀ n, room ≤ n → cnt17 f n = cnt17 f room := fun n hn => by
  induction n with
  | zero => rw [show room = 0 by omega]
  | succ n ih =>
    rcases Nat.lt_or_ge n room with h1 | h1
    · rw [show room = n + 1 by omega]
    · rw [cnt_succ17, ih h1, h n h1]
      rfl
set_option maxHeartbeats 2000000 in
theorem len17 (h : Slab17 w P sb gb room f) : Calls Try.prog 19 #[.pointer (some ⟨sb, 0, none⟩)] w fun e w' => e = .returned (.int .i64 (cnt17 f room)) ∧ Below w.heap.size w w' := by
  have HT := Lib.hid (there17 h)
  have HN : Hid (cnt17 f ((room + 63) / 64 * 64) = cnt17 f room) := Lib.hid (cnt_out17 h.out _ (by omega))
  have hrm := h.rm
  have HH := Lib.hid h
  have oc1 : w.cell? ⟨sb, 1, none⟩ = _ := h.top.cell 1
  obtain ⟨m, hm⟩ : ∃ m, m = (room + 63) / 64 := ⟨_, rfl⟩
  have HM : Hid (m = (room + 63) / 64) := Lib.hid hm
  have hm64 : m ≤ 64 := by omega
  rw [← hm] at oc1 HN
  clear h hm hrm
  go_enter Try.func19, Try.ntmps19
  go_wp2_with fail
  refine HT.out.mono ?_
  rintro e w1 ⟨rfl, rfl⟩
  go_wp2_with fail
  go_loopw [3, 14] (fun n c wr => ∃ i : Nat, i ≤ m ∧ n = .int .i64 (cnt17 f (i * 64) : Nat) ∧ c = .int .i64 i ∧ Hid (Below w.heap.size w wr)) (fun n c _ => m - (intOf c).toNat)
  case atStart => exact ⟨0, Nat.zero_le _, rfl, rfl, Lib.hid (Below.refl _ _)⟩
  case round =>
    obtain ⟨i, hi, rfl, rfl, HB⟩ := hrel
    have hcl := cnt_le17 f (i * 64)
    by_cases hlt : i < m
    · have hlt' : (i : Int) < m := by omega
      obtain ⟨t, h1, h2, _, _, _, h3⟩ := HH.out.shelf (i := i) (by rw [← HM.out]; exact hlt)
      have HX := Lib.hid (wd_seg17 f i)
      have HS := Lib.hid (cnt_seg17 f i)
      obtain ⟨x, hx⟩ : ∃ x, x = wd17 (seg17 f i) := ⟨_, rfl⟩
      rw [← hx] at h1 HX HS
      have HCC : Hid (∀ j u, [Value.int .u64 x, thV17 t][j]? = some u → wr.cell? ((⟨gb, i * 2, none⟩ : Addr).add j) = some u) := Lib.hid fun j u hu => by
        rw [addr_row, HB.out.cell (p := ⟨gb, i * 2 + j, none⟩) h3]
        match j, hu with
        | 0, hu => cases hu; exact h1
        | 1, hu => cases hu; exact h2
      clear h1 h2 h3 hx
      go_upto_region 7 with (first
        | ((with_reducible show wpList _ _ _ ({ dst := some 17, op := Op.load _ _, type := _, pos := _, after := _, guard := _ } :: _) _ _); go_must (refine wpList_load_at rfl 67 (.tmp 16) rfl ⟨gb, i * 2, none⟩ [Value.int .u64 x, thV17 t] _ Try.underlying67 rfl (size_sh17 _ _) HCC.out ?_ ?_; go_simp))
        | ((with_reducible show wpList _ _ _ ({ dst := some 5, op := Op.alloc _, type := _, pos := _, after := _, guard := _ } :: _) _ _); go_must (refine wpList_alloc_zero rfl 67 rfl [.int .u64 0, .slice none 0 0] zero_sh17 ?_))
        | ((with_reducible show wpList _ _ _ ({ dst := none, op := Op.store 67 (.tmp 5) _, type := _, pos := _, after := _, guard := _ } :: _) _ _); go_must (refine wpList_store_new rfl 67 (.tmp 5) (.tmp 17) rfl [Value.int .u64 x, thV17 t] (size_sh17 _ _) (th_one17 _ _) rfl ?_ ?_ ?_; go_simp; go_simp; intro w1 hr1 hb1 hz1)))
      have oc5 : w1.cell? ⟨wr.heap.size, 0, none⟩ = _ := hr1.cell 0
      have HB1 := Lib.hid (HB.out.trans (hb1.mono HB.out.size))
      clear hr1 hb1 hz1
      go_wp2_with fail
      refine (ones17 x w1 HX.out).mono ?_
      rintro e w2 ⟨rfl, rfl⟩
      have hpl := pop_le17 64 x
      have HS2 : Hid ((cnt17 f (i * 64) : Int) + (pop17 64 x : Nat) = (cnt17 f (i * 64 + 64) : Nat)) := Lib.hid (by rw [HS.out]; omega)
      have hn4096 : i * 64 ≤ 4096 := by omega
      generalize cnt17 f (i * 64) = c0 at *
      generalize pop17 64 x = p0 at *
      go_wp2_with fail
      go_roundw
      case rel => exact ⟨i + 1, by omega, by rw [show (i + 1) * 64 = i * 64 + 64 by omega, ← HS2.out], by go_num, HB1⟩
      case measure => simp [intOf]; omega
    · have hie : i = m := by omega
      have hlt' : ¬ (i : Int) < m := by omega
      subst hie
      rw [HN.out]
      go_wp2_with fail
      go_ret
      exact ⟨rfl, HB.out⟩
end
end Go.Proofs.Ytkhcgclnmdgpbaa

/-
  Of part Nums17: what is needed here.
-/
namespace Go.Proofs.Ytkhcgclnmdgpbaa
open Go.RowKit
set_option linter.unusedVariables false
set_option maxRecDepth 100000
/-- a list of numbers of the call's own -/
def OwnI17 (w : World) (base : Nat) (v : Value) (xs : List Int) : Prop := w.ownsRow base 3 1 v xs.length (cv .i64 xs)
theorem info_int17 : (Try.prog.info? 3).map (fun i => (i.zero, i.size, i.bytes)) = some (some (.int .i64 0), 1, 8) := by kernel_rfl
theorem OwnI17.below {w w' : World} {base : Nat} {v : Value} {xs : List Int} (h : OwnI17 w base v xs) (hb : Below w.heap.size w w') : OwnI17 w' base v xs := own_below h hb
theorem OwnI17.nil (w : World) (base : Nat) : OwnI17 w base (.slice none 0 0) [] := ⟨rfl, .inl ⟨rfl, rfl⟩⟩
theorem add_int17 {w : World} {ops : Array Oper} {rest : List Oper} {o : Oper} {a : Act} {Q : Exit → Act → World → Prop} (hgd : o.guard = none) (s x : Operand)
    (ho : o.op = .call { callee := .builtin .append, args := #[s, x], argTypes := #[40, 40] }) (base : Nat) (v : Value) (xs : List Int) (n : Int) (g c : Nat) (hs : a.eval s = v) (hown : OwnI17 w base v xs)
    (hx : a.eval x = .slice (some ⟨g, 0, none⟩) 1 c) (hr : Row w g 3 [.int .i64 n]) (hb : base ≤ w.heap.size) (hl : xs.length ≤ 5000)
    (k : ∀ v' w', OwnI17 w' base v' (xs ++ [n]) → Below base w w' → wpList Try.prog ops Q rest (a.put o.dst v') w') : wpList Try.prog ops Q (o :: rest) a w := by
  obtain ⟨i, hi, hz0, hz1, hz2⟩ := info_parts info_int17
  refine wpList_append_sees hgd s x 40 ho base 3 i (.int .i64 0) 8 Try.underlying40 hi hz0 hz1 hz2 rfl v xs.length (cv .i64 xs) hs hown w.heap.size _ 1 c [.int .i64 n] hx hr.sees0 (fun u hu => by rw [List.mem_singleton.1 hu]; rfl) (by unfold maxLen; omega) (by omega) hb ?_
  intro v' w' ho' hg hv
  refine k v' w' ?_ (below_append (Below.refl base w) hown (Nat.le_refl _) hb hg)
  unfold OwnI17
  rw [List.length_append]
  simp only [cv, List.map_append, List.map_cons, List.map_nil]
  exact ho'
def intsN (l : List Nat) : List Int := l.map fun (n : Nat) => (n : Int)
def NumsDone17 (l : List Nat) (w : World) (e : Ending) (w' : World) : Prop := ∃ v, e = .returned v ∧ OwnI17 w' w.heap.size v (intsN l) ∧ Below w.heap.size w w'
section
variable {w w' : World} {P : Nat → Prop} {sb gb room : Nat} {f : F17}
set_option maxHeartbeats 2000000 in
theorem nums17_ (h : Slab17 w P sb gb room f) : Calls Try.prog 18 #[.pointer (some ⟨sb, 0, none⟩)] w (NumsDone17 (nums17 f room) w) := by
  have HL := Lib.hid (len17 h)
  have HH := Lib.hid h
  have hrm := h.rm
  have hcl := cnt_le17 f room
  have HNL : Hid ((nums17 f room).length = cnt17 f room) := Lib.hid (nums_len17 f room)
  have HEN : Hid (cnt17 f room = 0 → nums17 f room = []) := Lib.hid fun e => List.eq_nil_of_length_eq_zero (by rw [nums_len17, e])
  have HD : Hid (∀ v V, OwnI17 V w.heap.size v (intsN (nums17 f room)) → Below w.heap.size w V → NumsDone17 (nums17 f room) w (.returned v) V) := Lib.hid fun v V h1 h2 => ⟨v, rfl, h1, h2⟩
  clear h
  generalize NumsDone17 (nums17 f room) w = D at *
  generalize hct : cnt17 f room = ct at *
  clear hct
  go_enter Try.func18, Try.ntmps18
  go_wp2_with fail
  refine HL.out.mono ?_
  rintro e w1 ⟨rfl, hb1⟩
  have HB1 := Lib.hid hb1
  clear hb1
  by_cases h0 : ct = 0
  · subst h0
    have HF := Lib.hid (HD.out (.slice none 0 0) w1 (by rw [HEN.out rfl]; exact OwnI17.nil w1 w.heap.size) HB1.out)
    go_wp2_with fail
    exact HF.out
  · have h0' : ¬ (ct : Int) = 0 := by omega
    go_upto_region 5 with (first
      | (at_make; (obtain ⟨i0, hi, hz0, hz1, hz2⟩ := info_parts info_int17); go_must (refine wpList_make_own _ rfl (.const (.int .i64 0)) (.tmp 10) 40 rfl w.heap.size 3 i0 _ 1 Try.underlying40 hi hz0 hz1 .i64 .i64 _ ct rfl ?_ rfl (by rw [hz2]; omega) (by unfold maxLen; omega) HB1.out.size ?_; go_simp; intro w2 hown hgrow)))
    have hb2 := HB1.out.grown hgrow HB1.out.size (fun k hk => by cases hk)
    have HB2 := Lib.hid hb2
    have HO2 : Hid (OwnI17 w2 w.heap.size (.slice (some ⟨w1.heap.size, 0, none⟩) 0 ct) (intsN (nums17 f 0))) := Lib.hid hown
    have oc0 : w2.cell? ⟨sb, 0, none⟩ = _ := (HH.out.below hb2).top.cell 0
    clear hown hgrow hb2
    go_wp2_with fail
    clear oc0
    go_loopw [4, 16] (fun l c wr => ∃ k : Nat, k ≤ room ∧ c = .int .i64 k ∧ Hid (OwnI17 wr w.heap.size l (intsN (nums17 f k))) ∧ Hid (Below w.heap.size w wr)) (fun _ c _ => room - (intOf c).toNat)
    case atStart => exact ⟨0, Nat.zero_le _, rfl, HO2, HB2⟩
    case round =>
      obtain ⟨k, hk, rfl, HO, HB⟩ := hrel
      by_cases hlt : k < room
      · have hlt' : (k : Int) < room := by omega
        obtain ⟨i, hi⟩ : ∃ i, i = k / 64 := ⟨_, rfl⟩
        obtain ⟨j, hj⟩ : ∃ j, j = k % 64 := ⟨_, rfl⟩
        obtain ⟨m, hm⟩ : ∃ m, m = (room + 63) / 64 := ⟨_, rfl⟩
        have him : i < m := by omega
        have hjl : j < 64 := by omega
        have hi64 : i < 64 := by omega
        have him' : (i : Int) < m := by omega
        have hq : (k : Int).tdiv 64 = (i : Int) := by rw [hi, Int.tdiv_eq_ediv_of_nonneg (by omega)]; omega
        have hq2 : (k : Int).tmod 64 = (j : Int) := by rw [hj, Int.tmod_eq_emod_of_nonneg (by omega)]; omega
        have hq3 : (k : Int) / 64 = (i : Int) := by rw [hi]; omega
        have hq4 : (k : Int) % 64 = (j : Int) := by rw [hj]; omega
        have oc1 : wr.cell? ⟨sb, 1, none⟩ = some (.slice (some ⟨gb, 0, none⟩) m m) := by rw [hm]; exact (HH.out.below HB.out).top.cell 1
        have HS : Hid (Calls Try.prog 33 #[.pointer (some ⟨gb, i * 2, none⟩), .int .i64 j] wr fun e w' => e = .returned (.bool (f k).isSome) ∧ wr = w') := Lib.hid (by
          have := (HH.out.below HB.out).has (i := i) (j := j) (by omega) hjl
          rwa [show i * 64 + j = k by omega] at this)
        have HLE : Hid ((intsN (nums17 f k)).length ≤ 5000) := Lib.hid (by
          have h1 := nums_len17 f k
          have h2 := cnt_le17 f k
          unfold intsN
          rw [List.length_map]
          omega)
        clear hi hj hm
        go_wp2_with fail
        refine HS.out.mono ?_
        rintro e w3 ⟨rfl, rfl⟩
        have HNS := Lib.hid (nums_succ17 f k)
        generalize (f k).isSome = b at *
        cases b with
        | false =>
          go_wp2_with fail
          go_roundw
          case rel => exact ⟨k + 1, by omega, by go_num, Lib.hid (by rw [HNS.out]; simpa using HO.out), HB⟩
          case measure => simp [intOf]; omega
        | true =>
          obtain ⟨xs, hxs⟩ : ∃ xs, xs = intsN (nums17 f k) := ⟨_, rfl⟩
          have HXS : Hid (intsN (nums17 f (k + 1)) = xs ++ [(k : Int)]) := Lib.hid (by rw [HNS.out, hxs]; simp [intsN])
          rw [← hxs] at HO HLE
          clear hxs HNS oc1
          have hbw := (Below.refl wr.heap.size wr).alloc (Nat.le_refl _) (.cells #[.int .i64 k] 3)
          have HO3 := Lib.hid (HO.out.below hbw)
          have HB3 := Lib.hid (HB.out.trans (hbw.mono HB.out.size))
          have RX := Lib.hid (Row.new wr 3 [.int .i64 k])
          have HGE := Lib.hid HB.out.size
          clear hbw
          go_wp2_with (first
            | ((with_reducible show wpList _ _ _ ({ dst := some 32, op := _, type := _, pos := _, after := _, guard := _ } :: _) _ _); go_must (refine add_int17 rfl (.tmp 29) (.tmp 31) rfl w.heap.size _ xs k _ 1 (by go_simp) HO3.out (by go_simp) RX.out HB3.out.size HLE.out ?_; intro v4 w4 ho4 hb4))
            | fail)
          go_roundw
          case rel => exact ⟨k + 1, by omega, by go_num, Lib.hid (by rw [HXS.out]; exact ho4), Lib.hid (HB3.out.trans hb4)⟩
          case measure => simp [intOf]; omega
      · have hke : k = room := by omega
        have hlt' : ¬ (k : Int) < room := by omega
        subst hke
        have HF := Lib.hid (HD.out _ wr HO.out HB.out)
        go_wp2_with fail
        exact HF.out
end
end Go.Proofs.Ytkhcgclnmdgpbaa

/-
  Of part Same17: what is needed here.
-/
namespace Go.Proofs.Ytkhcgclnmdgpbaa
open Go.RowKit
set_option linter.unusedVariables false
set_option maxRecDepth 100000
theorem cv_at17 {xs : List Int} {i : Nat} {w : World} {B n : Nat} {A : Option Addr} (h : Sees w B A n (cv .i64 xs)) (hi : i < n) : ∃ a x, A = some a ∧ a.block < B ∧ xs[i]? = some x ∧ w.cell? (a.add i) = some (.int .i64 x) := by
  obtain ⟨a, u, ea, hb, hu, hc⟩ := h.at_ hi
  have hl : i < xs.length := by have := h.len; rw [cv_length] at this; omega
  have hx : xs[i]? = some xs[i] := List.getElem?_eq_getElem hl
  refine ⟨a, xs[i], ea, hb, hx, ?_⟩
  unfold cv at hu
  rw [List.getElem?_map, hx] at hu
  cases hu
  exact hc
set_option maxHeartbeats 1000000 in
theorem same17 (xs ys : List Int) (A B : Option Addr) (n m c d : Nat) (w : World) (hx : Sees w w.heap.size A n (cv .i64 xs)) (hy : Sees w w.heap.size B m (cv .i64 ys)) (hn : n ≤ 5000) (hm : m ≤ 5000) :
    Calls Try.prog 20 #[.slice A n c, .slice B m d] w fun e w' => e = .returned (.bool (decide (xs = ys))) ∧ Below w.heap.size w w' := by
  have HX := Lib.hid hx
  have HY := Lib.hid hy
  have HLX : Hid (xs.length = n) := Lib.hid (by have := hx.len; rwa [cv_length] at this)
  have HLY : Hid (ys.length = m) := Lib.hid (by have := hy.len; rwa [cv_length] at this)
  obtain ⟨b, hb⟩ : ∃ b, b = decide (xs = ys) := ⟨_, rfl⟩
  rw [← hb]
  have HB := Lib.hid hb
  clear hx hy hb
  go_enter Try.func20, Try.ntmps20
  go_wp2_with fail
  go_loopw [5] (fun i wr => ∃ k : Nat, k ≤ n ∧ k ≤ m ∧ i = .int .i64 k ∧ Hid (∀ j, j < k → xs[j]? = ys[j]?) ∧ Hid (Below w.heap.size w wr)) (fun i _ => n - (intOf i).toNat)
  case atStart => exact ⟨0, Nat.zero_le _, Nat.zero_le _, rfl, Lib.hid (fun j hj => absurd hj (by omega)), Lib.hid (Below.refl _ _)⟩
  case round =>
    obtain ⟨k, hkn, hkm, rfl, HE, HW⟩ := hrel
    rename World => wr
    by_cases h1 : k < n
    · have h1' : (k : Int) < n := by omega
      have d1 : decide ((k : Int) < n) = true := decide_eq_true h1'
      by_cases h2 : k < m
      · have h2' : (k : Int) < m := by omega
        have d2 : decide ((k : Int) < m) = true := decide_eq_true h2'
        obtain ⟨a, x, ea, hab, hxk, hac⟩ := cv_at17 HX.out h1
        obtain ⟨a2, y, ea2, hab2, hyk, hac2⟩ := cv_at17 HY.out h2
        subst ea
        subst ea2
        have oc1 : wr.cell? (a.add k) = some (.int .i64 x) := (HW.out.cell (by rw [addr_block]; exact hab)).trans hac
        have oc2 : wr.cell? (a2.add k) = some (.int .i64 y) := (HW.out.cell (by rw [addr_block]; exact hab2)).trans hac2
        have HXK := Lib.hid hxk
        have HYK := Lib.hid hyk
        have hbd : Hid (Below w.heap.size w wr.drew) := Lib.hid HW.out.drew
        clear hxk hyk hab hab2 hac hac2
        go_upto_region 4 with fail
        go_region
        by_cases hxy : x = y
        · have hxy' : ((x != y) = false) := by rw [hxy]; simp
          have HNX : Hid (∀ j, j < k + 1 → xs[j]? = ys[j]?) := Lib.hid fun j hj => by
            rcases Nat.lt_succ_iff_lt_or_eq.1 hj with hj | rfl
            · exact HE.out j hj
            · rw [HXK.out, HYK.out, hxy]
          clear oc1 oc2
          subst hxy
          go_wp2_with fail
          go_roundw
          case rel => exact ⟨k + 1, by omega, by omega, by go_num, HNX, hbd⟩
          case measure => simp [intOf]; omega
        · have hbf : Hid (b = false) := Lib.hid (by
            rw [HB.out]
            exact decide_eq_false fun e => hxy (by
              have h3 := HXK.out
              rw [e, HYK.out] at h3
              exact (Option.some.inj h3).symm))
          have hb0 := hbf.out
          subst hb0
          clear oc1 oc2
          go_wp2_with fail
          go_ret
          exact ⟨rfl, hbd.out⟩
      · have h2' : ¬ (k : Int) < m := by omega
        have d2 : decide ((k : Int) < m) = false := decide_eq_false h2'
        have hbf : Hid (b = false) := Lib.hid (by
          rw [HB.out]
          exact decide_eq_false fun e => by have := HLX.out; have := HLY.out; rw [e] at *; omega)
        have hb0 := hbf.out
        subst hb0
        have hnm : ¬ (n : Int) = (m : Int) := by omega
        have hnm2 : ((n : Int) == (m : Int)) = false := by rw [beq_eq_false_iff_ne]; exact hnm
        go_wp2_with fail
        go_ret
        exact ⟨rfl, HW.out⟩
    · have h1' : ¬ (k : Int) < n := by omega
      have d1 : decide ((k : Int) < n) = false := decide_eq_false h1'
      have hke : k = n := by omega
      by_cases hnm : n = m
      · have hbt : Hid (b = true) := Lib.hid (by
          rw [HB.out]
          refine decide_eq_true (List.ext_getElem? fun j => ?_)
          by_cases hj : j < k
          · exact HE.out j hj
          · rw [List.getElem?_eq_none (by have := HLX.out; omega), List.getElem?_eq_none (by have := HLY.out; omega)])
        have hb0 := hbt.out
        subst hb0
        subst hnm
        go_wp2_with fail
        go_ret
        exact ⟨rfl, HW.out⟩
      · have hbf : Hid (b = false) := Lib.hid (by
          rw [HB.out]
          exact decide_eq_false fun e => hnm (by have h3 := HLX.out; have h4 := HLY.out; rw [e] at h3; omega))
        have hb0 := hbf.out
        subst hb0
        have hnm3 : ¬ (n : Int) = (m : Int) := by omega
        have hnm2 : ((n : Int) == (m : Int)) = false := by rw [beq_eq_false_iff_ne]; exact hnm3
        go_wp2_with fail
        go_ret
        exact ⟨rfl, HW.out⟩
end Go.Proofs.Ytkhcgclnmdgpbaa

/-
  Of part Lives17: what is needed here.
-/
namespace Go.Proofs.Ytkhcgclnmdgpbaa
open Go.RowKit
set_option linter.unusedVariables false
set_option maxRecDepth 100000
theorem lst_is17 {f : F17} {n : Nat} (hl : Lst17 f n) (m : Nat) (h1 : ∀ k, k < m → (f k).isSome = true) (h2 : f m = none) : n = m := by
  rcases Nat.lt_trichotomy n m with h | h | h
  · have := h1 n h
    rw [hl.2] at this
    cases this
  · exact h
  · have := hl.1 m h
    rw [h2] at this
    cases this
set_option maxHeartbeats 2000000 in
theorem lives17 (w : World) : Calls Try.prog 9 #[] w fun e w' => e = .returned (.bool true) ∧ Below w.heap.size w w' := by
  go_enter Try.func9, Try.ntmps9
  go_wp2_with fail
  refine (new17 (w := w) (P := fun k => w.heap.size ≤ k) 2 2 rfl (by omega) (fun k hk => hk)).mono ?_
  rintro e w0 ⟨sb, gb, rfl, hs, _, _, hb⟩
  have HP : Hid (∀ k, w.heap.size ≤ k → (fun k => w.heap.size ≤ k) k) := Lib.hid fun k hk => hk
  have HPB : Hid (∀ k, (fun k => w.heap.size ≤ k) k → w.heap.size ≤ k) := Lib.hid fun k hk => hk
  generalize (fun k => w.heap.size ≤ k) = P at *
  have S0 := Lib.hid hs
  have O0 : Hid (Only17 P w w0) := Lib.hid (Only17.of hb (Nat.le_refl _))
  clear hs hb
  go_wp2_with fail
  refine (put17 S0.out 7 (fun k hk => HP.out k (Nat.le_trans O0.out.size hk))).mono ?_
  rintro e w1 ⟨n, hl, hc⟩
  have hn := lst_is17 hl 0 (fun k hk => absurd hk (Nat.not_lt_zero k)) (rfl)
  subst hn
  rcases hc with ⟨h9, _, _⟩ | ⟨_, rfl, hs, ho⟩
  · omega
  have S1 := Lib.hid hs
  have O1 := Lib.hid (O0.out.trans ho)
  clear hl hs ho
  go_wp2_with fail
  refine (put17 S1.out 8 (fun k hk => HP.out k (Nat.le_trans O1.out.size hk))).mono ?_
  rintro e w2 ⟨n, hl, hc⟩
  have hn := lst_is17 hl 1 (fun k hk => match k, hk with | 0, _ => rfl) (rfl)
  subst hn
  rcases hc with ⟨h9, _, _⟩ | ⟨_, rfl, hs, ho⟩
  · omega
  have S2 := Lib.hid hs
  have O2 := Lib.hid (O1.out.trans ho)
  clear hl hs ho
  go_wp2_with fail
  refine (put17 S2.out 9 (fun k hk => HP.out k (Nat.le_trans O2.out.size hk))).mono ?_
  rintro e w3 ⟨n, hl, hc⟩
  have hn := lst_is17 hl 2 (fun k hk => match k, hk with | 0, _ => rfl | 1, _ => rfl) rfl
  subst hn
  rcases hc with ⟨_, rfl, rfl⟩ | ⟨h9, _, _, _⟩
  rotate_left
  · omega
  clear hl
  go_wp2_with fail
  refine (freed17 S2.out 0).mono ?_
  rintro e w3 hc
  rcases hc with ⟨h9, _, _⟩ | ⟨n, x, hz, _, _, rfl, hs, ho⟩
  · cases h9
  have hn : n = 0 := by omega
  subst hn
  have S3 := Lib.hid hs
  have O3 := Lib.hid (O2.out.trans ho)
  clear hs ho hz
  go_wp2_with fail
  refine (put17 S3.out 9 (fun k hk => HP.out k (Nat.le_trans O3.out.size hk))).mono ?_
  rintro e w4 ⟨n, hl, hc⟩
  have hn := lst_is17 hl 0 (fun k hk => absurd hk (Nat.not_lt_zero k)) (rfl)
  subst hn
  rcases hc with ⟨h9, _, _⟩ | ⟨_, rfl, hs, ho⟩
  · omega
  have S4 := Lib.hid hs
  have O4 := Lib.hid (O3.out.trans ho)
  clear hl hs ho
  go_wp2_with fail
  have G0 : Hid (at17 (up17 (up17 (up17 (up17 none17 0 (some 7)) 1 (some 8)) 0 none) 0 (some 9)) 0 = some 9) := Lib.hid rfl
  have G2 : Hid (at17 (up17 (up17 (up17 (up17 none17 0 (some 7)) 1 (some 8)) 0 none) 0 (some 9)) 2 = none) := Lib.hid rfl
  have GN : Hid (nums17 (up17 (up17 (up17 (up17 none17 0 (some 7)) 1 (some 8)) 0 none) 0 (some 9)) 2 = [0, 1]) := Lib.hid rfl
  generalize up17 (up17 (up17 (up17 none17 0 (some 7)) 1 (some 8)) 0 none) 0 (some 9) = f at *
  refine (get17 S4.out 0).mono ?_
  rintro e w5 ⟨rfl, rfl⟩
  rw [G0.out]
  simp only [got17]
  go_wp2_with fail
  refine (get17 S4.out 2).mono ?_
  rintro e w5 ⟨rfl, rfl⟩
  rw [G2.out]
  simp only [got17]
  go_wp2_with fail
  refine (new_bad17 0 (by omega)).mono ?_
  rintro e w5 ⟨rfl, rfl⟩
  go_wp2_with fail
  refine (new_bad17 4097 (by omega)).mono ?_
  rintro e w5 ⟨rfl, rfl⟩
  go_wp2_with fail
  refine (nums17_ S4.out).mono ?_
  rintro e w5 ⟨v, rfl, ho, hb⟩
  rw [GN.out] at ho
  obtain ⟨A, c, rfl⟩ := own_form ho
  have HB5 := Lib.hid ((O4.out.below HPB.out (Nat.le_refl _)).trans (hb.mono O4.out.size))
  have HO5 : Hid (OwnI17 w5 w4.heap.size (.slice A 2 c) [0, 1]) := Lib.hid ho
  clear ho hb
  go_wp2_with fail
  have hbx := (Below.refl w5.heap.size w5).alloc (Nat.le_refl _) (.cells #[.int .i64 0, .int .i64 1] 3)
  have HO6 := Lib.hid (Sees.of_own (HO5.out.below hbx))
  have RX := Lib.hid (Row.new w5 3 [.int .i64 0, .int .i64 1])
  have HB6 := Lib.hid (HB5.out.trans (hbx.mono HB5.out.size))
  refine (same17 [0, 1] [0, 1] A (some ⟨w5.heap.size, 0, none⟩) 2 2 _ _ _ HO6.out RX.out.sees0 (by omega) (by omega)).mono ?_
  rintro e w6 ⟨rfl, hb6⟩
  have HB7 := Lib.hid (HB6.out.trans (hb6.mono HB6.out.size))
  clear hb6 hbx
  rw [decide_eq_true rfl]
  go_wp2_with fail
  go_ret
  exact ⟨rfl, HB7.out⟩
end Go.Proofs.Ytkhcgclnmdgpbaa

/-
  Of part Void17: what is needed here.
-/
namespace Go.Proofs.Ytkhcgclnmdgpbaa
open Go.RowKit
set_option linter.unusedVariables false
set_option maxRecDepth 100000
/-- no slab, or one that no call made -/
def NoSlab17 (w : World) (p : Option Addr) : Prop := Calls Try.prog 27 #[.pointer p] w fun e w' => e = .returned (.bool false) ∧ w = w'
section
variable {w : World} {p : Option Addr}
set_option maxHeartbeats 1000000 in
theorem put_no17 (h : NoSlab17 w p) (x : Int) : Calls Try.prog 10 #[.pointer p, .int .u64 x] w fun e w' => e = .returned (.tuple #[.int .i64 0, .int .i64 2]) ∧ w = w' := by
  have HT : Hid (Calls Try.prog 27 #[.pointer p] w fun e w' => e = .returned (.bool false) ∧ w = w') := Lib.hid h
  clear h
  go_enter Try.func10, Try.ntmps10
  go_wp2_with fail
  refine HT.out.mono ?_
  rintro e w1 ⟨rfl, rfl⟩
  go_wp2_with fail
  go_ret2
  exact ⟨rfl, rfl⟩
set_option maxHeartbeats 1000000 in
theorem find_void17 (h : NoSlab17 w p) (z : Int) : Calls Try.prog 30 #[.pointer p, .int .i64 z] w fun e w' => e = .returned (.tuple #[.pointer none, .int .i64 2]) ∧ w = w' := by
  have HT : Hid (Calls Try.prog 27 #[.pointer p] w fun e w' => e = .returned (.bool false) ∧ w = w') := Lib.hid h
  clear h
  go_enter Try.func30, Try.ntmps30
  go_wp2_with fail
  refine HT.out.mono ?_
  rintro e w1 ⟨rfl, rfl⟩
  go_wp2_with fail
  go_ret2
  exact ⟨rfl, rfl⟩
set_option maxHeartbeats 1000000 in
theorem get_no17 (h : NoSlab17 w p) (z : Int) : Calls Try.prog 12 #[.pointer p, .int .i64 z] w fun e w' => e = .returned (.tuple #[.int .u64 0, .int .i64 2]) ∧ w = w' := by
  have HF := Lib.hid (find_void17 h z)
  clear h
  go_enter Try.func12, Try.ntmps12
  go_wp2_with fail
  refine HF.out.mono ?_
  rintro e w1 ⟨rfl, rfl⟩
  go_wp2_with fail
  go_ret2
  exact ⟨rfl, rfl⟩
set_option maxHeartbeats 1000000 in
theorem set_no17 (h : NoSlab17 w p) (z y : Int) : Calls Try.prog 14 #[.pointer p, .int .i64 z, .int .u64 y] w fun e w' => e = .returned (.int .i64 2) ∧ w = w' := by
  have HF := Lib.hid (find_void17 h z)
  clear h
  go_enter Try.func14, Try.ntmps14
  go_wp2_with fail
  refine HF.out.mono ?_
  rintro e w1 ⟨rfl, rfl⟩
  go_wp2_with fail
  go_ret
  exact ⟨rfl, rfl⟩
set_option maxHeartbeats 1000000 in
theorem freed_no17 (h : NoSlab17 w p) (z : Int) : Calls Try.prog 16 #[.pointer p, .int .i64 z] w fun e w' => e = .returned (.int .i64 2) ∧ w = w' := by
  have HF := Lib.hid (find_void17 h z)
  clear h
  go_enter Try.func16, Try.ntmps16
  go_wp2_with fail
  refine HF.out.mono ?_
  rintro e w1 ⟨rfl, rfl⟩
  go_wp2_with fail
  go_ret
  exact ⟨rfl, rfl⟩
set_option maxHeartbeats 1000000 in
theorem len_no17 (h : NoSlab17 w p) : Calls Try.prog 19 #[.pointer p] w fun e w' => e = .returned (.int .i64 0) ∧ w = w' := by
  have HT : Hid (Calls Try.prog 27 #[.pointer p] w fun e w' => e = .returned (.bool false) ∧ w = w') := Lib.hid h
  clear h
  go_enter Try.func19, Try.ntmps19
  go_wp2_with fail
  refine HT.out.mono ?_
  rintro e w1 ⟨rfl, rfl⟩
  go_wp2_with fail
  go_ret
  exact ⟨rfl, rfl⟩
set_option maxHeartbeats 1000000 in
theorem nums_no17 (h : NoSlab17 w p) : Calls Try.prog 18 #[.pointer p] w fun e w' => e = .returned (.slice none 0 0) ∧ w = w' := by
  have HL := Lib.hid (len_no17 h)
  clear h
  go_enter Try.func18, Try.ntmps18
  go_wp2_with fail
  refine HL.out.mono ?_
  rintro e w1 ⟨rfl, rfl⟩
  go_wp2_with fail
  go_ret
  exact ⟨rfl, rfl⟩
end
theorem zero_slab17 : (Try.prog.info? 50).map (·.zero) = some (some (.agg [.int .i64 0, .slice none 0 0].toArray)) := by kernel_rfl
set_option maxHeartbeats 4000000 in
theorem voidWalk17 (n x : Int) (w : World) : Calls Try.prog 4 #[.int .i64 n, .int .u64 x] w fun e w' => e = .returned (.bool true) ∧ Below w.heap.size w w' := by
  go_enter Try.func4, Try.ntmps4
  go_upto_region 3 with (first
    | ((with_reducible show wpList _ _ _ ({ dst := some 5, op := Op.alloc _, type := _, pos := _, after := _, guard := _ } :: _) _ _); go_must (refine wpList_alloc_zero rfl 50 rfl [.int .i64 0, .slice none 0 0] zero_slab17 ?_)))
  obtain ⟨g, hg⟩ : ∃ g, g = w.heap.size := ⟨_, rfl⟩
  have b1 := (Below.refl w.heap.size w).alloc (Nat.le_refl _) (.cells [Value.int .i64 0, .slice none 0 0].toArray 50)
  have r1 := Row.new w 50 [.int .i64 0, .slice none 0 0]
  have b2 := b1.alloc b1.size (.cells [Value.pointer none, .pointer (some ⟨w.heap.size, 0, none⟩)].toArray 23)
  have r2 := Row.new' (w.alloc (.cells [Value.int .i64 0, .slice none 0 0].toArray 50)) 23 [Value.pointer none, .pointer (some ⟨w.heap.size, 0, none⟩)] (g := w.heap.size + 1) (by simp)
  have r3 := r1.alloc (.cells [Value.pointer none, .pointer (some ⟨w.heap.size, 0, none⟩)].toArray 23)
  have B2 := Lib.hid b2
  have HV : Hid (∀ k : Nat, k < 2 → ∃ p, ((w.alloc (.cells [Value.int .i64 0, .slice none 0 0].toArray 50)).alloc (.cells [Value.pointer none, .pointer (some ⟨w.heap.size, 0, none⟩)].toArray 23)).cell? ⟨w.heap.size + 1, k, none⟩ = some (.pointer p) ∧ NoSlab17 ((w.alloc (.cells [Value.int .i64 0, .slice none 0 0].toArray 50)).alloc (.cells [Value.pointer none, .pointer (some ⟨w.heap.size, 0, none⟩)].toArray 23)) p) := Lib.hid fun k hk => match k, hk with
    | 0, _ => ⟨none, r2.cell 0, there_nil17 _⟩
    | 1, _ => ⟨some ⟨w.heap.size, 0, none⟩, r2.cell 1, there_zero17 _ _ r3⟩
  clear b1 r1 b2 r2 r3 hg
  generalize hW : (w.alloc (.cells [Value.int .i64 0, .slice none 0 0].toArray 50)).alloc (.cells [Value.pointer none, .pointer (some ⟨w.heap.size, 0, none⟩)].toArray 23) = w2 at *
  clear hW
  go_wp2_with fail
  go_loopw [7] (fun i wr => ∃ k : Nat, k ≤ 2 ∧ i = .int .i64 k ∧ wr = w2) (fun i _ => 2 - (intOf i).toNat)
  case atStart => exact ⟨0, Nat.zero_le _, rfl, rfl⟩
  case round =>
    obtain ⟨k, hk, rfl, hw⟩ := hrel
    have hw' := hw.symm
    subst hw'
    by_cases hlt : k < 2
    · have hlt' : (k : Int) < 2 := by omega
      obtain ⟨p, oc, hp⟩ := HV.out k hlt
      have HP := Lib.hid hp
      clear hp
      go_wp2_with fail
      refine (put_no17 HP.out x).mono ?_
      rintro e w3 ⟨rfl, rfl⟩
      go_wp2_with fail
      refine (get_no17 HP.out n).mono ?_
      rintro e w3 ⟨rfl, rfl⟩
      go_wp2_with fail
      refine (set_no17 HP.out n x).mono ?_
      rintro e w3 ⟨rfl, rfl⟩
      go_wp2_with fail
      refine (freed_no17 HP.out n).mono ?_
      rintro e w3 ⟨rfl, rfl⟩
      go_wp2_with fail
      refine (len_no17 HP.out).mono ?_
      rintro e w3 ⟨rfl, rfl⟩
      go_wp2_with fail
      refine (nums_no17 HP.out).mono ?_
      rintro e w3 ⟨rfl, rfl⟩
      go_wp2_with fail
      go_roundw
      case rel => exact ⟨k + 1, by omega, by go_num, trivial⟩
      case measure => simp [intOf]; omega
    · have hlt' : ¬ (k : Int) < 2 := by omega
      go_wp2_with fail
      refine (lives17 _).mono ?_
      rintro e w3 ⟨rfl, hb3⟩
      have B3 := Lib.hid (B2.out.trans (hb3.mono B2.out.size))
      clear hb3
      go_wp2_with fail
      go_ret
      exact ⟨rfl, B3.out⟩
end Go.Proofs.Ytkhcgclnmdgpbaa

/-
  Of part FillWalk17: what is needed here.
-/
namespace Go.Proofs.Ytkhcgclnmdgpbaa
open Go.RowKit
set_option linter.unusedVariables false
set_option maxRecDepth 100000
theorem cnt_all17 {f : F17} : ∀ {n : Nat}, (∀ k, k < n → (f k).isSome = true) → cnt17 f n = n
  | 0, _ => rfl
  | n + 1, h => by
    rw [cnt_succ17, cnt_all17 fun k hk => h k (by omega), h n (by omega)]
    rfl
theorem cnt_same17 {f g : F17} : ∀ {n : Nat}, (∀ k, k < n → (f k).isSome = (g k).isSome) → cnt17 f n = cnt17 g n
  | 0, _ => rfl
  | n + 1, h => by
    rw [cnt_succ17, cnt_succ17, cnt_same17 fun k hk => h k (by omega), h n (by omega)]
theorem cnt_gone17 {f : F17} {k : Nat} (hf : (f k).isSome = true) : ∀ {n : Nat}, k < n → cnt17 (up17 f k none) n + 1 = cnt17 f n
  | n + 1, h => by
    rw [cnt_succ17, cnt_succ17]
    by_cases hk : k = n
    · subst hk
      have e1 : cnt17 (up17 f k none) k = cnt17 f k := cnt_same17 fun j hj => by simp only [up17]; rw [if_neg (by omega)]
      have e2 : (up17 f k none k).isSome = false := by simp only [up17]; rfl
      rw [e1, e2, hf]
      rfl
    · have ih := cnt_gone17 hf (n := n) (by omega)
      have e : (up17 f k none n).isSome = (f n).isSome := by simp only [up17]; rw [if_neg (by omega)]
      rw [e]
      omega
theorem own_zeros17 {w : World} {base g n : Nat} (h : w.ownsRow base 3 1 (.slice (some ⟨g, 0, none⟩) n n) n (madeCells (Value.int .i64 0).cells (n * 1)).toList) : Row w g 3 (cv .i64 (List.replicate n 0)) := by
  have h1 := (row_own17 h).1
  have h2 : (madeCells (Value.int .i64 0).cells (n * 1)).toList = cv .i64 (List.replicate n 0) := by
    rw [Nat.mul_one, show (Value.int .i64 0).cells = #[.int .i64 0] from rfl, toList_madeCells_one]
    simp [cv]
  rwa [h2] at h1
/-- which were freed: 1 in the row -/
structure Fr17 (xs : List Int) (f : F17) (V : Nat → Int) (n mn : Nat) : Prop where
  len : xs.length = n
  each : ∀ j, j < n → (xs[j]? = some 0 ∧ f j = some (V j)) ∨ (xs[j]? = some 1 ∧ f j = none)
  many : mn + cnt17 f n = n
theorem Fr17.gone {xs : List Int} {f : F17} {V : Nat → Int} {n mn k : Nat} (h : Fr17 xs f V n mn) (hk : k < n) (hf : (f k).isSome = true) : Fr17 (xs.set k 1) (up17 f k none) V n (mn + 1) := by
  refine ⟨by rw [List.length_set]; exact h.len, fun j hj => ?_, by have h1 := cnt_gone17 hf hk; have h2 := h.many; omega⟩
  simp only [up17]
  rw [List.getElem?_set]
  by_cases hjk : k = j
  · rw [if_pos hjk, if_pos (by rw [h.len]; exact hk), if_pos hjk.symm]
    exact .inr ⟨rfl, rfl⟩
  · rw [if_neg hjk, if_neg (fun e => hjk e.symm)]
    exact h.each j hj
theorem cv_set17 (xs : List Int) (k : Nat) (z : Int) : (cv .i64 xs).set k (.int .i64 z) = cv .i64 (xs.set k z) := by simp [cv, List.map_set]
theorem cv_get17 {xs : List Int} {k : Nat} {z : Int} (h : xs[k]? = some z) : (cv .i64 xs)[k]? = some (.int .i64 z) := by
  unfold cv
  rw [List.getElem?_map, h]
  rfl
set_option maxHeartbeats 16000000 in
theorem fillWalk17 (r x : Int) (A : Option Addr) (ln lc : Nat) (zs : List Int) (w : World) (hr : 0 ≤ r ∧ r < 65536) (hz : Sees w w.heap.size A ln (bv zs)) (hzb : AllBytes zs) (hlc : ln ≤ lc ∧ lc ≤ maxLen) :
    Calls Try.prog 5 #[.int .u16 r, .int .u64 x, .slice A ln lc] w fun e w' => e = .returned (.bool true) ∧ Below w.heap.size w w' := by
  obtain ⟨q, hqd⟩ : ∃ q : Nat, (q : Int) = r % 300 := ⟨(r % 300).toNat, by omega⟩
  obtain ⟨nn, hnn⟩ : ∃ n : Nat, n = 1 + q := ⟨_, rfl⟩
  have hq1 : r.tmod 300 = (q : Int) := by rw [Int.tmod_eq_emod_of_nonneg hr.1]; omega
  have hq2 : r % 300 = (q : Int) := hqd.symm
  have hs1 : 1 + (q : Int) = (nn : Int) := by omega
  have hs2 : (q : Int) + 1 = (nn : Int) := by omega
  have hq300 : (q : Int) < 300 := by omega
  have hn1 : 1 ≤ nn := by omega
  have hn300 : nn ≤ 300 := by omega
  have hr0 := hr.1
  have hr6 := hr.2
  have HZ := Lib.hid hz
  have HZB := Lib.hid hzb
  have HLC := Lib.hid hlc
  clear hz hzb hlc hqd hnn hr
  go_enter Try.func5, Try.ntmps5
  go_wp2_with fail
  clear hq1 hq2 hs1 hs2 hq300 hr0 hr6
  refine (new17 (w := w) (P := fun k => w.heap.size ≤ k) nn nn rfl (by omega) (fun k hk => hk)).mono ?_
  rintro e w0 ⟨sb, gb, rfl, hs, _, _, hb⟩
  have HP : Hid (∀ k, w.heap.size ≤ k → (fun k => w.heap.size ≤ k) k) := Lib.hid fun k hk => hk
  have HPB : Hid (∀ k, (fun k => w.heap.size ≤ k) k → w.heap.size ≤ k) := Lib.hid fun k hk => hk
  generalize (fun k => w.heap.size ≤ k) = P at *
  have S0 := Lib.hid hs
  have O0 : Hid (Only17 P w w0) := Lib.hid (Only17.of hb (Nat.le_refl _))
  clear hs hb
  by_cases hg : ln ≤ 300
  rotate_left
  · have hg' : (300 : Int) < ln := by omega
    have d0 : decide ((300 : Int) < ln) = true := decide_eq_true hg'
    have B0 := Lib.hid (O0.out.below HPB.out (Nat.le_refl _))
    go_wp2_with fail
    refine (lives17 _).mono ?_
    rintro e w3 ⟨rfl, hb3⟩
    have B3 := Lib.hid (B0.out.trans (hb3.mono B0.out.size))
    clear hb3
    go_wp2_with fail
    go_ret
    exact ⟨rfl, B3.out⟩
  have hg' : ¬ (300 : Int) < ln := by omega
  have d0 : decide ((300 : Int) < ln) = false := decide_eq_false hg'
  obtain ⟨V, hV⟩ : ∃ V : Nat → Int, ∀ k, V k = IntKind.u64.wrap (x + k) := ⟨fun k => IntKind.u64.wrap (x + k), fun _ => rfl⟩
  have HV := Lib.hid hV
  clear hV
  go_wp2_with fail
  clear d0
  go_loopw [10] (fun i wr => ∃ (k : Nat) (f : F17), k ≤ nn ∧ i = .int .i64 k ∧ Hid (Slab17 wr P sb gb nn f) ∧ Hid (Only17 P w wr) ∧ Hid (∀ j, f j = if j < k then some (V j) else none)) (fun i _ => nn - (intOf i).toNat)
  case atStart => exact ⟨0, none17, Nat.zero_le _, rfl, S0, O0, Lib.hid fun j => by rw [if_neg (by omega)]; rfl⟩
  case round =>
    obtain ⟨k, f, hk, rfl, S, O, F⟩ := hrel
    rename World => wr
    by_cases hlt : k < nn
    · have hlt' : (k : Int) < nn := by omega
      have hv : IntKind.u64.wrap (x + (k : Int)) = V k := (HV.out k).symm
      obtain ⟨v, hvv⟩ : ∃ v, v = V k := ⟨_, rfl⟩
      rw [← hvv] at hv
      have HVV := Lib.hid hvv
      clear hvv
      go_wp2_with fail
      refine (put17 S.out v (fun k hk => HP.out k (Nat.le_trans O.out.size hk))).mono ?_
      rintro e w1 ⟨m, hl, hc⟩
      have hm := lst_is17 hl k (fun j hj => by rw [F.out, if_pos hj]; rfl) (by rw [F.out, if_neg (by omega)])
      subst hm
      rcases hc with ⟨h9, _, _⟩ | ⟨_, rfl, hs, ho⟩
      · omega
      have S1 := Lib.hid hs
      have O1 := Lib.hid (O.out.trans ho)
      have F1 : Hid (∀ j, up17 f m (some v) j = if j < m + 1 then some (V j) else none) := Lib.hid fun j => by
        simp only [up17]
        by_cases hj : j = m
        · rw [if_pos hj, if_pos (by omega), hj, HVV.out]
        · rw [if_neg hj, F.out]
          by_cases h2 : j < m
          · rw [if_pos h2, if_pos (by omega)]
          · rw [if_neg h2, if_neg (by omega)]
      clear hl hs ho
      go_wp2_with fail
      go_roundw
      case rel => exact ⟨m + 1, _, by omega, by go_num, S1, O1, F1⟩
      case measure => simp [intOf]; omega
    · have hke : k = nn := by omega
      have hlt' : ¬ (k : Int) < nn := by omega
      subst hke
      go_wp2_with fail
      refine (put17 S.out x (fun k hk => HP.out k (Nat.le_trans O.out.size hk))).mono ?_
      rintro e w1 ⟨m, hl, hc⟩
      have hm := lst_is17 hl k (fun j hj => by rw [F.out, if_pos hj]; rfl) (by rw [F.out, if_neg (by omega)])
      subst hm
      rcases hc with ⟨_, rfl, rfl⟩ | ⟨h9, _, _, _⟩
      rotate_left
      · omega
      clear hl
      go_wp2_with fail
      refine (len17 S.out).mono ?_
      rintro e w1 ⟨rfl, hb1⟩
      have HCN : Hid (cnt17 f m = m) := Lib.hid (cnt_all17 fun j hj => by rw [F.out, if_pos hj]; rfl)
      rw [HCN.out]
      have S1 := Lib.hid (S.out.below hb1)
      have O1 := Lib.hid (O.out.trans (Only17.of hb1 (Nat.le_refl _)))
      clear hb1
      go_upto_region 15 with (first
        | (at_make; (obtain ⟨i0, hi, hz0, hz1, hz2⟩ := info_parts info_int17); go_must (refine wpList_make_full _ rfl (.tmp 80) (.tmp 80) 40 rfl w1.heap.size 3 i0 _ 1 Try.underlying40 hi hz0 hz1 .i64 .i64 _ _ m rfl rfl rfl rfl (by rw [hz2]; omega) (by unfold maxLen; omega) (Nat.le_refl _) ?_; intro w2 hown hgrow))
        | fail)
      have hrow := own_zeros17 hown
      obtain ⟨gf, hgf⟩ : ∃ g, g = w1.heap.size := ⟨_, rfl⟩
      rw [← hgf] at hrow ⊢
      have hb2 := (Below.refl w1.heap.size w1).grown hgrow (Nat.le_refl _) (fun k hk => by cases hk)
      have HQ1 : Hid (∀ k, (fun k => P k ∧ k ≠ gf) k → P k ∧ k ≠ gf) := Lib.hid fun k hk => hk
      have HQ2 : Hid (∀ k, P k ∧ k ≠ gf → (fun k => P k ∧ k ≠ gf) k) := Lib.hid fun k hk => hk
      have S2 : Hid (Slab17 w2 (fun k => P k ∧ k ≠ gf) sb gb m f) := Lib.hid ((S1.out.mono fun k hk hp => ⟨hp, by omega⟩).below hb2)
      have HGL : Hid (gf < w2.heap.size) := Lib.hid hrow.lt
      have HGW : Hid (w.heap.size ≤ gf) := Lib.hid (by rw [hgf]; exact O1.out.size)
      generalize (fun k => P k ∧ k ≠ gf) = Q at *
      have B2 := Lib.hid ((O1.out.below HPB.out (Nat.le_refl _)).trans (hb2.mono O1.out.size))
      have HR0 := Lib.hid hrow
      have HF0 : Hid (Fr17 (List.replicate m 0) f V m 0) := Lib.hid ⟨List.length_replicate, fun j hj => .inl ⟨by rw [List.getElem?_replicate, if_pos hj], by rw [F.out, if_pos hj]⟩, by have := HCN.out; omega⟩
      have HQP : Hid (∀ V : World, w2.heap.size ≤ V.heap.size → ∀ k, V.heap.size ≤ k → Q k) := Lib.hid fun V h1 k h2 => HQ2.out k ⟨HP.out k (by have := B2.out.size; omega), by have := HGL.out; omega⟩
      have HQB : Hid (∀ k, Q k → w.heap.size ≤ k ∧ k ≠ gf) := Lib.hid fun k hk => ⟨HPB.out k (HQ1.out k hk).1, (HQ1.out k hk).2⟩
      clear hown hgrow hrow hb2 hgf S O S1 O1 HQ1 HQ2 S0 O0 HCN F
      go_wp2_with fail
      go_loopw [14, 15] (fun mv i wr => ∃ (k mn : Nat) (f : F17) (xs : List Int), k ≤ ln ∧ i = .int .i64 k ∧ mv = .int .i64 mn ∧ mn ≤ k ∧ Hid (Slab17 wr Q sb gb m f) ∧ Hid (Row wr gf 3 (cv .i64 xs)) ∧ Hid (Below w.heap.size w wr) ∧ Hid (w2.heap.size ≤ wr.heap.size) ∧ Hid (Fr17 xs f V m mn)) (fun _ i _ => ln - (intOf i).toNat)
      case atStart => exact ⟨0, 0, f, _, Nat.zero_le _, rfl, rfl, Nat.le_refl _, S2, HR0, B2, Lib.hid (Nat.le_refl _), HF0⟩
      case round =>
        obtain ⟨k, mn, f, xs, hk, rfl, rfl, hmk, S, R, B, Z, F⟩ := hrel
        clear S2 HR0 B2 HF0
        rename World => wr
        by_cases hlt2 : k < ln
        · have hlt2' : (k : Int) < ln := by omega
          obtain ⟨a, ea, hab, hac⟩ := HZ.out.byte hlt2
          have hbyte : IsByte (zs.getD k 0) := by
            have hl : k < zs.length := by have := HZ.out.len; rw [bv_length] at this; omega
            rw [List.getD_eq_getElem?_getD, List.getElem?_eq_getElem hl]
            exact HZB.out _ (List.getElem_mem hl)
          obtain ⟨b, hb⟩ : ∃ b : Nat, zs.getD k 0 = b := ⟨(zs.getD k 0).toNat, by have := hbyte.1; omega⟩
          rw [hb] at hac hbyte
          have hb256 : b < 256 := by have := hbyte.2; omega
          have oc : wr.cell? (a.add k) = some (.int .u8 b) := (B.out.cell (by rw [addr_block]; exact hab)).trans hac
          subst ea
          obtain ⟨kk, hkk⟩ : ∃ kk : Nat, kk = b % m := ⟨_, rfl⟩
          have hkm : kk < m := by rw [hkk]; exact Nat.mod_lt _ (by omega)
          have hkm' : (kk : Int) < m := by omega
          have hm0 : ¬ (m : Int) = 0 := by omega
          have hq1 : (b : Int).tmod (m : Int) = (kk : Int) := by rw [hkk]; exact_mod_cast rfl
          have hq2 : (b : Int) % (m : Int) = (kk : Int) := by rw [hkk]; exact_mod_cast rfl
          clear hkk hb hbyte hac hab
          go_wp2_with fail
          clear hq1 hq2 oc
          refine (freed17 S.out kk).mono ?_
          rintro e w3 hc
          rcases F.out.each kk hkm with ⟨hx0, hf0⟩ | ⟨hx1, hf1⟩
          · rcases hc with ⟨h9, _, _⟩ | ⟨n, y, hz9, _, _, rfl, hs, ho⟩
            · rw [at_nat17, hf0] at h9; cases h9
            have hnk : n = kk := by omega
            subst hnk
            have S3 := Lib.hid hs
            have R3 : Hid (Row w3 gf 3 (cv .i64 xs)) := Lib.hid ⟨(ho.block gf R.out.lt (fun e => (HQB.out gf e).2 rfl)).trans R.out.is⟩
            have B3 := Lib.hid (B.out.trans (ho.below (fun k hk => (HQB.out k hk).1) B.out.size))
            have Z3 : Hid (w2.heap.size ≤ w3.heap.size) := Lib.hid (Nat.le_trans Z.out ho.size)
            have F3 := Lib.hid (F.out.gone hkm (by rw [hf0]; rfl))
            have oc3 : w3.cell? ⟨gf, n, none⟩ = some (.int .i64 0) := (R3.out.cell n).trans (cv_get17 hx0)
            have fr3 := R3.out.frozen n
            clear hs ho hz9 hf0 hx0
            go_wp2_with fail
            have S4 : Hid (Slab17 (w3.setCell ⟨gf, n, none⟩ (.int .i64 1)) Q sb gb m (up17 f n none)) := Lib.hid (S3.out.keep (Below.heap_setCell w3 ⟨gf, n, none⟩ _ sb (row_ne12 S3.out.top R3.out (by decide))) fun k hk hp => Below.heap_setCell w3 ⟨gf, n, none⟩ _ k (HQB.out k hp).2)
            have R4 : Hid (Row (w3.setCell ⟨gf, n, none⟩ (.int .i64 1)) gf 3 (cv .i64 (xs.set n 1))) := Lib.hid (by rw [← cv_set17]; exact R3.out.set_ _ _)
            have B4 := Lib.hid (B3.out.setCell (p := ⟨gf, n, none⟩) HGW.out (.int .i64 1))
            have Z4 : Hid (w2.heap.size ≤ (w3.setCell ⟨gf, n, none⟩ (.int .i64 1)).heap.size) := Lib.hid (by have := Z3.out; simpa using this)
            go_roundw
            case rel => exact ⟨k + 1, mn + 1, _, _, by omega, by go_num, by go_num, by omega, S4, R4, B4, Z4, F3⟩
            case measure => simp [intOf]; omega
          · rcases hc with ⟨_, rfl, rfl⟩ | ⟨n, y, hz9, _, hfn, _⟩
            rotate_left
            · have hnk : n = kk := by omega
              rw [hnk, hf1] at hfn
              cases hfn
            have oc3 : wr.cell? ⟨gf, kk, none⟩ = some (.int .i64 1) := (R.out.cell kk).trans (cv_get17 hx1)
            clear hx1 hf1
            go_wp2_with fail
            go_roundw
            case rel => exact ⟨k + 1, mn, f, xs, by omega, by go_num, rfl, by omega, S, R, B, Z, F⟩
            case measure => simp [intOf]; omega
        · have hke2 : k = ln := by omega
          have hlt2' : ¬ (k : Int) < ln := by omega
          go_wp2_with fail
          refine (len17 S.out).mono ?_
          rintro e w3 ⟨rfl, hb3⟩
          have S3 := Lib.hid (S.out.below hb3)
          have R3 := Lib.hid (R.out.below hb3 R.out.lt)
          have B3 := Lib.hid (B.out.trans (hb3.mono B.out.size))
          have Z3 : Hid (w2.heap.size ≤ w3.heap.size) := Lib.hid (Nat.le_trans Z.out hb3.size)
          have hcm : ((m : Int) - (mn : Int)) = ((cnt17 f m : Nat) : Int) := by have := F.out.many; omega
          have hcl := cnt_le17 f m
          have hmn : mn ≤ 300 := by omega
          clear hb3 S R B Z
          generalize cnt17 f m = ct at *
          go_wp2_with fail
          clear hcm hcl
          go_loopw [18] (fun i wr => ∃ k3 : Nat, k3 ≤ m ∧ i = .int .i64 k3 ∧ wr = w3) (fun i _ => m - (intOf i).toNat)
          case atStart => exact ⟨0, Nat.zero_le _, rfl, rfl⟩
          case round =>
            obtain ⟨k3, hk3, rfl, hw⟩ := hrel
            have hw' := hw.symm
            subst hw'
            by_cases hlt3 : k3 < m
            · have hlt3' : (k3 : Int) < m := by omega
              have hv : IntKind.u64.wrap (x + (k3 : Int)) = V k3 := (HV.out k3).symm
              go_wp2_with fail
              refine (get17 S3.out k3).mono ?_
              rintro e w4 ⟨rfl, rfl⟩
              rw [at_nat17]
              rcases F.out.each k3 hlt3 with ⟨hx0, hf0⟩ | ⟨hx1, hf1⟩
              · rw [hf0]
                simp only [got17]
                have oc3 : w3.cell? ⟨gf, k3, none⟩ = some (.int .i64 0) := (R3.out.cell k3).trans (cv_get17 hx0)
                generalize V k3 = v at *
                clear hx0 hf0
                go_wp2_with fail
                go_roundw
                case rel => exact ⟨k3 + 1, by omega, by go_num, trivial⟩
                case measure => simp [intOf]; omega
              · rw [hf1]
                simp only [got17]
                have oc3 : w3.cell? ⟨gf, k3, none⟩ = some (.int .i64 1) := (R3.out.cell k3).trans (cv_get17 hx1)
                clear hx1 hf1
                go_wp2_with fail
                go_roundw
                case rel => exact ⟨k3 + 1, by omega, by go_num, trivial⟩
                case measure => simp [intOf]; omega
            · have hke3 : k3 = m := by omega
              have hlt3' : ¬ (k3 : Int) < m := by omega
              go_wp2_with fail
              go_loopw [21] (fun i wr => ∃ (k4 : Nat) (f4 : F17), k4 ≤ m ∧ i = .int .i64 k4 ∧ Hid (Slab17 wr Q sb gb m f4) ∧ Hid (Row wr gf 3 (cv .i64 xs)) ∧ Hid (Below w.heap.size w wr) ∧ Hid (w2.heap.size ≤ wr.heap.size) ∧ Hid ((∀ j, j < k4 → (f4 j).isSome = true) ∧ ∀ j, k4 ≤ j → f4 j = f j)) (fun i _ => m - (intOf i).toNat)
              case atStart => exact ⟨0, f, Nat.zero_le _, rfl, S3, R3, B3, Z3, Lib.hid ⟨fun j hj => absurd hj (by omega), fun _ _ => rfl⟩⟩
              case round =>
                obtain ⟨k4, f4, hk4, rfl, S, R, B, Z, G⟩ := hrel
                rename World => wr
                by_cases hlt4 : k4 < m
                · have hlt4' : (k4 : Int) < m := by omega
                  rcases F.out.each k4 hlt4 with ⟨hx0, hf0⟩ | ⟨hx1, hf1⟩
                  · have oc3 : wr.cell? ⟨gf, k4, none⟩ = some (.int .i64 0) := (R.out.cell k4).trans (cv_get17 hx0)
                    have G1 : Hid ((∀ j, j < k4 + 1 → (f4 j).isSome = true) ∧ ∀ j, k4 + 1 ≤ j → f4 j = f j) := Lib.hid ⟨fun j hj => by
                      rcases Nat.lt_succ_iff_lt_or_eq.1 hj with hj | rfl
                      · exact G.out.1 j hj
                      · rw [G.out.2 j (Nat.le_refl _), hf0]; rfl, fun j hj => G.out.2 j (by omega)⟩
                    clear hx0 hf0
                    go_wp2_with fail
                    go_roundw
                    case rel => exact ⟨k4 + 1, f4, by omega, by go_num, S, R, B, Z, G1⟩
                    case measure => simp [intOf]; omega
                  · have oc3 : wr.cell? ⟨gf, k4, none⟩ = some (.int .i64 1) := (R.out.cell k4).trans (cv_get17 hx1)
                    have HF1 := Lib.hid hf1
                    clear hx1 hf1
                    go_wp2_with fail
                    refine (put17 S.out x (HQP.out wr Z.out)).mono ?_
                    rintro e w5 ⟨n5, hl, hc⟩
                    have hm := lst_is17 hl k4 G.out.1 (by rw [G.out.2 k4 (Nat.le_refl _), HF1.out])
                    subst hm
                    rcases hc with ⟨h9, _, _⟩ | ⟨_, rfl, hs, ho⟩
                    · omega
                    have S5 := Lib.hid hs
                    have R5 : Hid (Row w5 gf 3 (cv .i64 xs)) := Lib.hid ⟨(ho.block gf R.out.lt (fun e => (HQB.out gf e).2 rfl)).trans R.out.is⟩
                    have B5 := Lib.hid (B.out.trans (ho.below (fun k hk => (HQB.out k hk).1) B.out.size))
                    have Z5 : Hid (w2.heap.size ≤ w5.heap.size) := Lib.hid (Nat.le_trans Z.out ho.size)
                    have G5 : Hid ((∀ j, j < n5 + 1 → (up17 f4 n5 (some x) j).isSome = true) ∧ ∀ j, n5 + 1 ≤ j → up17 f4 n5 (some x) j = f j) := Lib.hid ⟨fun j hj => by
                      simp only [up17]
                      by_cases h6 : j = n5
                      · rw [if_pos h6]; rfl
                      · rw [if_neg h6]; exact G.out.1 j (by omega), fun j hj => by
                      simp only [up17]
                      rw [if_neg (by omega)]
                      exact G.out.2 j (by omega)⟩
                    clear hl hs ho
                    go_wp2_with fail
                    go_roundw
                    case rel => exact ⟨n5 + 1, _, by omega, by go_num, S5, R5, B5, Z5, G5⟩
                    case measure => simp [intOf]; omega
                · have hke4 : k4 = m := by omega
                  have hlt4' : ¬ (k4 : Int) < m := by omega
                  subst hke4
                  go_wp2_with fail
                  refine (len17 S.out).mono ?_
                  rintro e w6 ⟨rfl, hb6⟩
                  have HC6 : Hid (cnt17 f4 k4 = k4) := Lib.hid (cnt_all17 G.out.1)
                  rw [HC6.out]
                  have B6 := Lib.hid (B.out.trans (hb6.mono B.out.size))
                  clear hb6
                  go_wp2_with fail
                  refine (lives17 _).mono ?_
                  rintro e w7 ⟨rfl, hb7⟩
                  have B7 := Lib.hid (B6.out.trans (hb7.mono B6.out.size))
                  clear hb7
                  go_wp2_with fail
                  go_ret
                  exact ⟨rfl, B7.out⟩
end Go.Proofs.Ytkhcgclnmdgpbaa

/-
  Of part Open7: what is needed here.
-/
namespace Go.Proofs.Ytkhcgclnmdgpbaa
open Go.ChangeShapes Go.WideShapes Go.RowKit
set_option linter.unusedVariables false
set_option maxRecDepth 100000
theorem u16_wf {z : Int} (h : (Lit.int .u16 z).wf = true) : 0 ≤ z ∧ z < 65536 := by
  have h' : (decide ((0 : Int) ≤ z) && decide (z ≤ 65535)) = true := h
  rw [Bool.and_eq_true, decide_eq_true_iff, decide_eq_true_iff] at h'
  omega
end Go.Proofs.Ytkhcgclnmdgpbaa
