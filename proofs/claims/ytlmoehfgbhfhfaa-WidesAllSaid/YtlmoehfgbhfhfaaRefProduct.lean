/-
  The reference's product, by the school method.
-/
import Derived.Test.YtlmoehfgbhfhfaaRefDigits
import Derived.Laws.MakeOwn
namespace Go.Proofs.Ytlmoehfgbhfhfaa
open Go.RowKit
set_option linter.unusedVariables false

theorem made_words (n : Nat) : (madeCells (Value.int .u64 0).cells (n * 1)).toList = cv .u64 (List.replicate n 0) := by
  apply List.ext_getElem?
  intro i
  simp [madeCells, cv, Value.cells]
  by_cases h : i < n <;> simp [h, Nat.mod_one]
theorem cv_set (k : IntKind) (l : List Int) (j : Nat) (z : Int) : (cv k l).set j (.int k z) = cv k (l.set j z) := by simp [cv, List.map_set]

/-- one round's numbers, as the program makes them -/
theorem round_words {x y o : List Int} {i k : Nat} {c : Int} (hx : Digs x) (hy : Digs y) (s : School x y o i k c) :
    ∃ m t R lo hi, IntKind.u64.wrap (x.getD i 0 * y.getD k 0) = m ∧ IntKind.u64.wrap (o.getD (i + k) 0 + m) = t ∧ IntKind.u64.wrap (t + c) = R ∧ R.tmod 65536 = lo ∧ IntKind.u64.wrap (R.tdiv 65536) = hi ∧
      lo = round x y o i k c % 65536 ∧ hi = round x y o i k c / 65536 := by
  obtain ⟨a, b, d, e, f, g⟩ := round_in hx hy s
  have r : round x y o i k c = o.getD (i + k) 0 + x.getD i 0 * y.getD k 0 + c := rfl
  refine ⟨x.getD i 0 * y.getD k 0, o.getD (i + k) 0 + x.getD i 0 * y.getD k 0, round x y o i k c, _, _, ?_, ?_, ?_, Int.tmod_eq_emod_of_nonneg a, ?_, rfl, rfl⟩
  · rw [IntKind.wrap_u64]; omega
  · rw [IntKind.wrap_u64]; omega
  · rw [IntKind.wrap_u64, ← r]; omega
  · rw [Int.tdiv_eq_ediv_of_nonneg a, IntKind.wrap_u64]; omega

set_option maxHeartbeats 2000000 in
theorem product_ (a b : Int) (ha : Word a) (hb : Word b) (w : World) :
    Calls Try.prog 15 #[.int .u64 a, .int .u64 b] w fun e w' => ∃ g o, e = .returned (.slice (some ⟨g, 0, none⟩) 8 8) ∧ Row w' g 22 (cv .u64 o) ∧ o.length = 8 ∧ Digs o ∧ val o = a * b ∧ Below w.heap.size w w' := by
  obtain ⟨i0, hi, hz0, hz1, hz2⟩ := info_parts info_u64
  have D1 := fun w => digits_ a ha w
  have D2 := fun w => digits_ b hb w
  have vx := Lib.hid (val_four a ha)
  have vy := Lib.hid (val_four b hb)
  have dx := dgs_digs a 4
  have dy := dgs_digs b 4
  have lx := Lib.hid (dgs_len a 4)
  have ly := Lib.hid (dgs_len b 4)
  generalize dgs a 4 = x at *
  generalize dgs b 4 = y at *
  go_enter Try.func15, Try.ntmps15
  go_wp2_with fail
  refine (D1 _).mono ?_
  rintro e w1 ⟨A1, c1, rfl, hs1, hb1⟩
  go_wp2_with fail
  refine (D2 _).mono ?_
  rintro e w2 ⟨A2, c2, rfl, hs2, hb2⟩
  have hb3 := hb1.trans (hb2.mono hb1.size)
  have hs1' := (hs1.below hb2).more (B' := w2.heap.size) hb2.size
  have hsz := hb3.size
  clear hs1 hb1 hb2
  go_wp2_with (at_make; go_must (refine wpList_make_full _ rfl (.const (.int .i64 8)) (.const (.int .i64 8)) 24 rfl w2.heap.size 22 i0 _ 1 Try.underlying24 hi hz0 hz1 .i64 .i64 _ _ 8 rfl rfl (by simp) (by simp) (by rw [hz2]; omega) (by unfold maxLen; omega) (Nat.le_refl _) ?_; intro w3 hown hgrow); rw [made_words] at hown; have hrow := Row.of_own hown; have hb4 := (Below.refl w2.heap.size w2).grown hgrow (Nat.le_refl _) (fun k hk => by cases hk))
  have hb5 := hb3.trans (hb4.mono hsz)
  have S0 : School x y (List.replicate 8 0) 0 0 0 := ⟨by simp, fun i => by
      rw [List.getD_eq_getElem?_getD, List.getElem?_replicate]
      split <;> simp, by omega, by omega, fun j _ => by
      rw [List.getD_eq_getElem?_getD, List.getElem?_replicate]
      split <;> simp, by simp [val, List.replicate]⟩
  have RR := Lib.hid hrow
  clear hrow hown hgrow
  have hs1'' := hs1'.below hb4
  have hs2'' := hs2.below hb4
  clear hs1' hs2
  generalize hg : w2.heap.size = g at *
  go_loopw [8] (fun i wr => ∃ (j : Nat) (o : List Int), j ≤ 4 ∧ i = .int .i64 j ∧ Row wr g 22 (cv .u64 o) ∧ School x y o j 0 0 ∧ Below w.heap.size w wr ∧ Below g w3 wr) (fun i _ => 4 - (intOf i).toNat)
  case atStart => exact ⟨0, _, Nat.zero_le _, rfl, RR.out, S0, hb5, Below.refl _ _⟩
  case round =>
    obtain ⟨i, o, hi4, rfl, hr, hsc, hbr, hbg⟩ := hrel
    by_cases hlt : i < 4
    · go_wp2
      go_loopw [9, 10] (fun cc kk wr => ∃ (k : Nat) (o : List Int) (c : Int), k ≤ 4 ∧ kk = .int .i64 k ∧ cc = .int .u64 c ∧ Row wr g 22 (cv .u64 o) ∧ School x y o i k c ∧ Below w.heap.size w wr ∧ Below g w3 wr) (fun _ kk _ => 4 - (intOf kk).toNat)
      case atStart => exact ⟨0, _, 0, Nat.zero_le _, rfl, rfl, hr, hsc, hbr, hbg⟩
      case round =>
        clear hr hsc hbr hbg o
        obtain ⟨k, o, c, hk4, rfl, rfl, hr, hsc, hbr, hbg⟩ := hrel
        by_cases hkt : k < 4
        · obtain ⟨ax, rfl, hax, hcx⟩ := (hs1''.below hbg).num hlt
          obtain ⟨ay, rfl, hay, hcy⟩ := (hs2''.below hbg).num hkt
          have co := hr.cell (i + k)
          have fo := hr.frozen (i + k)
          rw [cv_at (show i + k < o.length by rw [hsc.len]; omega)] at co
          obtain ⟨m, t, R, lo, hi, E1, E2, E3, E4, E5, E6, E7⟩ := round_words dx dy hsc
          have HR := Lib.hid hr
          have N := hsc.next dx dy ly.out hlt hkt
          rw [← E6, ← E7] at N
          clear hr hsc E6 E7
          generalize x.getD i 0 = p at *
          generalize y.getD k 0 = q at *
          generalize o.getD (i + k) 0 = d at *
          have i1 : (0 : Int) ≤ (i : Int) + k := by omega
          have i2 : (i : Int) + k < 8 := by omega
          have i3 : (i : Int) < 4 := by omega
          have i4 : (k : Int) < 4 := by omega
          go_wp2
          go_quiet (fail)
          go_wp2
          go_roundw
          case rel =>
            refine ⟨k + 1, _, _, by omega, by go_num, rfl, ?_, N, (below_drewN hbr nq).setCell hsz _, (below_drewN hbg nq).setCell (Nat.le_refl _) _⟩
            have h := (HR.out.drewN nq).set_ (i + k) (.int .u64 lo)
            rw [cv_set] at h
            exact h
          case measure => simp [intOf]; omega
        · have hk4' : k = 4 := by omega
          subst hk4'
          have co := hr.cell (i + 4)
          have fo := hr.frozen (i + 4)
          rw [cv_at (show i + 4 < o.length by rw [hsc.len]; omega)] at co
          have HR := Lib.hid hr
          have N := hsc.over dx lx.out ly.out hlt
          clear hr hsc
          generalize o.getD (i + 4) 0 = d at *
          have i1 : (0 : Int) ≤ (i : Int) + 4 := by omega
          have i2 : (i : Int) + 4 < 8 := by omega
          go_wp2
          go_roundw
          case rel =>
            refine ⟨i + 1, _, by omega, by go_num, ?_, N, hbr.setCell hsz _, hbg.setCell (Nat.le_refl _) _⟩
            have h := HR.out.set_ (i + 4) (.int .u64 c)
            rw [cv_set] at h
            exact h
          case measure => simp [intOf]; omega
    · have hi4' : i = 4 := by omega
      subst hi4'
      have HR := Lib.hid hr
      have l8 := hsc.len
      have dg := hsc.digs
      have ev := hsc.eq
      rw [List.take_of_length_le (by have := lx.out; omega), vx.out, vy.out] at ev
      have ev2 : val o = a * b := by
        have h4 : x.getD 4 0 = 0 := by rw [List.getD_eq_getElem?_getD, List.getElem?_eq_none (by have := lx.out; omega)]; rfl
        rw [h4] at ev
        simpa using ev
      have EV := Lib.hid ev2
      clear hr hsc ev ev2
      go_wp2
      go_ret
      exact ⟨g, o, rfl, HR.out, l8, dg, EV.out, hbr⟩
end Go.Proofs.Ytlmoehfgbhfhfaa
