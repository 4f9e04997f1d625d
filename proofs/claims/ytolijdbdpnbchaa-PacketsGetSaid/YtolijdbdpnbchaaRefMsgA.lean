/-
  ferryhouseref03.Get: an elder message.
-/
import Derived.Test.YtolijdbdpnbchaaRefAt
namespace Go.Proofs.Ytolijdbdpnbchaa
open Go.RowKit
set_option linter.unusedVariables false

set_option maxRecDepth 100000 in
set_option maxHeartbeats 8000000 in
theorem refGetMsgA (A : Option Addr) (c : Nat) (zs : List Int) (w : World) (B : Nat) (hx : Sees w B A zs.length (bv zs)) (hB : B ≤ w.heap.size) (hnc : zs.length ≤ c ∧ (A = none → c = 0)) (hc : c ≤ maxLen) (hz : AllBytes zs) (a : Int) (r : List Int) (hP : pOctet zs = .ok (a, r) ∧ a < 128) :
    Calls Try.prog 44 #[.slice A zs.length c] w (RefGot w zs) := by
  have HX := Lib.hid hx
  have HNC := Lib.hid (And.intro hnc hc)
  have HZ := Lib.hid hz
  have HP := Lib.hid hP
  clear hx hnc hc hP
  go_enter Try.func44, Try.ntmps44
  go_wp2_with (((with_reducible show wpList _ _ _ ({ dst := none, op := Op.store 31 _ _, type := _, pos := _, after := _, guard := _ } :: _) _ _); go_must (refine wpList_store_new rfl 31 (.tmp 6) (.tmp 17) rfl mzero size_mz mzero_one rfl ?_ ?_ ?_; go_simp; go_simp; rfl; intro w1 hr1 hb1 hz1; have HR1 := Lib.hid hr1; have HB1 := Lib.hid hb1; clear hr1 hb1)))
  have ha1 : RAt w w1 B zs mzero (.ok zs) := rat_first HX.out HNC.out.1 HNC.out.2 hB HR1.out HB1.out
  have HA := Lib.hid ha1
  clear HR1 HB1 ha1 hz1
  generalize hzz : Value.agg #[Value.bool false, .int .u8 0, .int .u8 0, .int .u8 0, .slice none 0 0, .int .u8 0, .int .u8 0, .int .u8 0, .int .u8 0, .int .u8 0, .int .u8 0, .int .u8 0, .int .u8 0, .int .u8 0, .int .u8 0, .int .u8 0, .int .u8 0, .int .u8 0, .int .u8 0, .int .u8 0, .int .u8 0, .int .u8 0, .int .u8 0, .int .u8 0, .int .u8 0, .int .u8 0, .int .u8 0, .int .u8 0, .int .u8 0, .int .u8 0, .int .u8 0, .int .u8 0, .int .u8 0, .int .u8 0, .int .u8 0, .int .u8 0, .int .u8 0, .slice none 0 0, .slice none 0 0] = z17
  clear hzz
  refine (tbyte_ (w.heap.size + 1) B zs (.ok zs) w1 HA.out.tk (by omega) HZ.out).mono ?_
  rintro e w2 ⟨x, v, s1, rfl, ⟨rfl, hx, hx0⟩, hs1, ht1, hb1⟩
  have HA1 := Lib.hid (HA.out.call hb1 ht1)
  have HS1 := Lib.hid hs1
  have c2 := ht1.ecell.1
  have c1 : w2.cell? ⟨w.heap.size + 1 + 1, 1, none⟩ = some (.int .u8 0) := HA1.out.row.cell 1
  have f1 := HA1.out.row.frozen 1
  obtain ⟨rfl, rfl⟩ : x = a ∧ s1 = .ok r := step_octet HS1.out HP.out.1
  have hx1 : ¬ 128 < x := by have := HP.out.2; omega
  have hx2 : (x == 128) = false := by simp; have := HP.out.2; omega
  have HF : Hid (Step pFirst (.ok zs) (false, x) (.ok r)) := Lib.hid (Step.first0 HS1.out hx1 (by have := HP.out.2; omega))
  rw [show ecode (.ok r) = 0 from rfl] at c2
  generalize (.ok r : St) = s1 at *
  clear ht1 hb1 hs1 HA hx hx0 HS1
  go_wp2_with fail
  have HA2 := Lib.hid (HA1.out.set hB (mset1 HA1.out.row x))
  clear c1 f1 c2
  generalize (w2.setCell ⟨w.heap.size + 1 + 1, 1, none⟩ (.int .u8 x)) = w2' at *
  refine (tbyte_ (w.heap.size + 1) B zs s1 _ HA2.out.tk (by omega) HZ.out).mono ?_
  rintro e w3 ⟨rs, v, s2, rfl, ⟨rfl, -, -⟩, hs, ht, hb⟩
  have HA3 := Lib.hid (HA2.out.call hb ht)
  have HS2 := Lib.hid hs
  have c1 : w3.cell? ⟨w.heap.size + 1 + 1, 2, none⟩ = some (.int .u8 0) := HA3.out.row.cell 2
  have f1 := HA3.out.row.frozen 2
  clear hs ht hb HA1 HA2
  go_wp2_with fail
  have HA4 := Lib.hid (HA3.out.set hB (mset2 HA3.out.row rs))
  clear c1 f1
  generalize (w3.setCell ⟨w.heap.size + 1 + 1, 2, none⟩ (.int .u8 rs)) = w3' at *
  refine (tbyte_ (w.heap.size + 1) B zs s2 _ HA4.out.tk (by omega) HZ.out).mono ?_
  rintro e w4 ⟨ro, v, s3, rfl, ⟨rfl, -, -⟩, hs, ht, hb⟩
  have HA5 := Lib.hid (HA4.out.call hb ht)
  have HS3 := Lib.hid hs
  have c1 : w4.cell? ⟨w.heap.size + 1 + 1, 3, none⟩ = some (.int .u8 0) := HA5.out.row.cell 3
  have f1 := HA5.out.row.frozen 3
  clear hs ht hb HA3 HA4
  go_wp2_with fail
  have HA6 := Lib.hid (HA5.out.set hB (mset3 HA5.out.row ro))
  clear c1 f1
  generalize (w4.setCell ⟨w.heap.size + 1 + 1, 3, none⟩ (.int .u8 ro)) = w4' at *
  refine (tshort_ (w.heap.size + 1) B zs s3 _ HA6.out.tk (by omega) HZ.out).mono ?_
  rintro e w5 ⟨n, v, s4, rfl, ⟨rfl, hn⟩, hs, ht, hb⟩
  have HA7 := Lib.hid (HA6.out.call hb ht)
  have HS4 := Lib.hid hs
  clear hs ht hb HA5 HA6
  go_upto_block 0 with fail
  go_cut [9] from 48 to 66 (fun _ wc => ∃ l s KA kc css L R, Step (pList (pTake 32)) s3 l s ∧ RAt w wc B zs (mcells false x rs ro (.slice KA l.length kc) zero32 (.slice none 0 0) (.slice none 0 0)) s ∧ LV KeyV 58 32 wc w5.heap.size (.slice KA l.length kc) l css L R ∧ l.length ≤ 65535 ∧ w5.heap.size ≤ wc.heap.size)
  case first =>
    have HG : Hid (w.heap.size + 1 + 1 < w5.heap.size) := Lib.hid HA7.out.row.lt
    go_wp2_with fail
    go_loopw [9] (fun i wr => ∃ (k : Nat) (s : St) (V : Value) (l : List (List Int)), k ≤ n ∧ i = .int .i64 k ∧ Loop3 KeyV 58 32 (pTake 32) w B zs (fun V => mcells false x rs ro V zero32 (.slice none 0 0) (.slice none 0 0)) s4 w5.heap.size k s V wr l) (fun i _ => n - (intOf i).toNat)
    case atStart => exact ⟨0, s4, .slice none 0 0, [], Nat.zero_le _, rfl, rfl, Step.many0 _, HA7.out, ⟨_, _, _, LV.none (L := fun _ => 0) (R := fun _ => 0) (World.ownsRow_nil _ _ _ _)⟩, Nat.le_refl _⟩
    case round =>
      obtain ⟨k, s, V, l, hk, rfl, hl3⟩ := hrel
      have HL := Lib.hid hl3
      obtain ⟨css, L, R, hv⟩ := hl3.list
      obtain ⟨KA, kc, rfl⟩ := hv.form
      have HV := Lib.hid hv
      have c2 := hl3.at_.tk.ecell.1
      have hcase := hl3.at_.tk.ecell.2
      have hlk := hl3.len
      clear hl3 hv
      by_cases hlt : k < n
      · rcases hcase with ⟨h0, r', rfl⟩ | ⟨h0, cc, rfl⟩
        · rw [h0] at c2
          have c4 : wr.cell? ⟨w.heap.size + 1 + 1, 4, none⟩ = some (.slice KA l.length kc) := HL.out.at_.row.cell 4
          have f4 := HL.out.at_.row.frozen 4
          have HLK := Lib.hid hlk
          clear h0 hlk
          go_wp2_with fail
          have hlk := HLK.out
          have d4 : wr.drew.cell? ⟨w.heap.size + 1 + 1, 4, none⟩ = some (.slice KA l.length kc) := c4
          generalize (.ok r' : St) = s at *
          refine wp_region_held (S := fun _ => True) (by kernel_rfl) ?_
          try (change wpAnyH _ _ _ _ _ _ _ _ (World.drew _))
          refine takeL (i := 0) (v := ?_) rfl (by kernel_rfl) (by kernel_rfl) (by kernel_rfl) (fun _ _ _ h => h) (Or.inl ⟨by rfl, ?_⟩) trivial ?_
          rotate_left
          · intro w _
            go_simp
            try with_reducible rfl
          try simp only [Act.put, List.setIfInBounds_toArray, List.set_cons_zero, List.set_cons_succ]
          refine takeL (i := 2) (v := ?_) rfl (by kernel_rfl) (by kernel_rfl) (by kernel_rfl) (fun _ _ _ h => h) (Or.inl ⟨by rfl, ?_⟩) trivial ?_
          rotate_left
          · intro w _
            go_simp
            try with_reducible rfl
          try simp only [Act.put, List.setIfInBounds_toArray, List.set_cons_zero, List.set_cons_succ]
          refine readyL2 (i := 1) (j := 3) rfl rfl (by kernel_rfl) (by kernel_rfl) (by kernel_rfl) (fun K hK => ?_) (fun K hK => ?_)
          · go_simp
            refine hK _ _ trivial ?_
            clear hK K
            try simp only [Act.put, List.setIfInBounds_toArray, List.set_cons_zero, List.set_cons_succ]
            refine readyL (i := 3) rfl (by kernel_rfl) (by kernel_rfl) fun K hK => ?_
            go_simp
            refine (tkey_ (w.heap.size + 1) B zs s wr.drew (HL.out.at_.tk.drewN 1) (by omega)).mono ?_
            rintro e wk ⟨xk, v, s', rfl, ⟨rfl, hx32⟩, hs1, ht1, hb1⟩
            simp only []
            refine hK _ _ trivial ?_
            clear hK K
            try simp only [Act.put, List.setIfInBounds_toArray, List.set_cons_zero, List.set_cons_succ]
            have hbk : But (w.heap.size + 1) wr wk := ((But.refl _ wr).drewN 1).trans hb1
            have hvk := (HV.out.but stays_key hbk (by have := HG.out; omega)).own
            have hzk := hbk.size
            refine readyL (i := 4) rfl (by kernel_rfl) (by kernel_rfl) fun K hK => ?_
            refine wp_buildOne 25 58 (.tmp 63) rfl (bv xk) _ 32 32 Try.underlying25 info_key zsz_key (by omega) (by omega) (by rw [bv_length, hx32]) ?_ ?_
            · go_simp
            refine hK _ _ trivial ?_
            clear hK K
            try simp only [Act.put, List.setIfInBounds_toArray, List.set_cons_zero, List.set_cons_succ]
            refine readyL (i := 5) rfl (by kernel_rfl) (by kernel_rfl) fun K hK => ?_
            refine wp_addRow (.tmp 61) (.tmp 64) 25 rfl w5.heap.size 58 _ 32 32 Try.underlying25 info_key zsz_key (by omega) (.slice KA l.length kc) l.length css.flatten (bv xk) 1 (by rw [bv_length, hx32]) (bv_one xk) rfl ?_ hvk ?_ (by have := HL.out.lo; omega) (by unfold maxLen; omega) (by omega) ?_
            · go_simp
            · go_simp
            intro v4 w4 ho4 hg4
            obtain ⟨A4, c4', rfl⟩ := own_formN ho4
            refine hK _ _ trivial ?_
            clear hK K
            try simp only [Act.put, List.setIfInBounds_toArray, List.set_cons_zero, List.set_cons_succ]
            have ha4 := (HL.out.at_.call hbk ht1).grew hg4 hvk HG.out hB
            have e4 : w4.cell? ⟨w.heap.size + 1 + 1, 4, none⟩ = some (.slice KA l.length kc) := ha4.row.cell 4
            have g4 := ha4.row.frozen 4
            clear hlk
            refine takeL (i := 6) (v := ?_) rfl (by kernel_rfl) (by kernel_rfl) (by kernel_rfl) (fun _ _ _ h => h) (Or.inl ⟨by rfl, ?_⟩) trivial ?_
            rotate_left
            · intro w _
              go_simp
              try with_reducible rfl
            try simp only [Act.put, List.setIfInBounds_toArray, List.set_cons_zero, List.set_cons_succ]
            refine readyL (i := 7) rfl (by kernel_rfl) (by kernel_rfl) fun K hK => ?_
            go_simp
            refine hK _ _ trivial ?_
            clear hK K
            refine wpAnyH_done (by kernel_rfl) ?_ _
            have HN := Lib.hid (HL.out.snoc (c := 4) stays_key HG.out hB HV.out hbk ⟨rfl, hx32⟩ hs1 ht1 hg4 ho4 fun w V V' h => mset4 h V')
            clear ha4 e4 g4 hg4 ho4 hvk hs1 ht1 hb1 hbk d4 c4 f4 c2
            try simp only [Act.put, List.setIfInBounds_toArray, List.set_cons_zero, List.set_cons_succ]
            go_wp2_with fail
            go_roundw
            case rel => exact ⟨k + 1, s', _, l ++ [xk], by omega, by go_num, HN.out⟩
            case measure => simp [intOf]; omega
          · go_simp
            refine (tkey_ (w.heap.size + 1) B zs s wr.drew (HL.out.at_.tk.drewN 1) (by omega)).mono ?_
            rintro e wk ⟨xk, v, s', rfl, ⟨rfl, hx32⟩, hs1, ht1, hb1⟩
            simp only []
            refine hK _ _ trivial ?_
            clear hK K
            try simp only [Act.put, List.setIfInBounds_toArray, List.set_cons_zero, List.set_cons_succ]
            have hbk : But (w.heap.size + 1) wr wk := ((But.refl _ wr).drewN 1).trans hb1
            have hvk := (HV.out.but stays_key hbk (by have := HG.out; omega)).own
            have hzk := hbk.size
            refine readyL2 (i := 1) (j := 4) rfl rfl (by kernel_rfl) (by kernel_rfl) (by kernel_rfl) (fun K hK => ?_) (fun K hK => ?_)
            · have e5 : wk.cell? ⟨w.heap.size + 1 + 1, 4, none⟩ = some (.slice KA l.length kc) := (hb1.row HL.out.at_.row.drew (by omega)).cell 4
              go_simp
              refine hK _ _ trivial ?_
              clear hK K
              try simp only [Act.put, List.setIfInBounds_toArray, List.set_cons_zero, List.set_cons_succ]
              clear e5
              refine readyL (i := 4) rfl (by kernel_rfl) (by kernel_rfl) fun K hK => ?_
              refine wp_buildOne 25 58 (.tmp 63) rfl (bv xk) _ 32 32 Try.underlying25 info_key zsz_key (by omega) (by omega) (by rw [bv_length, hx32]) ?_ ?_
              · go_simp
              refine hK _ _ trivial ?_
              clear hK K
              try simp only [Act.put, List.setIfInBounds_toArray, List.set_cons_zero, List.set_cons_succ]
              refine readyL (i := 5) rfl (by kernel_rfl) (by kernel_rfl) fun K hK => ?_
              refine wp_addRow (.tmp 61) (.tmp 64) 25 rfl w5.heap.size 58 _ 32 32 Try.underlying25 info_key zsz_key (by omega) (.slice KA l.length kc) l.length css.flatten (bv xk) 1 (by rw [bv_length, hx32]) (bv_one xk) rfl ?_ hvk ?_ (by have := HL.out.lo; omega) (by unfold maxLen; omega) (by omega) ?_
              · go_simp
              · go_simp
              intro v4 w4 ho4 hg4
              obtain ⟨A4, c4', rfl⟩ := own_formN ho4
              refine hK _ _ trivial ?_
              clear hK K
              try simp only [Act.put, List.setIfInBounds_toArray, List.set_cons_zero, List.set_cons_succ]
              have ha4 := (HL.out.at_.call hbk ht1).grew hg4 hvk HG.out hB
              have e4 : w4.cell? ⟨w.heap.size + 1 + 1, 4, none⟩ = some (.slice KA l.length kc) := ha4.row.cell 4
              have g4 := ha4.row.frozen 4
              clear hlk
              refine takeL (i := 6) (v := ?_) rfl (by kernel_rfl) (by kernel_rfl) (by kernel_rfl) (fun _ _ _ h => h) (Or.inl ⟨by rfl, ?_⟩) trivial ?_
              rotate_left
              · intro w _
                go_simp
                try with_reducible rfl
              try simp only [Act.put, List.setIfInBounds_toArray, List.set_cons_zero, List.set_cons_succ]
              refine readyL (i := 7) rfl (by kernel_rfl) (by kernel_rfl) fun K hK => ?_
              go_simp
              refine hK _ _ trivial ?_
              clear hK K
              refine wpAnyH_done (by kernel_rfl) ?_ _
              have HN := Lib.hid (HL.out.snoc (c := 4) stays_key HG.out hB HV.out hbk ⟨rfl, hx32⟩ hs1 ht1 hg4 ho4 fun w V V' h => mset4 h V')
              clear ha4 e4 g4 hg4 ho4 hvk hs1 ht1 hb1 hbk d4 c4 f4 c2
              try simp only [Act.put, List.setIfInBounds_toArray, List.set_cons_zero, List.set_cons_succ]
              go_wp2_with fail
              go_roundw
              case rel => exact ⟨k + 1, s', _, l ++ [xk], by omega, by go_num, HN.out⟩
              case measure => simp [intOf]; omega
            · refine wp_buildOne 25 58 (.tmp 63) rfl (bv xk) _ 32 32 Try.underlying25 info_key zsz_key (by omega) (by omega) (by rw [bv_length, hx32]) ?_ ?_
              · go_simp
              refine hK _ _ trivial ?_
              clear hK K
              try simp only [Act.put, List.setIfInBounds_toArray, List.set_cons_zero, List.set_cons_succ]
              have e5 : (wk.alloc (.cells (bv xk).toArray 58)).cell? ⟨w.heap.size + 1 + 1, 4, none⟩ = some (.slice KA l.length kc) := ((hb1.row HL.out.at_.row.drew (by omega)).alloc _).cell 4
              refine readyL (i := 1) rfl (by kernel_rfl) (by kernel_rfl) fun K hK => ?_
              go_simp
              refine hK _ _ trivial ?_
              clear hK K
              try simp only [Act.put, List.setIfInBounds_toArray, List.set_cons_zero, List.set_cons_succ]
              clear e5
              refine readyL (i := 5) rfl (by kernel_rfl) (by kernel_rfl) fun K hK => ?_
              refine wp_addRow (.tmp 61) (.tmp 64) 25 rfl w5.heap.size 58 _ 32 32 Try.underlying25 info_key zsz_key (by omega) (.slice KA l.length kc) l.length css.flatten (bv xk) 1 (by rw [bv_length, hx32]) (bv_one xk) rfl ?_ hvk ?_ (by have := HL.out.lo; omega) (by unfold maxLen; omega) (by omega) ?_
              · go_simp
              · go_simp
              intro v4 w4 ho4 hg4
              obtain ⟨A4, c4', rfl⟩ := own_formN ho4
              refine hK _ _ trivial ?_
              clear hK K
              try simp only [Act.put, List.setIfInBounds_toArray, List.set_cons_zero, List.set_cons_succ]
              have ha4 := (HL.out.at_.call hbk ht1).grew hg4 hvk HG.out hB
              have e4 : w4.cell? ⟨w.heap.size + 1 + 1, 4, none⟩ = some (.slice KA l.length kc) := ha4.row.cell 4
              have g4 := ha4.row.frozen 4
              clear hlk
              refine takeL (i := 6) (v := ?_) rfl (by kernel_rfl) (by kernel_rfl) (by kernel_rfl) (fun _ _ _ h => h) (Or.inl ⟨by rfl, ?_⟩) trivial ?_
              rotate_left
              · intro w _
                go_simp
                try with_reducible rfl
              try simp only [Act.put, List.setIfInBounds_toArray, List.set_cons_zero, List.set_cons_succ]
              refine readyL (i := 7) rfl (by kernel_rfl) (by kernel_rfl) fun K hK => ?_
              go_simp
              refine hK _ _ trivial ?_
              clear hK K
              refine wpAnyH_done (by kernel_rfl) ?_ _
              have HN := Lib.hid (HL.out.snoc (c := 4) stays_key HG.out hB HV.out hbk ⟨rfl, hx32⟩ hs1 ht1 hg4 ho4 fun w V V' h => mset4 h V')
              clear ha4 e4 g4 hg4 ho4 hvk hs1 ht1 hb1 hbk d4 c4 f4 c2
              try simp only [Act.put, List.setIfInBounds_toArray, List.set_cons_zero, List.set_cons_succ]
              go_wp2_with fail
              go_roundw
              case rel => exact ⟨k + 1, s', _, l ++ [xk], by omega, by go_num, HN.out⟩
              case measure => simp [intOf]; omega
        · have h0' : (ecode (.error cc) == 0) = false := by simpa using h0
          clear hlk h0
          go_wp2_with fail
          go_meet
          case rel => exact ⟨l, .error cc, KA, kc, css, L, R, Step.list HS4.out (HL.out.fail (Nat.le_of_lt hlt)), HL.out.at_, HV.out, by have := HL.out.len; omega, HL.out.lo⟩
      · obtain rfl : k = n := by omega
        clear hlk hcase
        go_wp2_with fail
        go_meet
        case rel => exact ⟨l, s, KA, kc, css, L, R, Step.list HS4.out HL.out.step, HL.out.at_, HV.out, by have := HL.out.len; omega, HL.out.lo⟩
  case rest =>
    obtain ⟨ks, s5, KA, kc, css, L, R, hsp, hat, hv, hkl, hks⟩ := hcut
    obtain ⟨wk0, hwk0⟩ : ∃ u : World, u = wc := ⟨_, rfl⟩
    subst hwk0
    have HK5 := Lib.hid (LVR.of hv)
    have HS5 := Lib.hid hsp
    have HA8 := Lib.hid hat
    have HG5 := Lib.hid (And.intro hkl hks)
    have HG : Hid (w.heap.size + 1 + 1 < w5.heap.size) := Lib.hid HA7.out.row.lt
    clear hsp hat hv hkl hks HA7 css L R
    go_wp2_with fail
    refine (tkey_ (w.heap.size + 1) B zs s5 wk0 HA8.out.tk (by omega)).mono ?_
    rintro e w6 ⟨hh, v, s6, rfl, ⟨rfl, hh32⟩, hs, ht, hb⟩
    have HA9 := Lib.hid (HA8.out.call hb ht)
    have HS6 := Lib.hid hs
    have HK6 := Lib.hid (HK5.out.but hb (by have := HG.out; omega))
    have HZ6 := Lib.hid hb.size
    have HH := Lib.hid hh32
    have hsz : (Try.prog.info? 27).map (·.size) = some (bv hh).length := by rw [size_hash, bv_length, hh32]
    have HSZ := Lib.hid hsz
    clear hs ht hb hh32 hsz
    go_wp2_with (((with_reducible show wpList _ _ _ ({ dst := none, op := Op.store 27 _ _, type := _, pos := _, after := _, guard := _ } :: _) _ _); go_must (refine wpList_store_part rfl 27 (.tmp 69) (.tmp 68) rfl (w.heap.size + 1 + 1) 31 5 _ (bv hh) HA9.out.row HSZ.out (by rw [bv_length, HH.out, mlen zero32_len]; omega) (bv_one hh) ?_ ?_ ?_; go_simp; go_simp; intro w6' hr6' ht6'; have HA10 := Lib.hid (HA9.out.turned hB (by rw [mpart zero32_len HH.out] at hr6'; exact hr6') ht6'); have HK7 := Lib.hid (HK6.out.turned ht6' HG.out); have HZ7 := Lib.hid ht6'.size; clear hr6' ht6')))
    refine (tshort_ (w.heap.size + 1) B zs s6 _ HA10.out.tk (by omega) HZ.out).mono ?_
    rintro e w7 ⟨n2, v, s7, rfl, ⟨rfl, hn2⟩, hs, ht, hb⟩
    have HA11 := Lib.hid (HA10.out.call hb ht)
    have HS7 := Lib.hid hs
    have HK8 := Lib.hid (HK7.out.but hb (by have := HG.out; omega))
    have HZ8 : Hid (wk0.heap.size ≤ w7.heap.size) := Lib.hid (by have := HZ6.out; have := HZ7.out; have := hb.size; omega)
    clear hs ht hb HA8 HA9 HA10 HK5 HK6 HK7 HZ6 HZ7
    clear hn
    go_upto_block 2 with fail
    go_cut [10] from 72 to 102 (fun _ wx => ∃ l s IA ic css L R, Step (pList pIn) s6 l s ∧ RAt w wx B zs (mcells false x rs ro (.slice KA ks.length kc) hh (.slice IA l.length ic) (.slice none 0 0)) s ∧ LV InV 89 3 wx w7.heap.size (.slice IA l.length ic) l css L R ∧ l.length ≤ 65535 ∧ w7.heap.size ≤ wx.heap.size ∧ LVR KeyV 58 32 wx w5.heap.size wk0.heap.size (.slice KA ks.length kc) ks)
    case first =>
      have HG7 : Hid (w.heap.size + 1 + 1 < w7.heap.size) := Lib.hid HA11.out.row.lt
      go_wp2_with fail
      go_loopw [10] (fun i wr => ∃ (k : Nat) (s : St) (V : Value) (l : List LIn), k ≤ n2 ∧ i = .int .i64 k ∧ Loop3 InV 89 3 pIn w B zs (fun V => mcells false x rs ro (.slice KA ks.length kc) hh V (.slice none 0 0)) s7 w7.heap.size k s V wr l ∧ LVR KeyV 58 32 wr w5.heap.size wk0.heap.size (.slice KA ks.length kc) ks) (fun i _ => n2 - (intOf i).toNat)
      case atStart => exact ⟨0, s7, .slice none 0 0, [], Nat.zero_le _, rfl, ⟨rfl, Step.many0 _, HA11.out, ⟨_, _, _, LV.none (L := fun _ => 0) (R := fun _ => 0) (World.ownsRow_nil _ _ _ _)⟩, Nat.le_refl _⟩, HK8.out⟩
      case round =>
        clear HA11 HK8
        obtain ⟨k, s, V, l, hk, rfl, hl3, hkv⟩ := hrel
        have HL := Lib.hid hl3
        have HKV := Lib.hid hkv
        obtain ⟨css, L, R, hv⟩ := hl3.list
        obtain ⟨IA, ic, rfl⟩ := hv.form
        have HV := Lib.hid hv
        have c2 := hl3.at_.tk.ecell.1
        have hcase := hl3.at_.tk.ecell.2
        have hlk := hl3.len
        clear hl3 hv hkv
        by_cases hlt : k < n2
        · rcases hcase with ⟨h0, r', rfl⟩ | ⟨h0, cc, rfl⟩
          · rw [h0] at c2
            generalize (.ok r' : St) = s at *
            clear h0 hlk
            have hq := HL.out.at_.tk.lt
            go_wp2_with fail
            refine (tbyte_ (w.heap.size + 1) B zs s wr HL.out.at_.tk (by omega) HZ.out).mono ?_
            rintro e wa ⟨p0, v, sa, rfl, ⟨rfl, -, -⟩, hsa, hta, hba⟩
            have HSA := Lib.hid hsa
            have HTA := Lib.hid hta
            have HBA := Lib.hid hba
            have HZA := Lib.hid hba.size
            clear hsa hta hba c2 hq
            have HON : Hid (∀ u ∈ inCells p0 (.slice none 0 0) (.slice none 0 0), u.oneCell' = true) := Lib.hid (by simp [inCells, Value.oneCell'])
            go_wp2_with (((with_reducible show wpList _ _ _ ({ dst := none, op := Op.store 89 _ _, type := _, pos := _, after := _, guard := _ } :: _) _ _); go_must (refine wpList_store_new rfl 89 (.tmp 11) (.tmp 86) rfl (inCells p0 (.slice none 0 0) (.slice none 0 0)) (size_in _ _ _) HON.out rfl ?_ ?_ ?_; go_simp; go_simp; (try rfl); intro wb hrb hbb hzb; have HRB := Lib.hid hrb; have HBB := Lib.hid hbb; have HZB := Lib.hid hzb; clear hrb hbb hzb)))
            have HTB := Lib.hid (HTA.out.below HBB.out (by omega))
            have HBB2 := Lib.hid (HBA.out.trans (But.of_below HBB.out (w.heap.size + 1)))
            have HPQ : Hid (w.heap.size + 1 < wa.heap.size) := Lib.hid HTA.out.lt
            refine (tshort_ (w.heap.size + 1) B zs sa wb HTB.out (by omega) HZ.out).mono ?_
            rintro e wc1 ⟨n1, v, sb, rfl, ⟨rfl, hn1⟩, hsb, htb, hbc⟩
            have HSB := Lib.hid hsb
            have HTC := Lib.hid htb
            have HRC := Lib.hid (hbc.row HRB.out (by have := HPQ.out; omega))
            have HBC := Lib.hid (HBB2.out.trans hbc)
            have HZC : Hid (wa.heap.size < wc1.heap.size) := Lib.hid (by have := HZB.out; have := hbc.size; omega)
            clear hsb htb hbc HBB HTB HBB2 HRB HTA HBA
            go_wp2_with fail
            refine (tbytes_ (w.heap.size + 1) B n1 zs sb wc1 HTC.out (by omega) hn1).mono ?_
            rintro e wd ⟨l1, v1, sc, rfl, ⟨ho1, hl1, -⟩, hsc, htd, hbd⟩
            have HSC := Lib.hid hsc
            have HTD := Lib.hid htd
            have hrd := hbd.row HRC.out (by have := HPQ.out; omega)
            have HRD := Lib.hid hrd
            have HBD := Lib.hid (HBC.out.trans hbd)
            have HZD := Lib.hid hbd.size
            have HO1 := Lib.hid ho1
            obtain ⟨A1, c1', rfl⟩ := ho1.form
            have e1 : wd.cell? ⟨wa.heap.size, 1, none⟩ = some (.slice none 0 0) := hrd.cell 1
            have g1 := hrd.frozen 1
            clear hsc htd hbd ho1 hrd HTC HRC
            go_wp2_with fail
            have HT1 := Lib.hid (turned_setCell wd ⟨wa.heap.size, 1, none⟩ (.slice A1 l1.length c1'))
            have HRE : Hid (Row (wd.setCell ⟨wa.heap.size, 1, none⟩ (.slice A1 l1.length c1')) wa.heap.size 89 (inCells p0 (.slice A1 l1.length c1') (.slice none 0 0))) := Lib.hid (HRD.out.set_ 1 _)
            clear e1 g1
            generalize (wd.setCell ⟨wa.heap.size, 1, none⟩ (.slice A1 l1.length c1')) = we at *
            have HTE := Lib.hid (HTD.out.turned HT1.out (by have := HPQ.out; simp; omega) (by have := HPQ.out; simp; omega))
            have HBE := Lib.hid (HBD.out.turned HT1.out (by have := HZA.out; simp; omega))
            refine (tshort_ (w.heap.size + 1) B zs sc we HTE.out (by omega) HZ.out).mono ?_
            rintro e wf ⟨n3, v, sd, rfl, ⟨rfl, hn3⟩, hsd, htf, hbf⟩
            have HSD := Lib.hid hsd
            have HTF := Lib.hid htf
            have HRF := Lib.hid (hbf.row HRE.out (by have := HPQ.out; omega))
            have HBF := Lib.hid (HBE.out.trans hbf)
            have HZF : Hid (wd.heap.size ≤ wf.heap.size) := Lib.hid (by have := HT1.out.size; have := hbf.size; omega)
            have HO1F := Lib.hid (hbf.ownB (by have := HPQ.out; have := HZC.out; omega) (HO1.out.turned HT1.out (by have := HZC.out; simpa using this)))
            clear hsd htf hbf HRE HTE HBE HRD HTD HBD
            go_wp2_with fail
            refine (tbytes_ (w.heap.size + 1) B n3 zs sd wf HTF.out (by omega) hn3).mono ?_
            rintro e wg ⟨l3, v3, se, rfl, ⟨ho3, hl3, -⟩, hse, htg, hbg⟩
            have HSE := Lib.hid hse
            have HTG := Lib.hid htg
            have hrg := hbg.row HRF.out (by have := HPQ.out; omega)
            have HRG := Lib.hid hrg
            have HBG := Lib.hid (HBF.out.trans hbg)
            have HZG := Lib.hid hbg.size
            have HO3 := Lib.hid ho3
            have HO1G := Lib.hid (hbg.ownB (by have := HPQ.out; have := HZC.out; omega) HO1F.out)
            obtain ⟨A3, c3', rfl⟩ := ho3.form
            have e1 : wg.cell? ⟨wa.heap.size, 2, none⟩ = some (.slice none 0 0) := hrg.cell 2
            have g1 := hrg.frozen 2
            clear hse htg hbg ho3 hrg HTF HRF HBF
            go_upto_region 25 with fail
            have HT2 := Lib.hid (turned_setCell wg ⟨wa.heap.size, 2, none⟩ (.slice A3 l3.length c3'))
            have HRH : Hid (Row (wg.setCell ⟨wa.heap.size, 2, none⟩ (.slice A3 l3.length c3')) wa.heap.size 89 (inCells p0 (.slice A1 l1.length c1') (.slice A3 l3.length c3'))) := Lib.hid (HRG.out.set_ 2 _)
            clear e1 g1
            generalize (wg.setCell ⟨wa.heap.size, 2, none⟩ (.slice A3 l3.length c3')) = wh at *
            have HZH : Hid (wh.heap.size = wg.heap.size) := Lib.hid HT2.out.size
            have hth := HTG.out.turned HT2.out (by have := HPQ.out; simp; omega) (by have := HPQ.out; simp; omega)
            have hbh := HBG.out.turned HT2.out (by have := HZA.out; simp; omega)
            have hev : InV wh wr.heap.size wh.heap.size (inCells p0 (.slice A1 l1.length c1') (.slice A3 l3.length c3')) ⟨p0, l1, l3⟩ := by
              have z1 := HZA.out
              have z2 := HZC.out
              have z3 := HZD.out
              have z4 := HZF.out
              have z5 := HZG.out
              have z6 := HZH.out
              refine ⟨_, _, wf.heap.size, rfl, by omega, by omega, ⟨(HO1G.out.turned HT2.out (by simpa using z2)).more (by omega), fun q hq => ?_, hl1⟩, ⟨HO3.out.turned HT2.out (by simp; omega), fun q hq => ?_, hl3⟩⟩
              · have := (HO1.out.lt q hq).2
                omega
              · have := (HO3.out.lt q hq).2
                omega
            have hst := Step.in_ HSA.out (Step.bytes HSB.out HSC.out) (Step.bytes HSD.out HSE.out)
            have hah := HL.out.at_.call hbh hth
            have c37 := mc37 hah.row HH.out
            have f37 := hah.row.frozen 37
            have hvk := (HV.out.but stays_in hbh (by have := HG7.out; omega)).own
            have hkh := HKV.out.but hbh (by have := HG.out; omega)
            have HAH := Lib.hid hah
            have HTH := Lib.hid hth
            have HBH := Lib.hid hbh
            have HEV := Lib.hid hev
            have HST := Lib.hid hst
            have HVK := Lib.hid hvk
            have HKH := Lib.hid hkh
            have HON : Hid (∀ u ∈ inCells p0 (.slice A1 l1.length c1') (.slice A3 l3.length c3'), u.oneCell' = true) := Lib.hid (by simp [inCells, Value.oneCell'])
            have HLW : Hid (w7.heap.size ≤ wh.heap.size ∧ l.length ≤ 65535) := Lib.hid ⟨by have := HL.out.lo; have := hbh.size; omega, by have := HL.out.len; omega⟩
            clear hah hth hbh hev hst hvk hkh HT2 HRG HTG HBG HO1G HO1F HO3 HO1 HSA HSB HSC HSD HSE hn1 hn3
            go_wp2_with (first
              | ((with_reducible show wpList _ _ _ ({ dst := some 99, op := Op.load _ _, type := _, pos := _, after := _, guard := _ } :: _) _ _); go_must (refine wpList_load_whole rfl 89 (.tmp 11) rfl wa.heap.size 89 (inCells p0 (.slice A1 l1.length c1') (.slice A3 l3.length c3')) _ Try.underlying89 rfl (size_in _ _ _) HRH.out ?_ ?_; go_simp))
              | ((with_reducible show wpList _ _ _ ({ dst := some 100, op := Op.buildSlice _ _ _, type := _, pos := _, after := _, guard := _ } :: _) _ _); go_must (refine wpList_buildOne rfl 28 89 (.tmp 99) rfl (inCells p0 (.slice A1 l1.length c1') (.slice A3 l3.length c3')) _ 3 56 Try.underlying28 info_in zsz_in (by omega) (by omega) rfl ?_ ?_; go_simp))
              | (at_builtin; go_must (refine wpList_addRow rfl (.tmp 98) (.tmp 100) 28 rfl w7.heap.size 89 _ 3 56 Try.underlying28 info_in zsz_in (by omega) (.slice IA l.length ic) l.length css.flatten (inCells p0 (.slice A1 l1.length c1') (.slice A3 l3.length c3')) 1 rfl HON.out rfl ?_ HVK.out ?_ HLW.out.1 (by have := HLW.out.2; unfold maxLen; omega) (by have := HLW.out.2; omega) ?_; go_simp; go_simp; intro v4 w4 ho4 hg4; obtain ⟨A4, c4', rfl⟩ := own_formN ho4; have ha4 := HAH.out.grew hg4 HVK.out HG7.out hB; have e37 := mc37 ha4.row HH.out; have g37 := ha4.row.frozen 37; have HO4 := Lib.hid ho4; have HG4 := Lib.hid hg4; have HK4 := Lib.hid (HKH.out.grew hg4 HVK.out (by have := HZ8.out; omega)); clear ho4 hg4 ha4)))
            have HN := Lib.hid (HL.out.snoc (c := 37) stays_in HG7.out hB HV.out HBH.out HEV.out HST.out HTH.out HG4.out HO4.out fun w V V' h => mset37 h HH.out V')
            have HKN := Lib.hid (HK4.out.turned (turned_setCell w4 ⟨w.heap.size + 1 + 1, 37, none⟩ (.slice A4 (l.length + 1) c4')) (by have := HG.out; simpa using this))
            go_roundw
            case rel => exact ⟨k + 1, se, _, l ++ [⟨p0, l1, l3⟩], by omega, by go_num, HN.out, HKN.out⟩
            case measure => simp [intOf]; omega
          · have h0' : (ecode (.error cc) == 0) = false := by simpa using h0
            clear hlk h0
            go_wp2_with fail
            go_meet
            case rel => exact ⟨l, .error cc, IA, ic, css, L, R, Step.list HS7.out (HL.out.fail (Nat.le_of_lt hlt)), HL.out.at_, HV.out, by have := HL.out.len; omega, HL.out.lo, HKV.out⟩
        · obtain rfl : k = n2 := by omega
          clear hlk hcase
          go_wp2_with fail
          go_meet
          case rel => exact ⟨l, s, IA, ic, css, L, R, Step.list HS7.out HL.out.step, HL.out.at_, HV.out, by have := HL.out.len; omega, HL.out.lo, HKV.out⟩
    case rest =>
      obtain ⟨is, s8, IA, ic, css, L, R, hsp, hat, hv, hil, hiz, hkv⟩ := hcut
      have HK9 := Lib.hid hkv
      have HI9 := Lib.hid (LVR.of hv)
      have HS8 := Lib.hid hsp
      have HA12 := Lib.hid hat
      have HG8 := Lib.hid (And.intro hil hiz)
      have HG7 : Hid (w.heap.size + 1 + 1 < w7.heap.size) := Lib.hid HA11.out.row.lt
      have c0 : wc.cell? ⟨w.heap.size + 1 + 1, 0, none⟩ = some (.bool false) := hat.row.cell 0
      clear hsp hat hv hil hiz hkv HA11 HK8 css L R hn2
      have c2 := HA12.out.tk.ecell.1
      have hcase := HA12.out.tk.ecell.2
      have hsz : (Try.prog.info? 31).map (·.size) = some (mcells false x rs ro (.slice KA ks.length kc) hh (.slice IA is.length ic) (.slice none 0 0)).length := by rw [size_msg, mlen HH.out]
      have HSM := Lib.hid hsz
      clear hsz
      have HMS : Hid (Step pMsg (.ok zs) ⟨false, x, rs, ro, ks, hh, is, []⟩ s8) := Lib.hid (Step.msg HF.out HS2.out HS3.out HS5.out HS6.out HS8.out (Step.looks0 _))
      rcases hcase with ⟨h0, r', rfl⟩ | ⟨h0, cc, rfl⟩
      · rw [h0] at c2
        clear h0
        go_wp2_with fail
        have HLAST : Hid (Last3 (w.heap.size + 1 + 1) ⟨w.heap.size + 1, 1, none⟩ (mcells false x rs ro (.slice KA ks.length kc) hh (.slice IA is.length ic) (.slice none 0 0)) (.int .i64 ((zs.length - r'.length : Nat) : Int)) wc.drew) := Lib.hid ⟨HA12.out.tk.acell, fun j u hu => by rw [HA12.out.row.drew.cell, Nat.zero_add]; exact hu⟩
        clear c2
        refine wp_region_held (S := Last3 (w.heap.size + 1 + 1) ⟨w.heap.size + 1, 1, none⟩ (mcells false x rs ro (.slice KA ks.length kc) hh (.slice IA is.length ic) (.slice none 0 0)) (.int .i64 ((zs.length - r'.length : Nat) : Int))) (by kernel_rfl) ?_
        try (change wpAnyH _ _ _ _ _ _ _ _ (World.drew _))
        refine takeL (i := 0) (v := .agg (mcells false x rs ro (.slice KA ks.length kc) hh (.slice IA is.length ic) (.slice none 0 0)).toArray) rfl (by kernel_rfl) (by kernel_rfl) (by kernel_rfl) (fun _ _ _ h => h) (yieldsIf_load_mid (by rfl) 31 (.tmp 6) rfl (w.heap.size + 1 + 1) 0 (by go_simp) (mcells false x rs ro (.slice KA ks.length kc) hh (.slice IA is.length ic) (.slice none 0 0)) _ (fun w hw => hw.r) Try.underlying31 rfl HSM.out) HLAST.out ?_
        try simp only [Act.put, List.setIfInBounds_toArray, List.set_cons_zero, List.set_cons_succ]
        refine takeL (i := 1) (v := ?_) rfl (by kernel_rfl) (by kernel_rfl) (by kernel_rfl) (fun _ _ _ h => h) (Or.inl ⟨by rfl, ?_⟩) HLAST.out ?_
        rotate_left
        · intro w hw
          go_simp
          try with_reducible rfl
        try simp only [Act.put, List.setIfInBounds_toArray, List.set_cons_zero, List.set_cons_succ]
        refine takeL (i := 2) (v := ?_) rfl (by kernel_rfl) (by kernel_rfl) (by kernel_rfl) (fun _ _ _ h => h) (Or.inl ⟨by rfl, ?_⟩) HLAST.out ?_
        rotate_left
        · intro w hw
          go_simp
          try with_reducible rfl
        try simp only [Act.put, List.setIfInBounds_toArray, List.set_cons_zero, List.set_cons_succ]
        refine takeL (i := 3) (v := ?_) rfl (by kernel_rfl) (by kernel_rfl) (by kernel_rfl) (fun _ _ _ h => h) (Or.inl ⟨by rfl, ?_⟩) HLAST.out ?_
        rotate_left
        · intro w hw
          go_simp
          try with_reducible rfl
        try simp only [Act.put, List.setIfInBounds_toArray, List.set_cons_zero, List.set_cons_succ]
        refine takeL (i := 4) (v := ?_) rfl (by kernel_rfl) (by kernel_rfl) (by kernel_rfl) (fun _ _ _ h => h) (Or.inl ⟨by rfl, ?_⟩) HLAST.out ?_
        rotate_left
        · intro w hw
          have hc := hw.c
          go_simp
          try with_reducible rfl
        try simp only [Act.put, List.setIfInBounds_toArray, List.set_cons_zero, List.set_cons_succ]
        refine readyL (i := 5) rfl (by kernel_rfl) (by kernel_rfl) fun K hK => ?_
        have HKK := Lib.hid hK.out
        clear hK
        have HRS := Lib.hid HA12.out.res.drew
        refine wp_store_whole (P := Try.prog) (w := wc.drew) (K := K) 31 (.tmp 2) (.tmp 148) ?_ w.heap.size mzero (mcells false x rs ro (.slice KA ks.length kc) hh (.slice IA is.length ic) (.slice none 0 0)) HRS.out HSM.out ?_ ?_ ?_ ?_ ?_
        · rfl
        · rw [mlen HH.out]; rfl
        · exact mone rfl rfl rfl
        · go_simp
        · go_simp
        intro wl hrl htl
        have HLAST2 : Hid (Last3 (w.heap.size + 1 + 1) ⟨w.heap.size + 1, 1, none⟩ (mcells false x rs ro (.slice KA ks.length kc) hh (.slice IA is.length ic) (.slice none 0 0)) (.int .i64 ((zs.length - r'.length : Nat) : Int)) wl) := Lib.hid ⟨(World.cell?_of_block (htl.block (w.heap.size + 1) (by omega))).trans HLAST.out.c, fun j u hu => by rw [(htl.row HA12.out.row.drew (by omega)).cell, Nat.zero_add]; exact hu⟩
        have HRL := Lib.hid hrl
        have HTL := Lib.hid htl
        refine HKK.out _ _ HLAST2.out ?_
        clear HKK K hrl htl HLAST
        have HLAST := HLAST2
        clear HLAST2
        try simp only [Act.put, List.setIfInBounds_toArray, List.set_cons_zero, List.set_cons_succ]
        refine takeL (i := 6) (v := ?_) rfl (by kernel_rfl) (by kernel_rfl) (by kernel_rfl) (fun _ _ _ h => h) (Or.inl ⟨by rfl, ?_⟩) HLAST.out ?_
        rotate_left
        · intro w hw
          go_simp
          try with_reducible rfl
        try simp only [Act.put, List.setIfInBounds_toArray, List.set_cons_zero, List.set_cons_succ]
        refine takeL (i := 7) (v := ?_) rfl (by kernel_rfl) (by kernel_rfl) (by kernel_rfl) (fun _ _ _ h => h) (Or.inl ⟨by rfl, ?_⟩) HLAST.out ?_
        rotate_left
        · intro w hw
          go_simp
          try with_reducible rfl
        try simp only [Act.put, List.setIfInBounds_toArray, List.set_cons_zero, List.set_cons_succ]
        refine wpAnyH_done (by kernel_rfl) ?_ _
        go_wp2_with fail
        refine bodyPost_ret (results_cell_two (h := rfl) _ wl ⟨w.heap.size, 0, none⟩ (.agg (mcells false x rs ro (.slice KA ks.length kc) hh (.slice IA is.length ic) (.slice none 0 0)).toArray) _ _ (by rfl) (run_loadVar_row wl w.heap.size 31 31 (mcells false x rs ro (.slice KA ks.length kc) hh (.slice IA is.length ic) (.slice none 0 0)).toArray (0, 0) _ HRL.out.is Try.underlying31 rfl (by rw [List.size_toArray]; exact HSM.out)) (by rfl) (by rfl)) rfl ?_
        have hzl : wl.heap.size = wc.heap.size := HTL.out.size
        have z1 := HG.out
        have z2 := HG5.out.2
        have z3 := HG7.out
        have z4 := HG8.out.2
        have z5 := HZ8.out
        have htl : Turned wc wl w.heap.size := ⟨HTL.out.os, HTL.out.tape, HTL.out.output, HTL.out.size, HTL.out.block⟩
        refine ⟨HA12.out.below.trans (htl.below (Nat.le_refl _)), .inl ⟨⟨false, x, rs, ro, ks, hh, is, []⟩, r', ⟨KA, ks.length, kc, IA, is.length, ic, none, 0, 0⟩, HMS.out.done, rfl, HH.out, ⟨HG5.out.1, HG8.out.1, by simp⟩, w5.heap.size, wk0.heap.size, w7.heap.size, wc.heap.size, wl.heap.size, wl.heap.size, ?_, HK9.out.turned htl (by omega), HI9.out.turned htl (by omega), LVR.nil _ (Nat.le_refl _)⟩⟩
        omega
      · have h0' : (ecode (.error cc) != 0) = true := by simpa using h0
        have ec : ecode (.error cc) = cc := rfl
        rw [ec] at c2 h0'
        clear h0 ec
        go_wp2_with fail
        have HLAST : Hid (Last3 (w.heap.size + 1 + 1) ⟨w.heap.size + 1, 2, none⟩ (mcells false x rs ro (.slice KA ks.length kc) hh (.slice IA is.length ic) (.slice none 0 0)) (.int .i64 cc) wc.drew) := Lib.hid ⟨HA12.out.tk.ecell.1, fun j u hu => by rw [HA12.out.row.drew.cell, Nat.zero_add]; exact hu⟩
        clear c2
        refine wp_region_held (S := Last3 (w.heap.size + 1 + 1) ⟨w.heap.size + 1, 2, none⟩ (mcells false x rs ro (.slice KA ks.length kc) hh (.slice IA is.length ic) (.slice none 0 0)) (.int .i64 cc)) (by kernel_rfl) ?_
        try (change wpAnyH _ _ _ _ _ _ _ _ (World.drew _))
        refine takeL (i := 0) (v := ?_) rfl (by kernel_rfl) (by kernel_rfl) (by kernel_rfl) (fun _ _ _ h => h) (Or.inl ⟨by rfl, ?_⟩) HLAST.out ?_
        rotate_left
        · intro w hw
          go_simp
          try with_reducible rfl
        try simp only [Act.put, List.setIfInBounds_toArray, List.set_cons_zero, List.set_cons_succ]
        refine takeL (i := 1) (v := ?_) rfl (by kernel_rfl) (by kernel_rfl) (by kernel_rfl) (fun _ _ _ h => h) (Or.inl ⟨by rfl, ?_⟩) HLAST.out ?_
        rotate_left
        · intro w hw
          go_simp
          try with_reducible rfl
        try simp only [Act.put, List.setIfInBounds_toArray, List.set_cons_zero, List.set_cons_succ]
        refine takeL (i := 2) (v := ?_) rfl (by kernel_rfl) (by kernel_rfl) (by kernel_rfl) (fun _ _ _ h => h) (Or.inl ⟨by rfl, ?_⟩) HLAST.out ?_
        rotate_left
        · intro w hw
          go_simp
          try with_reducible rfl
        try simp only [Act.put, List.setIfInBounds_toArray, List.set_cons_zero, List.set_cons_succ]
        refine takeL (i := 3) (v := ?_) rfl (by kernel_rfl) (by kernel_rfl) (by kernel_rfl) (fun _ _ _ h => h) (Or.inl ⟨by rfl, ?_⟩) HLAST.out ?_
        rotate_left
        · intro w hw
          go_simp
          try with_reducible rfl
        try simp only [Act.put, List.setIfInBounds_toArray, List.set_cons_zero, List.set_cons_succ]
        refine takeL (i := 4) (v := ?_) rfl (by kernel_rfl) (by kernel_rfl) (by kernel_rfl) (fun _ _ _ h => h) (Or.inl ⟨by rfl, ?_⟩) HLAST.out ?_
        rotate_left
        · intro w hw
          have hc := hw.c
          go_simp
          try with_reducible rfl
        try simp only [Act.put, List.setIfInBounds_toArray, List.set_cons_zero, List.set_cons_succ]
        refine readyL (i := 5) rfl (by kernel_rfl) (by kernel_rfl) fun K hK => ?_
        have HKK := Lib.hid hK.out
        clear hK
        have HRS := Lib.hid HA12.out.res.drew
        refine wp_store_whole (P := Try.prog) (w := wc.drew) (K := K) 31 (.tmp 2) (.tmp 143) ?_ w.heap.size mzero mzero HRS.out size_mz ?_ ?_ ?_ ?_ ?_
        · rfl
        · rfl
        · exact mzero_one
        · go_simp
        · go_simp
          try rfl
        intro wl hrl htl
        have HLAST2 : Hid (Last3 (w.heap.size + 1 + 1) ⟨w.heap.size + 1, 2, none⟩ (mcells false x rs ro (.slice KA ks.length kc) hh (.slice IA is.length ic) (.slice none 0 0)) (.int .i64 cc) wl) := Lib.hid ⟨(World.cell?_of_block (htl.block (w.heap.size + 1) (by omega))).trans HLAST.out.c, fun j u hu => by rw [(htl.row HA12.out.row.drew (by omega)).cell, Nat.zero_add]; exact hu⟩
        have HRL := Lib.hid hrl
        have HTL := Lib.hid htl
        refine HKK.out _ _ HLAST2.out ?_
        clear HKK K hrl htl HLAST
        have HLAST := HLAST2
        clear HLAST2
        try simp only [Act.put, List.setIfInBounds_toArray, List.set_cons_zero, List.set_cons_succ]
        refine takeL (i := 6) (v := ?_) rfl (by kernel_rfl) (by kernel_rfl) (by kernel_rfl) (fun _ _ _ h => h) (Or.inl ⟨by rfl, ?_⟩) HLAST.out ?_
        rotate_left
        · intro w hw
          go_simp
          try with_reducible rfl
        try simp only [Act.put, List.setIfInBounds_toArray, List.set_cons_zero, List.set_cons_succ]
        refine takeL (i := 7) (v := ?_) rfl (by kernel_rfl) (by kernel_rfl) (by kernel_rfl) (fun _ _ _ h => h) (Or.inl ⟨by rfl, ?_⟩) HLAST.out ?_
        rotate_left
        · intro w hw
          go_simp
          try with_reducible rfl
        try simp only [Act.put, List.setIfInBounds_toArray, List.set_cons_zero, List.set_cons_succ]
        refine wpAnyH_done (by kernel_rfl) ?_ _
        go_wp2_with fail
        refine bodyPost_ret (results_cell_two (h := rfl) _ wl ⟨w.heap.size, 0, none⟩ (.agg mzero.toArray) _ _ (by rfl) (run_loadVar_row wl w.heap.size 31 31 mzero.toArray (0, 0) _ HRL.out.is Try.underlying31 rfl (by rw [List.size_toArray]; exact size_mz)) (by rfl) (by rfl)) rfl ?_
        have htl : Turned wc wl w.heap.size := ⟨HTL.out.os, HTL.out.tape, HTL.out.output, HTL.out.size, HTL.out.block⟩
        exact ⟨HA12.out.below.trans (htl.below (Nat.le_refl _)), .inr ⟨cc, HMS.out.fell, rfl⟩⟩
end Go.Proofs.Ytolijdbdpnbchaa
