/-
  messages.putLookups.
-/
import Derived.Test.YtidggfbjmmjmfaaMany
import Derived.Test.YtidggfbjmmjmfaaWhole
namespace Go.Proofs.Ytidggfbjmmjmfaa
open Go.RowKit
set_option linter.unusedVariables false

theorem look_cells {w : World} {g t : Nat} {tab : List Int} {va vd : Value} (hr : Row w g t (bv tab ++ [va, vd])) (ht : tab.length = 32) : w.cell? ⟨g, 32, none⟩ = some va ∧ w.cell? ⟨g, 33, none⟩ = some vd :=
  ⟨by rw [hr.cell, List.getElem?_append_right (by rw [bv_length, ht]; exact Nat.le_refl _), bv_length, ht]; rfl, by rw [hr.cell, List.getElem?_append_right (by rw [bv_length, ht]; omega), bv_length, ht]; rfl⟩

theorem size_look : (Try.prog.info? 55).map (·.size) = some 34 := by kernel_rfl
set_option maxRecDepth 100000 in
set_option maxHeartbeats 800000 in
theorem putLookups_ (base B : Nat) (v : Value) (A : Option Addr) (n c : Nat) (xs : List Int) (l : List LLook) (w : World) (hown : OwnB w base v xs) (hbase : base ≤ w.heap.size) (hl : LooksIn w B A n l) (hB : B ≤ base)
    (hf : n ≤ 65535 ∧ ∀ x ∈ l, x.wr.length ≤ 65535 ∧ x.rd.length ≤ 65535) (hn : (xs ++ (short l.length ++ l.flatMap encLook)).length ≤ 1000000000) :
    Calls Try.prog 27 #[v, .slice A n c] w (Adds w base v (xs ++ (short l.length ++ l.flatMap encLook))) := by
  have L0 := Lib.hid hl.len
  have HL := Lib.hid hl
  have HP := Lib.hid (putMany_ base v xs n w hown hbase hf.1 (by simp at hn; omega))
  have HO := Lib.hid hown
  have HN := Lib.hid hn
  have HF := Lib.hid hf.2
  have hnn := hf.1
  clear hown hl hn hf
  go_enter Try.func27, Try.ntmps27
  go_wp2_with fail
  refine HP.out.mono ?_
  rintro e w1 ⟨v1, rfl, hown1, hg1⟩
  have HO1 := Lib.hid hown1
  have HG1 := Lib.hid hg1
  clear hown1 hg1
  go_wp2_with fail
  go_loopw [0, 13] (fun v i wr => ∃ k : Nat, k ≤ n ∧ i = .int .i64 k ∧ OwnB wr base v (xs ++ (short l.length ++ (l.take k).flatMap encLook)) ∧ Grew w1 wr v1 v) (fun v i _ => n - (intOf i).toNat)
  case atStart =>
    refine ⟨0, Nat.zero_le _, rfl, ?_, Grew.refl _ _⟩
    have := HO1.out
    simpa [L0.out] using this
  case round =>
    obtain ⟨k, hk, rfl, ho, hg⟩ := hrel
    by_cases hlt : k < n
    · obtain ⟨x, hx⟩ : ∃ x, l[k]? = some x := ⟨_, List.getElem?_eq_getElem (by have := L0.out; omega)⟩
      obtain ⟨a, va, vd, rfl, hab, hcs, ht, hva, hvd⟩ := HL.out.at_ k x hx
      have hb1 : Below base w wr := (HG1.out.below HO.out hbase).trans (hg.below HO1.out (Nat.le_trans hbase HG1.out.size))
      have hk1 : ∀ p : Addr, p.block < B → wr.cell? p = w.cell? p := fun p hp => hb1.cell (by omega)
      have hsz : (Try.prog.info? 55).map (·.size) = some (bv x.tab ++ [va, vd]).length := by rw [size_look]; simp [bv_length, ht]
      have hone : ∀ u ∈ bv x.tab ++ [va, vd], u.oneCell' = true := fun u hu => by
        simp only [List.mem_append, List.mem_cons, List.not_mem_nil, or_false] at hu
        rcases hu with hu | rfl | rfl
        · exact bv_one _ _ hu
        · obtain ⟨_, _, rfl, _⟩ := hva.is; rfl
        · obtain ⟨_, _, rfl, _⟩ := hvd.is; rfl
      have HCW := Lib.hid (fun j u (hu : (bv x.tab ++ [va, vd])[j]? = some u) => show wr.cell? ((a.add (k * 34)).add j) = some u by rw [addr_add, hk1 _ (by rw [addr_block]; exact hab)]; exact hcs j u hu)
      have HK := Lib.hid hk1
      have HC := Lib.hid hcs
      have HB1 := Lib.hid hb1
      have HVA := Lib.hid hva
      have HVD := Lib.hid hvd
      have HOR := Lib.hid ho
      have HGR := Lib.hid hg
      clear hk1 hcs hb1 hva hvd ho hg
      have HSZ := Lib.hid hsz
      have HON := Lib.hid hone
      clear hsz hone
      have hlen : (xs ++ (short l.length ++ (l.take k).flatMap encLook)).length + (encLook x).length ≤ 1000000000 := by
        have h1 := flatMap_take_len encLook l (k + 1)
        rw [flatMap_take_succ encLook hx] at h1
        have := HN.out
        simp only [List.length_append] at this h1 ⊢
        omega
      generalize hys : xs ++ (short l.length ++ (l.take k).flatMap encLook) = ys at *
      have hel : (encLook x).length = 32 + ((encL x.wr).length + (encL x.rd).length) := by simp [encLook, ht]
      have hf := HF.out x (List.mem_of_getElem? hx)
      have hbwr : base ≤ wr.heap.size := Nat.le_trans (Nat.le_trans hbase HG1.out.size) HGR.out.size
      have HYS := Lib.hid hys
      have HLEN := Lib.hid hlen
      have HEL := Lib.hid hel
      have HX := Lib.hid hx
      clear hys hlen hel hx
      go_wp2_with (first
        | (with_reducible show wpList _ _ _ ({ dst := some 16, op := Op.load _ _, type := _, pos := _, after := _, guard := _ } :: _) _ _; go_must (refine wpList_load_at rfl 55 (.tmp 15) rfl (a.add (k * 34)) (bv x.tab ++ [va, vd]) _ Try.underlying55 rfl HSZ.out HCW.out ?_ ?_; go_simp))
        | (with_reducible show wpList _ _ _ ({ dst := none, op := Op.store 55 _ _, type := _, pos := _, after := _, guard := _ } :: _) _ _; go_must (refine wpList_store_new rfl 55 (.tmp 6) (.tmp 16) rfl (bv x.tab ++ [va, vd]) HSZ.out HON.out (by simp [bv_length, ht]) ?_ ?_ ?_; go_simp; go_simp; intro w2 hr2 hb2 hz2; have ho2 := HOR.out.below hb2; have hs2 : Sees w2 w2.heap.size (some ⟨wr.heap.size, 0, none⟩) 32 (bv x.tab) := ⟨by rw [bv_length, ht], fun i u hu => ⟨_, rfl, hr2.lt, by rw [addr_row, hr2.cell, Nat.zero_add, List.getElem?_append_left (List.getElem?_eq_some_iff.1 hu).1]; exact hu⟩⟩; have HR2 := Lib.hid hr2; clear hr2))
        | (at_builtin; go_must (refine wpList_addB rfl (.tmp 17) (.tmp 19) 34 rfl base Try.underlying34 info_u8 u0 ys ?_ ho2 _ _ 32 32 x.tab ?_ hs2 (by omega) ?_ ?_; go_simp; go_simp; (have := HLEN.out; have := HEL.out; simp only [List.length_append]; omega); intro v3 w3 ho3 hg3; have hr3 := hg3.row HR2.out (own_ne_new HOR.out (Nat.le_refl _)); have c32 := (look_cells hr3 ht).1; have HR3 := Lib.hid hr3; have HG3 := Lib.hid hg3; have HO3 := Lib.hid ho3; clear hr3 hg3 ho3)))
      have hz3 := HG3.out.size
      have hne3 := HG3.out.ne (own_ne_new (base := base) HOR.out (Nat.le_refl _)) HR2.out.lt
      have hb3 : Below base w w3 := (HB1.out.trans (hb2.mono hbwr)).trans (HG3.out.below ho2 (by omega))
      have hlen1 := HLEN.out
      have hel1 := HEL.out
      have hva3 : BytesIn w3 B va x.wr := HVA.out.below (hb3.mono hB)
      have hvd3 : BytesIn w3 B vd x.rd := HVD.out.below (hb3.mono hB)
      have HP4 := Lib.hid (putBytes_ base B v3 va (ys ++ x.tab) x.wr w3 HO3.out (by omega) hva3 hB hf.1 (by simp only [List.length_append]; omega))
      have HVD3 := Lib.hid hvd3
      have HB3 := Lib.hid hb3
      clear hb3 hva3 hvd3
      clear hlen1 hel1
      refine HP4.out.mono ?_
      rintro e w4 ⟨v4, rfl, ho4, hg4⟩
      have hr4 := hg4.row HR3.out hne3
      have c33 := (look_cells hr4 ht).2
      have hz4 := hg4.size
      have hb4 : Below base w3 w4 := hg4.below HO3.out (by omega)
      have HVD4 := Lib.hid (HVD3.out.below (hb4.mono hB))
      have HO4 := Lib.hid ho4
      have HG4 := Lib.hid hg4
      clear hr4 hb4 ho4 hg4
      go_wp2_with fail
      have hlen1 := HLEN.out
      have hel1 := HEL.out
      refine (putBytes_ base B v4 vd _ x.rd w4 HO4.out (by omega) HVD4.out hB hf.2 (by simp only [List.length_append]; omega)).mono ?_
      rintro e w5 ⟨v5, rfl, ho5, hg5⟩
      have hg25 : Grew wr w5 u0 v5 := (((Grew.of_below hb2 u0).trans HG3.out).trans HG4.out).trans hg5
      have HO5 := Lib.hid ho5
      have HG5 := Lib.hid (HGR.out.trans hg25)
      clear ho5 hg5 hg25 hlen1 hel1
      go_wp2_with fail
      go_roundw
      case rel =>
        refine ⟨k + 1, by omega, by go_num, ?_, HG5.out⟩
        have := HO5.out
        rw [flatMap_take_succ encLook HX.out]
        rw [← HYS.out] at this
        simpa [encLook, List.append_assoc] using this
      case measure => simp [intOf]; omega
    · have HK2 := Lib.hid (show k = n by omega)
      have HOR := Lib.hid ho
      have HGR := Lib.hid hg
      clear ho hg
      go_wp2_with fail
      go_ret
      refine ⟨_, rfl, ?_, HG1.out.trans HGR.out⟩
      have := HOR.out
      rwa [HK2.out, List.take_of_length_le (by rw [L0.out]; exact Nat.le_refl _)] at this
end Go.Proofs.Ytidggfbjmmjmfaa
