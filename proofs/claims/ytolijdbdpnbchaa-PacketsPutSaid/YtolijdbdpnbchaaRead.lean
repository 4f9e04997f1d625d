/-
  messages.reader: take, octet, short, key.
  messages.reader.key: 32 bytes.
-/
import Derived.Test.YtolijdbdpnbchaaParse
import Derived.Test.YtolijdbdpnbchaaWhole
import Derived.Test.YtolijdbdpnbchaaPutMsg
namespace Go.Proofs.Ytolijdbdpnbchaa
open Go.RowKit
set_option linter.unusedVariables false

/-- a reader at block p, with zs left, which lie below block B -/
structure RdIn (w : World) (p B : Nat) (zs : List Int) : Prop where
  is : ∃ A c, Row w p 118 [.slice A zs.length c] ∧ Sees w B A zs.length (bv zs) ∧ zs.length ≤ c ∧ c ≤ maxLen

/-- but for block p, all that was there is as it was -/
structure But (p : Nat) (w w' : World) : Prop where
  os : w'.os = w.os
  tape : w'.tape = w.tape
  output : w'.output = w.output
  size : w.heap.size ≤ w'.heap.size
  block : ∀ k, k < w.heap.size → k ≠ p → w'.heap[k]? = w.heap[k]?

section
variable {w w' w'' : World} {p B : Nat} {zs : List Int}
theorem But.refl (p : Nat) (w : World) : But p w w := ⟨rfl, rfl, rfl, Nat.le_refl _, fun _ _ _ => rfl⟩
theorem But.trans (h : But p w w') (k : But p w' w'') : But p w w'' :=
  ⟨k.os.trans h.os, k.tape.trans h.tape, k.output.trans h.output, Nat.le_trans h.size k.size, fun i hi hp => (k.block i (Nat.lt_of_lt_of_le hi h.size) hp).trans (h.block i hi hp)⟩
theorem But.of_below (hb : Below w.heap.size w w') (p : Nat) : But p w w' := ⟨hb.os, hb.tape, hb.output, hb.size, fun k hk _ => hb.block k hk⟩
theorem But.of_turned (h : Turned w w' p) : But p w w' := ⟨h.os, h.tape, h.output, by rw [h.size]; exact Nat.le_refl _, fun k _ hk => h.block k hk⟩
theorem But.below (h : But p w w') (hB : B ≤ p) (hs : B ≤ w.heap.size) : Below B w w' := ⟨h.os, h.tape, h.output, h.size, fun k hk => h.block k (by omega) (by omega)⟩
theorem But.row {g t : Nat} {xs : List Value} (h : But p w w') (hr : Row w g t xs) (hg : g ≠ p) : Row w' g t xs := ⟨(h.block g hr.lt hg).trans hr.is⟩
theorem RdIn.lt (h : RdIn w p B zs) : p < w.heap.size := by obtain ⟨A, c, hr, _⟩ := h.is; exact hr.lt
theorem RdIn.below (h : RdIn w p B zs) (hb : Below w.heap.size w w') (hB : B ≤ p) : RdIn w' p B zs := by
  obtain ⟨A, c, hr, hs, h1, h2⟩ := h.is
  have := hr.lt
  exact ⟨A, c, hr.below hb hr.lt, hs.below (hb.mono (by omega)), h1, h2⟩
/-- a panic with an error's number -/
def panics (c : Int) : Ending := .panicked [{ v := .iface 38 (.int .i64 c), recovered := false }]
end

/-- what take leaves -/
def Took (w : World) (p B k : Nat) (zs : List Int) (e : Ending) (w' : World) : Prop :=
  (∃ A c, e = .returned (.slice A k c) ∧ Sees w' B A k (bv (zs.take k))) ∧ RdIn w' p B (zs.drop k) ∧ Turned w w' p

set_option maxHeartbeats 400000 in
theorem take_ok (p B k : Nat) (zs : List Int) (w : World) (h : RdIn w p B zs) (hB : B ≤ p) (h1 : 1 ≤ k) (hk : k ≤ zs.length) :
    Calls Try.prog 80 #[.pointer (some ⟨p, 0, none⟩), .int .i64 k] w (Took w p B k zs) := by
  obtain ⟨A, c, hr, hs, h2, h3⟩ := h.is
  obtain ⟨a, _, rfl, hab, _, _⟩ := hs.at_ (k := 0) (by omega)
  have c0 : w.cell? ⟨p, 0, none⟩ = some (.slice (some a) zs.length c) := hr.cell 0
  have f0 := hr.frozen 0
  have R := Lib.hid hr
  have S := Lib.hid hs
  unfold maxLen at h3
  have hs1 : Sees w B (some a) k (bv (zs.take k)) := ⟨by rw [bv_length, List.length_take]; omega, fun i u hu => by
    have hi := (List.getElem?_eq_some_iff.1 hu).1
    rw [bv_length, List.length_take] at hi
    refine hs.cell i u ?_
    rw [bv_getElem?] at hu ⊢
    rwa [List.getElem?_take_of_lt (by omega)] at hu⟩
  have S1 := Lib.hid hs1
  have hk' : ¬ ((zs.length : Int) < k) := by omega
  clear hr hs hs1 h
  have T := fun (v : Value) => Lib.hid (turned_setCell w ⟨p, 0, none⟩ v)
  have R' := fun (v : Value) => Lib.hid (R.out.set_ 0 v)
  have fin : ∀ (e : Ending) (w' : World) (v : Value), e = .returned (.slice (some a) k c) → w' = w.setCell ⟨p, 0, none⟩ v → (∃ A c', v = .slice A (zs.drop k).length c' ∧ Sees w B A (zs.drop k).length (bv (zs.drop k)) ∧ (zs.drop k).length ≤ c' ∧ c' ≤ maxLen) →
      Took w p B k zs e w' := by
    rintro _ _ v rfl rfl ⟨A, c', rfl, h4, h5, h6⟩
    have hb := (T (.slice A (zs.drop k).length c')).out.below (B := B) hB
    exact ⟨⟨_, _, rfl, S1.out.below hb⟩, ⟨⟨A, c', by simpa using (R' (.slice A (zs.drop k).length c')).out, h4.below hb, h5, h6⟩⟩, (T _).out⟩
  have F := Lib.hid fin
  clear fin T R'
  have hz : zs.length - k = (zs.drop k).length := by simp
  have hdrop : Sees w B (some (a.add k)) (zs.length - k) (bv (zs.drop k)) := ⟨by rw [bv_length, List.length_drop], fun i u hu => by
    rw [bv_getElem?, List.getElem?_drop, ← bv_getElem?] at hu
    obtain ⟨a', e, hb, hc⟩ := S.out.cell _ u hu
    cases e
    exact ⟨_, rfl, by rw [addr_block]; exact hb, by rw [addr_add]; exact hc⟩⟩
  have HD := Lib.hid hdrop
  have HZ := Lib.hid hz
  clear hdrop hz
  by_cases hck : c = k
  · subst hck
    go_enter Try.func80, Try.ntmps80
    go_wp2
    go_ret
    refine F.out _ _ _ rfl rfl ⟨some a, 0, by rw [← HZ.out, show zs.length - c = 0 by omega], ?_, ?_, ?_⟩
    · rw [← HZ.out, show zs.length - c = 0 by omega]
      have e0 : zs.drop c = [] := List.drop_eq_nil_of_le (by omega)
      rw [e0]
      exact Sees.nil _ _ _
    · rw [← HZ.out]; omega
    · unfold maxLen; omega
  · go_enter Try.func80, Try.ntmps80
    go_wp2
    go_ret
    refine F.out _ _ _ rfl rfl ⟨_, _, by rw [← HZ.out], ?_, ?_, ?_⟩
    · rw [← HZ.out]; exact HD.out
    · rw [← HZ.out]; omega
    · unfold maxLen; omega

set_option maxHeartbeats 400000 in
theorem take_no (p B k : Nat) (zs : List Int) (w : World) (h : RdIn w p B zs) (hk : zs.length < k) :
    Calls Try.prog 80 #[.pointer (some ⟨p, 0, none⟩), .int .i64 k] w fun e w' => e = panics 5 ∧ w = w' := by
  obtain ⟨A, c, hr, hs, h2, h3⟩ := h.is
  have c0 : w.cell? ⟨p, 0, none⟩ = some (.slice A zs.length c) := hr.cell 0
  clear hr hs h
  go_enter Try.func80, Try.ntmps80
  go_wp2
  exact ⟨rfl, rfl, rfl⟩

/-- what a reader's call that hands back one value leaves: what is read; or the panic -/
def Reads {α : Type} (w : World) (p B : Nat) (r : PR α) (V : World → Value → α → Prop) (e : Ending) (w' : World) : Prop :=
  (∃ x rest v, r = .ok (x, rest) ∧ e = .returned v ∧ V w' v x ∧ RdIn w' p B rest ∧ But p w w') ∨ (∃ c, r = .error c ∧ e = panics c ∧ But p w w')

set_option maxHeartbeats 400000 in
theorem octet_ (p B : Nat) (zs : List Int) (w : World) (h : RdIn w p B zs) (hB : B ≤ p) :
    Calls Try.prog 73 #[.pointer (some ⟨p, 0, none⟩)] w (Reads w p B (pOctet zs) fun _ v x => v = .int .u8 x) := by
  match zs, h with
  | [], h =>
    have H := Lib.hid (take_no p B 1 [] w h (by simp))
    clear h
    go_enter Try.func73, Try.ntmps73
    go_wp2_with fail
    refine H.out.mono ?_
    rintro e w1 ⟨rfl, rfl⟩
    exact ⟨rfl, .inr ⟨5, rfl, rfl, But.refl _ _⟩⟩
  | z :: r, h =>
    have H := Lib.hid (take_ok p B 1 (z :: r) w h hB (by omega) (by simp))
    clear h
    go_enter Try.func73, Try.ntmps73
    go_wp2_with fail
    refine H.out.mono ?_
    rintro e w1 ⟨⟨A, c, rfl, hs⟩, hr, ht⟩
    obtain ⟨a, rfl, hab, hc⟩ := hs.byte (k := 0) (by omega)
    have c0 : w1.cell? a = some (.int .u8 z) := hc
    have HR := Lib.hid hr
    have HT := Lib.hid ht
    clear hs hc hr ht
    go_wp2_with fail
    go_ret
    exact .inl ⟨z, r, _, rfl, rfl, rfl, HR.out, But.of_turned HT.out⟩

set_option maxHeartbeats 400000 in
theorem short_ (p B : Nat) (zs : List Int) (w : World) (h : RdIn w p B zs) (hB : B ≤ p) (hz : AllBytes zs) :
    Calls Try.prog 81 #[.pointer (some ⟨p, 0, none⟩)] w (Reads w p B (pShort zs) fun _ v x => v = .int .i64 x ∧ x ≤ 65535) := by
  obtain ⟨A, c, hr, hs, h2, h3⟩ := h.is
  have HG := Lib.hid (getShort A zs.length c zs w B hs (by omega) hz.bytes)
  have c0 : w.cell? ⟨p, 0, none⟩ = some (.slice A zs.length c) := hr.cell 0
  rcases getS_cases zs hz with hg | ⟨n, k, hg, hn, hk1, hk⟩
  · obtain ⟨x, hx, hg⟩ : ∃ x : Int, (x != 0) = true ∧ getS zs = (0, 0, x) := by
      rcases hg with hg | hg
      · exact ⟨4, rfl, hg⟩
      · exact ⟨5, rfl, hg⟩
    have hP : pShort zs = .error x := by
      unfold pShort
      rw [hg]
      exact if_neg (by simpa using hx)
    rw [hg] at HG
    have HP := Lib.hid hP
    clear hr hs hP hg h
    go_enter Try.func81, Try.ntmps81
    go_wp2_with fail
    refine HG.out.mono ?_
    rintro e w1 ⟨rfl, rfl⟩
    go_wp2_with fail
    exact ⟨rfl, .inr ⟨x, HP.out, rfl, But.refl _ _⟩⟩
  · have hP : pShort zs = .ok (n, zs.drop k) := by
      unfold pShort
      rw [hg]
      exact if_pos rfl
    rw [hg] at HG
    have HP := Lib.hid hP
    have HT := Lib.hid (take_ok p B k zs w h hB hk1 hk)
    clear hr hs hP hg h
    go_enter Try.func81, Try.ntmps81
    go_wp2_with fail
    refine HG.out.mono ?_
    rintro e w1 ⟨rfl, rfl⟩
    go_wp2_with fail
    refine HT.out.mono ?_
    rintro e w1 ⟨⟨A', c', rfl, -⟩, hr, ht⟩
    have HR := Lib.hid hr
    have HT2 := Lib.hid ht
    clear hr ht
    go_wp2_with fail
    go_ret
    exact .inl ⟨n, _, _, HP.out, rfl, ⟨rfl, hn⟩, HR.out, But.of_turned HT2.out⟩

theorem RdIn.alloc {w : World} {p B : Nat} {zs : List Int} (h : RdIn w p B zs) (hB : B ≤ p) (o : Obj) : RdIn (w.alloc o) p B zs := h.below ((Below.refl _ _).alloc (Nat.le_refl _) o) hB
theorem RdIn.drew {w : World} {p B : Nat} {zs : List Int} (h : RdIn w p B zs) : RdIn w.drew p B zs := by
  obtain ⟨A, c, hr, hs, h1, h2⟩ := h.is
  exact ⟨A, c, hr.drew, hs.drew, h1, h2⟩
theorem But.drew {w w' : World} {p : Nat} (h : But p w w') : But p w w'.drew := ⟨h.os, h.tape, h.output, h.size, h.block⟩
theorem But.alloc {w w' : World} {p : Nat} (h : But p w w') (o : Obj) : But p w (w'.alloc o) := h.trans (.of_below ((Below.refl _ _).alloc (Nat.le_refl _) o) p)

def zeros (n : Nat) : List Value := List.replicate n (.int .u8 0)
theorem zeros32 : (#[.int .u8 0, .int .u8 0, .int .u8 0, .int .u8 0, .int .u8 0, .int .u8 0, .int .u8 0, .int .u8 0, .int .u8 0, .int .u8 0, .int .u8 0, .int .u8 0, .int .u8 0, .int .u8 0, .int .u8 0, .int .u8 0, .int .u8 0, .int .u8 0, .int .u8 0, .int .u8 0, .int .u8 0, .int .u8 0, .int .u8 0, .int .u8 0, .int .u8 0, .int .u8 0, .int .u8 0, .int .u8 0, .int .u8 0, .int .u8 0, .int .u8 0, .int .u8 0] : Array Value) = (zeros 32).toArray := rfl

set_option maxRecDepth 100000 in
set_option maxHeartbeats 800000 in
theorem key_ (p B : Nat) (zs : List Int) (w : World) (h : RdIn w p B zs) (hB : B ≤ p) :
    Calls Try.prog 75 #[.pointer (some ⟨p, 0, none⟩)] w (Reads w p B (pTake 32 zs) fun _ v x => v = .agg (bv x).toArray ∧ x.length = 32) := by
  have hp := h.lt
  have HR := Lib.hid h
  clear h
  by_cases hz : zs.length < 32
  · have hP : pTake 32 zs = .error 5 := if_pos hz
    have HP := Lib.hid hP
    clear hP
    go_enter Try.func75, Try.ntmps75
    go_wp2_with fail
    rw [zeros32]
    refine wp_region_any (by kernel_rfl) ?_
    try (change wpAny _ _ _ _ _ _ _ (World.drew _))
    refine wpAny_take (i := 0) (v := ?_) rfl (by kernel_rfl) (by kernel_rfl) (by kernel_rfl) (fun _ _ _ h => h) (Or.inl ⟨by rfl, ?_⟩) ?_
    rotate_left
    · intro w
      go_simp
      try with_reducible rfl
    refine wpAny_take (i := 1) (v := ?_) rfl (by kernel_rfl) (by kernel_rfl) (by kernel_rfl) (fun _ _ _ h => h) (Or.inl ⟨by rfl, ?_⟩) ?_
    rotate_left
    · intro w
      go_simp
      try with_reducible rfl
    refine wpAny_ready (rs := [2]) (by kernel_rfl) (by simp) ?_
    refine AllReady.cons rfl (fun K hK => ?_) AllReady.nil
    go_simp
    refine (take_no p B 32 zs _ ((HR.out.alloc hB _).drew) hz).mono ?_
    rintro e w1 ⟨rfl, rfl⟩
    exact ⟨rfl, .inr ⟨5, HP.out, rfl, ((But.refl p w).alloc _).drew⟩⟩
  · have hP : pTake 32 zs = .ok (zs.take 32, zs.drop 32) := if_neg hz
    have HP := Lib.hid hP
    clear hP
    go_enter Try.func75, Try.ntmps75
    go_wp2_with fail
    rw [zeros32]
    refine wp_region_any (by kernel_rfl) ?_
    try (change wpAny _ _ _ _ _ _ _ (World.drew _))
    refine wpAny_take (i := 0) (v := ?_) rfl (by kernel_rfl) (by kernel_rfl) (by kernel_rfl) (fun _ _ _ h => h) (Or.inl ⟨by rfl, ?_⟩) ?_
    rotate_left
    · intro w
      go_simp
      try with_reducible rfl
    refine wpAny_take (i := 1) (v := ?_) rfl (by kernel_rfl) (by kernel_rfl) (by kernel_rfl) (fun _ _ _ h => h) (Or.inl ⟨by rfl, ?_⟩) ?_
    rotate_left
    · intro w
      go_simp
      try with_reducible rfl
    refine wpAny_ready (rs := [2]) (by kernel_rfl) (by simp) ?_
    refine AllReady.cons rfl (fun K hK => ?_) AllReady.nil
    go_simp
    refine (take_ok p B 32 zs _ ((HR.out.alloc hB (.cells (zeros 32).toArray 58)).drew) hB (by omega) (by omega)).mono ?_
    rintro e w1 ⟨⟨A, c, rfl, hs⟩, hr, ht⟩
    simp only []
    refine hK _ _ ?_
    have hl : (zs.take 32).length = 32 := by rw [List.length_take]; omega
    have hb1 : But p w w1 := (((But.refl p w).alloc (.cells (zeros 32).toArray 58)).drew).trans (But.of_turned ht)
    have hr1 : Row w1 w.heap.size 58 (zeros 32) := ht.row ((Row.new w 58 (zeros 32)).drew) (Nat.ne_of_gt hp)
    have HT := Lib.hid ht
    clear hK K ht
    refine wpAny_ready (rs := [3]) (by kernel_rfl) (by simp) ?_
    refine AllReady.cons rfl (fun K hK => ?_) AllReady.nil
    refine step_copy_splice rfl (.tmp 3) (.tmp 5) 37 37 rfl 5 Try.underlying37 size_u8 (some ⟨w.heap.size, 0, none⟩) A 32 32 32 c ?_ ?_ w.heap.size 0 (zeros 32) 58 hr1.is (bv (zs.take 32)) ?_ ?_ ?_ (bv_one _) w.heap.size w1 (Below.refl _ _) (Nat.le_refl _) ?_
    · go_simp
    · go_simp
    · rw [bv_length, hl]; rfl
    · intro hpos
      obtain ⟨a, _, e, _⟩ := hs.at_ (k := 0) (by omega)
      refine ⟨rfl, a, e, fun j v hv => ?_⟩
      obtain ⟨_, e', _, hc⟩ := hs.cell j v hv
      rw [e] at e'
      cases e'
      exact hc
    · rw [bv_length, hl]; simp [zeros]
    intro w2 h2 hb2
    have hr2 : Row w2 w.heap.size 58 (bv (zs.take 32)) := ⟨by
      rw [h2.out]
      have : splice (zeros 32) 0 (bv (zs.take 32)) = bv (zs.take 32) := by
        unfold splice
        rw [bv_length, hl]
        simp [zeros]
      rw [this]⟩
    refine hK _ _ ?_
    clear hK K
    refine wpAny_done (by kernel_rfl) ?_ _
    have hrd2 : RdIn w2 p B (zs.drop 32) := by
      obtain ⟨A', c', q1, q2, q3, q4⟩ := hr.is
      exact ⟨A', c', q1.below hb2 hp, q2.below (hb2.mono (by omega)), q3, q4⟩
    have hbw2 : But p w w2 := ⟨hb2.os.trans hb1.os, hb2.tape.trans hb1.tape, hb2.output.trans hb1.output, Nat.le_trans hb1.size hb2.size, fun k hk hne => (hb2.block k hk).trans (hb1.block k hk hne)⟩
    have HR2 := Lib.hid hr2
    have HRD := Lib.hid hrd2
    have HBW := Lib.hid hbw2
    have hz : (Try.prog.info? 58).map (·.size) = some (bv (zs.take 32)).length := by rw [size_key, bv_length, hl]
    have HZ := Lib.hid hz
    clear hr2 hrd2 hbw2 hb2 h2 hr1 hb1 hz hs hr HT
    go_wp2_with (first
      | (with_reducible show wpList _ _ _ ({ dst := some 7, op := Op.load _ _, type := _, pos := _, after := _, guard := _ } :: _) _ _; go_must (refine wpList_load_whole rfl 58 (.tmp 2) rfl w.heap.size 58 (bv (zs.take 32)) _ Try.underlying58 rfl HZ.out HR2.out ?_ ?_; go_simp))
      | (with_reducible show wpList _ _ _ ({ dst := none, op := Op.store 58 _ _, type := _, pos := _, after := _, guard := _ } :: _) _ _; go_must (refine wpList_store_whole rfl 58 (.tmp 2) (.tmp 7) rfl w.heap.size (bv (zs.take 32)) (bv (zs.take 32)) HR2.out HZ.out rfl (bv_one _) ?_ ?_ ?_; go_simp; go_simp; intro w3 hr3 ht3; have HR3 := Lib.hid hr3; have HT3 := Lib.hid ht3; clear hr3 ht3)))
    refine bodyPost_ret (results_cell_row (h := rfl) _ w3 w.heap.size 58 (bv (zs.take 32)).toArray (0, 0) _ (by rfl) HR3.out.is Try.underlying58 rfl (by simpa using HZ.out)) rfl ?_
    have hne : p ≠ w.heap.size := Nat.ne_of_lt hp
    refine .inl ⟨zs.take 32, zs.drop 32, _, HP.out, rfl, ⟨rfl, hl⟩, ?_, ?_⟩
    · obtain ⟨A', c', q1, q2, q3, q4⟩ := HRD.out.is
      exact ⟨A', c', HT3.out.row q1 hne, q2.below (HT3.out.below (by omega)), q3, q4⟩
    · exact ⟨HT3.out.os.trans HBW.out.os, HT3.out.tape.trans HBW.out.tape, HT3.out.output.trans HBW.out.output, by rw [HT3.out.size]; exact HBW.out.size, fun k hk hne' => (HT3.out.block k (by omega)).trans (HBW.out.block k hk hne')⟩
end Go.Proofs.Ytolijdbdpnbchaa
