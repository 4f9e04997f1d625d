/-
  messages.putMany, putBytes, slices.Clip: bytes put behind a row of the call's own.
-/
import Derived.Test.YtolijdbdpnbchaaMsg
import Derived.Test.YtolijdbdpnbchaaAppend
namespace Go.Proofs.Ytolijdbdpnbchaa
open Go.RowKit
set_option linter.unusedVariables false

/-- 'v' is a row of bytes of the call's own, from block 'base' on -/
def OwnB (w : World) (base : Nat) (v : Value) (xs : List Int) : Prop := w.ownsRow base 5 1 v xs.length (bv xs)

theorem own_below {w w' : World} {base n size : Nat} {e : TypeId} {v : Value} {xs : List Value} (h : w.ownsRow base e size v n xs) (hb : Below w.heap.size w w') : w'.ownsRow base e size v n xs := by
  refine ⟨h.1, ?_⟩
  rcases h.2 with h2 | ⟨g, cap, cur, hv, hg, hh, r⟩
  · exact .inl h2
  · exact .inr ⟨g, cap, cur, hv, hg, (hb.block g (Array.getElem?_eq_some_iff.1 hh).1).trans hh, r⟩
theorem OwnB.below {w w' : World} {base : Nat} {v : Value} {xs : List Int} (h : OwnB w base v xs) (hb : Below w.heap.size w w') : OwnB w' base v xs := own_below h hb
theorem OwnB.alloc {w : World} {base : Nat} {v : Value} {xs : List Int} (h : OwnB w base v xs) (o : Obj) : OwnB (w.alloc o) base v xs := World.ownsRow.alloc h o
theorem OwnB.nil (w : World) (base : Nat) : OwnB w base (.slice none 0 0) [] := World.ownsRow_nil w base _ _
theorem OwnB.drewN {w : World} {base : Nat} {v : Value} {xs : List Int} (h : OwnB w base v xs) (k : Nat) : OwnB (w.drewN k) base v xs := h
theorem OwnB.form {w : World} {base : Nat} {v : Value} {xs : List Int} (h : OwnB w base v xs) : ∃ A c, v = .slice A xs.length c := own_form h
theorem OwnB.sees {w : World} {base : Nat} {A : Option Addr} {n c : Nat} {xs : List Int} (h : OwnB w base (.slice A n c) xs) : Sees w w.heap.size A n (bv xs) := by
  obtain ⟨A', c', e⟩ := h.form
  cases e
  exact Sees.of_own h

/-- from w, with the row v, to w', with the row v': of what was there v's block alone may have been written -/
structure Grew (w w' : World) (v v' : Value) : Prop where
  grown : w.grownBy w' v.ownBlock
  fresh : ∀ k, v'.ownBlock = some k → v.ownBlock = some k ∨ w.heap.size ≤ k

section
variable {w w' w'' : World} {v v' v'' : Value}
theorem Grew.refl (w : World) (v : Value) : Grew w w v v := ⟨World.grownBy.refl w _, fun k h => .inl h⟩
theorem Grew.size (h : Grew w w' v v') : w.heap.size ≤ w'.heap.size := h.grown.size
theorem Grew.trans (h : Grew w w' v v') (k : Grew w' w'' v' v'') : Grew w w'' v v'' :=
  ⟨⟨k.grown.os.trans h.grown.os, k.grown.tape.trans h.grown.tape, k.grown.output.trans h.grown.output, Nat.le_trans h.size k.size, fun i hi hne =>
      (k.grown.block i (Nat.lt_of_lt_of_le hi h.size) fun e => by
        rcases h.fresh i e.symm with h1 | h1
        · exact hne h1.symm
        · omega).trans (h.grown.block i hi hne)⟩,
    fun i hi => by
      rcases k.fresh i hi with h1 | h1
      · exact h.fresh i h1
      · exact .inr (Nat.le_trans h.size h1)⟩
theorem Grew.of_below (hb : Below w.heap.size w w') (v : Value) : Grew w w' v v := ⟨⟨hb.os, hb.tape, hb.output, hb.size, fun k hk _ => hb.block k hk⟩, fun k h => .inl h⟩
theorem Grew.alloc (h : Grew w w' v v') (o : Obj) : Grew w (w'.alloc o) v v' := h.trans (.of_below ((Below.refl _ _).alloc (Nat.le_refl _) o) v')
theorem Grew.row {g t : Nat} {ys : List Value} (h : Grew w w' v v') (hr : Row w g t ys) (hg : some g ≠ v.ownBlock) : Row w' g t ys := hr.grown h.grown hg
theorem Grew.ne {g : Nat} (h : Grew w w' v v') (hg : some g ≠ v.ownBlock) (hlt : g < w.heap.size) : some g ≠ v'.ownBlock := fun e => by
  rcases h.fresh g e.symm with h1 | h1
  · exact hg h1.symm
  · omega
theorem Grew.below {base n size : Nat} {e : TypeId} {xs : List Value} (h : Grew w w' v v') (hown : w.ownsRow base e size v n xs) (hbase : base ≤ w.heap.size) : Below base w w' :=
  (Below.refl base w).grown h.grown hbase fun k hk => (hown.lt k hk).1
theorem Grew.belowB {base : Nat} {xs : List Int} (h : Grew w w' v v') (hown : OwnB w base v xs) (hbase : base ≤ w.heap.size) : Below base w w' :=
  (Below.refl base w).grown h.grown hbase fun k hk => (World.ownsRow.lt hown k hk).1
theorem own_ne_new {base n size : Nat} {e : TypeId} {xs : List Value} (hown : w.ownsRow base e size v n xs) {g : Nat} (hg : w.heap.size ≤ g) : some g ≠ v.ownBlock := fun e' => by
  have := (hown.lt g e'.symm).2
  omega
end

/-- what an appender leaves -/
def Adds (w : World) (base : Nat) (v : Value) (ys : List Int) (e : Ending) (w' : World) : Prop :=
  ∃ v', e = .returned v' ∧ OwnB w' base v' ys ∧ Grew w w' v v'

/-- append of what is seen, onto a row of one's own: the walk's arm -/
theorem wpList_addB {P : Program} {w : World} {ops : Array Oper} {rest : List Oper} {o : Oper} {a : Act} {Q : Exit → Act → World → Prop} (hgd : o.guard = none) (s x : Operand) (t : TypeId)
    (ho : o.op = .call { callee := .builtin .append, args := #[s, x], argTypes := #[t, t] })
    (base : Nat) (ht : P.underlying t = some (.slice 5)) (hi : (P.info? 5).map (fun i => (i.zero, i.size, i.bytes)) = some (some (.int .u8 0), 1, 1))
    (v : Value) (xs : List Int) (hs : a.eval s = v) (hown : OwnB w base v xs) (B : Nat) (A : Option Addr) (m c : Nat) (news : List Int) (hx : a.eval x = .slice A m c) (hr : Sees w B A m (bv news))
    (hbase : base ≤ w.heap.size) (hnm : (xs ++ news).length ≤ 1099511627776)
    (h : ∀ v' w', OwnB w' base v' (xs ++ news) → Grew w w' v v' → wpList P ops Q rest (a.put o.dst v') w') : wpList P ops Q (o :: rest) a w := by
  obtain ⟨i0, hi, hz0, hz1, hz2⟩ := info_parts hi
  have hm : news.length = m := by have := hr.len; rwa [bv_length] at this
  subst hm
  have hl : xs.length + news.length ≤ 1099511627776 := by simpa using hnm
  refine wpList_append_sees hgd s x t ho base 5 i0 _ 1 ht hi hz0 hz1 hz2 rfl v xs.length (bv xs) hs hown B A _ c (bv news) hx hr (bv_one news) (by unfold maxLen; omega) (by omega) hbase ?_
  intro v' w' ho' hg hat
  refine h v' w' ?_ ⟨hg, fun k hk => ?_⟩
  · have := ho'
    unfold OwnB
    rw [bv_append]
    simpa using this
  · rcases hat with hat | hat
    · exact .inl (hat ▸ hk)
    · rw [hat] at hk
      cases hk
      exact .inr (Nat.le_refl _)

/-- append of a literal that has just been laid -/
theorem wpList_addLit {P : Program} {w0 : World} {c : Array Value} {ops : Array Oper} {rest : List Oper} {o : Oper} {a : Act} {Q : Exit → Act → World → Prop} (hgd : o.guard = none) (s x : Operand) (t : TypeId)
    (ho : o.op = .call { callee := .builtin .append, args := #[s, x], argTypes := #[t, t] })
    (base : Nat) (ht : P.underlying t = some (.slice 5)) (hi : (P.info? 5).map (fun i => (i.zero, i.size, i.bytes)) = some (some (.int .u8 0), 1, 1))
    (v : Value) (xs news : List Int) (cc : Nat) (hc : c = (bv news).toArray) (hs : a.eval s = v) (hown : OwnB w0 base v xs) (hx : a.eval x = .slice (some ⟨w0.heap.size, 0, none⟩) news.length cc)
    (hbase : base ≤ w0.heap.size) (hnm : (xs ++ news).length ≤ 1099511627776)
    (h : ∀ v' w', OwnB w' base v' (xs ++ news) → Grew w0 w' v v' → wpList P ops Q rest (a.put o.dst v') w') : wpList P ops Q (o :: rest) a (w0.alloc (.cells c 5)) := by
  subst hc
  have hr := (Row.new w0 5 (bv news)).sees0
  rw [bv_length] at hr
  refine wpList_addB hgd s x t ho base ht hi v xs hs (hown.alloc _) _ _ _ cc news hx hr (by simp; omega) hnm ?_
  intro v' w' ho' hg'
  exact h v' w' ho' ((Grew.of_below ((Below.refl _ w0).alloc (Nat.le_refl _) _) v).trans hg')

theorem short_len3 (x : Int) : (short x).length ≤ 3 := by rw [short_len]; (repeat' split) <;> omega

set_option maxHeartbeats 400000 in
theorem putMany_ (base : Nat) (v : Value) (xs : List Int) (x : Nat) (w : World) (hown : OwnB w base v xs) (hbase : base ≤ w.heap.size) (hx : x ≤ 65535) (hn : xs.length ≤ 1099511620000) :
    Calls Try.prog 48 #[v, .int .i64 x] w (Adds w base v (xs ++ short x)) := by
  have HP := Lib.hid (putShort none 0 0 [] w 0 x (Sees.nil _ _ _) (by omega) (by omega) (by omega) (by omega))
  have HO := Lib.hid hown
  clear hown
  go_enter Try.func48, Try.ntmps48
  go_wp2_with fail
  refine HP.out.mono ?_
  rintro e w1 ⟨g, rfl, hg, hr, hb1⟩
  have hown1 := HO.out.below hb1
  have hs1 : Sees w1 w1.heap.size (some ⟨g, 0, none⟩) (short x).length (bv (short x)) := by
    have := hr.sees0
    simpa [bv_length] using this
  have hz1 := hb1.size
  have hl := short_len3 x
  clear hr
  go_wp2_with (at_builtin; go_must (refine wpList_addB rfl (.tmp 12) (.tmp 13) 37 rfl base Try.underlying37 info_u8 v xs rfl hown1 _ _ _ _ (short x) (by first | rfl | (simp; done)) hs1 (by omega) (by simp; omega) ?_); intro v2 w2 ho2 hb2)
  go_ret
  exact ⟨v2, rfl, ho2, (Grew.of_below hb1 v).trans hb2⟩

set_option maxHeartbeats 400000 in
theorem putBytes_ (base B : Nat) (v u : Value) (xs l : List Int) (w : World) (hown : OwnB w base v xs) (hbase : base ≤ w.heap.size) (hu : BytesIn w B u l) (hB : B ≤ base) (hx : l.length ≤ 65535) (hn : xs.length ≤ 1099511500000) :
    Calls Try.prog 49 #[v, u] w (Adds w base v (xs ++ encL l)) := by
  obtain ⟨A, c, rfl, hs, _, _⟩ := hu.is
  have HP := Lib.hid (putMany_ base v xs l.length w hown hbase hx (by omega))
  have HO := Lib.hid hown
  clear hown hu
  go_enter Try.func49, Try.ntmps49
  go_wp2_with fail
  refine HP.out.mono ?_
  rintro e w1 ⟨v1, rfl, hown1, hb1⟩
  have hz1 := hb1.size
  have hs1 := hs.below ((hb1.below HO.out hbase).mono hB)
  have hl := short_len3 l.length
  go_wp2_with (at_builtin; go_must (refine wpList_addB rfl (.tmp 8) (.tmp 9) 37 rfl base Try.underlying37 info_u8 v1 _ rfl hown1 _ _ _ _ l rfl hs1 (by omega) (by simp; omega) ?_); intro v2 w2 ho2 hb2)
  go_ret
  refine ⟨v2, rfl, ?_, hb1.trans hb2⟩
  rw [encL, ← List.append_assoc]
  exact ho2

set_option maxHeartbeats 400000 in
theorem clip_ (A : Option Addr) (n c : Nat) (w : World) (hnc : n ≤ c) (hc : c ≤ maxLen) :
    Calls Try.prog 51 #[.slice A n c] w fun e w' => e = .returned (.slice A n n) ∧ w = w' := by
  unfold maxLen at hc
  go_enter Try.func51, Try.ntmps51
  go_wp2
  go_ret
  exact ⟨rfl, rfl⟩
end Go.Proofs.Ytolijdbdpnbchaa
