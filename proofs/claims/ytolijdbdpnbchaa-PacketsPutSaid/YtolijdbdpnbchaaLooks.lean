/-
  messages.putLookups.
  messages.fits: may a message be put?
-/
import Derived.Test.YtolijdbdpnbchaaMany
import Derived.Test.YtolijdbdpnbchaaWhole
namespace Go.Proofs.Ytolijdbdpnbchaa
open Go.RowKit
set_option linter.unusedVariables false

theorem look_cells {w : World} {g t : Nat} {tab : List Int} {va vd : Value} (hr : Row w g t (bv tab ++ [va, vd])) (ht : tab.length = 32) : w.cell? ⟨g, 32, none⟩ = some va ∧ w.cell? ⟨g, 33, none⟩ = some vd :=
  ⟨by rw [hr.cell, List.getElem?_append_right (by rw [bv_length, ht]; exact Nat.le_refl _), bv_length, ht]; rfl, by rw [hr.cell, List.getElem?_append_right (by rw [bv_length, ht]; omega), bv_length, ht]; rfl⟩

theorem size_look : (Try.prog.info? 93).map (·.size) = some 34 := by kernel_rfl
set_option maxRecDepth 100000 in
set_option maxHeartbeats 800000 in
theorem putLookups_ (base B : Nat) (v : Value) (A : Option Addr) (n c : Nat) (xs : List Int) (l : List LLook) (w : World) (hown : OwnB w base v xs) (hbase : base ≤ w.heap.size) (hl : LooksIn w B A n l) (hB : B ≤ base)
    (hf : n ≤ 65535 ∧ ∀ x ∈ l, x.wr.length ≤ 65535 ∧ x.rd.length ≤ 65535) (hn : (xs ++ (short l.length ++ l.flatMap encLook)).length ≤ 1000000000) :
    Calls Try.prog 50 #[v, .slice A n c] w (Adds w base v (xs ++ (short l.length ++ l.flatMap encLook))) := by
  have L0 := Lib.hid hl.len
  have HL := Lib.hid hl
  have HP := Lib.hid (putMany_ base v xs n w hown hbase hf.1 (by simp at hn; omega))
  have HO := Lib.hid hown
  have HN := Lib.hid hn
  have HF := Lib.hid hf.2
  have hnn := hf.1
  clear hown hl hn hf
  go_enter Try.func50, Try.ntmps50
  go_wp2_with fail
  refine HP.out.mono ?_
  rintro e w1 ⟨v1, rfl, hown1, hg1⟩
  have HO1 := Lib.hid hown1
  have HG1 := Lib.hid hg1
  clear hown1 hg1
  go_wp2_with fail
  go_loopw [0, 13] (fun v i wr => ∃ k : Nat, k ≤ n ∧ i = .int .i64 k ∧ OwnB wr base v (xs ++ (short l.length ++ (l.take k).flatMap encLook)) ∧ Grew w1 wr v1 v) (fun v i _ => n - (intOf i).toNat)
  case atStart =>
    refine ⟨0, Nat.zero_le _, rfl, ?_, Grew.refl _ _⟩
    have := HO1.out
    simpa [L0.out] using this
  case round =>
    obtain ⟨k, hk, rfl, ho, hg⟩ := hrel
    by_cases hlt : k < n
    · obtain ⟨x, hx⟩ : ∃ x, l[k]? = some x := ⟨_, List.getElem?_eq_getElem (by have := L0.out; omega)⟩
      obtain ⟨a, va, vd, rfl, hab, hcs, ht, hva, hvd⟩ := HL.out.at_ k x hx
      have hb1 : Below base w wr := (HG1.out.below HO.out hbase).trans (hg.below HO1.out (Nat.le_trans hbase HG1.out.size))
      have hk1 : ∀ p : Addr, p.block < B → wr.cell? p = w.cell? p := fun p hp => hb1.cell (by omega)
      have hsz : (Try.prog.info? 93).map (·.size) = some (bv x.tab ++ [va, vd]).length := by rw [size_look]; simp [bv_length, ht]
      have hone : ∀ u ∈ bv x.tab ++ [va, vd], u.oneCell' = true := fun u hu => by
        simp only [List.mem_append, List.mem_cons, List.not_mem_nil, or_false] at hu
        rcases hu with hu | rfl | rfl
        · exact bv_one _ _ hu
        · obtain ⟨_, _, rfl, _⟩ := hva.is; rfl
        · obtain ⟨_, _, rfl, _⟩ := hvd.is; rfl
      have HCW := Lib.hid (fun j u (hu : (bv x.tab ++ [va, vd])[j]? = some u) => show wr.cell? ((a.add (k * 34)).add j) = some u by rw [addr_add, hk1 _ (by rw [addr_block]; exact hab)]; exact hcs j u hu)
      have HK := Lib.hid hk1
      have HC := Lib.hid hcs
      have HB1 := Lib.hid hb1
      have HVA := Lib.hid hva
      have HVD := Lib.hid hvd
      have HOR := Lib.hid ho
      have HGR := Lib.hid hg
      clear hk1 hcs hb1 hva hvd ho hg
      have HSZ := Lib.hid hsz
      have HON := Lib.hid hone
      clear hsz hone
      have hlen : (xs ++ (short l.length ++ (l.take k).flatMap encLook)).length + (encLook x).length ≤ 1000000000 := by
        have h1 := flatMap_take_len encLook l (k + 1)
        rw [flatMap_take_succ encLook hx] at h1
        have := HN.out
        simp only [List.length_append] at this h1 ⊢
        omega
      generalize hys : xs ++ (short l.length ++ (l.take k).flatMap encLook) = ys at *
      have hel : (encLook x).length = 32 + ((encL x.wr).length + (encL x.rd).length) := by simp [encLook, ht]
      have hf := HF.out x (List.mem_of_getElem? hx)
      have hbwr : base ≤ wr.heap.size := Nat.le_trans (Nat.le_trans hbase HG1.out.size) HGR.out.size
      have HYS := Lib.hid hys
      have HLEN := Lib.hid hlen
      have HEL := Lib.hid hel
      have HX := Lib.hid hx
      clear hys hlen hel hx
      go_wp2_with (first
        | (with_reducible show wpList _ _ _ ({ dst := some 16, op := Op.load _ _, type := _, pos := _, after := _, guard := _ } :: _) _ _; go_must (refine wpList_load_at rfl 93 (.tmp 15) rfl (a.add (k * 34)) (bv x.tab ++ [va, vd]) _ Try.underlying93 rfl HSZ.out HCW.out ?_ ?_; go_simp))
        | (with_reducible show wpList _ _ _ ({ dst := none, op := Op.store 93 _ _, type := _, pos := _, after := _, guard := _ } :: _) _ _; go_must (refine wpList_store_new rfl 93 (.tmp 6) (.tmp 16) rfl (bv x.tab ++ [va, vd]) HSZ.out HON.out (by simp [bv_length, ht]) ?_ ?_ ?_; go_simp; go_simp; intro w2 hr2 hb2 hz2; have ho2 := HOR.out.below hb2; have hs2 : Sees w2 w2.heap.size (some ⟨wr.heap.size, 0, none⟩) 32 (bv x.tab) := ⟨by rw [bv_length, ht], fun i u hu => ⟨_, rfl, hr2.lt, by rw [addr_row, hr2.cell, Nat.zero_add, List.getElem?_append_left (List.getElem?_eq_some_iff.1 hu).1]; exact hu⟩⟩; have HR2 := Lib.hid hr2; clear hr2))
        | (at_builtin; go_must (refine wpList_addB rfl (.tmp 17) (.tmp 19) 37 rfl base Try.underlying37 info_u8 u0 ys ?_ ho2 _ _ 32 32 x.tab ?_ hs2 (by omega) ?_ ?_; go_simp; go_simp; (have := HLEN.out; have := HEL.out; simp only [List.length_append]; omega); intro v3 w3 ho3 hg3; have hr3 := hg3.row HR2.out (own_ne_new HOR.out (Nat.le_refl _)); have c32 := (look_cells hr3 ht).1; have HR3 := Lib.hid hr3; have HG3 := Lib.hid hg3; have HO3 := Lib.hid ho3; clear hr3 hg3 ho3)))
      have hz3 := HG3.out.size
      have hne3 := HG3.out.ne (own_ne_new (base := base) HOR.out (Nat.le_refl _)) HR2.out.lt
      have hb3 : Below base w w3 := (HB1.out.trans (hb2.mono hbwr)).trans (HG3.out.below ho2 (by omega))
      have hlen1 := HLEN.out
      have hel1 := HEL.out
      have hva3 : BytesIn w3 B va x.wr := HVA.out.below (hb3.mono hB)
      have hvd3 : BytesIn w3 B vd x.rd := HVD.out.below (hb3.mono hB)
      have HP4 := Lib.hid (putBytes_ base B v3 va (ys ++ x.tab) x.wr w3 HO3.out (by omega) hva3 hB hf.1 (by simp only [List.length_append]; omega))
      have HVD3 := Lib.hid hvd3
      have HB3 := Lib.hid hb3
      clear hb3 hva3 hvd3
      clear hlen1 hel1
      refine HP4.out.mono ?_
      rintro e w4 ⟨v4, rfl, ho4, hg4⟩
      have hr4 := hg4.row HR3.out hne3
      have c33 := (look_cells hr4 ht).2
      have hz4 := hg4.size
      have hb4 : Below base w3 w4 := hg4.below HO3.out (by omega)
      have HVD4 := Lib.hid (HVD3.out.below (hb4.mono hB))
      have HO4 := Lib.hid ho4
      have HG4 := Lib.hid hg4
      clear hr4 hb4 ho4 hg4
      go_wp2_with fail
      have hlen1 := HLEN.out
      have hel1 := HEL.out
      refine (putBytes_ base B v4 vd _ x.rd w4 HO4.out (by omega) HVD4.out hB hf.2 (by simp only [List.length_append]; omega)).mono ?_
      rintro e w5 ⟨v5, rfl, ho5, hg5⟩
      have hg25 : Grew wr w5 u0 v5 := (((Grew.of_below hb2 u0).trans HG3.out).trans HG4.out).trans hg5
      have HO5 := Lib.hid ho5
      have HG5 := Lib.hid (HGR.out.trans hg25)
      clear ho5 hg5 hg25 hlen1 hel1
      go_wp2_with fail
      go_roundw
      case rel =>
        refine ⟨k + 1, by omega, by go_num, ?_, HG5.out⟩
        have := HO5.out
        rw [flatMap_take_succ encLook HX.out]
        rw [← HYS.out] at this
        simpa [encLook, List.append_assoc] using this
      case measure => simp [intOf]; omega
    · have HK2 := Lib.hid (show k = n by omega)
      have HOR := Lib.hid ho
      have HGR := Lib.hid hg
      clear ho hg
      go_wp2_with fail
      go_ret
      refine ⟨_, rfl, ?_, HG1.out.trans HGR.out⟩
      have := HOR.out
      rwa [HK2.out, List.take_of_length_le (by rw [L0.out]; exact Nat.le_refl _)] at this

/-- what the block of a message holds -/
structure MsgRow (w : World) (g : Nat) (q : Raw) (m : LMsg) : Prop where
  c0 : w.cell? ⟨g, 0, none⟩ = some (.bool m.v0)
  c1 : w.cell? ⟨g, 1, none⟩ = some (.int .u8 m.s)
  c2 : w.cell? ⟨g, 2, none⟩ = some (.int .u8 m.r)
  c3 : w.cell? ⟨g, 3, none⟩ = some (.int .u8 m.o)
  c4 : w.cell? ⟨g, 4, none⟩ = some (.slice q.KA q.kn q.kc)
  c37 : w.cell? ⟨g, 37, none⟩ = some (.slice q.IA q.n q.ic)
  c38 : w.cell? ⟨g, 38, none⟩ = some (.slice q.LA q.ln q.lc)

theorem MsgRow.of {w : World} {g t : Nat} {q : Raw} {m : LMsg} (hr : Row w g t (q.cells m)) (h : m.recent.length = 32) : MsgRow w g q m :=
  ⟨(hr.cell 0).trans cells_0, (hr.cell 1).trans cells_1, (hr.cell 2).trans cells_2, (hr.cell 3).trans cells_3, (hr.cell 4).trans cells_4, (hr.cell 37).trans (cells_37 h), (hr.cell 38).trans (cells_38 h)⟩

theorem size_msg : (Try.prog.info? 31).map (·.size) = some 39 := by kernel_rfl
theorem size_instr : (Try.prog.info? 89).map (·.size) = some 3 := by kernel_rfl
theorem size_key : (Try.prog.info? 58).map (·.size) = some 32 := by kernel_rfl
theorem size_hash : (Try.prog.info? 27).map (·.size) = some 32 := by kernel_rfl

/-- an instruction's cells -/
def inCells (p : Int) (va vd : Value) : List Value := [.int .u8 p, va, vd]
theorem inCells_one {p : Int} {va vd : Value} {w w' : World} {B B' : Nat} {l l' : List Int} (ha : BytesIn w B va l) (hd : BytesIn w' B' vd l') : ∀ u ∈ inCells p va vd, u.oneCell' = true := by
  obtain ⟨_, _, rfl, _⟩ := ha.is
  obtain ⟨_, _, rfl, _⟩ := hd.is
  intro u hu
  simp only [inCells, List.mem_cons, List.not_mem_nil, or_false] at hu
  rcases hu with rfl | rfl | rfl <;> rfl
theorem lookCells_one {tab : List Int} {va vd : Value} {w w' : World} {B B' : Nat} {l l' : List Int} (ha : BytesIn w B va l) (hd : BytesIn w' B' vd l') : ∀ u ∈ bv tab ++ [va, vd], u.oneCell' = true := by
  obtain ⟨_, _, rfl, _⟩ := ha.is
  obtain ⟨_, _, rfl, _⟩ := hd.is
  intro u hu
  simp only [List.mem_append, List.mem_cons, List.not_mem_nil, or_false] at hu
  rcases hu with hu | rfl | rfl
  · exact bv_one _ _ hu
  all_goals rfl

theorem size_in (p : Int) (va vd : Value) : (Try.prog.info? 89).map (·.size) = some (inCells p va vd).length := size_instr
theorem size_lk {tab : List Int} (ht : tab.length = 32) (va vd : Value) : (Try.prog.info? 93).map (·.size) = some (bv tab ++ [va, vd]).length := by rw [size_look]; simp [bv_length, ht]
theorem in_cells {w : World} {g t : Nat} {p : Int} {va vd : Value} (hr : Row w g t (inCells p va vd)) : w.cell? ⟨g, 0, none⟩ = some (.int .u8 p) ∧ w.cell? ⟨g, 1, none⟩ = some va ∧ w.cell? ⟨g, 2, none⟩ = some vd :=
  ⟨hr.cell 0, hr.cell 1, hr.cell 2⟩

/-- the k-th instruction, in a world that is as it was below B -/
structure InAt (w : World) (B : Nat) (a : Addr) (k : Nat) (x : LIn) (va vd : Value) : Prop where
  cells : ∀ j u, (inCells x.p va vd)[j]? = some u → w.cell? ((a.add (k * 3)).add j) = some u
  acc : BytesIn w B va x.acc
  dat : BytesIn w B vd x.dat
theorem InsIn.get {w : World} {B n : Nat} {A : Option Addr} {l : List LIn} (h : InsIn w B A n l) {k : Nat} (hk : k < n) : ∃ a x va vd, A = some a ∧ a.block < B ∧ l[k]? = some x ∧ InAt w B a k x va vd := by
  obtain ⟨x, hx⟩ : ∃ x, l[k]? = some x := ⟨_, List.getElem?_eq_getElem (by rw [h.len]; exact hk)⟩
  obtain ⟨a, va, vd, rfl, hb, h1, h2, h3, h4, h5⟩ := h.at_ k x hx
  refine ⟨a, x, va, vd, rfl, hb, hx, fun j u hu => ?_, h4, h5⟩
  rw [addr_add]
  match j, hu with
  | 0, hu => cases hu; exact h1
  | 1, hu => cases hu; exact h2
  | 2, hu => cases hu; exact h3
theorem InAt.keep {w w' : World} {B k : Nat} {a : Addr} {x : LIn} {va vd : Value} (h : InAt w B a k x va vd) (ha : a.block < B) (hk : ∀ p : Addr, p.block < B → w'.cell? p = w.cell? p) : InAt w' B a k x va vd :=
  ⟨fun j u hu => (hk _ (by rw [addr_block, addr_block]; exact ha)).trans (h.cells j u hu), h.acc.keep hk, h.dat.keep hk⟩

/-- the k-th lookup -/
structure LookAt (w : World) (B : Nat) (a : Addr) (k : Nat) (x : LLook) (va vd : Value) : Prop where
  cells : ∀ j u, (bv x.tab ++ [va, vd])[j]? = some u → w.cell? ((a.add (k * 34)).add j) = some u
  len : x.tab.length = 32
  wr : BytesIn w B va x.wr
  rd : BytesIn w B vd x.rd
theorem LooksIn.get {w : World} {B n : Nat} {A : Option Addr} {l : List LLook} (h : LooksIn w B A n l) {k : Nat} (hk : k < n) : ∃ a x va vd, A = some a ∧ a.block < B ∧ l[k]? = some x ∧ LookAt w B a k x va vd := by
  obtain ⟨x, hx⟩ : ∃ x, l[k]? = some x := ⟨_, List.getElem?_eq_getElem (by rw [h.len]; exact hk)⟩
  obtain ⟨a, va, vd, rfl, hb, h1, h2, h4, h5⟩ := h.at_ k x hx
  exact ⟨a, x, va, vd, rfl, hb, hx, fun j u hu => by rw [addr_add]; exact h1 j u hu, h2, h4, h5⟩
theorem LookAt.size {w : World} {B k : Nat} {a : Addr} {x : LLook} {va vd : Value} (h : LookAt w B a k x va vd) : (bv x.tab ++ [va, vd]).length = 34 := by simp [bv_length, h.len]

theorem forall_take_succ {α : Type} {p : α → Prop} {l : List α} {k : Nat} {x : α} (h : l[k]? = some x) : (∀ y ∈ l.take (k + 1), p y) ↔ (∀ y ∈ l.take k, p y) ∧ p x := by
  rw [List.take_add_one, h]
  simp only [Option.toList_some, List.mem_append, List.mem_singleton]
  exact ⟨fun h' => ⟨fun y hy => h' y (.inl hy), h' x (.inr rfl)⟩, fun h' y hy => hy.elim (h'.1 y) fun e => e ▸ h'.2⟩

theorem BytesIn.le {w : World} {B : Nat} {v : Value} {l : List Int} (h : BytesIn w B v l) : l.length ≤ maxLen := by
  obtain ⟨_, _, _, _, h1, h2⟩ := h.is
  omega

/-- so far, no list has more than 65535 elements -/
def FitsTo (m : LMsg) (ins : List LIn) (looks : List LLook) : Prop :=
  (m.keys.length ≤ 65535 ∧ m.ins.length ≤ 65535 ∧ m.looks.length ≤ 65535) ∧ (∀ i ∈ ins, i.acc.length ≤ 65535 ∧ i.dat.length ≤ 65535) ∧ (∀ l ∈ looks, l.wr.length ≤ 65535 ∧ l.rd.length ≤ 65535)

/-- the greatest of three; the walk need not look into it -/
def most (x y z : Int) : Int := if z > (if y > x then y else x) then z else (if y > x then y else x)
theorem run_most {P : Program} (ts : Array TypeId) (t : TypeId) (x y z : Int) (w : World) : (Builtin.max_ ts t #[.int .i64 x, .int .i64 y, .int .i64 z]).run P w = .ok (.int .i64 (most x y z)) w := run_max_int3 (P := P) w ts t .i64 .i64 .i64 x y z
theorem most_le (x y z c : Int) : most x y z ≤ c ↔ x ≤ c ∧ y ≤ c ∧ z ≤ c := by unfold most; (repeat' split) <;> omega
theorem most_ge (x y z : Int) : x ≤ most x y z := by unfold most; (repeat' split) <;> omega

set_option maxRecDepth 100000 in
set_option maxHeartbeats 1000000 in
theorem fits_walk (q : Raw) (m : LMsg) (B : Nat) (w : World) (hm : MsgIn w B q m) (hB : B ≤ w.heap.size) (hv : (m.v0 = true ∨ (m.looks = [] ∧ m.s < 128))) :
    Calls Try.prog 47 #[.agg (q.cells m).toArray] w fun e w' => (∃ b, e = .returned (.bool b) ∧ (b = true ↔ FitsTo m m.ins m.looks)) ∧ Below w.heap.size w w' := by
  obtain ⟨KA, kn, kc, IA, n, ic, LA, ln, lc⟩ := q
  have rb := MsgRow.of (Row.new w 31 (Raw.cells ⟨KA, kn, kc, IA, n, ic, LA, ln, lc⟩ m)) hm.recent
  obtain ⟨cs, hcs⟩ : ∃ cs, cs = Raw.cells ⟨KA, kn, kc, IA, n, ic, LA, ln, lc⟩ m := ⟨_, rfl⟩
  rw [← hcs] at rb ⊢
  clear hcs
  have h0 : m.v0 = true ∨ (m.v0 = false ∧ m.looks = [] ∧ m.s < 128) := by
    cases h : m.v0
    · rw [h] at hv; simpa using hv
    · exact .inl rfl
  obtain ⟨d0, d1, d2, d3, d4, d37, d38⟩ := rb
  dsimp only at d4 d37 d38
  have lk := hm.keys.len
  have li := hm.ins.len
  have ll := hm.looks.len
  have HM := Lib.hid hm
  have k1 := hm.kn
  have k2 := hm.n
  have k3 := hm.ln
  dsimp only at lk li ll k1 k2 k3
  unfold maxLen at k1 k2 k3
  clear hm hv
  have hmost := @run_most Try.prog
  have hq : (m.v0 = false → ln = 0 ∧ m.s < 128) := by
    rcases h0 with h0 | ⟨_, h1, h2⟩
    · rw [h0]; simp
    · rw [h1] at ll; exact fun _ => ⟨ll.symm, h2⟩
  clear h0
  generalize hv0 : m.v0 = v0 at *
  have lt0 : w.heap.size < (w.alloc (Obj.cells cs.toArray 31)).heap.size := by simp
  have hb0 : Below w.heap.size w (w.alloc (Obj.cells cs.toArray 31)) := (Below.refl _ _).alloc (Nat.le_refl _) _
  cases v0
  all_goals
    (try obtain ⟨hq1, hq2⟩ := hq rfl
     clear hq
     go_enter Try.func47, Try.ntmps47
     go_wp2_with fail
     try clear hq2
     generalize (w.alloc (Obj.cells cs.toArray 31)) = W0 at *
     have HB0 := Lib.hid hb0
     have D38 := Lib.hid d38
     clear d0 d1 d2 d3 d4 d37 d38 hb0
     go_loopw [3, 36] (fun mo i wr => ∃ (k : Nat) (mx : Int), k ≤ n ∧ i = .int .i64 k ∧ mo = .int .i64 mx ∧ (mx ≤ 65535 ↔ FitsTo m (m.ins.take k) []) ∧ Below (w.heap.size + 1) W0 wr) (fun mo i _ => n - (intOf i).toNat)
     case atStart =>
      refine ⟨0, _, Nat.zero_le _, rfl, rfl, ?_, Below.refl _ _⟩
      rw [most_le, FitsTo]
      simp
      omega
     case round =>
      obtain ⟨k, mx, hk, rfl, rfl, hmx, hb⟩ := hrel
      have HMX := Lib.hid hmx
      have HB := Lib.hid hb
      clear hmx hb
      have hsz : w.heap.size + 1 ≤ wr.heap.size := Nat.le_trans lt0 HB.out.size
      have hbw := HB0.out.trans (HB.out.mono (Nat.le_succ _))
      by_cases hlt : k < n
      · obtain ⟨a, x, va, vd, rfl, hab, hx, hat⟩ := HM.out.ins.get hlt
        have hat := hat.keep hab fun p hp => hbw.cell (Nat.lt_of_lt_of_le hp hB)
        have hone := inCells_one (p := x.p) hat.acc hat.dat
        obtain ⟨A1, c1, rfl, _, _, _⟩ := hat.acc.is
        obtain ⟨A2, c2, rfl, _, _, _⟩ := hat.dat.is
        have l1 := hat.acc.le
        have l2 := hat.dat.le
        unfold maxLen at l1 l2
        have HAT := Lib.hid hat
        have HX := Lib.hid hx
        have HON := Lib.hid hone
        have HBW := Lib.hid hbw
        clear hat hx hone hbw
        go_wp2_with (first
          | (with_reducible show wpList _ _ _ ({ dst := some 39, op := Op.load _ _, type := _, pos := _, after := _, guard := _ } :: _) _ _; go_must (refine wpList_load_at rfl 89 (.tmp 38) rfl (a.add (k * 3)) (inCells x.p (.slice A1 x.acc.length c1) (.slice A2 x.dat.length c2)) _ Try.underlying89 rfl (size_in _ _ _) HAT.out.cells ?_ ?_; go_simp))
          | (with_reducible show wpList _ _ _ ({ dst := none, op := Op.store 89 _ _, type := _, pos := _, after := _, guard := _ } :: _) _ _; go_must (refine wpList_store_new rfl 89 (.tmp 5) (.tmp 39) rfl (inCells x.p (.slice A1 x.acc.length c1) (.slice A2 x.dat.length c2)) (size_in _ _ _) HON.out rfl ?_ ?_ ?_; go_simp; go_simp; intro w2 hr2 hb2 hz2; obtain ⟨-, e1, e2⟩ := in_cells hr2; have HB2 := Lib.hid hb2; clear hb2 hr2)))
        go_roundw
        case rel =>
          refine ⟨k + 1, _, by omega, by go_num, rfl, ?_, HB.out.trans (HB2.out.mono hsz)⟩
          have := HMX.out
          have hf := forall_take_succ (p := fun (i : LIn) => i.acc.length ≤ 65535 ∧ i.dat.length ≤ 65535) HX.out
          rw [most_le, this]
          unfold FitsTo
          rw [hf]
          constructor
          · rintro ⟨⟨h1, h2, h3⟩, h4, h5⟩
            exact ⟨h1, ⟨h2, by omega, by omega⟩, h3⟩
          · rintro ⟨h1, ⟨h2, h4, h5⟩, h3⟩
            exact ⟨⟨h1, h2, h3⟩, by omega, by omega⟩
        case measure => simp [intOf]; omega
      · have HMX1 : Hid (mx ≤ 65535 ↔ FitsTo m m.ins []) := by
          have := HMX.out
          rwa [List.take_of_length_le (by omega)] at this
        have d38 : wr.cell? ⟨w.heap.size, 38, none⟩ = _ := (HB.out.cell (p := ⟨w.heap.size, 38, none⟩) (Nat.lt_succ_self _)).trans D38.out
        have HBW := Lib.hid hbw
        have HSZ := Lib.hid hsz
        clear hbw hsz HMX
        go_wp2_with fail
        generalize wr = W1 at *
        clear d38
        go_loopw [3, 52] (fun mo i wr => ∃ (k : Nat) (mx : Int), k ≤ ln ∧ i = .int .i64 k ∧ mo = .int .i64 mx ∧ (mx ≤ 65535 ↔ FitsTo m m.ins (m.looks.take k)) ∧ Below (w.heap.size + 1) W0 wr) (fun mo i _ => ln - (intOf i).toNat)
        case atStart =>
          refine ⟨0, mx, Nat.zero_le _, rfl, rfl, ?_, HB.out⟩
          simpa using HMX1.out
        case round =>
          clear HB HBW HSZ HMX1
          obtain ⟨k, mx, hk, rfl, rfl, hmx, hb⟩ := hrel
          have HMX := Lib.hid hmx
          have HB := Lib.hid hb
          clear hmx hb
          have hsz : w.heap.size + 1 ≤ wr.heap.size := Nat.le_trans lt0 HB.out.size
          have hbw := HB0.out.trans (HB.out.mono (Nat.le_succ _))
          by_cases hlt : k < ln
          · obtain ⟨a, x, va, vd, rfl, hab, hx, hat⟩ := HM.out.looks.get hlt
            have hcw : ∀ j u, (bv x.tab ++ [va, vd])[j]? = some u → wr.cell? ((a.add (k * 34)).add j) = some u := fun j u hu => (hbw.cell (by rw [addr_block, addr_block]; omega)).trans (hat.cells j u hu)
            have hone := lookCells_one (tab := x.tab) hat.wr hat.rd
            obtain ⟨A1, c1, rfl, _, _, _⟩ := hat.wr.is
            obtain ⟨A2, c2, rfl, _, _, _⟩ := hat.rd.is
            have l1 := hat.wr.le
            have l2 := hat.rd.le
            unfold maxLen at l1 l2
            have HCW := Lib.hid hcw
            have HL := Lib.hid hat.len
            have HX := Lib.hid hx
            have HON := Lib.hid hone
            clear hat hx hone hbw hcw
            go_wp2_with (first
              | (with_reducible show wpList _ _ _ ({ dst := some 55, op := Op.load _ _, type := _, pos := _, after := _, guard := _ } :: _) _ _; go_must (refine wpList_load_at rfl 93 (.tmp 54) rfl (a.add (k * 34)) (bv x.tab ++ [.slice A1 x.wr.length c1, .slice A2 x.rd.length c2]) _ Try.underlying93 rfl (size_lk HL.out _ _) HCW.out ?_ ?_; go_simp))
              | (with_reducible show wpList _ _ _ ({ dst := none, op := Op.store 93 _ _, type := _, pos := _, after := _, guard := _ } :: _) _ _; go_must (refine wpList_store_new rfl 93 (.tmp 7) (.tmp 55) rfl (bv x.tab ++ [.slice A1 x.wr.length c1, .slice A2 x.rd.length c2]) (size_lk HL.out _ _) HON.out (by simp [bv_length, HL.out]) ?_ ?_ ?_; go_simp; go_simp; intro w2 hr2 hb2 hz2; obtain ⟨e1, e2⟩ := look_cells hr2 HL.out; have HB2 := Lib.hid hb2; clear hb2 hr2)))
            all_goals
              (go_roundw
               case rel =>
                 refine ⟨k + 1, _, by omega, by go_num, rfl, ?_, HB.out.trans (HB2.out.mono hsz)⟩
                 have := HMX.out
                 have hf := forall_take_succ (p := fun (i : LLook) => i.wr.length ≤ 65535 ∧ i.rd.length ≤ 65535) HX.out
                 rw [most_le, this]
                 unfold FitsTo
                 rw [hf]
                 constructor
                 · rintro ⟨⟨h1, h2, h3⟩, h4, h5⟩
                   exact ⟨h1, h2, h3, by omega, by omega⟩
                 · rintro ⟨h1, h2, h3, h4, h5⟩
                   exact ⟨⟨h1, h2, h3⟩, by omega, by omega⟩
               case measure => simp [intOf]; omega)
          · have HMX1 : Hid (mx ≤ 65535 ↔ FitsTo m m.ins m.looks) := by
              have := HMX.out
              rwa [List.take_of_length_le (by omega)] at this
            have HBW := Lib.hid hbw
            clear hbw HMX
            go_wp2_with fail
            go_ret
            exact ⟨⟨_, rfl, by simpa using HMX1.out⟩, HBW.out⟩)

set_option maxRecDepth 100000 in
set_option maxHeartbeats 400000 in
theorem fits_bad (q : Raw) (m : LMsg) (w : World) (hr : m.recent.length = 32) (hl : m.looks.length = q.ln) (hv : m.v0 = false) (hs : m.looks ≠ [] ∨ 128 ≤ m.s) (hln : q.ln ≤ maxLen) :
    Calls Try.prog 47 #[.agg (q.cells m).toArray] w fun e w' => e = .returned (.bool false) ∧ Below w.heap.size w w' := by
  obtain ⟨KA, kn, kc, IA, n, ic, LA, ln, lc⟩ := q
  have rb := MsgRow.of (Row.new w 31 (Raw.cells ⟨KA, kn, kc, IA, n, ic, LA, ln, lc⟩ m)) hr
  have hb0 := Lib.hid ((Below.refl w.heap.size w).alloc (Nat.le_refl _) (.cells (Raw.cells ⟨KA, kn, kc, IA, n, ic, LA, ln, lc⟩ m).toArray 31))
  obtain ⟨cs, hcs⟩ : ∃ cs, cs = Raw.cells ⟨KA, kn, kc, IA, n, ic, LA, ln, lc⟩ m := ⟨_, rfl⟩
  rw [← hcs] at rb hb0 ⊢
  clear hcs
  obtain ⟨d0, d1, d2, d3, d4, d37, d38⟩ := rb
  dsimp only at d4 d37 d38 hl hln
  unfold maxLen at hln
  rw [hv] at d0
  have h : 0 < ln ∨ (ln = 0 ∧ 128 ≤ m.s) := by
    rcases Nat.eq_zero_or_pos ln with h | h
    · rcases hs with hs | hs
      · exact absurd (List.length_eq_zero_iff.1 (by omega)) hs
      · exact .inr ⟨h, hs⟩
    · exact .inl h
  clear hs hl hv hr
  rcases h with h | ⟨h, h'⟩
  · go_enter Try.func47, Try.ntmps47
    go_wp2_with fail
    go_ret
    exact ⟨rfl, hb0.out⟩
  · go_enter Try.func47, Try.ntmps47
    go_wp2_with fail
    go_ret
    exact ⟨rfl, hb0.out⟩

open Classical in
/-- fits -/
theorem fits_ (q : Raw) (m : LMsg) (B : Nat) (w : World) (hm : MsgIn w B q m) (hB : B ≤ w.heap.size) :
    Calls Try.prog 47 #[.agg (q.cells m).toArray] w fun e w' => (∃ b, e = .returned (.bool b) ∧ (b = true ↔ Fits m)) ∧ Below w.heap.size w w' := by
  by_cases hv : m.v0 = true ∨ (m.looks = [] ∧ m.s < 128)
  · refine (fits_walk q m B w hm hB hv).mono ?_
    rintro e w' ⟨⟨b, rfl, hb⟩, h⟩
    refine ⟨⟨b, rfl, hb.trans ?_⟩, h⟩
    unfold FitsTo Fits
    exact ⟨fun ⟨⟨h1, h2, h3⟩, h4, h5⟩ => ⟨hv, h1, h2, h3, h4, h5⟩, fun ⟨_, h1, h2, h3, h4, h5⟩ => ⟨⟨h1, h2, h3⟩, h4, h5⟩⟩
  · refine (fits_bad q m w hm.recent hm.looks.len ?_ ?_ (by have := hm.ln; omega)).mono ?_
    · cases h : m.v0
      · rfl
      · exact absurd (.inl h) hv
    · by_cases h : m.looks = []
      · right
        have : ¬ m.s < 128 := fun h' => hv (.inr ⟨h, h'⟩)
        omega
      · exact .inl h
    · rintro e w' ⟨rfl, h⟩
      exact ⟨⟨false, rfl, by simp; exact fun hf => hv hf.1⟩, h⟩
end Go.Proofs.Ytolijdbdpnbchaa
