/-
  messages.fits: may a message be put?
-/
import Derived.Test.YtidggfbjmmjmfaaLooks
namespace Go.Proofs.Ytidggfbjmmjmfaa
open Go.RowKit
set_option linter.unusedVariables false

/-- what the block of a message holds -/
structure MsgRow (w : World) (g : Nat) (q : Raw) (m : LMsg) : Prop where
  c0 : w.cell? ⟨g, 0, none⟩ = some (.bool m.v0)
  c1 : w.cell? ⟨g, 1, none⟩ = some (.int .u8 m.s)
  c2 : w.cell? ⟨g, 2, none⟩ = some (.int .u8 m.r)
  c3 : w.cell? ⟨g, 3, none⟩ = some (.int .u8 m.o)
  c4 : w.cell? ⟨g, 4, none⟩ = some (.slice q.KA q.kn q.kc)
  c37 : w.cell? ⟨g, 37, none⟩ = some (.slice q.IA q.n q.ic)
  c38 : w.cell? ⟨g, 38, none⟩ = some (.slice q.LA q.ln q.lc)

theorem MsgRow.of {w : World} {g t : Nat} {q : Raw} {m : LMsg} (hr : Row w g t (q.cells m)) (h : m.recent.length = 32) : MsgRow w g q m :=
  ⟨(hr.cell 0).trans cells_0, (hr.cell 1).trans cells_1, (hr.cell 2).trans cells_2, (hr.cell 3).trans cells_3, (hr.cell 4).trans cells_4, (hr.cell 37).trans (cells_37 h), (hr.cell 38).trans (cells_38 h)⟩

theorem size_msg : (Try.prog.info? 30).map (·.size) = some 39 := by kernel_rfl
theorem size_instr : (Try.prog.info? 52).map (·.size) = some 3 := by kernel_rfl
theorem size_key : (Try.prog.info? 53).map (·.size) = some 32 := by kernel_rfl
theorem size_hash : (Try.prog.info? 26).map (·.size) = some 32 := by kernel_rfl

/-- an instruction's cells -/
def inCells (p : Int) (va vd : Value) : List Value := [.int .u8 p, va, vd]
theorem inCells_one {p : Int} {va vd : Value} {w w' : World} {B B' : Nat} {l l' : List Int} (ha : BytesIn w B va l) (hd : BytesIn w' B' vd l') : ∀ u ∈ inCells p va vd, u.oneCell' = true := by
  obtain ⟨_, _, rfl, _⟩ := ha.is
  obtain ⟨_, _, rfl, _⟩ := hd.is
  intro u hu
  simp only [inCells, List.mem_cons, List.not_mem_nil, or_false] at hu
  rcases hu with rfl | rfl | rfl <;> rfl
theorem lookCells_one {tab : List Int} {va vd : Value} {w w' : World} {B B' : Nat} {l l' : List Int} (ha : BytesIn w B va l) (hd : BytesIn w' B' vd l') : ∀ u ∈ bv tab ++ [va, vd], u.oneCell' = true := by
  obtain ⟨_, _, rfl, _⟩ := ha.is
  obtain ⟨_, _, rfl, _⟩ := hd.is
  intro u hu
  simp only [List.mem_append, List.mem_cons, List.not_mem_nil, or_false] at hu
  rcases hu with hu | rfl | rfl
  · exact bv_one _ _ hu
  all_goals rfl

theorem size_in (p : Int) (va vd : Value) : (Try.prog.info? 52).map (·.size) = some (inCells p va vd).length := size_instr
theorem size_lk {tab : List Int} (ht : tab.length = 32) (va vd : Value) : (Try.prog.info? 55).map (·.size) = some (bv tab ++ [va, vd]).length := by rw [size_look]; simp [bv_length, ht]
theorem in_cells {w : World} {g t : Nat} {p : Int} {va vd : Value} (hr : Row w g t (inCells p va vd)) : w.cell? ⟨g, 0, none⟩ = some (.int .u8 p) ∧ w.cell? ⟨g, 1, none⟩ = some va ∧ w.cell? ⟨g, 2, none⟩ = some vd :=
  ⟨hr.cell 0, hr.cell 1, hr.cell 2⟩

/-- the k-th instruction, in a world that is as it was below B -/
structure InAt (w : World) (B : Nat) (a : Addr) (k : Nat) (x : LIn) (va vd : Value) : Prop where
  cells : ∀ j u, (inCells x.p va vd)[j]? = some u → w.cell? ((a.add (k * 3)).add j) = some u
  acc : BytesIn w B va x.acc
  dat : BytesIn w B vd x.dat
theorem InsIn.get {w : World} {B n : Nat} {A : Option Addr} {l : List LIn} (h : InsIn w B A n l) {k : Nat} (hk : k < n) : ∃ a x va vd, A = some a ∧ a.block < B ∧ l[k]? = some x ∧ InAt w B a k x va vd := by
  obtain ⟨x, hx⟩ : ∃ x, l[k]? = some x := ⟨_, List.getElem?_eq_getElem (by rw [h.len]; exact hk)⟩
  obtain ⟨a, va, vd, rfl, hb, h1, h2, h3, h4, h5⟩ := h.at_ k x hx
  refine ⟨a, x, va, vd, rfl, hb, hx, fun j u hu => ?_, h4, h5⟩
  rw [addr_add]
  match j, hu with
  | 0, hu => cases hu; exact h1
  | 1, hu => cases hu; exact h2
  | 2, hu => cases hu; exact h3
theorem InAt.keep {w w' : World} {B k : Nat} {a : Addr} {x : LIn} {va vd : Value} (h : InAt w B a k x va vd) (ha : a.block < B) (hk : ∀ p : Addr, p.block < B → w'.cell? p = w.cell? p) : InAt w' B a k x va vd :=
  ⟨fun j u hu => (hk _ (by rw [addr_block, addr_block]; exact ha)).trans (h.cells j u hu), h.acc.keep hk, h.dat.keep hk⟩

/-- the k-th lookup -/
structure LookAt (w : World) (B : Nat) (a : Addr) (k : Nat) (x : LLook) (va vd : Value) : Prop where
  cells : ∀ j u, (bv x.tab ++ [va, vd])[j]? = some u → w.cell? ((a.add (k * 34)).add j) = some u
  len : x.tab.length = 32
  wr : BytesIn w B va x.wr
  rd : BytesIn w B vd x.rd
theorem LooksIn.get {w : World} {B n : Nat} {A : Option Addr} {l : List LLook} (h : LooksIn w B A n l) {k : Nat} (hk : k < n) : ∃ a x va vd, A = some a ∧ a.block < B ∧ l[k]? = some x ∧ LookAt w B a k x va vd := by
  obtain ⟨x, hx⟩ : ∃ x, l[k]? = some x := ⟨_, List.getElem?_eq_getElem (by rw [h.len]; exact hk)⟩
  obtain ⟨a, va, vd, rfl, hb, h1, h2, h4, h5⟩ := h.at_ k x hx
  exact ⟨a, x, va, vd, rfl, hb, hx, fun j u hu => by rw [addr_add]; exact h1 j u hu, h2, h4, h5⟩
theorem LookAt.size {w : World} {B k : Nat} {a : Addr} {x : LLook} {va vd : Value} (h : LookAt w B a k x va vd) : (bv x.tab ++ [va, vd]).length = 34 := by simp [bv_length, h.len]

theorem forall_take_succ {α : Type} {p : α → Prop} {l : List α} {k : Nat} {x : α} (h : l[k]? = some x) : (∀ y ∈ l.take (k + 1), p y) ↔ (∀ y ∈ l.take k, p y) ∧ p x := by
  rw [List.take_add_one, h]
  simp only [Option.toList_some, List.mem_append, List.mem_singleton]
  exact ⟨fun h' => ⟨fun y hy => h' y (.inl hy), h' x (.inr rfl)⟩, fun h' y hy => hy.elim (h'.1 y) fun e => e ▸ h'.2⟩

theorem BytesIn.le {w : World} {B : Nat} {v : Value} {l : List Int} (h : BytesIn w B v l) : l.length ≤ maxLen := by
  obtain ⟨_, _, _, _, h1, h2⟩ := h.is
  omega

/-- so far, no list has more than 65535 elements -/
def FitsTo (m : LMsg) (ins : List LIn) (looks : List LLook) : Prop :=
  (m.keys.length ≤ 65535 ∧ m.ins.length ≤ 65535 ∧ m.looks.length ≤ 65535) ∧ (∀ i ∈ ins, i.acc.length ≤ 65535 ∧ i.dat.length ≤ 65535) ∧ (∀ l ∈ looks, l.wr.length ≤ 65535 ∧ l.rd.length ≤ 65535)

/-- the greatest of three; the walk need not look into it -/
def most (x y z : Int) : Int := if z > (if y > x then y else x) then z else (if y > x then y else x)
theorem run_most {P : Program} (ts : Array TypeId) (t : TypeId) (x y z : Int) (w : World) : (Builtin.max_ ts t #[.int .i64 x, .int .i64 y, .int .i64 z]).run P w = .ok (.int .i64 (most x y z)) w := run_max_int3 (P := P) w ts t .i64 .i64 .i64 x y z
theorem most_le (x y z c : Int) : most x y z ≤ c ↔ x ≤ c ∧ y ≤ c ∧ z ≤ c := by unfold most; (repeat' split) <;> omega
theorem most_ge (x y z : Int) : x ≤ most x y z := by unfold most; (repeat' split) <;> omega

set_option maxRecDepth 100000 in
set_option maxHeartbeats 1000000 in
theorem fits_walk (q : Raw) (m : LMsg) (B : Nat) (w : World) (hm : MsgIn w B q m) (hB : B ≤ w.heap.size) (hv : (m.v0 = true ∨ (m.looks = [] ∧ m.s < 128))) :
    Calls Try.prog 24 #[.agg (q.cells m).toArray] w fun e w' => (∃ b, e = .returned (.bool b) ∧ (b = true ↔ FitsTo m m.ins m.looks)) ∧ Below w.heap.size w w' := by
  obtain ⟨KA, kn, kc, IA, n, ic, LA, ln, lc⟩ := q
  have rb := MsgRow.of (Row.new w 30 (Raw.cells ⟨KA, kn, kc, IA, n, ic, LA, ln, lc⟩ m)) hm.recent
  obtain ⟨cs, hcs⟩ : ∃ cs, cs = Raw.cells ⟨KA, kn, kc, IA, n, ic, LA, ln, lc⟩ m := ⟨_, rfl⟩
  rw [← hcs] at rb ⊢
  clear hcs
  have h0 : m.v0 = true ∨ (m.v0 = false ∧ m.looks = [] ∧ m.s < 128) := by
    cases h : m.v0
    · rw [h] at hv; simpa using hv
    · exact .inl rfl
  obtain ⟨d0, d1, d2, d3, d4, d37, d38⟩ := rb
  dsimp only at d4 d37 d38
  have lk := hm.keys.len
  have li := hm.ins.len
  have ll := hm.looks.len
  have HM := Lib.hid hm
  have k1 := hm.kn
  have k2 := hm.n
  have k3 := hm.ln
  dsimp only at lk li ll k1 k2 k3
  unfold maxLen at k1 k2 k3
  clear hm hv
  have hmost := @run_most Try.prog
  have hq : (m.v0 = false → ln = 0 ∧ m.s < 128) := by
    rcases h0 with h0 | ⟨_, h1, h2⟩
    · rw [h0]; simp
    · rw [h1] at ll; exact fun _ => ⟨ll.symm, h2⟩
  clear h0
  generalize hv0 : m.v0 = v0 at *
  have lt0 : w.heap.size < (w.alloc (Obj.cells cs.toArray 30)).heap.size := by simp
  have hb0 : Below w.heap.size w (w.alloc (Obj.cells cs.toArray 30)) := (Below.refl _ _).alloc (Nat.le_refl _) _
  cases v0
  all_goals
    (try obtain ⟨hq1, hq2⟩ := hq rfl
     clear hq
     go_enter Try.func24, Try.ntmps24
     go_wp2_with fail
     try clear hq2
     generalize (w.alloc (Obj.cells cs.toArray 30)) = W0 at *
     have HB0 := Lib.hid hb0
     have D38 := Lib.hid d38
     clear d0 d1 d2 d3 d4 d37 d38 hb0
     go_loopw [3, 36] (fun mo i wr => ∃ (k : Nat) (mx : Int), k ≤ n ∧ i = .int .i64 k ∧ mo = .int .i64 mx ∧ (mx ≤ 65535 ↔ FitsTo m (m.ins.take k) []) ∧ Below (w.heap.size + 1) W0 wr) (fun mo i _ => n - (intOf i).toNat)
     case atStart =>
      refine ⟨0, _, Nat.zero_le _, rfl, rfl, ?_, Below.refl _ _⟩
      rw [most_le, FitsTo]
      simp
      omega
     case round =>
      obtain ⟨k, mx, hk, rfl, rfl, hmx, hb⟩ := hrel
      have HMX := Lib.hid hmx
      have HB := Lib.hid hb
      clear hmx hb
      have hsz : w.heap.size + 1 ≤ wr.heap.size := Nat.le_trans lt0 HB.out.size
      have hbw := HB0.out.trans (HB.out.mono (Nat.le_succ _))
      by_cases hlt : k < n
      · obtain ⟨a, x, va, vd, rfl, hab, hx, hat⟩ := HM.out.ins.get hlt
        have hat := hat.keep hab fun p hp => hbw.cell (Nat.lt_of_lt_of_le hp hB)
        have hone := inCells_one (p := x.p) hat.acc hat.dat
        obtain ⟨A1, c1, rfl, _, _, _⟩ := hat.acc.is
        obtain ⟨A2, c2, rfl, _, _, _⟩ := hat.dat.is
        have l1 := hat.acc.le
        have l2 := hat.dat.le
        unfold maxLen at l1 l2
        have HAT := Lib.hid hat
        have HX := Lib.hid hx
        have HON := Lib.hid hone
        have HBW := Lib.hid hbw
        clear hat hx hone hbw
        go_wp2_with (first
          | (with_reducible show wpList _ _ _ ({ dst := some 39, op := Op.load _ _, type := _, pos := _, after := _, guard := _ } :: _) _ _; go_must (refine wpList_load_at rfl 52 (.tmp 38) rfl (a.add (k * 3)) (inCells x.p (.slice A1 x.acc.length c1) (.slice A2 x.dat.length c2)) _ Try.underlying52 rfl (size_in _ _ _) HAT.out.cells ?_ ?_; go_simp))
          | (with_reducible show wpList _ _ _ ({ dst := none, op := Op.store 52 _ _, type := _, pos := _, after := _, guard := _ } :: _) _ _; go_must (refine wpList_store_new rfl 52 (.tmp 5) (.tmp 39) rfl (inCells x.p (.slice A1 x.acc.length c1) (.slice A2 x.dat.length c2)) (size_in _ _ _) HON.out rfl ?_ ?_ ?_; go_simp; go_simp; intro w2 hr2 hb2 hz2; obtain ⟨-, e1, e2⟩ := in_cells hr2; have HB2 := Lib.hid hb2; clear hb2 hr2)))
        go_roundw
        case rel =>
          refine ⟨k + 1, _, by omega, by go_num, rfl, ?_, HB.out.trans (HB2.out.mono hsz)⟩
          have := HMX.out
          have hf := forall_take_succ (p := fun (i : LIn) => i.acc.length ≤ 65535 ∧ i.dat.length ≤ 65535) HX.out
          rw [most_le, this]
          unfold FitsTo
          rw [hf]
          constructor
          · rintro ⟨⟨h1, h2, h3⟩, h4, h5⟩
            exact ⟨h1, ⟨h2, by omega, by omega⟩, h3⟩
          · rintro ⟨h1, ⟨h2, h4, h5⟩, h3⟩
            exact ⟨⟨h1, h2, h3⟩, by omega, by omega⟩
        case measure => simp [intOf]; omega
      · have HMX1 : Hid (mx ≤ 65535 ↔ FitsTo m m.ins []) := by
          have := HMX.out
          rwa [List.take_of_length_le (by omega)] at this
        have d38 : wr.cell? ⟨w.heap.size, 38, none⟩ = _ := (HB.out.cell (p := ⟨w.heap.size, 38, none⟩) (Nat.lt_succ_self _)).trans D38.out
        have HBW := Lib.hid hbw
        have HSZ := Lib.hid hsz
        clear hbw hsz HMX
        go_wp2_with fail
        generalize wr = W1 at *
        clear d38
        go_loopw [3, 52] (fun mo i wr => ∃ (k : Nat) (mx : Int), k ≤ ln ∧ i = .int .i64 k ∧ mo = .int .i64 mx ∧ (mx ≤ 65535 ↔ FitsTo m m.ins (m.looks.take k)) ∧ Below (w.heap.size + 1) W0 wr) (fun mo i _ => ln - (intOf i).toNat)
        case atStart =>
          refine ⟨0, mx, Nat.zero_le _, rfl, rfl, ?_, HB.out⟩
          simpa using HMX1.out
        case round =>
          clear HB HBW HSZ HMX1
          obtain ⟨k, mx, hk, rfl, rfl, hmx, hb⟩ := hrel
          have HMX := Lib.hid hmx
          have HB := Lib.hid hb
          clear hmx hb
          have hsz : w.heap.size + 1 ≤ wr.heap.size := Nat.le_trans lt0 HB.out.size
          have hbw := HB0.out.trans (HB.out.mono (Nat.le_succ _))
          by_cases hlt : k < ln
          · obtain ⟨a, x, va, vd, rfl, hab, hx, hat⟩ := HM.out.looks.get hlt
            have hcw : ∀ j u, (bv x.tab ++ [va, vd])[j]? = some u → wr.cell? ((a.add (k * 34)).add j) = some u := fun j u hu => (hbw.cell (by rw [addr_block, addr_block]; omega)).trans (hat.cells j u hu)
            have hone := lookCells_one (tab := x.tab) hat.wr hat.rd
            obtain ⟨A1, c1, rfl, _, _, _⟩ := hat.wr.is
            obtain ⟨A2, c2, rfl, _, _, _⟩ := hat.rd.is
            have l1 := hat.wr.le
            have l2 := hat.rd.le
            unfold maxLen at l1 l2
            have HCW := Lib.hid hcw
            have HL := Lib.hid hat.len
            have HX := Lib.hid hx
            have HON := Lib.hid hone
            clear hat hx hone hbw hcw
            go_wp2_with (first
              | (with_reducible show wpList _ _ _ ({ dst := some 55, op := Op.load _ _, type := _, pos := _, after := _, guard := _ } :: _) _ _; go_must (refine wpList_load_at rfl 55 (.tmp 54) rfl (a.add (k * 34)) (bv x.tab ++ [.slice A1 x.wr.length c1, .slice A2 x.rd.length c2]) _ Try.underlying55 rfl (size_lk HL.out _ _) HCW.out ?_ ?_; go_simp))
              | (with_reducible show wpList _ _ _ ({ dst := none, op := Op.store 55 _ _, type := _, pos := _, after := _, guard := _ } :: _) _ _; go_must (refine wpList_store_new rfl 55 (.tmp 7) (.tmp 55) rfl (bv x.tab ++ [.slice A1 x.wr.length c1, .slice A2 x.rd.length c2]) (size_lk HL.out _ _) HON.out (by simp [bv_length, HL.out]) ?_ ?_ ?_; go_simp; go_simp; intro w2 hr2 hb2 hz2; obtain ⟨e1, e2⟩ := look_cells hr2 HL.out; have HB2 := Lib.hid hb2; clear hb2 hr2)))
            all_goals
              (go_roundw
               case rel =>
                 refine ⟨k + 1, _, by omega, by go_num, rfl, ?_, HB.out.trans (HB2.out.mono hsz)⟩
                 have := HMX.out
                 have hf := forall_take_succ (p := fun (i : LLook) => i.wr.length ≤ 65535 ∧ i.rd.length ≤ 65535) HX.out
                 rw [most_le, this]
                 unfold FitsTo
                 rw [hf]
                 constructor
                 · rintro ⟨⟨h1, h2, h3⟩, h4, h5⟩
                   exact ⟨h1, h2, h3, by omega, by omega⟩
                 · rintro ⟨h1, h2, h3, h4, h5⟩
                   exact ⟨⟨h1, h2, h3⟩, by omega, by omega⟩
               case measure => simp [intOf]; omega)
          · have HMX1 : Hid (mx ≤ 65535 ↔ FitsTo m m.ins m.looks) := by
              have := HMX.out
              rwa [List.take_of_length_le (by omega)] at this
            have HBW := Lib.hid hbw
            clear hbw HMX
            go_wp2_with fail
            go_ret
            exact ⟨⟨_, rfl, by simpa using HMX1.out⟩, HBW.out⟩)

set_option maxRecDepth 100000 in
set_option maxHeartbeats 400000 in
theorem fits_bad (q : Raw) (m : LMsg) (w : World) (hr : m.recent.length = 32) (hl : m.looks.length = q.ln) (hv : m.v0 = false) (hs : m.looks ≠ [] ∨ 128 ≤ m.s) (hln : q.ln ≤ maxLen) :
    Calls Try.prog 24 #[.agg (q.cells m).toArray] w fun e w' => e = .returned (.bool false) ∧ Below w.heap.size w w' := by
  obtain ⟨KA, kn, kc, IA, n, ic, LA, ln, lc⟩ := q
  have rb := MsgRow.of (Row.new w 30 (Raw.cells ⟨KA, kn, kc, IA, n, ic, LA, ln, lc⟩ m)) hr
  have hb0 := Lib.hid ((Below.refl w.heap.size w).alloc (Nat.le_refl _) (.cells (Raw.cells ⟨KA, kn, kc, IA, n, ic, LA, ln, lc⟩ m).toArray 30))
  obtain ⟨cs, hcs⟩ : ∃ cs, cs = Raw.cells ⟨KA, kn, kc, IA, n, ic, LA, ln, lc⟩ m := ⟨_, rfl⟩
  rw [← hcs] at rb hb0 ⊢
  clear hcs
  obtain ⟨d0, d1, d2, d3, d4, d37, d38⟩ := rb
  dsimp only at d4 d37 d38 hl hln
  unfold maxLen at hln
  rw [hv] at d0
  have h : 0 < ln ∨ (ln = 0 ∧ 128 ≤ m.s) := by
    rcases Nat.eq_zero_or_pos ln with h | h
    · rcases hs with hs | hs
      · exact absurd (List.length_eq_zero_iff.1 (by omega)) hs
      · exact .inr ⟨h, hs⟩
    · exact .inl h
  clear hs hl hv hr
  rcases h with h | ⟨h, h'⟩
  · go_enter Try.func24, Try.ntmps24
    go_wp2_with fail
    go_ret
    exact ⟨rfl, hb0.out⟩
  · go_enter Try.func24, Try.ntmps24
    go_wp2_with fail
    go_ret
    exact ⟨rfl, hb0.out⟩

open Classical in
/-- fits -/
theorem fits_ (q : Raw) (m : LMsg) (B : Nat) (w : World) (hm : MsgIn w B q m) (hB : B ≤ w.heap.size) :
    Calls Try.prog 24 #[.agg (q.cells m).toArray] w fun e w' => (∃ b, e = .returned (.bool b) ∧ (b = true ↔ Fits m)) ∧ Below w.heap.size w w' := by
  by_cases hv : m.v0 = true ∨ (m.looks = [] ∧ m.s < 128)
  · refine (fits_walk q m B w hm hB hv).mono ?_
    rintro e w' ⟨⟨b, rfl, hb⟩, h⟩
    refine ⟨⟨b, rfl, hb.trans ?_⟩, h⟩
    unfold FitsTo Fits
    exact ⟨fun ⟨⟨h1, h2, h3⟩, h4, h5⟩ => ⟨hv, h1, h2, h3, h4, h5⟩, fun ⟨_, h1, h2, h3, h4, h5⟩ => ⟨⟨h1, h2, h3⟩, h4, h5⟩⟩
  · refine (fits_bad q m w hm.recent hm.looks.len ?_ ?_ (by have := hm.ln; omega)).mono ?_
    · cases h : m.v0
      · rfl
      · exact absurd (.inl h) hv
    · by_cases h : m.looks = []
      · right
        have : ¬ m.s < 128 := fun h' => hv (.inr ⟨h, h'⟩)
        omega
      · exact .inl h
    · rintro e w' ⟨rfl, h⟩
      exact ⟨⟨false, rfl, by simp; exact fun hf => hv hf.1⟩, h⟩
end Go.Proofs.Ytidggfbjmmjmfaa
