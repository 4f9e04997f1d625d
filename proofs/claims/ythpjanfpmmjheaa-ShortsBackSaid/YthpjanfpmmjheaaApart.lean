import Derived.Test.YthpjanfpmmjheaaSheet
namespace Go.Proofs.Ythpjanfpmmjheaa
open Go.RowKit
set_option linter.unusedVariables false

set_option maxHeartbeats 400000 in
theorem sign_nil (b : Bool) (h f : Int) (w : World) :
    Calls Try.prog 49 #[.agg #[.slice none 0 0, .int .u8 h, .int .u8 f], .bool b] w fun e w' => e = .returned (.tuple #[]) ∧ w.grownBy w' none := by
  have G0 := World.grownBy_alloc w (.cells #[Value.slice none 0 0, .int .u8 h, .int .u8 f] 58) none
  cases b
  · go_enter Try.func49, Try.ntmps49
    go_wp2
    go_loop [4] (fun i => i = .int .i64 0) (fun _ => 0)
    case atStart => rfl
    case round =>
      subst hrel
      go_wp2
      refine bodyPost_ret (results_none rfl _ _ _) rfl ?_
      exact ⟨rfl, G0⟩
  · go_enter Try.func49, Try.ntmps49
    go_wp2
    go_loop [6] (fun i => i = .int .i64 0) (fun _ => 0)
    case atStart => rfl
    case round =>
      subst hrel
      go_wp2
      go_end0
      exact ⟨rfl, G0⟩

set_option maxHeartbeats 400000 in
theorem own_nil (h f : Int) (w : World) :
    Calls Try.prog 48 #[.agg #[.slice none 0 0, .int .u8 h, .int .u8 f]] w fun e w' => e = .returned (.bool true) ∧ w.grownBy w' none := by
  have G0 := World.grownBy_alloc w (.cells #[Value.slice none 0 0, .int .u8 h, .int .u8 f] 58) none
  go_enter Try.func48, Try.ntmps48
  go_wp2
  go_loop [3] (fun i => i = .int .i64 0) (fun _ => 0)
  case atStart => rfl
  case round =>
    subst hrel
    go_wp2
    go_loop [5] (fun i => i = .int .i64 0) (fun _ => 0)
    case atStart => rfl
    case round =>
      subst hrel
      go_wp2
      go_ret
      exact ⟨rfl, G0⟩

/-- the page's list lies in memory; a: its cells bear its sign; b: its room bears its other one -/
def Pg.Fit (w : World) (q : Pg) (a b : Prop) : Prop :=
  match q.A with
  | none => q.n = 0 ∧ q.c = 0
  | some g => q.n ≤ q.c ∧ q.c ≤ 1099511627776 ∧ ∃ xs ys, Row w g 5 (xs ++ ys) ∧ xs.length = q.n ∧ ys.length = q.c - q.n ∧ (a → xs = List.replicate q.n (.int .u8 q.h)) ∧ (b → ys = List.replicate (q.c - q.n) (.int .u8 q.f))

theorem Pg.Fit.keep {w w' : World} {q : Pg} {a b : Prop} {r : Option Nat} (h : q.Fit w a b) (hg : w.grownBy w' r) (hne : ∀ g, q.A = some g → some g ≠ r) : q.Fit w' a b := by
  obtain ⟨A, n, c, hh, ff⟩ := q
  cases A with
  | none => exact h
  | some g =>
    obtain ⟨h1, h2, xs, ys, hr, h3⟩ := h
    exact ⟨h1, h2, xs, ys, hr.grown hg (hne g rfl), h3⟩

/-- what sign leaves of a page -/
theorem sign_page (q : Pg) (w : World) (a b : Prop) (h : q.Fit w a b) :
    Calls Try.prog 49 #[.agg #[q.list, .int .u8 q.h, .int .u8 q.f], .bool false] w fun e w' => e = .returned (.tuple #[]) ∧ q.Fit w' True b ∧ w.grownBy w' q.A := by
  obtain ⟨A, n, c, hh, ff⟩ := q
  cases A with
  | none =>
    obtain ⟨rfl, rfl⟩ := h
    refine (sign_nil false hh ff w).mono ?_
    rintro e w' ⟨rfl, hg⟩
    exact ⟨rfl, ⟨rfl, rfl⟩, hg⟩
  | some g =>
    obtain ⟨h1, h2, xs, ys, hr, h3, h4, h5, h6⟩ := h
    refine (sign_false g n c hh ff (xs ++ ys) w hr (by have h1 : n ≤ c := h1; simp at h3 h4 ⊢; omega) h1 h2).mono ?_
    rintro e w' ⟨rfl, hr', hg⟩
    refine ⟨rfl, ⟨h1, h2, List.replicate n (.int .u8 hh), ys, ?_, by simp, h4, fun _ => rfl, h6⟩, hg⟩
    rwa [List.drop_append_of_le_length (by simp at h3; omega), List.drop_of_length_le (by simp at h3; omega), List.nil_append] at hr'

theorem sign_room (q : Pg) (w : World) (a b : Prop) (h : q.Fit w a b) :
    Calls Try.prog 49 #[.agg #[q.list, .int .u8 q.h, .int .u8 q.f], .bool true] w fun e w' => e = .returned (.tuple #[]) ∧ q.Fit w' a True ∧ w.grownBy w' q.A := by
  obtain ⟨A, n, c, hh, ff⟩ := q
  cases A with
  | none =>
    obtain ⟨rfl, rfl⟩ := h
    refine (sign_nil true hh ff w).mono ?_
    rintro e w' ⟨rfl, hg⟩
    exact ⟨rfl, ⟨rfl, rfl⟩, hg⟩
  | some g =>
    obtain ⟨h1, h2, xs, ys, hr, h3, h4, h5, h6⟩ := h
    refine (sign_true g n c hh ff xs ys w hr h3 h4 h1 h2).mono ?_
    rintro e w' ⟨rfl, hr', hg⟩
    exact ⟨rfl, ⟨h1, h2, xs, _, hr', h3, by simp, h5, fun _ => rfl⟩, hg⟩

theorem own_page (q : Pg) (w : World) (h : q.Fit w True True) :
    Calls Try.prog 48 #[.agg #[q.list, .int .u8 q.h, .int .u8 q.f]] w fun e w' => e = .returned (.bool true) ∧ w.grownBy w' none := by
  obtain ⟨A, n, c, hh, ff⟩ := q
  cases A with
  | none =>
    obtain ⟨rfl, rfl⟩ := h
    exact own_nil hh ff w
  | some g =>
    obtain ⟨h1, h2, xs, ys, hr, h3, h4, h5, h6⟩ := h
    rw [h5 trivial, h6 trivial] at hr
    exact own_true g n c hh ff w hr h1 h2

/-- of all blocks below H only the pages' have been written -/
structure Touched (P : List Pg) (w w' : World) : Prop where
  os : w'.os = w.os
  tape : w'.tape = w.tape
  output : w'.output = w.output
  size : w.heap.size ≤ w'.heap.size
  block : ∀ k, k < w.heap.size → (∀ q ∈ P, q.A ≠ some k) → w'.heap[k]? = w.heap[k]?

theorem Touched.refl (P : List Pg) (w : World) : Touched P w w := ⟨rfl, rfl, rfl, Nat.le_refl _, fun _ _ _ => rfl⟩
theorem Touched.step {P : List Pg} {w a b : World} {r : Option Nat} (h : Touched P w a) (hg : a.grownBy b r) (hr : ∀ g, r = some g → ∃ q ∈ P, q.A = some g) : Touched P w b :=
  ⟨hg.os.trans h.os, hg.tape.trans h.tape, hg.output.trans h.output, Nat.le_trans h.size hg.size, fun k hk hne => by
    rw [hg.block k (Nat.lt_of_lt_of_le hk h.size) (fun e => by obtain ⟨q, hq, e'⟩ := hr k e.symm; exact hne q hq e'), h.block k hk hne]⟩

/-- the book, with its pages, in memory -/
structure BookAt (w : World) (p : Nat) (base : Nat) (A : Option Addr) (c : Nat) (P : List Pg) (ka kb : Nat) : Prop where
  row : Row w p 35 [.slice A P.length c]
  own : w.ownsRow base 60 1 (.slice A P.length c) P.length (P.map Pg.val)
  fit : ∀ i (hi : i < P.length), P[i].Fit w (i < ka) (i < kb)

def Parted (P : List Pg) : Prop := ∀ i j (hi : i < P.length) (hj : j < P.length) g, P[i].A = some g → P[j].A = some g → i = j

theorem row_ne {w : World} {g g' t t' : Nat} {xs ys : List Value} (h : Row w g t xs) (h' : Row w g' t' ys) (hne : t ≠ t') : g ≠ g' := by
  rintro rfl
  have a := h.is
  rw [h'.is] at a
  injection a with a
  injection a with _ a
  exact hne a.symm

theorem Fit_row {w : World} {q : Pg} {a b : Prop} {g : Nat} (h : q.Fit w a b) (hg : q.A = some g) : ∃ xs, Row w g 5 xs := by
  obtain ⟨A, n, c, hh, ff⟩ := q
  cases hg
  obtain ⟨_, _, xs, ys, hr, _⟩ := h
  exact ⟨_, hr⟩

/-- a page is signed: the others stay -/
theorem BookAt.signed {w w' : World} {p base : Nat} {A : Option Addr} {c : Nat} {P : List Pg} {ka kb : Nat} (h : BookAt w p base A c P ka kb) (hP : Parted P) {k : Nat} (hk : k < P.length) {a b : Prop}
    (hf : P[k].Fit w' a b) (hg : w.grownBy w' P[k].A) {ka' kb' : Nat} (h1 : (k < ka') → a) (h2 : (k < kb') → b) (h3 : ∀ i, i ≠ k → (i < ka' → i < ka)) (h4 : ∀ i, i ≠ k → (i < kb' → i < kb)) : BookAt w' p base A c P ka' kb' := by
  have fitk := h.fit k hk
  refine ⟨h.row.grown hg ?_, h.own.kept hg ?_, fun i hi => ?_⟩
  · intro e
    obtain ⟨xs, hr⟩ := Fit_row fitk e.symm
    exact row_ne h.row hr (by decide) rfl
  · cases e : P[k].A with
    | none => cases (Value.slice A P.length c).ownBlock <;> simp
    | some g =>
      obtain ⟨xs, hr⟩ := Fit_row fitk e
      exact .inr (fun e' => own_row_ne h.own hr (by decide) e'.symm)
  · by_cases hik : i = k
    · subst hik
      obtain ⟨⟨A', n', c', hh, ff⟩, hq⟩ : ∃ q, q = P[i] := ⟨_, rfl⟩
      rw [← hq] at hf ⊢
      cases A' with
      | none => exact hf
      | some g =>
        obtain ⟨e1, e2, xs, ys, hr, e3, e4, e5, e6⟩ := hf
        exact ⟨e1, e2, xs, ys, hr, e3, e4, fun x => e5 (h1 x), fun x => e6 (h2 x)⟩
    · have := (h.fit i hi).keep hg (fun g e e' => hik (hP i k hi hk g e e'.symm))
      obtain ⟨⟨A', n', c', hh, ff⟩, hq⟩ : ∃ q, q = P[i] := ⟨_, rfl⟩
      rw [← hq] at this ⊢
      cases A' with
      | none => exact this
      | some g =>
        obtain ⟨e1, e2, xs, ys, hr, e3, e4, e5, e6⟩ := this
        exact ⟨e1, e2, xs, ys, hr, e3, e4, fun x => e5 (h3 i hik x), fun x => e6 (h4 i hik x)⟩

theorem BookAt.page {w : World} {p base : Nat} {A : Option Addr} {c : Nat} {P : List Pg} {ka kb : Nat} (h : BookAt w p base A c P ka kb) {k : Nat} (hk : k < P.length) : ∃ a, A = some a ∧ w.cell? (a.add k) = some P[k].val := by
  have hl := h.own
  obtain ⟨a, u, e, _, hx, hc⟩ := (Sees.of_own hl).at_ hk
  refine ⟨a, e, ?_⟩
  rw [hc]
  rw [List.getElem?_map, List.getElem?_eq_getElem hk] at hx
  exact hx.symm

theorem meth_sign (l h f : Value) (w : World) : (method 180 58 (.agg #[l, h, f]) "ferryhouse/ferryhouselaw01.sign").run Try.prog w = .ok (49, .agg #[l, h, f]) w := by kernel_rfl
theorem meth_own (l h f : Value) (w : World) : (method 180 58 (.agg #[l, h, f]) "ferryhouse/ferryhouselaw01.own").run Try.prog w = .ok (48, .agg #[l, h, f]) w := by kernel_rfl

set_option maxHeartbeats 1000000 in
theorem apart (p base : Nat) (A : Option Addr) (c : Nat) (P : List Pg) (w : World) (h : BookAt w p base A c P 0 0) (hP : Parted P) (hn : P.length ≤ 100) :
    Calls Try.prog 17 #[.pointer (some ⟨p, 0, none⟩)] w fun e w' => e = .returned (.bool true) ∧ Touched P w w' := by
  have c0 : w.cell? ⟨p, 0, none⟩ = some (.slice A P.length c) := h.row.cell 0
  obtain ⟨n, hN⟩ : ∃ n, P.length = n := ⟨_, rfl⟩
  have HN := Lib.hid hN
  rw [hN] at c0
  clear hN
  have H := Lib.hid h
  have hn : n ≤ 100 := by rw [← HN.out]; exact hn
  clear h
  go_enter Try.func17, Try.ntmps17
  go_wp2_with fail
  go_loopw [3] (fun i wr => ∃ k : Nat, k ≤ n ∧ i = .int .i64 k ∧ BookAt wr p base A c P k 0 ∧ Touched P w wr) (fun i _ => n - (intOf i).toNat)
  case atStart => exact ⟨0, Nat.zero_le _, rfl, H.out, Touched.refl _ _⟩
  case round =>
    obtain ⟨k, hk, rfl, hbk, ht⟩ := hrel
    have HB := Lib.hid hbk
    clear c0 H
    have c0 : wr.cell? ⟨p, 0, none⟩ = some (.slice A P.length c) := hbk.row.cell 0
    rw [HN.out] at c0
    by_cases hlt : k < n
    · have hkP : k < P.length := by rw [HN.out]; exact hlt
      obtain ⟨a, rfl, hc⟩ := hbk.page hkP
      simp only [Pg.val] at hc
      have ms := meth_sign
      clear hbk
      go_wp2_with fail
      refine (sign_page P[k] wr _ _ (HB.out.fit k hkP)).mono ?_
      rintro e w2 ⟨rfl, hf, hg⟩
      go_wp2_with fail
      go_roundw
      case rel => exact ⟨k + 1, by omega, by go_num, HB.out.signed hP hkP hf hg (fun _ => trivial) (fun h => h) (fun i hi h => by omega) (fun i _ h => h), ht.step hg (fun g e => ⟨P[k], List.getElem_mem hkP, e⟩)⟩
      case measure => simp [intOf]; omega
    · have hkn : k = n := by omega
      have HB1 : Hid (BookAt wr p base A c P n 0) := by rw [← hkn]; exact HB.out
      clear hbk HB hkn
      go_wp2_with fail
      go_loopw [4] (fun i wr => ∃ k : Nat, k ≤ n ∧ i = .int .i64 k ∧ BookAt wr p base A c P n k ∧ Touched P w wr) (fun i _ => n - (intOf i).toNat)
      case atStart => exact ⟨0, Nat.zero_le _, rfl, HB1.out, ht⟩
      case round =>
        clear c0 HB1 ht
        obtain ⟨k, hk, rfl, hbk, ht⟩ := hrel
        have HB := Lib.hid hbk
        rename World => wr0
        obtain ⟨wr, hwr⟩ : ∃ wr, wr = wr0 := ⟨_, rfl⟩
        subst hwr
        have c0 : wr.cell? ⟨p, 0, none⟩ = some (.slice A P.length c) := hbk.row.cell 0
        rw [HN.out] at c0
        by_cases hlt : k < n
        · have hkP : k < P.length := by rw [HN.out]; exact hlt
          obtain ⟨a, rfl, hc⟩ := hbk.page hkP
          simp only [Pg.val] at hc
          have ms := meth_sign
          clear hbk
          go_wp2_with fail
          refine (sign_room P[k] wr _ _ (HB.out.fit k hkP)).mono ?_
          rintro e w2 ⟨rfl, hf, hg⟩
          go_wp2_with fail
          go_roundw
          case rel => exact ⟨k + 1, by omega, by go_num, HB.out.signed hP hkP hf hg (fun h => h) (fun _ => trivial) (fun i _ h => h) (fun i hi h => by omega), ht.step hg (fun g e => ⟨P[k], List.getElem_mem hkP, e⟩)⟩
          case measure => simp [intOf]; omega
        · have hkn : k = n := by omega
          have HB1 : Hid (BookAt wr p base A c P n n) := by
            have := HB.out
            rw [hkn] at this
            exact this
          clear hbk HB hkn
          go_wp2_with fail
          go_loopw [5] (fun i wr => ∃ k : Nat, k ≤ n ∧ i = .int .i64 k ∧ BookAt wr p base A c P n n ∧ Touched P w wr) (fun i _ => n - (intOf i).toNat)
          case atStart => exact ⟨0, Nat.zero_le _, rfl, HB1.out, ht⟩
          case round =>
            clear c0 HB1 ht
            obtain ⟨k, hk, rfl, hbk, ht⟩ := hrel
            have HB := Lib.hid hbk
            rename World => wr0
            obtain ⟨wr, hwr⟩ : ∃ wr, wr = wr0 := ⟨_, rfl⟩
            subst hwr
            have c0 : wr.cell? ⟨p, 0, none⟩ = some (.slice A P.length c) := hbk.row.cell 0
            rw [HN.out] at c0
            by_cases hlt : k < n
            · have hkP : k < P.length := by rw [HN.out]; exact hlt
              obtain ⟨a, rfl, hc⟩ := hbk.page hkP
              simp only [Pg.val] at hc
              have ms := meth_own
              clear hbk
              go_wp2_with fail
              refine (own_page P[k] wr (by have := HB.out.fit k hkP; simpa [HN.out, hlt] using this)).mono ?_
              rintro e w2 ⟨rfl, hg⟩
              go_wp2_with fail
              go_roundw
              case rel =>
                refine ⟨k + 1, by omega, by go_num, ⟨HB.out.row.grown hg (by simp), HB.out.own.kept hg (by cases (Value.slice (some a) P.length c).ownBlock <;> simp), fun i hi => (HB.out.fit i hi).keep hg (by simp)⟩, ht.step hg (fun g e => by cases e)⟩
              case measure => simp [intOf]; omega
            · clear hbk
              go_wp2_with fail
              go_ret
              exact ⟨rfl, ht⟩

/-- of the blocks below 'base' only p has been written -/
structure ButOne (base p : Nat) (w w' : World) : Prop where
  os : w'.os = w.os
  tape : w'.tape = w.tape
  output : w'.output = w.output
  size : w.heap.size ≤ w'.heap.size
  block : ∀ k, k < base → k ≠ p → w'.heap[k]? = w.heap[k]?

theorem ButOne.refl (base p : Nat) (w : World) : ButOne base p w w := ⟨rfl, rfl, rfl, Nat.le_refl _, fun _ _ _ => rfl⟩
theorem ButOne.trans {base p : Nat} {a b c : World} (h : ButOne base p a b) (k : ButOne base p b c) : ButOne base p a c :=
  ⟨k.os.trans h.os, k.tape.trans h.tape, k.output.trans h.output, Nat.le_trans h.size k.size, fun i hi hp => (k.block i hi hp).trans (h.block i hi hp)⟩
theorem ButOne.below {base p B : Nat} {a b : World} (h : ButOne base p a b) (hB : B ≤ base) (hp : B ≤ p) : Below B a b :=
  ⟨h.os, h.tape, h.output, h.size, fun k hk => h.block k (by omega) (by omega)⟩

/-- a book that is being filled -/
structure Filled (w : World) (p base : Nat) (A : Option Addr) (c : Nat) (n : Nat) (P : List Pg) : Prop where
  len : P.length = n
  row : Row w p 35 [.slice A n c]
  own : w.ownsRow base 60 1 (.slice A n c) n (P.map Pg.val)

/-- Book.Bytes, once more. -/
theorem bookPage (p base : Nat) (A : Option Addr) (c n : Nat) (P : List Pg) (q : Pg) (w : World) (B : Option Addr) (m d : Nat) (h : Filled w p base A c n P) (hn : n ≤ 1000) (hbase : base ≤ w.heap.size)
    (hq : q.list = .slice B m d) (hh : q.h = mark1 (n + 1)) (hf : q.f = mark2 (n + 1)) :
    Calls Try.prog 16 #[.pointer (some ⟨p, 0, none⟩), .slice B m d] w fun e w' => ∃ A' c', e = .returned (.tuple #[]) ∧ Filled w' p base A' c' (n + 1) (P ++ [q]) ∧ ButOne base p w w' := by
  refine (bookBytes p A B n c m d (P.map Pg.val) base w h.row h.own hn hbase).mono ?_
  rintro e w' ⟨A', c', rfl, hr, ho, hb, h1, h2, h3, h4⟩
  refine ⟨A', c', rfl, ⟨by simp [h.len], hr, ?_⟩, ⟨h1, h2, h3, h4, hb⟩⟩
  rw [← hh, ← hf, ← hq] at ho
  simpa [Pg.val] using ho

theorem Touched.below {P : List Pg} {w w' : World} {B : Nat} (h : Touched P w w') (hB : B ≤ w.heap.size) (hp : ∀ q ∈ P, ∀ g, q.A = some g → B ≤ g) : Below B w w' :=
  ⟨h.os, h.tape, h.output, h.size, fun k hk => h.block k (by omega) fun q hq e => by have := hp q hq k e; omega⟩

theorem fit_start {w : World} {g n c : Nat} {h f : Int} {xs : List Value} {a b : Prop} (hr : Row w g 5 xs) (hl : xs.length = c) (hn : n ≤ c) (hc : c ≤ 1099511627776) (ha : ¬ a) (hb : ¬ b) : Pg.Fit w ⟨some g, n, c, h, f⟩ a b :=
  ⟨hn, hc, xs.take n, xs.drop n, by rwa [List.take_append_drop], by simp; omega, by simp; omega, fun x => absurd x ha, fun x => absurd x hb⟩

theorem fit_nil {w : World} {h f : Int} {a b : Prop} : Pg.Fit w ⟨none, 0, 0, h, f⟩ a b := ⟨rfl, rfl⟩

theorem parted_of : ∀ {P : List Pg}, (P.filterMap Pg.A).Nodup → Parted P
  | [], _ => fun i _ hi => absurd hi (by simp)
  | q :: r, h => by
    have hr : Parted r := parted_of (by
      rw [List.filterMap_cons] at h
      split at h
      · exact h
      · exact (List.nodup_cons.1 h).2)
    have hq : ∀ g j (hj : j < r.length), q.A = some g → r[j].A ≠ some g := fun g j hj e e' => by
      rw [List.filterMap_cons, e] at h
      exact (List.nodup_cons.1 h).1 (List.mem_filterMap.2 ⟨r[j], List.getElem_mem hj, e'⟩)
    intro i j hi hj g e e'
    cases i with
    | zero =>
      cases j with
      | zero => rfl
      | succ j => exact absurd e' (hq g j (by simpa using hj) e)
    | succ i =>
      cases j with
      | zero => exact absurd e (hq g i (by simpa using hi) e')
      | succ j => exact congrArg (· + 1) (hr i j (by simpa using hi) (by simpa using hj) g e e')

theorem Row.butOne {w w' : World} {g t base p : Nat} {xs : List Value} (h : Row w g t xs) (hb : ButOne base p w w') (hg : g < base) (hp : g ≠ p) : Row w' g t xs := ⟨(hb.block g hg hp).trans h.is⟩
end Go.Proofs.Ythpjanfpmmjheaa
