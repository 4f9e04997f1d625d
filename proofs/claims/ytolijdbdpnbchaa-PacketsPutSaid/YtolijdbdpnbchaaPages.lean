/-
  A book's pages, of bytes and of keys: signed, they are found apart.
-/
import Derived.Test.YtolijdbdpnbchaaBookK
import Derived.Test.YtolijdbdpnbchaaBookS
namespace Go.Proofs.Ytolijdbdpnbchaa
open Go.RowKit
set_option linter.unusedVariables false

/-- a page's kind -/
inductive Kd where
  | b
  | k
  | s
/-- a page's kind, with its two signs -/
inductive Sg where
  | b (h f : Int)
  | k (h f : List Int)
  | s (h f : List Int)

def Sg.et : Sg → TypeId
  | .b _ _ => 5
  | .k _ _ => 58
  | .s _ _ => 62
def Sg.sz : Sg → Nat
  | .b _ _ => 1
  | .k _ _ => 32
  | .s _ _ => 64
def Sg.here : Sg → Nat → List Value
  | .b h _, n => List.replicate n (.int .u8 h)
  | .k h _, n => keyRow n h
  | .s h _, n => keyRow n h
def Sg.far : Sg → Nat → List Value
  | .b _ f, n => List.replicate n (.int .u8 f)
  | .k _ f, n => keyRow n f
  | .s _ f, n => keyRow n f
def Sg.pay : Sg → Value → Value
  | .b h f, l => .agg #[l, .int .u8 h, .int .u8 f]
  | .k h f, l => .agg (sheetCells l h f).toArray
  | .s h f, l => .agg (sheetCells l h f).toArray
def Sg.ty : Sg → TypeId
  | .b _ _ => 73
  | .k _ _ => 112
  | .s _ _ => 99
def Sg.Wf : Sg → Prop
  | .b _ _ => True
  | .k h f => h.length = 32 ∧ f.length = 32
  | .s h f => h.length = 64 ∧ f.length = 64
def Sg.signFn : Sg → FuncId
  | .b _ _ => 100
  | .k _ _ => 104
  | .s _ _ => 102
def Sg.ownFn : Sg → FuncId
  | .b _ _ => 99
  | .k _ _ => 103
  | .s _ _ => 101

/-- a page: where its list lies, how long it is, its room, its kind -/
structure Pg2 where
  A : Option Nat
  n : Nat
  c : Nat
  s : Sg

def Pg2.list (p : Pg2) : Value := .slice (p.A.map fun g => ⟨g, 0, none⟩) p.n p.c
def Pg2.val (p : Pg2) : Value := .iface p.s.ty (p.s.pay p.list)

/-- the page's list lies in memory; a: its cells bear its sign; b: its room bears its other one -/
def Pg2.Fit (w : World) (q : Pg2) (a b : Prop) : Prop :=
  match q.A with
  | none => q.n = 0 ∧ q.c = 0
  | some g => q.n ≤ q.c ∧ q.c ≤ 9223372036854775807 ∧ ∃ xs ys zs, Row w g q.s.et (xs ++ (ys ++ zs)) ∧ xs.length = q.n * q.s.sz ∧ ys.length = (q.c - q.n) * q.s.sz ∧ (q.s.sz ≠ 1 → zs = []) ∧ (a → xs = q.s.here q.n) ∧ (b → ys = q.s.far (q.c - q.n))

theorem Pg2.Fit.keep {w w' : World} {q : Pg2} {a b : Prop} {r : Option Nat} (h : q.Fit w a b) (hg : w.grownBy w' r) (hne : ∀ g, q.A = some g → some g ≠ r) : q.Fit w' a b := by
  obtain ⟨A, n, c, s⟩ := q
  cases A with
  | none => exact h
  | some g =>
    obtain ⟨h1, h2, xs, ys, zs, hr, h3⟩ := h
    exact ⟨h1, h2, xs, ys, zs, hr.grown hg (hne g rfl), h3⟩

set_option maxHeartbeats 400000 in
theorem sign_nil (b : Bool) (h f : Int) (w : World) :
    Calls Try.prog 100 #[.agg #[.slice none 0 0, .int .u8 h, .int .u8 f], .bool b] w fun e w' => e = .returned (.tuple #[]) ∧ w.grownBy w' none := by
  have G0 := World.grownBy_alloc w (.cells #[Value.slice none 0 0, .int .u8 h, .int .u8 f] 73) none
  cases b
  · go_enter Try.func100, Try.ntmps100
    go_wp2
    go_loop [4] (fun i => i = .int .i64 0) (fun _ => 0)
    case atStart => rfl
    case round =>
      subst hrel
      go_wp2
      refine bodyPost_ret (results_none rfl _ _ _) rfl ?_
      exact ⟨rfl, G0⟩
  · go_enter Try.func100, Try.ntmps100
    go_wp2
    go_loop [6] (fun i => i = .int .i64 0) (fun _ => 0)
    case atStart => rfl
    case round =>
      subst hrel
      go_wp2
      go_end0
      exact ⟨rfl, G0⟩

set_option maxHeartbeats 400000 in
theorem own_nil (h f : Int) (w : World) :
    Calls Try.prog 99 #[.agg #[.slice none 0 0, .int .u8 h, .int .u8 f]] w fun e w' => e = .returned (.bool true) ∧ w.grownBy w' none := by
  have G0 := World.grownBy_alloc w (.cells #[Value.slice none 0 0, .int .u8 h, .int .u8 f] 73) none
  go_enter Try.func99, Try.ntmps99
  go_wp2
  go_loop [3] (fun i => i = .int .i64 0) (fun _ => 0)
  case atStart => rfl
  case round =>
    subst hrel
    go_wp2
    go_loop [5] (fun i => i = .int .i64 0) (fun _ => 0)
    case atStart => rfl
    case round =>
      subst hrel
      go_wp2
      go_ret
      exact ⟨rfl, G0⟩

theorem sign_page2 (q : Pg2) (w : World) (a b : Prop) (h : q.Fit w a b) (hs : q.s.Wf) :
    Calls Try.prog q.s.signFn #[q.s.pay q.list, .bool false] w fun e w' => e = .returned (.tuple #[]) ∧ q.Fit w' True b ∧ w.grownBy w' q.A := by
  obtain ⟨A, n, c, s⟩ := q
  cases A with
  | none =>
    obtain ⟨rfl, rfl⟩ := h
    cases s with
    | b hh ff =>
      refine (sign_nil false hh ff w).mono ?_
      rintro e w' ⟨rfl, hg⟩
      exact ⟨rfl, ⟨rfl, rfl⟩, hg⟩
    | k hh ff =>
      refine (signK_nil false hh ff w).mono ?_
      rintro e w' ⟨rfl, hg⟩
      exact ⟨rfl, ⟨rfl, rfl⟩, hg⟩
    | s hh ff =>
      refine (signS_nil false hh ff w).mono ?_
      rintro e w' ⟨rfl, hg⟩
      exact ⟨rfl, ⟨rfl, rfl⟩, hg⟩
  | some g =>
    obtain ⟨h1, h2, xs, ys, zs, hr, h3, h4, hz, h5, h6⟩ := h
    have h1 : n ≤ c := h1
    cases s with
    | b hh ff =>
      simp only [Sg.sz, Nat.mul_one] at h3 h4
      refine (signB_false g n c hh ff (xs ++ (ys ++ zs)) w hr (by simp; omega) h1 h2).mono ?_
      rintro e w' ⟨rfl, hr', hg⟩
      refine ⟨rfl, ⟨h1, h2, List.replicate n (.int .u8 hh), ys, zs, ?_, by simp [Sg.sz], by simpa [Sg.sz] using h4, hz, fun _ => rfl, h6⟩, hg⟩
      rwa [List.drop_append_of_le_length (by omega), List.drop_of_length_le (by omega), List.nil_append] at hr'
    | k hh ff =>
      obtain rfl := hz (by show (32 : Nat) ≠ 1; omega)
      rw [List.append_nil] at hr
      have h3' : xs.length = n * 32 := h3
      have h4' : ys.length = (c - n) * 32 := h4
      refine (signK_false g n c hh ff (xs ++ ys) w hr (by rw [List.length_append]; omega) h1 h2 hs.1 hs.2).mono ?_
      rintro e w' ⟨rfl, hr', hg⟩
      refine ⟨rfl, ⟨h1, h2, keyRow n hh, ys, [], ?_, keyRow_len n hs.1, h4, fun _ => rfl, fun _ => rfl, h6⟩, hg⟩
      rw [List.append_nil]
      rwa [List.drop_append_of_le_length (by omega), List.drop_of_length_le (by omega), List.nil_append] at hr'
    | s hh ff =>
      obtain rfl := hz (by show (64 : Nat) ≠ 1; omega)
      rw [List.append_nil] at hr
      have h3' : xs.length = n * 64 := h3
      have h4' : ys.length = (c - n) * 64 := h4
      refine (signS_false g n c hh ff (xs ++ ys) w hr (by rw [List.length_append]; omega) h1 h2 hs.1 hs.2).mono ?_
      rintro e w' ⟨rfl, hr', hg⟩
      refine ⟨rfl, ⟨h1, h2, keyRow n hh, ys, [], ?_, sigRow_len n hs.1, h4, fun _ => rfl, fun _ => rfl, h6⟩, hg⟩
      rw [List.append_nil]
      rwa [List.drop_append_of_le_length (by omega), List.drop_of_length_le (by omega), List.nil_append] at hr'

theorem sign_room2 (q : Pg2) (w : World) (a b : Prop) (h : q.Fit w a b) (hs : q.s.Wf) :
    Calls Try.prog q.s.signFn #[q.s.pay q.list, .bool true] w fun e w' => e = .returned (.tuple #[]) ∧ q.Fit w' a True ∧ w.grownBy w' q.A := by
  obtain ⟨A, n, c, s⟩ := q
  cases A with
  | none =>
    obtain ⟨rfl, rfl⟩ := h
    cases s with
    | b hh ff =>
      refine (sign_nil true hh ff w).mono ?_
      rintro e w' ⟨rfl, hg⟩
      exact ⟨rfl, ⟨rfl, rfl⟩, hg⟩
    | k hh ff =>
      refine (signK_nil true hh ff w).mono ?_
      rintro e w' ⟨rfl, hg⟩
      exact ⟨rfl, ⟨rfl, rfl⟩, hg⟩
    | s hh ff =>
      refine (signS_nil true hh ff w).mono ?_
      rintro e w' ⟨rfl, hg⟩
      exact ⟨rfl, ⟨rfl, rfl⟩, hg⟩
  | some g =>
    obtain ⟨h1, h2, xs, ys, zs, hr, h3, h4, hz, h5, h6⟩ := h
    have h1 : n ≤ c := h1
    cases s with
    | b hh ff =>
      simp only [Sg.sz, Nat.mul_one] at h3 h4
      refine (signB_true g n c hh ff xs (ys ++ zs) w hr h3 (by simp; omega) h1 h2).mono ?_
      rintro e w' ⟨rfl, hr', hg⟩
      rw [List.drop_append_of_le_length (by omega), List.drop_of_length_le (by omega), List.nil_append] at hr'
      exact ⟨rfl, ⟨h1, h2, xs, _, zs, hr', by simpa [Sg.sz] using h3, by simp [Sg.sz], hz, h5, fun _ => rfl⟩, hg⟩
    | k hh ff =>
      obtain rfl := hz (by show (32 : Nat) ≠ 1; omega)
      rw [List.append_nil] at hr
      refine (signK_true g n c hh ff xs ys w hr h3 h4 h1 h2 hs.1 hs.2).mono ?_
      rintro e w' ⟨rfl, hr', hg⟩
      exact ⟨rfl, ⟨h1, h2, xs, _, [], by rwa [List.append_nil], h3, keyRow_len _ hs.2, fun _ => rfl, h5, fun _ => rfl⟩, hg⟩
    | s hh ff =>
      obtain rfl := hz (by show (64 : Nat) ≠ 1; omega)
      rw [List.append_nil] at hr
      refine (signS_true g n c hh ff xs ys w hr h3 h4 h1 h2 hs.1 hs.2).mono ?_
      rintro e w' ⟨rfl, hr', hg⟩
      exact ⟨rfl, ⟨h1, h2, xs, _, [], by rwa [List.append_nil], h3, sigRow_len _ hs.2, fun _ => rfl, h5, fun _ => rfl⟩, hg⟩

theorem own_page2 (q : Pg2) (w : World) (h : q.Fit w True True) (hs : q.s.Wf) :
    Calls Try.prog q.s.ownFn #[q.s.pay q.list] w fun e w' => e = .returned (.bool true) ∧ w.grownBy w' none := by
  obtain ⟨A, n, c, s⟩ := q
  cases A with
  | none =>
    obtain ⟨rfl, rfl⟩ := h
    cases s with
    | b hh ff => exact own_nil hh ff w
    | k hh ff => exact ownK_nil hh ff w
    | s hh ff => exact ownS_nil hh ff w
  | some g =>
    obtain ⟨h1, h2, xs, ys, zs, hr, h3, h4, hz, h5, h6⟩ := h
    rw [h5 trivial, h6 trivial] at hr
    cases s with
    | b hh ff => exact ownB_true g n c hh ff zs w hr h1 h2
    | k hh ff =>
      obtain rfl := hz (by show (32 : Nat) ≠ 1; omega)
      rw [List.append_nil] at hr
      exact ownK_true g n c hh ff w hr h1 h2 hs.1 hs.2
    | s hh ff =>
      obtain rfl := hz (by show (64 : Nat) ≠ 1; omega)
      rw [List.append_nil] at hr
      exact ownS_true g n c hh ff w hr h1 h2 hs.1 hs.2

/-- of the blocks of w only the pages' have been written -/
structure Touched (P : List Pg2) (w w' : World) : Prop where
  os : w'.os = w.os
  tape : w'.tape = w.tape
  output : w'.output = w.output
  size : w.heap.size ≤ w'.heap.size
  block : ∀ k, k < w.heap.size → (∀ q ∈ P, q.A ≠ some k) → w'.heap[k]? = w.heap[k]?

theorem Touched.refl (P : List Pg2) (w : World) : Touched P w w := ⟨rfl, rfl, rfl, Nat.le_refl _, fun _ _ _ => rfl⟩
theorem Touched.step {P : List Pg2} {w a b : World} {r : Option Nat} (h : Touched P w a) (hg : a.grownBy b r) (hr : ∀ g, r = some g → ∃ q ∈ P, q.A = some g) : Touched P w b :=
  ⟨hg.os.trans h.os, hg.tape.trans h.tape, hg.output.trans h.output, Nat.le_trans h.size hg.size, fun k hk hne => by
    rw [hg.block k (Nat.lt_of_lt_of_le hk h.size) (fun e => by obtain ⟨q, hq, e'⟩ := hr k e.symm; exact hne q hq e'), h.block k hk hne]⟩
theorem Touched.below {P : List Pg2} {w w' : World} {B : Nat} (h : Touched P w w') (hB : B ≤ w.heap.size) (hp : ∀ q ∈ P, ∀ g, q.A = some g → B ≤ g) : Below B w w' :=
  ⟨h.os, h.tape, h.output, h.size, fun k hk => h.block k (by omega) fun q hq e => by have := hp q hq k e; omega⟩

/-- the book, with its pages, in memory -/
structure BookAt (w : World) (p : Nat) (base : Nat) (A : Option Addr) (c : Nat) (P : List Pg2) (ka kb : Nat) : Prop where
  row : Row w p 45 [.slice A P.length c]
  own : w.ownsRow base 75 1 (.slice A P.length c) P.length (P.map Pg2.val)
  fit : ∀ i (hi : i < P.length), P[i].Fit w (i < ka) (i < kb)

def Parted (P : List Pg2) : Prop := ∀ i j (hi : i < P.length) (hj : j < P.length) g, P[i].A = some g → P[j].A = some g → i = j

theorem row_ne {w : World} {g g' t t' : Nat} {xs ys : List Value} (h : Row w g t xs) (h' : Row w g' t' ys) (hne : t ≠ t') : g ≠ g' := by
  rintro rfl
  have a := h.is
  rw [h'.is] at a
  injection a with a
  injection a with _ a
  exact hne a.symm

theorem Fit_row {w : World} {q : Pg2} {a b : Prop} {g : Nat} (h : q.Fit w a b) (hg : q.A = some g) : ∃ xs, Row w g q.s.et xs := by
  obtain ⟨A, n, c, s⟩ := q
  cases hg
  obtain ⟨_, _, xs, ys, zs, hr, _⟩ := h
  exact ⟨_, hr⟩
theorem et_book (s : Sg) : 45 ≠ s.et := by
  cases s with
  | b => exact (by decide : (45 : Nat) ≠ 5)
  | k => exact (by decide : (45 : Nat) ≠ 58)
  | s => exact (by decide : (45 : Nat) ≠ 62)
theorem et_page (s : Sg) : 75 ≠ s.et := by
  cases s with
  | b => exact (by decide : (75 : Nat) ≠ 5)
  | k => exact (by decide : (75 : Nat) ≠ 58)
  | s => exact (by decide : (75 : Nat) ≠ 62)

/-- a page is signed: the others stay -/
theorem BookAt.signed {w w' : World} {p base : Nat} {A : Option Addr} {c : Nat} {P : List Pg2} {ka kb : Nat} (h : BookAt w p base A c P ka kb) (hP : Parted P) {k : Nat} (hk : k < P.length) {a b : Prop}
    (hf : P[k].Fit w' a b) (hg : w.grownBy w' P[k].A) {ka' kb' : Nat} (h1 : (k < ka') → a) (h2 : (k < kb') → b) (h3 : ∀ i, i ≠ k → (i < ka' → i < ka)) (h4 : ∀ i, i ≠ k → (i < kb' → i < kb)) : BookAt w' p base A c P ka' kb' := by
  have fitk := h.fit k hk
  refine ⟨h.row.grown hg ?_, h.own.kept hg ?_, fun i hi => ?_⟩
  · intro e
    obtain ⟨xs, hr⟩ := Fit_row fitk e.symm
    exact row_ne h.row hr (et_book _) rfl
  · cases e : P[k].A with
    | none => cases (Value.slice A P.length c).ownBlock <;> simp
    | some g =>
      obtain ⟨xs, hr⟩ := Fit_row fitk e
      exact .inr (fun e' => own_row_ne h.own hr (et_page _) e'.symm)
  · by_cases hik : i = k
    · subst hik
      obtain ⟨⟨A', n', c', s'⟩, hq⟩ : ∃ q, q = P[i] := ⟨_, rfl⟩
      rw [← hq] at hf ⊢
      cases A' with
      | none => exact hf
      | some g =>
        obtain ⟨e1, e2, xs, ys, zs, hr, e3, e4, ez, e5, e6⟩ := hf
        exact ⟨e1, e2, xs, ys, zs, hr, e3, e4, ez, fun x => e5 (h1 x), fun x => e6 (h2 x)⟩
    · have := (h.fit i hi).keep hg (fun g e e' => hik (hP i k hi hk g e e'.symm))
      obtain ⟨⟨A', n', c', s'⟩, hq⟩ : ∃ q, q = P[i] := ⟨_, rfl⟩
      rw [← hq] at this ⊢
      cases A' with
      | none => exact this
      | some g =>
        obtain ⟨e1, e2, xs, ys, zs, hr, e3, e4, ez, e5, e6⟩ := this
        exact ⟨e1, e2, xs, ys, zs, hr, e3, e4, ez, fun x => e5 (h3 i hik x), fun x => e6 (h4 i hik x)⟩

theorem BookAt.page {w : World} {p base : Nat} {A : Option Addr} {c : Nat} {P : List Pg2} {ka kb : Nat} (h : BookAt w p base A c P ka kb) {k : Nat} (hk : k < P.length) : ∃ a, A = some a ∧ w.cell? (a.add k) = some P[k].val := by
  have hl := h.own
  obtain ⟨a, u, e, _, hx, hc⟩ := (Sees.of_own hl).at_ hk
  refine ⟨a, e, ?_⟩
  rw [hc]
  rw [List.getElem?_map, List.getElem?_eq_getElem hk] at hx
  exact hx.symm

theorem meth_signB (l h f : Value) (w : World) : (method 242 73 (.agg #[l, h, f]) "ferryhouse/ferryhouselaw01.sign").run Try.prog w = .ok (100, .agg #[l, h, f]) w := by kernel_rfl
theorem meth_ownB (l h f : Value) (w : World) : (method 242 73 (.agg #[l, h, f]) "ferryhouse/ferryhouselaw01.own").run Try.prog w = .ok (99, .agg #[l, h, f]) w := by kernel_rfl
theorem meth_signK (v : Array Value) (w : World) : (method 242 112 (.agg v) "ferryhouse/ferryhouselaw01.sign").run Try.prog w = .ok (104, .agg v) w := by kernel_rfl
theorem meth_signS (v : Array Value) (w : World) : (method 242 99 (.agg v) "ferryhouse/ferryhouselaw01.sign").run Try.prog w = .ok (102, .agg v) w := by kernel_rfl
theorem meth_ownK (v : Array Value) (w : World) : (method 242 112 (.agg v) "ferryhouse/ferryhouselaw01.own").run Try.prog w = .ok (103, .agg v) w := by kernel_rfl
theorem meth_ownS (v : Array Value) (w : World) : (method 242 99 (.agg v) "ferryhouse/ferryhouselaw01.own").run Try.prog w = .ok (101, .agg v) w := by kernel_rfl
theorem meth_sign (s : Sg) (l : Value) (w : World) : (method 242 s.ty (s.pay l) "ferryhouse/ferryhouselaw01.sign").run Try.prog w = .ok (s.signFn, s.pay l) w := by
  cases s with
  | b h f => exact meth_signB _ _ _ w
  | k h f => exact meth_signK _ w
  | s h f => exact meth_signS _ w
theorem meth_own (s : Sg) (l : Value) (w : World) : (method 242 s.ty (s.pay l) "ferryhouse/ferryhouselaw01.own").run Try.prog w = .ok (s.ownFn, s.pay l) w := by
  cases s with
  | b h f => exact meth_ownB _ _ _ w
  | k h f => exact meth_ownK _ w
  | s h f => exact meth_ownS _ w

theorem call_sign (s : Sg) (args : Array Value) (w : World) : (callFunc s.signFn args).run Try.prog w = .ok (.enter s.signFn args) w := by
  cases s with
  | b => exact (by kernel_rfl : (callFunc 100 args).run Try.prog w = .ok (.enter 100 args) w)
  | k => exact (by kernel_rfl : (callFunc 104 args).run Try.prog w = .ok (.enter 104 args) w)
  | s => exact (by kernel_rfl : (callFunc 102 args).run Try.prog w = .ok (.enter 102 args) w)
theorem call_own (s : Sg) (args : Array Value) (w : World) : (callFunc s.ownFn args).run Try.prog w = .ok (.enter s.ownFn args) w := by
  cases s with
  | b => exact (by kernel_rfl : (callFunc 99 args).run Try.prog w = .ok (.enter 99 args) w)
  | k => exact (by kernel_rfl : (callFunc 103 args).run Try.prog w = .ok (.enter 103 args) w)
  | s => exact (by kernel_rfl : (callFunc 101 args).run Try.prog w = .ok (.enter 101 args) w)
theorem pay_agg (s : Sg) (l : Value) : ∃ v, s.pay l = .agg v := by
  cases s with
  | b => exact ⟨_, rfl⟩
  | k => exact ⟨_, rfl⟩
  | s => exact ⟨_, rfl⟩

set_option maxRecDepth 100000 in
set_option maxHeartbeats 1000000 in
theorem apart_many (p : Nat) (A : Option Addr) (n c : Nat) (w : World) (h : Row w p 45 [.slice A n c]) (hn : 120 < n) :
    Calls Try.prog 17 #[.pointer (some ⟨p, 0, none⟩)] w fun e w' => e = .returned (.bool true) ∧ w = w' := by
  have c0 : w.cell? ⟨p, 0, none⟩ = some (.slice A n c) := h.cell 0
  clear h
  go_enter Try.func17, Try.ntmps17
  go_wp2_with fail
  go_ret
  exact ⟨rfl, rfl⟩

set_option maxRecDepth 100000 in
set_option maxHeartbeats 2000000 in
theorem apart (p base : Nat) (A : Option Addr) (c : Nat) (P : List Pg2) (w : World) (h : BookAt w p base A c P 0 0) (hP : Parted P) (hW : ∀ q ∈ P, q.s.Wf) (hn : P.length ≤ 120) :
    Calls Try.prog 17 #[.pointer (some ⟨p, 0, none⟩)] w fun e w' => e = .returned (.bool true) ∧ Touched P w w' := by
  have c0 : w.cell? ⟨p, 0, none⟩ = some (.slice A P.length c) := h.row.cell 0
  obtain ⟨n, hN⟩ : ∃ n, P.length = n := ⟨_, rfl⟩
  have HN := Lib.hid hN
  rw [hN] at c0
  clear hN
  have H := Lib.hid h
  have HW := Lib.hid hW
  have hn : n ≤ 120 := by rw [← HN.out]; exact hn
  clear h hW
  go_enter Try.func17, Try.ntmps17
  go_wp2_with fail
  go_loopw [3] (fun i wr => ∃ k : Nat, k ≤ n ∧ i = .int .i64 k ∧ BookAt wr p base A c P k 0 ∧ Touched P w wr) (fun i _ => n - (intOf i).toNat)
  case atStart => exact ⟨0, Nat.zero_le _, rfl, H.out, Touched.refl _ _⟩
  case round =>
    obtain ⟨k, hk, rfl, hbk, ht⟩ := hrel
    have HB := Lib.hid hbk
    clear c0 H
    have c0 : wr.cell? ⟨p, 0, none⟩ = some (.slice A P.length c) := hbk.row.cell 0
    rw [HN.out] at c0
    by_cases hlt : k < n
    · have hkP : k < P.length := by rw [HN.out]; exact hlt
      obtain ⟨a, rfl, hc⟩ := hbk.page hkP
      have HC := Lib.hid (sign_page2 P[k] wr _ _ (HB.out.fit k hkP) (HW.out _ (List.getElem_mem hkP)))
      have ms := meth_sign P[k].s P[k].list
      have cf := call_sign P[k].s
      simp only [Pg2.val] at hc
      clear hbk
      generalize P[k].s.ty = T at *
      generalize P[k].s.pay P[k].list = V at *
      generalize P[k].s.signFn = FN at *
      go_wp2_with fail
      refine HC.out.mono ?_
      rintro e w2 ⟨rfl, hf, hg⟩
      go_wp2_with fail
      go_roundw
      case rel => exact ⟨k + 1, by omega, by go_num, HB.out.signed hP hkP hf hg (fun _ => trivial) (fun h => h) (fun i hi h => by omega) (fun i _ h => h), ht.step hg (fun g e => ⟨P[k], List.getElem_mem hkP, e⟩)⟩
      case measure => simp [intOf]; omega
    · have hkn : k = n := by omega
      have HB1 : Hid (BookAt wr p base A c P n 0) := by rw [← hkn]; exact HB.out
      clear hbk HB hkn
      go_wp2_with fail
      go_loopw [4] (fun i wr => ∃ k : Nat, k ≤ n ∧ i = .int .i64 k ∧ BookAt wr p base A c P n k ∧ Touched P w wr) (fun i _ => n - (intOf i).toNat)
      case atStart => exact ⟨0, Nat.zero_le _, rfl, HB1.out, ht⟩
      case round =>
        clear c0 HB1 ht
        obtain ⟨k, hk, rfl, hbk, ht⟩ := hrel
        have HB := Lib.hid hbk
        rename World => wr0
        obtain ⟨wr, hwr⟩ : ∃ wr, wr = wr0 := ⟨_, rfl⟩
        subst hwr
        have c0 : wr.cell? ⟨p, 0, none⟩ = some (.slice A P.length c) := hbk.row.cell 0
        rw [HN.out] at c0
        by_cases hlt : k < n
        · have hkP : k < P.length := by rw [HN.out]; exact hlt
          obtain ⟨a, rfl, hc⟩ := hbk.page hkP
          have HC := Lib.hid (sign_room2 P[k] wr _ _ (HB.out.fit k hkP) (HW.out _ (List.getElem_mem hkP)))
          have ms := meth_sign P[k].s P[k].list
          have cf := call_sign P[k].s
          simp only [Pg2.val] at hc
          clear hbk
          generalize P[k].s.ty = T at *
          generalize P[k].s.pay P[k].list = V at *
          generalize P[k].s.signFn = FN at *
          go_wp2_with fail
          refine HC.out.mono ?_
          rintro e w2 ⟨rfl, hf, hg⟩
          go_wp2_with fail
          go_roundw
          case rel => exact ⟨k + 1, by omega, by go_num, HB.out.signed hP hkP hf hg (fun h => h) (fun _ => trivial) (fun i _ h => h) (fun i hi h => by omega), ht.step hg (fun g e => ⟨P[k], List.getElem_mem hkP, e⟩)⟩
          case measure => simp [intOf]; omega
        · have hkn : k = n := by omega
          have HB1 : Hid (BookAt wr p base A c P n n) := by
            have := HB.out
            rw [hkn] at this
            exact this
          clear hbk HB hkn
          go_wp2_with fail
          go_loopw [5] (fun i wr => ∃ k : Nat, k ≤ n ∧ i = .int .i64 k ∧ BookAt wr p base A c P n n ∧ Touched P w wr) (fun i _ => n - (intOf i).toNat)
          case atStart => exact ⟨0, Nat.zero_le _, rfl, HB1.out, ht⟩
          case round =>
            clear c0 HB1 ht
            obtain ⟨k, hk, rfl, hbk, ht⟩ := hrel
            have HB := Lib.hid hbk
            rename World => wr0
            obtain ⟨wr, hwr⟩ : ∃ wr, wr = wr0 := ⟨_, rfl⟩
            subst hwr
            have c0 : wr.cell? ⟨p, 0, none⟩ = some (.slice A P.length c) := hbk.row.cell 0
            rw [HN.out] at c0
            by_cases hlt : k < n
            · have hkP : k < P.length := by rw [HN.out]; exact hlt
              obtain ⟨a, rfl, hc⟩ := hbk.page hkP
              have HC := Lib.hid (own_page2 P[k] wr (by have := HB.out.fit k hkP; simpa [HN.out, hlt] using this) (HW.out _ (List.getElem_mem hkP)))
              have ms := meth_own P[k].s P[k].list
              have cf := call_own P[k].s
              simp only [Pg2.val] at hc
              clear hbk
              generalize P[k].s.ty = T at *
              generalize P[k].s.pay P[k].list = V at *
              generalize P[k].s.ownFn = FN at *
              go_wp2_with fail
              refine HC.out.mono ?_
              rintro e w2 ⟨rfl, hg⟩
              go_wp2_with fail
              go_roundw
              case rel =>
                refine ⟨k + 1, by omega, by go_num, ⟨HB.out.row.grown hg (by simp), HB.out.own.kept hg (by cases (Value.slice (some a) P.length c).ownBlock <;> simp), fun i hi => (HB.out.fit i hi).keep hg (by simp)⟩, ht.step hg (fun g e => by cases e)⟩
              case measure => simp [intOf]; omega
            · clear hbk
              go_wp2_with fail
              go_ret
              exact ⟨rfl, ht⟩
end Go.Proofs.Ytolijdbdpnbchaa
