/-
  Parts joined: Pages BookGen TwinMsg Strays Example AppendN MoreWalk OtherMem Rec12 Accs14 RefGetN.
-/
import Derived.Below
import Derived.Laws.OwnMore
import Derived.Deep.AppendLies
import Derived.Deep.Draws
import Derived.Lib.Hide
import Derived.Laws.MakeOwn
import Derived.Laws.CopyOwn
import Derived.Laws.Rows
import Derived.Laws.BitsAllLaws
import Derived.WalkKit
import Derived.Test.YtodoaebpkmhhmaaRows
import Derived.WalkSpells
import Derived.WalkLawsBesides
import Derived.IntWalk
import Derived.Deep.MidRow
import Derived.Deep.WholeRow
import Derived.Maps.AppendAt
import Derived.OwnWalk
import Derived.Great.BuildSlice
import Derived.Recover
import Derived.Deep.RegionHeld
import Derived.Deep.QuietTactic
import Derived.BigQuiet
import Derived.ChangeKeysEq
import Derived.ProofKit
import Derived.OpenShut
import Derived.ShutString
import Derived.ChangeOld
import Derived.Lib.SmallJoins
import Derived.Deep.Slices
import Derived.Deep.Strs
import Derived.SizedLaws
import Derived.Deep.RegionHeld2
import Derived.Deep.CutBlock
import Derived.Laws.Tables
import Derived.Laws.StructEq
import Derived.Laws.Slices
import Derived.Deep.DeepCutAuto
import Derived.Laws.EntriesVeiled
import Derived.Deep.RegionHeld3
import Derived.Maps.OwnSet
import Derived.DeepKeys4
import Derived.WideKeyArr
import Derived.WideKeyEntry
import Derived.WalkMore
import Derived.Test.YtodoaebpkmhhmaaA1
import Derived.Test.YtodoaebpkmhhmaaA2
/-
  Of part Pages: what is needed here.
-/
namespace Go.Proofs.Ytodoaebpkmhhmaa
open Go.RowKit
set_option linter.unusedVariables false
set_option maxRecDepth 100000
/-- a page's kind -/
inductive Kd where
  | ac
/-- a page's kind, with its two signs -/
inductive Sg where
  | ac (h f : List Value)
def Sg.et : Sg → TypeId
  | .ac _ _ => 48
def Sg.sz : Sg → Nat
  | .ac _ _ => 34
def Sg.here : Sg → Nat → List Value
  | .ac h _, n => rowOf n h
def Sg.far : Sg → Nat → List Value
  | .ac _ f, n => rowOf n f
def Sg.pay : Sg → Value → Value
  | .ac h f, l => .agg (sheetC l h f).toArray
def Sg.ty : Sg → TypeId
  | .ac _ _ => 87
def Sg.Wf : Sg → Prop
  | .ac h f => IsAc h ∧ IsAc f
def Sg.signFn : Sg → FuncId
  | .ac _ _ => 75
def Sg.ownFn : Sg → FuncId
  | .ac _ _ => 74
/-- a page: where its list lies, how long it is, its room, its kind -/
structure Pg2 where
  A : Option Nat
  n : Nat
  c : Nat
  s : Sg
def Pg2.list (p : Pg2) : Value := .slice (p.A.map fun g => ⟨g, 0, none⟩) p.n p.c
def Pg2.val (p : Pg2) : Value := .iface p.s.ty (p.s.pay p.list)
/-- the page's list lies in memory; a: its cells bear its sign; b: its room bears its other one -/
def Pg2.Fit (w : World) (q : Pg2) (a b : Prop) : Prop :=
  match q.A with
  | none => q.n = 0 ∧ q.c = 0
  | some g => q.n ≤ q.c ∧ q.c ≤ 9223372036854775807 ∧ ∃ xs ys zs, Row w g q.s.et (xs ++ (ys ++ zs)) ∧ xs.length = q.n * q.s.sz ∧ ys.length = (q.c - q.n) * q.s.sz ∧ (q.s.sz = 64 → zs = []) ∧ (a → xs = q.s.here q.n) ∧ (b → ys = q.s.far (q.c - q.n))
theorem Pg2.Fit.keep {w w' : World} {q : Pg2} {a b : Prop} {r : Option Nat} (h : q.Fit w a b) (hg : w.grownBy w' r) (hne : ∀ g, q.A = some g → some g ≠ r) : q.Fit w' a b := by
  obtain ⟨A, n, c, s⟩ := q
  cases A with
  | none => exact h
  | some g =>
    obtain ⟨h1, h2, xs, ys, zs, hr, h3⟩ := h
    exact ⟨h1, h2, xs, ys, zs, hr.grown hg (hne g rfl), h3⟩
theorem sign_page2 (q : Pg2) (w : World) (a b : Prop) (h : q.Fit w a b) (hs : q.s.Wf) :
    Calls Try.prog q.s.signFn #[q.s.pay q.list, .bool false] w fun e w' => e = .returned (.tuple #[]) ∧ q.Fit w' True b ∧ w.grownBy w' q.A := by
  obtain ⟨A, n, c, s⟩ := q
  cases A with
  | none =>
    obtain ⟨rfl, rfl⟩ := h
    cases s with
    | ac hh ff =>
      refine (signAc_nil false hh ff w).mono ?_
      rintro e w' ⟨rfl, hg⟩
      exact ⟨rfl, ⟨rfl, rfl⟩, hg⟩
  | some g =>
    obtain ⟨h1, h2, xs, ys, zs, hr, h3, h4, hz, h5, h6⟩ := h
    have h1 : n ≤ c := h1
    cases s with
    | ac hh ff =>
      have h3' : xs.length = n * 34 := h3
      have h4' : ys.length = (c - n) * 34 := h4
      refine (signAc_false g n c hh ff (xs ++ (ys ++ zs)) w hr (by simp only [List.length_append]; omega) h1 h2 hs.1 hs.2).mono ?_
      rintro e w' ⟨rfl, hr', hg⟩
      refine ⟨rfl, ⟨h1, h2, rowOf n hh, ys, zs, ?_, rowOf_len n hs.1.len, h4, hz, fun _ => rfl, h6⟩, hg⟩
      rwa [List.drop_append_of_le_length (by omega), List.drop_of_length_le (by omega), List.nil_append] at hr'
theorem sign_room2 (q : Pg2) (w : World) (a b : Prop) (h : q.Fit w a b) (hs : q.s.Wf) :
    Calls Try.prog q.s.signFn #[q.s.pay q.list, .bool true] w fun e w' => e = .returned (.tuple #[]) ∧ q.Fit w' a True ∧ w.grownBy w' q.A := by
  obtain ⟨A, n, c, s⟩ := q
  cases A with
  | none =>
    obtain ⟨rfl, rfl⟩ := h
    cases s with
    | ac hh ff =>
      refine (signAc_nil true hh ff w).mono ?_
      rintro e w' ⟨rfl, hg⟩
      exact ⟨rfl, ⟨rfl, rfl⟩, hg⟩
  | some g =>
    obtain ⟨h1, h2, xs, ys, zs, hr, h3, h4, hz, h5, h6⟩ := h
    have h1 : n ≤ c := h1
    cases s with
    | ac hh ff =>
      have h4' : ys.length = (c - n) * 34 := h4
      refine (signAc_true g n c hh ff xs (ys ++ zs) w hr h3 (by rw [List.length_append]; omega) h1 h2 hs.1 hs.2).mono ?_
      rintro e w' ⟨rfl, hr', hg⟩
      rw [List.drop_append_of_le_length (by omega), List.drop_of_length_le (by omega), List.nil_append] at hr'
      exact ⟨rfl, ⟨h1, h2, xs, _, zs, hr', h3, rowOf_len _ hs.2.len, hz, h5, fun _ => rfl⟩, hg⟩
theorem own_page2 (q : Pg2) (w : World) (h : q.Fit w True True) (hs : q.s.Wf) :
    Calls Try.prog q.s.ownFn #[q.s.pay q.list] w fun e w' => e = .returned (.bool true) ∧ w.grownBy w' none := by
  obtain ⟨A, n, c, s⟩ := q
  cases A with
  | none =>
    obtain ⟨rfl, rfl⟩ := h
    cases s with
    | ac hh ff => exact ownAc_nil hh ff w
  | some g =>
    obtain ⟨h1, h2, xs, ys, zs, hr, h3, h4, hz, h5, h6⟩ := h
    rw [h5 trivial, h6 trivial] at hr
    cases s with
    | ac hh ff => exact ownAc_true g n c hh ff zs w hr h1 h2 hs.1 hs.2
/-- of the blocks of w only the pages' have been written -/
structure Touched (P : List Pg2) (w w' : World) : Prop where
  os : w'.os = w.os
  tape : w'.tape = w.tape
  output : w'.output = w.output
  size : w.heap.size ≤ w'.heap.size
  block : ∀ k, k < w.heap.size → (∀ q ∈ P, q.A ≠ some k) → w'.heap[k]? = w.heap[k]?
theorem Touched.refl (P : List Pg2) (w : World) : Touched P w w := ⟨rfl, rfl, rfl, Nat.le_refl _, fun _ _ _ => rfl⟩
theorem Touched.step {P : List Pg2} {w a b : World} {r : Option Nat} (h : Touched P w a) (hg : a.grownBy b r) (hr : ∀ g, r = some g → ∃ q ∈ P, q.A = some g) : Touched P w b :=
  ⟨hg.os.trans h.os, hg.tape.trans h.tape, hg.output.trans h.output, Nat.le_trans h.size hg.size, fun k hk hne => by
    rw [hg.block k (Nat.lt_of_lt_of_le hk h.size) (fun e => by obtain ⟨q, hq, e'⟩ := hr k e.symm; exact hne q hq e'), h.block k hk hne]⟩
theorem Touched.below {P : List Pg2} {w w' : World} {B : Nat} (h : Touched P w w') (hB : B ≤ w.heap.size) (hp : ∀ q ∈ P, ∀ g, q.A = some g → B ≤ g) : Below B w w' :=
  ⟨h.os, h.tape, h.output, h.size, fun k hk => h.block k (by omega) fun q hq e => by have := hp q hq k e; omega⟩
/-- the book, with its pages, in memory -/
structure BookAt (w : World) (p : Nat) (base : Nat) (A : Option Addr) (c : Nat) (P : List Pg2) (ka kb : Nat) : Prop where
  row : Row w p 41 [.slice A P.length c]
  own : w.ownsRow base 89 1 (.slice A P.length c) P.length (P.map Pg2.val)
  fit : ∀ i (hi : i < P.length), P[i].Fit w (i < ka) (i < kb)
def Parted (P : List Pg2) : Prop := ∀ i j (hi : i < P.length) (hj : j < P.length) g, P[i].A = some g → P[j].A = some g → i = j
theorem row_ne {w : World} {g g' t t' : Nat} {xs ys : List Value} (h : Row w g t xs) (h' : Row w g' t' ys) (hne : t ≠ t') : g ≠ g' := by
  rintro rfl
  have a := h.is
  rw [h'.is] at a
  injection a with a
  injection a with _ a
  exact hne a.symm
theorem Fit_row {w : World} {q : Pg2} {a b : Prop} {g : Nat} (h : q.Fit w a b) (hg : q.A = some g) : ∃ xs, Row w g q.s.et xs := by
  obtain ⟨A, n, c, s⟩ := q
  cases hg
  obtain ⟨_, _, xs, ys, zs, hr, _⟩ := h
  exact ⟨_, hr⟩
theorem et_book (s : Sg) : 41 ≠ s.et := by
  cases s with
  | ac => exact (by decide : (41 : Nat) ≠ 48)
theorem et_page (s : Sg) : 89 ≠ s.et := by
  cases s with
  | ac => exact (by decide : (89 : Nat) ≠ 48)
/-- a page is signed: the others stay -/
theorem BookAt.signed {w w' : World} {p base : Nat} {A : Option Addr} {c : Nat} {P : List Pg2} {ka kb : Nat} (h : BookAt w p base A c P ka kb) (hP : Parted P) {k : Nat} (hk : k < P.length) {a b : Prop}
    (hf : P[k].Fit w' a b) (hg : w.grownBy w' P[k].A) {ka' kb' : Nat} (h1 : (k < ka') → a) (h2 : (k < kb') → b) (h3 : ∀ i, i ≠ k → (i < ka' → i < ka)) (h4 : ∀ i, i ≠ k → (i < kb' → i < kb)) : BookAt w' p base A c P ka' kb' := by
  have fitk := h.fit k hk
  refine ⟨h.row.grown hg ?_, h.own.kept hg ?_, fun i hi => ?_⟩
  · intro e
    obtain ⟨xs, hr⟩ := Fit_row fitk e.symm
    exact row_ne h.row hr (et_book _) rfl
  · cases e : P[k].A with
    | none => cases (Value.slice A P.length c).ownBlock <;> simp
    | some g =>
      obtain ⟨xs, hr⟩ := Fit_row fitk e
      exact .inr (fun e' => own_row_ne h.own hr (et_page _) e'.symm)
  · by_cases hik : i = k
    · subst hik
      obtain ⟨⟨A', n', c', s'⟩, hq⟩ : ∃ q, q = P[i] := ⟨_, rfl⟩
      rw [← hq] at hf ⊢
      cases A' with
      | none => exact hf
      | some g =>
        obtain ⟨e1, e2, xs, ys, zs, hr, e3, e4, ez, e5, e6⟩ := hf
        exact ⟨e1, e2, xs, ys, zs, hr, e3, e4, ez, fun x => e5 (h1 x), fun x => e6 (h2 x)⟩
    · have := (h.fit i hi).keep hg (fun g e e' => hik (hP i k hi hk g e e'.symm))
      obtain ⟨⟨A', n', c', s'⟩, hq⟩ : ∃ q, q = P[i] := ⟨_, rfl⟩
      rw [← hq] at this ⊢
      cases A' with
      | none => exact this
      | some g =>
        obtain ⟨e1, e2, xs, ys, zs, hr, e3, e4, ez, e5, e6⟩ := this
        exact ⟨e1, e2, xs, ys, zs, hr, e3, e4, ez, fun x => e5 (h3 i hik x), fun x => e6 (h4 i hik x)⟩
theorem BookAt.page {w : World} {p base : Nat} {A : Option Addr} {c : Nat} {P : List Pg2} {ka kb : Nat} (h : BookAt w p base A c P ka kb) {k : Nat} (hk : k < P.length) : ∃ a, A = some a ∧ w.cell? (a.add k) = some P[k].val := by
  have hl := h.own
  obtain ⟨a, u, e, _, hx, hc⟩ := (Sees.of_own hl).at_ hk
  refine ⟨a, e, ?_⟩
  rw [hc]
  rw [List.getElem?_map, List.getElem?_eq_getElem hk] at hx
  exact hx.symm
theorem meth_signAc (v : Array Value) (w : World) : (method 221 87 (.agg v) "ferryhouse/ferryhouselaw01.sign").run Try.prog w = .ok (75, .agg v) w := by kernel_rfl
theorem meth_ownAc (v : Array Value) (w : World) : (method 221 87 (.agg v) "ferryhouse/ferryhouselaw01.own").run Try.prog w = .ok (74, .agg v) w := by kernel_rfl
theorem meth_sign (s : Sg) (l : Value) (w : World) : (method 221 s.ty (s.pay l) "ferryhouse/ferryhouselaw01.sign").run Try.prog w = .ok (s.signFn, s.pay l) w := by
  cases s with
  | ac h f => exact meth_signAc _ w
theorem meth_own (s : Sg) (l : Value) (w : World) : (method 221 s.ty (s.pay l) "ferryhouse/ferryhouselaw01.own").run Try.prog w = .ok (s.ownFn, s.pay l) w := by
  cases s with
  | ac h f => exact meth_ownAc _ w
theorem call_sign (s : Sg) (args : Array Value) (w : World) : (callFunc s.signFn args).run Try.prog w = .ok (.enter s.signFn args) w := by
  cases s with
  | ac => exact (by kernel_rfl : (callFunc 75 args).run Try.prog w = .ok (.enter 75 args) w)
theorem call_own (s : Sg) (args : Array Value) (w : World) : (callFunc s.ownFn args).run Try.prog w = .ok (.enter s.ownFn args) w := by
  cases s with
  | ac => exact (by kernel_rfl : (callFunc 74 args).run Try.prog w = .ok (.enter 74 args) w)
set_option maxRecDepth 100000 in
set_option maxHeartbeats 1000000 in
theorem apart_many (p : Nat) (A : Option Addr) (n c : Nat) (w : World) (h : Row w p 41 [.slice A n c]) (hn : 120 < n) :
    Calls Try.prog 18 #[.pointer (some ⟨p, 0, none⟩)] w fun e w' => e = .returned (.bool true) ∧ w = w' := by
  have c0 : w.cell? ⟨p, 0, none⟩ = some (.slice A n c) := h.cell 0
  clear h
  go_enter Try.func18, Try.ntmps18
  go_wp2_with fail
  go_ret
  exact ⟨rfl, rfl⟩
set_option maxRecDepth 100000 in
set_option maxHeartbeats 2000000 in
theorem apart (p base : Nat) (A : Option Addr) (c : Nat) (P : List Pg2) (w : World) (h : BookAt w p base A c P 0 0) (hP : Parted P) (hW : ∀ q ∈ P, q.s.Wf) (hn : P.length ≤ 120) :
    Calls Try.prog 18 #[.pointer (some ⟨p, 0, none⟩)] w fun e w' => e = .returned (.bool true) ∧ Touched P w w' := by
  have c0 : w.cell? ⟨p, 0, none⟩ = some (.slice A P.length c) := h.row.cell 0
  obtain ⟨n, hN⟩ : ∃ n, P.length = n := ⟨_, rfl⟩
  have HN := Lib.hid hN
  rw [hN] at c0
  clear hN
  have H := Lib.hid h
  have HW := Lib.hid hW
  have hn : n ≤ 120 := by rw [← HN.out]; exact hn
  clear h hW
  go_enter Try.func18, Try.ntmps18
  go_wp2_with fail
  go_loopw [3] (fun i wr => ∃ k : Nat, k ≤ n ∧ i = .int .i64 k ∧ BookAt wr p base A c P k 0 ∧ Touched P w wr) (fun i _ => n - (intOf i).toNat)
  case atStart => exact ⟨0, Nat.zero_le _, rfl, H.out, Touched.refl _ _⟩
  case round =>
    obtain ⟨k, hk, rfl, hbk, ht⟩ := hrel
    have HB := Lib.hid hbk
    clear c0 H
    have c0 : wr.cell? ⟨p, 0, none⟩ = some (.slice A P.length c) := hbk.row.cell 0
    rw [HN.out] at c0
    by_cases hlt : k < n
    · have hkP : k < P.length := by rw [HN.out]; exact hlt
      obtain ⟨a, rfl, hc⟩ := hbk.page hkP
      have HC := Lib.hid (sign_page2 P[k] wr _ _ (HB.out.fit k hkP) (HW.out _ (List.getElem_mem hkP)))
      have ms := meth_sign P[k].s P[k].list
      have cf := call_sign P[k].s
      simp only [Pg2.val] at hc
      clear hbk
      generalize P[k].s.ty = T at *
      generalize P[k].s.pay P[k].list = V at *
      generalize P[k].s.signFn = FN at *
      go_wp2_with fail
      refine HC.out.mono ?_
      rintro e w2 ⟨rfl, hf, hg⟩
      go_wp2_with fail
      go_roundw
      case rel => exact ⟨k + 1, by omega, by go_num, HB.out.signed hP hkP hf hg (fun _ => trivial) (fun h => h) (fun i hi h => by omega) (fun i _ h => h), ht.step hg (fun g e => ⟨P[k], List.getElem_mem hkP, e⟩)⟩
      case measure => simp [intOf]; omega
    · have hkn : k = n := by omega
      have HB1 : Hid (BookAt wr p base A c P n 0) := by rw [← hkn]; exact HB.out
      clear hbk HB hkn
      go_wp2_with fail
      go_loopw [4] (fun i wr => ∃ k : Nat, k ≤ n ∧ i = .int .i64 k ∧ BookAt wr p base A c P n k ∧ Touched P w wr) (fun i _ => n - (intOf i).toNat)
      case atStart => exact ⟨0, Nat.zero_le _, rfl, HB1.out, ht⟩
      case round =>
        clear c0 HB1 ht
        obtain ⟨k, hk, rfl, hbk, ht⟩ := hrel
        have HB := Lib.hid hbk
        rename World => wr0
        obtain ⟨wr, hwr⟩ : ∃ wr, wr = wr0 := ⟨_, rfl⟩
        subst hwr
        have c0 : wr.cell? ⟨p, 0, none⟩ = some (.slice A P.length c) := hbk.row.cell 0
        rw [HN.out] at c0
        by_cases hlt : k < n
        · have hkP : k < P.length := by rw [HN.out]; exact hlt
          obtain ⟨a, rfl, hc⟩ := hbk.page hkP
          have HC := Lib.hid (sign_room2 P[k] wr _ _ (HB.out.fit k hkP) (HW.out _ (List.getElem_mem hkP)))
          have ms := meth_sign P[k].s P[k].list
          have cf := call_sign P[k].s
          simp only [Pg2.val] at hc
          clear hbk
          generalize P[k].s.ty = T at *
          generalize P[k].s.pay P[k].list = V at *
          generalize P[k].s.signFn = FN at *
          go_wp2_with fail
          refine HC.out.mono ?_
          rintro e w2 ⟨rfl, hf, hg⟩
          go_wp2_with fail
          go_roundw
          case rel => exact ⟨k + 1, by omega, by go_num, HB.out.signed hP hkP hf hg (fun h => h) (fun _ => trivial) (fun i _ h => h) (fun i hi h => by omega), ht.step hg (fun g e => ⟨P[k], List.getElem_mem hkP, e⟩)⟩
          case measure => simp [intOf]; omega
        · have hkn : k = n := by omega
          have HB1 : Hid (BookAt wr p base A c P n n) := by
            have := HB.out
            rw [hkn] at this
            exact this
          clear hbk HB hkn
          go_wp2_with fail
          go_loopw [5] (fun i wr => ∃ k : Nat, k ≤ n ∧ i = .int .i64 k ∧ BookAt wr p base A c P n n ∧ Touched P w wr) (fun i _ => n - (intOf i).toNat)
          case atStart => exact ⟨0, Nat.zero_le _, rfl, HB1.out, ht⟩
          case round =>
            clear c0 HB1 ht
            obtain ⟨k, hk, rfl, hbk, ht⟩ := hrel
            have HB := Lib.hid hbk
            rename World => wr0
            obtain ⟨wr, hwr⟩ : ∃ wr, wr = wr0 := ⟨_, rfl⟩
            subst hwr
            have c0 : wr.cell? ⟨p, 0, none⟩ = some (.slice A P.length c) := hbk.row.cell 0
            rw [HN.out] at c0
            by_cases hlt : k < n
            · have hkP : k < P.length := by rw [HN.out]; exact hlt
              obtain ⟨a, rfl, hc⟩ := hbk.page hkP
              have HC := Lib.hid (own_page2 P[k] wr (by have := HB.out.fit k hkP; simpa [HN.out, hlt] using this) (HW.out _ (List.getElem_mem hkP)))
              have ms := meth_own P[k].s P[k].list
              have cf := call_own P[k].s
              simp only [Pg2.val] at hc
              clear hbk
              generalize P[k].s.ty = T at *
              generalize P[k].s.pay P[k].list = V at *
              generalize P[k].s.ownFn = FN at *
              go_wp2_with fail
              refine HC.out.mono ?_
              rintro e w2 ⟨rfl, hg⟩
              go_wp2_with fail
              go_roundw
              case rel =>
                refine ⟨k + 1, by omega, by go_num, ⟨HB.out.row.grown hg (by simp), HB.out.own.kept hg (by cases (Value.slice (some a) P.length c).ownBlock <;> simp), fun i hi => (HB.out.fit i hi).keep hg (by simp)⟩, ht.step hg (fun g e => by cases e)⟩
              case measure => simp [intOf]; omega
            · clear hbk
              go_wp2_with fail
              go_ret
              exact ⟨rfl, ht⟩
end Go.Proofs.Ytodoaebpkmhhmaa

/-
  Of part BookGen: what is needed here.
-/
namespace Go.Proofs.Ytodoaebpkmhhmaa
open Go.RowKit
set_option linter.unusedVariables false
set_option maxRecDepth 100000
/-- a list: where it lies, how long it is, its room -/
structure Sl where
  A : Option Nat
  n : Nat
  c : Nat
def Sl.val (x : Sl) : Value := .slice (x.A.map fun g => ⟨g, 0, none⟩) x.n x.c
def Sg.isK : Sg → Kd
  | .ac _ _ => .ac
def Pg2.key (q : Pg2) : Sl × Kd := (⟨q.A, q.n, q.c⟩, q.s.isK)
/-- a book of the call's own, from world w0 on, its pages' lists and kinds -/
def Bk (w0 : World) (p base : Nat) (ks : List (Sl × Kd)) (w : World) : Prop :=
  ∃ (P : List Pg2) (A : Option Addr) (c : Nat), P.map Pg2.key = ks ∧ (∀ q ∈ P, q.s.Wf) ∧ BookW w0 p base A P.length c (P.map Pg2.val) w
section
variable {w0 w w' : World} {p base B : Nat} {ks ks' : List (Sl × Kd)}
theorem Bk.trans (h : Bk w0 p base ks w) (h' : Bk w p base ks' w') : Bk w0 p base ks' w' := by
  obtain ⟨P, A, c, h1, h2, h3⟩ := h
  obtain ⟨P', A', c', h1', h2', h3'⟩ := h'
  exact ⟨P', A', c', h1', h2', h3.trans h3'⟩
theorem Bk.alloc (h : Bk w0 p base ks w) (o : Obj) : Bk w0 p base ks (w.alloc o) := by
  obtain ⟨P, A, c, h1, h2, h3⟩ := h
  exact ⟨P, A, c, h1, h2, h3.alloc o⟩
theorem Bk.one (h : Bk w0 p base ks w) : ButOne base p w0 w := by
  obtain ⟨P, A, c, h1, h2, h3⟩ := h
  exact h3.one
theorem Bk.row {g t : Nat} {xs : List Value} (h : Bk w0 p base ks w) (hr : Row w0 g t xs) (hg : g ≠ p) (ht : t ≠ 89) : Row w g t xs := by
  obtain ⟨P, A, c, h1, h2, h3⟩ := h
  exact h3.rowK hr hg ht
end
theorem bkAccounts (p base : Nat) (ks : List (Sl × Kd)) (x : Sl) (w0 w : World) (h : Bk w0 p base ks w) (hn : ks.length ≤ 1000000) :
    Calls Try.prog 17 #[.pointer (some ⟨p, 0, none⟩), x.val] w fun e w' => e = .returned (.tuple #[]) ∧ Bk w0 p base (ks ++ [(x, Kd.ac)]) w' := by
  obtain ⟨P, A, c, h1, h2, h3⟩ := h
  subst h1
  refine (bookAccounts p base A _ P.length c x.n x.c _ w0 w h3 (by simpa using hn)).mono ?_
  rintro e w' ⟨z1, z2, A', c', rfl, hz1, hz2, h4⟩
  refine ⟨rfl, P ++ [⟨x.A, x.n, x.c, .ac z1 z2⟩], A', c', by simp [Pg2.key, Sg.isK], fun q hq => ?_, ?_⟩
  · rcases List.mem_append.1 hq with hq | hq
    · exact h2 q hq
    · obtain rfl : q = _ := List.mem_singleton.1 hq
      exact ⟨hz1, hz2⟩
  · rw [List.length_append, List.map_append]
    exact h4
def ety : Kd → TypeId
  | .ac => 48
def esz : Kd → Nat
  | .ac => 34
/-- a page's list lies in memory, whole -/
def SlFit (w : World) (y : Sl × Kd) : Prop :=
  match y.1.A with
  | none => y.1.n = 0 ∧ y.1.c = 0
  | some g => y.1.n ≤ y.1.c ∧ y.1.c ≤ 9223372036854775807 ∧ ∃ xs, Row w g (ety y.2) xs ∧ y.1.c * esz y.2 ≤ xs.length ∧ (esz y.2 = 64 → xs.length = y.1.c * esz y.2)
theorem SlFit.keep {w w' : World} {y : Sl × Kd} (h : SlFit w y) (hk : ∀ g, y.1.A = some g → w'.heap[g]? = w.heap[g]?) : SlFit w' y := by
  obtain ⟨⟨A, n, c⟩, kd⟩ := y
  cases A with
  | none => exact h
  | some g =>
    obtain ⟨h1, h2, xs, hr, hl⟩ := h
    exact ⟨h1, h2, xs, ⟨(hk g rfl).trans hr.is⟩, hl⟩
/-- the blocks of some pages -/
def blocks (ks : List (Sl × Kd)) : List Nat := ks.filterMap fun y => y.1.A
theorem blocks_app (a b : List (Sl × Kd)) : blocks (a ++ b) = blocks a ++ blocks b := by simp [blocks, List.filterMap_append]
theorem blocks_one (y : Sl × Kd) : ∀ g ∈ blocks [y], y.1.A = some g := by
  intro g hg
  unfold blocks at hg
  rw [List.filterMap_cons] at hg
  split at hg
  · cases hg
  · rename_i h
    simp at hg
    rw [h, hg]
theorem pair_one (y : Sl × Kd) : (blocks [y]).Pairwise (· < ·) := by
  unfold blocks
  rw [List.filterMap_cons]
  split <;> simp
theorem pair_app {a b : List Nat} {m : Nat} (ha : a.Pairwise (· < ·)) (hb : b.Pairwise (· < ·)) (h1 : ∀ x ∈ a, x < m) (h2 : ∀ x ∈ b, m ≤ x) : (a ++ b).Pairwise (· < ·) :=
  List.pairwise_append.2 ⟨ha, hb, fun x hx y hy => by have := h1 x hx; have := h2 y hy; omega⟩
theorem pair_rel {R : Nat → Nat → Prop} : ∀ {P : List Pg2} {i j : Nat} {g g' : Nat}, (P.filterMap fun q => q.A).Pairwise R → i < j → (hi : i < P.length) → (hj : j < P.length) → P[i].A = some g → P[j].A = some g' → R g g'
  | [], i, j, g, g', _, _, hi, _, _, _ => absurd hi (by simp)
  | q :: r, i, j, g, g', h, hij, hi, hj, e, e' => by
    cases j with
    | zero => omega
    | succ j =>
      have hj' : j < r.length := by simpa using hj
      have e'' : r[j].A = some g' := by simpa using e'
      cases i with
      | zero =>
        have e0 : q.A = some g := e
        rw [List.filterMap_cons, e0] at h
        exact (List.pairwise_cons.1 h).1 g' (List.mem_filterMap.2 ⟨r[j], List.getElem_mem hj', e''⟩)
      | succ i =>
        have hr : (r.filterMap fun q => q.A).Pairwise R := by
          rw [List.filterMap_cons] at h
          split at h
          · exact h
          · exact (List.pairwise_cons.1 h).2
        exact pair_rel (i := i) (j := j) hr (by omega) (by simpa using hi) hj' (by simpa using e) e''
/-- of the blocks that there were only these have been written -/
structure OnlyIn (bs : List Nat) (w w' : World) : Prop where
  os : w'.os = w.os
  tape : w'.tape = w.tape
  output : w'.output = w.output
  size : w.heap.size ≤ w'.heap.size
  block : ∀ k, k < w.heap.size → k ∉ bs → w'.heap[k]? = w.heap[k]?
/-- a book whose pages lie apart -/
theorem apartTo (p base : Nat) (ks : List (Sl × Kd)) (w0 w : World) (h : Bk w0 p base ks w) (hf : ∀ y ∈ ks, SlFit w0 y) (hd : (blocks ks).Pairwise (· ≠ ·)) (hlow : ∀ g ∈ blocks ks, g < base ∧ g ≠ p) :
    Calls Try.prog 18 #[.pointer (some ⟨p, 0, none⟩)] w fun e w' => e = .returned (.bool true) ∧ OnlyIn (blocks ks) w w' := by
  have ho := h.one
  obtain ⟨P, A, c, h1, h2, h3⟩ := h
  by_cases hn : P.length ≤ 120
  · have hmem : ∀ q ∈ P, q.key ∈ ks := fun q hq => by rw [← h1]; exact List.mem_map.2 ⟨q, hq, rfl⟩
    have hbl : ∀ q ∈ P, ∀ g, q.A = some g → g ∈ blocks ks := fun q hq g hg => List.mem_filterMap.2 ⟨q.key, hmem q hq, hg⟩
    have hfit : ∀ q ∈ P, q.Fit w False False := by
      intro q hq
      have hy := hf _ (hmem q hq)
      have hl := hbl q hq
      obtain ⟨A', n', c', s'⟩ := q
      cases A' with
      | none => exact hy
      | some g =>
        obtain ⟨e1, e2, xs, hr, he, hek⟩ := hy
        obtain ⟨l2, l3⟩ := hlow g (hl g rfl)
        have hr' : Row w g (ety s'.isK) xs := ⟨(ho.block g l2 l3).trans hr.is⟩
        have hes : esz s'.isK = s'.sz := by cases s' <;> rfl
        have het : ety s'.isK = s'.et := by cases s' <;> rfl
        rw [het] at hr'
        rw [show (Pg2.key ⟨some g, n', c', s'⟩).2 = s'.isK from rfl, hes] at he hek
        have he' : c' * s'.sz ≤ xs.length := he
        have hek' : s'.sz = 64 → xs.length = c' * s'.sz := hek
        have e1' : n' ≤ c' := e1
        have hle : n' * s'.sz ≤ c' * s'.sz := Nat.mul_le_mul_right _ e1'
        have hsum : c' * s'.sz = n' * s'.sz + (c' - n') * s'.sz := by rw [← Nat.add_mul]; congr 1; omega
        refine ⟨e1, e2, xs.take (n' * s'.sz), (xs.drop (n' * s'.sz)).take ((c' - n') * s'.sz), (xs.drop (n' * s'.sz)).drop ((c' - n') * s'.sz), by rwa [List.take_append_drop, List.take_append_drop], ?_, ?_, ?_, fun x => x.elim, fun x => x.elim⟩
        · show (xs.take (n' * s'.sz)).length = n' * s'.sz
          rw [List.length_take]
          exact Nat.min_eq_left (by omega)
        · show ((xs.drop (n' * s'.sz)).take ((c' - n') * s'.sz)).length = (c' - n') * s'.sz
          rw [List.length_take, List.length_drop]
          exact Nat.min_eq_left (by omega)
        · intro hz
          have := hek' hz
          exact List.drop_of_length_le (by rw [List.length_drop]; omega)
    refine (apart p base A c P w ⟨h3.row, h3.own, fun i hi => ?_⟩ ?_ h2 hn).mono ?_
    · have := hfit P[i] (List.getElem_mem hi)
      simpa using this
    · have hd' : (P.filterMap fun q => q.A).Pairwise (· ≠ ·) := by
        have : blocks ks = P.filterMap fun q => q.A := by
          rw [← h1]
          unfold blocks
          rw [List.filterMap_map]
          rfl
        rw [← this]
        exact hd
      intro i j hi hj g e e'
      rcases Nat.lt_trichotomy i j with hij | hij | hij
      · exact absurd rfl (pair_rel hd' hij hi hj e e')
      · exact hij
      · exact absurd rfl (pair_rel hd' hij hj hi e' e)
    · rintro e w' ⟨rfl, ht⟩
      exact ⟨rfl, ht.os, ht.tape, ht.output, ht.size, fun k hk hn => ht.block k hk fun q hq e => hn (hbl q hq k e)⟩
  · refine (apart_many p A P.length c w h3.row (by omega)).mono ?_
    rintro e w' ⟨rfl, rfl⟩
    exact ⟨rfl, rfl, rfl, rfl, Nat.le_refl _, fun _ _ _ => rfl⟩
/-- likewise, all of them above B -/
theorem apartNe (p base B : Nat) (ks : List (Sl × Kd)) (w0 w : World) (h : Bk w0 p base ks w) (hf : ∀ y ∈ ks, SlFit w0 y) (hd : (blocks ks).Pairwise (· ≠ ·)) (hlow : ∀ g ∈ blocks ks, B ≤ g ∧ g < base ∧ g ≠ p) (hB : B ≤ w.heap.size) :
    Calls Try.prog 18 #[.pointer (some ⟨p, 0, none⟩)] w fun e w' => e = .returned (.bool true) ∧ Below B w w' :=
  (apartTo p base ks w0 w h hf hd fun g hg => (hlow g hg).2).mono fun e w' ⟨he, ht⟩ => ⟨he, ht.os, ht.tape, ht.output, ht.size, fun k hk => ht.block k (Nat.lt_of_lt_of_le hk hB) fun hm => by have := (hlow k hm).1; omega⟩
/-- a book whose pages lie in blocks that rise -/
theorem apartBk (p base B : Nat) (ks : List (Sl × Kd)) (w0 w : World) (h : Bk w0 p base ks w) (hf : ∀ y ∈ ks, SlFit w0 y) (hd : (blocks ks).Pairwise (· < ·)) (hlow : ∀ g ∈ blocks ks, B ≤ g ∧ g < base ∧ g ≠ p) (hB : B ≤ w.heap.size) :
    Calls Try.prog 18 #[.pointer (some ⟨p, 0, none⟩)] w fun e w' => e = .returned (.bool true) ∧ Below B w w' :=
  apartNe p base B ks w0 w h hf (hd.imp fun h => Nat.ne_of_lt h) hlow hB
/-- a book that has just been laid -/
theorem Bk.new (w : World) : Bk (w.alloc (.cells #[.slice none 0 0] 41)) w.heap.size w.heap.size [] (w.alloc (.cells #[.slice none 0 0] 41)) := by
  refine ⟨[], none, 0, rfl, by simp, ?_⟩
  exact ⟨Row.new w 41 [.slice none 0 0], World.ownsRow_nil _ _ _ _, ButOne.refl _ _ _, by simp, fun _ _ _ _ => rfl⟩
end Go.Proofs.Ytodoaebpkmhhmaa

/-
  Of part TwinMsg: what is needed here.
-/
namespace Go.Proofs.Ytodoaebpkmhhmaa
open Go.RowKit
set_option linter.unusedVariables false
set_option maxRecDepth 100000
/-- a load of many cells yields them -/
theorem exec_load_at {P : Program} {a : Act} {o : Oper} (w : World) (ty : TypeId) (x : Operand) (ho : o.op = .load ty x) (p : Addr) (cs : List Value) (d : TypeDesc) (hu : P.underlying ty = some d) (hd : d.isRow = true) (hi : (P.info? ty).map (·.size) = some cs.length)
    (hc : ∀ j v, cs[j]? = some v → w.cell? (p.add j) = some v) (hx : a.eval x = .pointer (some p)) : (execOp a.eval o).run P w = .ok (.value (.agg cs.toArray)) w := by
  unfold execOp
  simp only [ho, hx, Sem.run_bind, Sem.run_pure, run_loadAt_at w p ty cs d hc hu hd hi, Result.andThen_ok]
end Go.Proofs.Ytodoaebpkmhhmaa

/-
  Of part Strays: what is needed here.
-/
namespace Go.Proofs.Ytodoaebpkmhhmaa
open Go.RowKit
set_option linter.unusedVariables false
set_option maxRecDepth 100000
/-- a place's number that tells whether there is one -/
def IdxDone (p : Bool) (e : Ending) : Prop := ∃ r : Int, e = .returned (.int .i64 r) ∧ (0 ≤ r ↔ p = true)
theorem idx_told {r : Int} {p : Bool} (h : 0 ≤ r ↔ p = true) : decide (0 ≤ r) = p := by
  rw [Bool.eq_iff_iff, decide_eq_true_iff]
  exact h
theorem told_bool {p q : Bool} (h : p = q) : Ending.returned (.bool p) = .returned (.bool q) := by rw [h]
theorem any_take_succ {α : Type} {p : α → Bool} {l : List α} {k : Nat} {x : α} (h : l[k]? = some x) : (l.take (k + 1)).any p = ((l.take k).any p || p x) := by
  rw [List.take_add_one, h]
  simp
theorem any_hit {α : Type} {p : α → Bool} {l : List α} {k : Nat} {x : α} (h : l[k]? = some x) (hp : p x = true) : l.any p = true :=
  List.any_eq_true.2 ⟨x, List.mem_of_getElem? h, hp⟩
theorem getD_at {l : List Int} {k : Nat} (h : k < l.length) : l[k]? = some (l.getD k 0) := by
  rw [List.getD_eq_getElem?_getD, List.getElem?_eq_getElem h]; rfl
end Go.Proofs.Ytodoaebpkmhhmaa

/-
  Of part Example: what is needed here.
-/
namespace Go.Proofs.Ytodoaebpkmhhmaa
open Go.RowKit
set_option linter.unusedVariables false
set_option maxRecDepth 100000
def xk (a : Int) : List Int := a :: List.replicate 31 0
section
variable {P : Program}
/-- a slice literal of two elements of many cells -/
theorem wpList_buildTwo {ops : Array Oper} {rest : List Oper} {o : Oper} {a : Act} {w : World} {Q : Exit → Act → World → Prop} (hg : o.guard = none) (t e : TypeId) (y y' : Operand) (ho : o.op = .buildSlice t 2 #[(0, y), (1, y')])
    (cs cs' : List Value) (z : Value) (size bytes : Nat) (hu : P.underlying t = some (.slice e)) (hi : (P.info? e).map (fun i => (i.zero, i.size, i.bytes)) = some (some z, size, bytes)) (hzs : z.cells.size = size) (hs0 : 0 < size) (hs1 : size ≤ 1000)
    (hcs : cs.length = size) (hcs' : cs'.length = size) (hy : a.eval y = .agg cs.toArray) (hy' : a.eval y' = .agg cs'.toArray)
    (h : wpList P ops Q rest (a.put o.dst (.slice (some ⟨w.heap.size, 0, none⟩) 2 2)) (w.alloc (.cells (cs ++ cs').toArray e))) : wpList P ops Q (o :: rest) a w := by
  obtain ⟨ie, hie, h1, h2, _⟩ := info_parts hi
  subst h2
  refine wpList_buildSlice hg t e 2 _ ho (cs ++ cs').toArray ie z hu hie h1 (by omega) (by omega) ?_ h
  have := Go.Great.fill_whole (s := ie.size) hs0 [Value.agg cs.toArray, Value.agg cs'.toArray] ((Array.range (2 * ie.size)).map (z.cells[· % z.cells.size]!)) (by simp [Value.cells, hcs, hcs']) (by simp)
  simpa [hy, hy', Value.cells] using this
end
end Go.Proofs.Ytodoaebpkmhhmaa

/-
  Of part AppendN: what is needed here.
-/
namespace Go.Proofs.Ytodoaebpkmhhmaa
open Go.RowKit
set_option linter.unusedVariables false
set_option maxRecDepth 100000
section
variable {P : Program} {w : World} {base : Nat} {t ty e : TypeId} {i : TypeInfo} {z : Value} {size bytes : Nat} {v : Value} {n m c B : Nat} {A : Option Addr} {xs news : List Value}
theorem run_append_nothingN (ht : P.underlying t = some (.slice e)) (hi : P.info? e = some i) (hown : w.ownsRow base e size v n xs) (c : Nat) :
    (Builtin.append_ #[t, t] ty #[v, .slice none 0 c]).run P w = .ok v w := by
  rcases hown.2 with ⟨rfl, rfl⟩ | ⟨g, cap, cur, rfl, _, _, hnc, _⟩ <;>
    simp [Builtin.append_, run_underlying ht, sizeOf, typeInfo, Builtin.lenOf, Builtin.firstCells, storeCells, *]
theorem wp_appendN {o : Oper} {a : Act} {K : Act → World → Prop} {Q : Exit → Act → World → Prop} (s x : Operand) (t e : TypeId) (z : Value) (size bytes : Nat)
    (ho : o.op = .call { callee := .builtin .append, args := #[s, x], argTypes := #[t, t] })
    (ht : P.underlying t = some (.slice e)) (hi : (P.info? e).map (fun i => (i.zero, i.size, i.bytes)) = some (some z, size, bytes)) (hzs : z.cells.size = size) (hs0 : 0 < size)
    (v : Value) (n : Nat) (xs : List Value) (base B : Nat) (A : Option Addr) (m c : Nat) (news : List Value)
    (hs : a.eval s = v) (hown : w.ownsRow base e size v n xs) (hx : a.eval x = .slice A m c) (hr : Sees w B A (m * size) news) (h1 : ∀ u ∈ news, u.oneCell' = true)
    (hnm : n + m ≤ maxLen) (hbytes : (n + m) * bytes ≤ 140737488355328) (hbase : base ≤ w.heap.size)
    (h : ∀ v' w', w'.ownsRow base e size v' (n + m) (xs ++ news) → Grew w w' v v' → K (a.put o.dst v') w') : o.wp P a w K Q := by
  obtain ⟨i0, hi, hz0, hz1, hz2⟩ := info_parts hi
  have hrun : ∃ v' w', (Builtin.append_ #[t, t] o.type #[v, .slice A m c]).run P w = .ok v' w' ∧ w'.ownsRow base e size v' (n + m) (xs ++ news) ∧ Grew w w' v v' := by
    cases A with
    | none =>
      have hn : news = [] := by
        cases news with
        | nil => rfl
        | cons u r =>
          obtain ⟨a, h, _⟩ := hr.cell 0 u rfl
          cases h
      subst hn
      have hl : m * size = 0 := by simpa using hr.len.symm
      obtain rfl : m = 0 := by
        rcases Nat.mul_eq_zero.1 hl with h | h
        · exact h
        · omega
      exact ⟨v, w, run_append_nothingN ht hi hown c, by simpa using hown, Grew.refl _ _⟩
    | some ad =>
      obtain ⟨v', w', hrun, h2, h3, _, h5⟩ := run_append_own_at (P := P) w base t o.type e i0 z size bytes ht hi hz0 hz1 hz2 hzs hs0 v n xs hown ad m c news hr.len
        (fun j u hu => by
          obtain ⟨a, h, _, hc⟩ := hr.cell j u hu
          cases h
          exact hc) h1 hnm hbytes hbase
      refine ⟨v', w', hrun, h2, ⟨h3, fun k hk => ?_⟩⟩
      rcases h5 with h5 | h5
      · exact .inl (h5 ▸ hk)
      · rw [h5] at hk
        cases hk
        exact .inr (Nat.le_refl _)
  obtain ⟨v', w', hr2, h2, h3⟩ := hrun
  unfold Oper.wp execOp
  simp only [ho, resolve, invoke, builtin, Sem.run_bind, Sem.run_pure, Result.andThen_ok, List.map_toArray, List.map_cons, List.map_nil, hs, hx, hr2]
  exact h v' w' h2 h3
theorem wpList_appendN {ops : Array Oper} {rest : List Oper} {o : Oper} {a : Act} {Q : Exit → Act → World → Prop} (hgd : o.guard = none) (s x : Operand) (t e : TypeId) (z : Value) (size bytes : Nat)
    (ho : o.op = .call { callee := .builtin .append, args := #[s, x], argTypes := #[t, t] })
    (ht : P.underlying t = some (.slice e)) (hi : (P.info? e).map (fun i => (i.zero, i.size, i.bytes)) = some (some z, size, bytes)) (hzs : z.cells.size = size) (hs0 : 0 < size)
    (v : Value) (n : Nat) (xs : List Value) (base B : Nat) (A : Option Addr) (m c : Nat) (news : List Value)
    (hs : a.eval s = v) (hown : w.ownsRow base e size v n xs) (hx : a.eval x = .slice A m c) (hr : Sees w B A (m * size) news) (h1 : ∀ u ∈ news, u.oneCell' = true)
    (hnm : n + m ≤ maxLen) (hbytes : (n + m) * bytes ≤ 140737488355328) (hbase : base ≤ w.heap.size)
    (h : ∀ v' w', w'.ownsRow base e size v' (n + m) (xs ++ news) → Grew w w' v v' → wpList P ops Q rest (a.put o.dst v') w') : wpList P ops Q (o :: rest) a w :=
  wpList_plain hgd fun _ hK => wp_appendN s x t e z size bytes ho ht hi hzs hs0 v n xs base B A m c news hs hown hx hr h1 hnm hbytes hbase fun v' w' h2 h3 => hK _ _ (h v' w' h2 h3)
end
theorem own_nilN (w : World) (base : Nat) (e : TypeId) (size : Nat) : w.ownsRow base e size (.slice none 0 0) 0 [] := World.ownsRow_nil w base e size
theorem own_form2 {w : World} {base : Nat} {e : TypeId} {size n : Nat} {v : Value} {xs : List Value} (h : w.ownsRow base e size v n xs) : ∃ A c, v = .slice A n c ∧ Sees w w.heap.size A (n * size) xs ∧ n ≤ c ∧ c ≤ maxLen ∧ (∀ g, v.ownBlock = some g → base ≤ g ∧ g < w.heap.size) := by
  have hlt := h.lt
  rcases h.2 with ⟨rfl, rfl⟩ | ⟨g, cap, cur, rfl, hg, hh, h1, h2, h3, h4⟩
  · have hx : xs = [] := List.eq_nil_of_length_eq_zero (by simpa using h.1)
    subst hx
    exact ⟨none, 0, rfl, by rw [Nat.zero_mul]; exact Sees.nil _ _ _, Nat.le_refl _, by simp [maxLen], hlt⟩
  · refine ⟨_, cap, rfl, ⟨h.1, fun j u hu => ⟨_, rfl, (Array.getElem?_eq_some_iff.1 hh).1, h.cells (g := g) rfl j u hu⟩⟩, h1, h2, hlt⟩
theorem BytesIn.one {w : World} {B : Nat} {v : Value} {l : List Int} (h : BytesIn w B v l) : v.oneCell' = true := by
  obtain ⟨A, c, rfl, _⟩ := h.is
  rfl
end Go.Proofs.Ytodoaebpkmhhmaa

/-
  Of part MoreWalk: what is needed here.
-/
namespace Go.Proofs.Ytodoaebpkmhhmaa
open Go.RowKit
set_option linter.unusedVariables false
set_option maxRecDepth 100000
theorem Sees.far {w : World} {B n : Nat} {A : Option Addr} {xs : List Value} (h : Sees w B A n xs) {p : Addr} (hp : ∀ a, A = some a → a.block ≠ p.block) (u : Value) : Sees (w.setCell p u) B A n xs :=
  ⟨h.len, fun i v hv => by
    obtain ⟨a, ha, hb, hc⟩ := h.cell i v hv
    exact ⟨a, ha, hb, (World.cell?_setCell_other w p _ u (fun e => hp a ha (by rw [e, addr_block]))).trans hc⟩⟩
end Go.Proofs.Ytodoaebpkmhhmaa

/-
  Of part OtherMem: what is needed here.
-/
namespace Go.Proofs.Ytodoaebpkmhhmaa
open Go.RowKit
set_option linter.unusedVariables false
set_option maxRecDepth 100000
theorem own_of_row {w : World} {base g c : Nat} {e : TypeId} {size n : Nat} {xs rest : List Value} (h : Row w g e (xs ++ rest)) (hl : xs.length = n * size) (hc : (xs ++ rest).length = c * size) (h1 : n ≤ c) (h2 : c ≤ maxLen) (hb : base ≤ g) :
    w.ownsRow base e size (.slice (some ⟨g, 0, none⟩) n c) n xs :=
  ⟨hl, .inr ⟨g, c, (xs ++ rest).toArray, rfl, hb, h.is, h1, h2, by simpa using hc, by rw [← hl]; simp⟩⟩
theorem own_keep {w w' : World} {base : Nat} {e : TypeId} {size n : Nat} {v : Value} {xs : List Value} (h : w.ownsRow base e size v n xs) (hk : ∀ g, v.ownBlock = some g → w'.heap[g]? = w.heap[g]?) : w'.ownsRow base e size v n xs := by
  refine ⟨h.1, ?_⟩
  rcases h.2 with h2 | ⟨g, cap, cur, hv, hg, hh, r⟩
  · exact .inl h2
  · exact .inr ⟨g, cap, cur, hv, hg, (hk g (by rw [hv]; rfl)).trans hh, r⟩
theorem own_is {w : World} {base : Nat} {e : TypeId} {size n g : Nat} {v : Value} {xs : List Value} (h : w.ownsRow base e size v n xs) (hg : v.ownBlock = some g) : ∃ cur, w.heap[g]? = some (.cells cur e (0, 0)) := by
  rcases h.2 with ⟨rfl, _⟩ | ⟨g', cap, cur, rfl, _, hh, _⟩
  · cases hg
  · cases hg
    exact ⟨cur, hh⟩
/-- what the rules see of an instruction -/
def pa (i : LIn) : Int × List Int := (i.p, i.acc)
/-- 'copy' into the midst of a block that is known whole, as one step -/
theorem wp_copy_row {P : Program} {o : Oper} {a : Act} {w : World} {K : Act → World → Prop} {Q : Exit → Act → World → Prop} (d s : Operand) (dT sT elem : TypeId)
    (ho : o.op = .call { callee := .builtin .copy, args := #[d, s], argTypes := #[dT, sT] }) (hu : P.underlying dT = some (.slice elem)) (hsz : (P.info? elem).map (·.size) = some 1)
    (g off dLen dCap : Nat) (ad : Addr) (sLen sCap : Nat) (hd : a.eval d = .slice (some ⟨g, off, none⟩) dLen dCap) (hs : a.eval s = .slice (some ad) sLen sCap)
    (cur : List Value) (t : TypeId) (hg : Row w g t cur) (cs : List Value) (hn : cs.length = Nat.min sLen dLen)
    (hsrc : ∀ j v, cs[j]? = some v → w.cell? (ad.add j) = some v) (hfit : off + cs.length ≤ cur.length) (h1 : ∀ v ∈ cs, v.oneCell' = true)
    (h : ∀ w', Row w' g t (cur.take off ++ cs ++ cur.drop (off + cs.length)) → Turned w w' g → K (a.put o.dst (goInt cs.length)) w') : o.wp P a w K Q := by
  have hrun := run_copy_row (P := P) w dT sT o.type elem g off dLen dCap ad sLen sCap cur.toArray t cs hu hsz hg.is hn hsrc (by simpa using hfit) h1
  unfold Oper.wp execOp
  simp only [ho, resolve, invoke, builtin, Sem.run_bind, Sem.run_pure, Result.andThen_ok, List.map_toArray, List.map_cons, List.map_nil, hd, hs, hrun]
  exact h _ (by simpa using row_setRow hg (cur.take off ++ cs ++ cur.drop (off + cs.length))) (by simpa using turned_setRow w g _)
end Go.Proofs.Ytodoaebpkmhhmaa

/-
  Of part Rec12: what is needed here.
-/
namespace Go.Proofs.Ytodoaebpkmhhmaa
open Go.RowKit
set_option linter.unusedVariables false
set_option maxRecDepth 100000
/-- a variable of many cells is made -/
theorem wp_alloc_zero {P : Program} {o : Oper} {a : Act} {w : World} {K : Act → World → Prop} {Q : Exit → Act → World → Prop} (t : TypeId) (ho : o.op = .alloc t) (z : List Value)
    (hi : (P.info? t).map (·.zero) = some (some (.agg z.toArray))) (h : K (a.put o.dst (.pointer (some ⟨w.heap.size, 0, none⟩))) (w.alloc (.cells z.toArray t))) : o.wp P a w K Q := by
  cases hq : P.info? t with
  | none => simp [hq] at hi
  | some i =>
    have hz : i.zero = some (.agg z.toArray) := by simpa [hq] using hi
    unfold Oper.wp execOp
    simp [ho, Instr.alloc, zeroValue, typeInfo, hq, hz, newVar, newRow, Value.cells]
    exact h
theorem wpList_alloc_zero {P : Program} {ops : Array Oper} {rest : List Oper} {o : Oper} {a : Act} {w : World} {Q : Exit → Act → World → Prop} (hg : o.guard = none) (t : TypeId) (ho : o.op = .alloc t) (z : List Value)
    (hi : (P.info? t).map (·.zero) = some (some (.agg z.toArray))) (h : wpList P ops Q rest (a.put o.dst (.pointer (some ⟨w.heap.size, 0, none⟩))) (w.alloc (.cells z.toArray t))) : wpList P ops Q (o :: rest) a w :=
  wpList_plain hg fun K hK => wp_alloc_zero t ho z hi (hK _ _ h)
end Go.Proofs.Ytodoaebpkmhhmaa

/-
  Of part Accs14: what is needed here.
-/
namespace Go.Proofs.Ytodoaebpkmhhmaa
open Go.RowKit
set_option linter.unusedVariables false
set_option maxRecDepth 100000
theorem accs_is {L : List LAcc} (h : ∀ x ∈ L, AccOk x) : ∀ k ∈ L.map LAcc.cells, IsAc k := fun k hk => by
  obtain ⟨x, hx, rfl⟩ := List.mem_map.1 hk
  exact acc_is (h x hx).o.1
def accsC (L : List LAcc) : List Value := (L.map LAcc.cells).flatten
theorem accs_each {L : List LAcc} (h : ∀ x ∈ L, AccOk x) : ∀ k ∈ L.map LAcc.cells, k.length = 34 := fun k hk => by
  obtain ⟨x, hx, rfl⟩ := List.mem_map.1 hk
  exact acc_len (h x hx).o.1
theorem accsC_one (L : List LAcc) : ∀ u ∈ accsC L, u.oneCell' = true := fun u hu => by
  obtain ⟨c, hc, hu⟩ := List.mem_flatten.1 hu
  obtain ⟨x, _, rfl⟩ := List.mem_map.1 hc
  exact acc_one x u hu
theorem accsC_len {L : List LAcc} (h : ∀ x ∈ L, AccOk x) : (accsC L).length = L.length * 34 := by
  unfold accsC
  rw [cs_flat (accs_each h), List.length_map]
/-- accounts that lie below block B -/
structure AccsIn (w : World) (B : Nat) (A : Option Addr) (n : Nat) (L : List LAcc) : Prop where
  len : L.length = n
  ok : ∀ x ∈ L, AccOk x
  sees : Sees w B A (n * 34) (accsC L)
section
variable {n B B' : Nat} {w w' : World} {A : Option Addr} {L : List LAcc}
theorem AccsIn.cs (h : AccsIn w B A n L) : CsIn 34 w B A n (L.map LAcc.cells) := ⟨by rw [List.length_map, h.len], accs_each h.ok, h.sees⟩
theorem AccsIn.keep (h : AccsIn w B A n L) (hk : ∀ p : Addr, p.block < B → w'.cell? p = w.cell? p) : AccsIn w' B A n L := ⟨h.len, h.ok, h.sees.keep hk⟩
theorem AccsIn.below (h : AccsIn w B A n L) (hb : Below B w w') : AccsIn w' B A n L := ⟨h.len, h.ok, h.sees.below hb⟩
theorem AccsIn.more (h : AccsIn w B A n L) (hB : B ≤ B') : AccsIn w B' A n L := ⟨h.len, h.ok, h.sees.more hB⟩
theorem AccsIn.get (h : AccsIn w B A n L) {k : Nat} (hk : k < n) : ∃ a x, A = some a ∧ a.block < B ∧ L[k]? = some x ∧ AccOk x ∧ ∀ j u, x.cells[j]? = some u → w.cell? ((a.add (k * 34)).add j) = some u := by
  obtain ⟨a, x, e, hb, hx, _, hcell⟩ := h.cs.get hk (by omega)
  rw [List.getElem?_map] at hx
  obtain ⟨r, hr, rfl⟩ := Option.map_eq_some_iff.1 hx
  exact ⟨a, r, e, hb, hr, h.ok r (List.mem_of_getElem? hr), hcell⟩
theorem accs_own {base c : Nat} (h : w.ownsRow base 48 34 (.slice A n c) L.length (accsC L)) (ho : ∀ x ∈ L, AccOk x) (hn : n = L.length) : AccsIn w w.heap.size A n L := by
  subst hn
  obtain ⟨A', c', h1, h2, _⟩ := own_form2 h
  cases h1
  exact ⟨rfl, ho, h2⟩
theorem accs_row {g t : Nat} {ys : List Value} (hr : Row w g t (accsC L ++ ys)) (hn : L.length = n) (he : ∀ r ∈ L, AccOk r) (hB : g < B) : AccsIn w B (some ⟨g, 0, none⟩) n L :=
  ⟨hn, he, (csIn_row (sz := 34) (l := L.map LAcc.cells) hr (by rw [List.length_map, hn]) (accs_each he) hB).sees⟩
end
/-- accounts of the call's own, whose room may be less than their block's -/
structure OA14 (w : World) (base : Nat) (v : Value) (L : List LAcc) : Prop where
  is : ∃ A c c', v = .slice A L.length c ∧ L.length ≤ c ∧ c ≤ c' ∧ w.ownsRow base 48 34 (.slice A L.length c') L.length (accsC L)
  ok : ∀ x ∈ L, AccOk x
theorem own_blk14 (A : Option Addr) (n c c' : Nat) : (Value.slice A n c).ownBlock = (Value.slice A n c').ownBlock := by cases A <;> rfl
section
variable {w w' : World} {base c n : Nat} {v : Value} {A : Option Addr} {L : List LAcc}
theorem OA14.keep (h : OA14 w base v L) (hk : ∀ g, v.ownBlock = some g → w'.heap[g]? = w.heap[g]?) : OA14 w' base v L := by
  obtain ⟨A, c, c', rfl, h1, h2, h3⟩ := h.is
  exact ⟨⟨A, c, c', rfl, h1, h2, own_keep h3 fun g hg => hk g ((own_blk14 A _ c c').trans hg)⟩, h.ok⟩
theorem OA14.lt (h : OA14 w base v L) : ∀ g, v.ownBlock = some g → base ≤ g ∧ g < w.heap.size := fun g hg => by
  obtain ⟨A, c, c', rfl, h1, h2, h3⟩ := h.is
  exact h3.lt g ((own_blk14 A _ c' c).trans hg)
theorem OA14.below (h : OA14 w base v L) (hb : Below w.heap.size w w') : OA14 w' base v L := h.keep fun g hg => hb.block g (h.lt g hg).2
theorem OA14.cells (h : OA14 w base v L) : ∀ g, v.ownBlock = some g → ∃ cur, w.heap[g]? = some (.cells cur 48 (0, 0)) := fun g hg => by
  obtain ⟨A, c, c', rfl, h1, h2, h3⟩ := h.is
  exact own_is h3 ((own_blk14 A _ c' c).trans hg)
theorem OA14.accs (h : OA14 w base (.slice A n c) L) (hn : n = L.length) : AccsIn w w.heap.size A n L := by
  subst hn
  obtain ⟨A', c1, c', e, h1, h2, h3⟩ := h.is
  injection e with e _ _
  subst e
  exact accs_own h3 h.ok rfl
theorem OA14.form (h : OA14 w base v L) : ∃ A c, v = .slice A L.length c ∧ L.length ≤ c ∧ c ≤ maxLen := by
  obtain ⟨A', c1, c', rfl, h1, h2, h3⟩ := h.is
  obtain ⟨_, _, e, _, _, hm, _⟩ := own_form2 h3
  injection e with _ _ e
  exact ⟨_, _, rfl, h1, by omega⟩
end
set_option maxHeartbeats 400000 in
theorem sameAccs (A B : Option Addr) (n c d : Nat) (L : List LAcc) (w : World) (S T : Nat) (hx : AccsIn w S A n L) (hy : AccsIn w T B n L) (hn : n ≤ maxLen) :
    Calls Try.prog 14 #[.slice A n c, .slice B n d] w fun e w' => e = .returned (.bool true) ∧ ∃ k, w' = w.drewN k := by
  have HS := Lib.hid (sameAc A B n c d _ w S T hx.cs hy.cs (accs_is hx.ok) hn)
  clear hx hy
  go_enter Try.func14, Try.ntmps14
  go_wp2_with fail
  refine HS.out.mono ?_
  rintro e w' ⟨rfl, k, rfl⟩
  go_wp2_with fail
  go_ret
  exact ⟨rfl, k, rfl⟩
/-- the mark behind accounts -/
def mkAc : LAcc := acS 42330 0
theorem mkAc_is : IsAc mkAc.cells := acc_is rfl
theorem built_mkAc : Try.prog.built 48 [(0, .int .u64 42330)] = some mkAc.cells.toArray := by kernel_rfl
set_option maxHeartbeats 800000 in
theorem markAccount (w : World) : Calls Try.prog 24 #[] w fun e w' => e = .returned (.agg mkAc.cells.toArray) ∧ Below w.heap.size w w' := by
  go_enter Try.func24, Try.ntmps24
  go_wp2_with (first
    | ((with_reducible show wpList _ _ _ ({ dst := some 0, op := Op.alloc _, type := _, pos := _, after := _, guard := _ } :: _) _ _); go_must (refine wpList_alloc_zero rfl 48 rfl blank13.cells zero_acc ?_))
    | ((with_reducible show wpList _ _ _ ({ dst := some 1, op := Op.build _ _, type := _, pos := _, after := _, guard := _ } :: _) _ _); go_must (refine wpList_plain rfl fun K hK => wp_built _ _ _ rfl (by simp only [List.map_toArray, List.map_cons, List.map_nil]; exact built_mkAc) (hK _ _ ?_)))
    | ((with_reducible show wpList _ _ _ ({ dst := none, op := Op.store 48 _ _, type := _, pos := _, after := _, guard := _ } :: _) _ _); go_must (refine wpList_store_new rfl 48 (.tmp 0) (.tmp 1) rfl mkAc.cells mkAc_is.size mkAc_is.one (by rw [List.size_toArray, mkAc_is.len]; rfl) ?_ ?_ ?_; go_simp; go_simp; intro w3 hr3 hb3 hz3; have R3 := Lib.hid hr3; have B3 := Lib.hid hb3; clear hr3 hb3 hz3)))
  refine bodyPost_ret (results_cell_row (h := rfl) _ w3 w.heap.size 48 _ (0, 0) _ (by rfl) R3.out.is Try.underlying48 rfl mkAc_is.size) rfl ?_
  exact ⟨rfl, B3.out⟩
set_option maxHeartbeats 400000 in
theorem twinAccounts (A : Option Addr) (n c B : Nat) (l : List LAcc) (w : World) (hx : AccsIn w B A n l) (hB : B ≤ w.heap.size) (hn : n ≤ 1000000) :
    Calls Try.prog 10 #[.slice A n c] w fun e w' => ∃ g, e = .returned (.slice (some ⟨g, 0, none⟩) n (n + 3)) ∧ w.heap.size ≤ g ∧ Row w' g 48 (accsC l ++ rowOf 3 mkAc.cells) ∧ Below w.heap.size w w' := by
  have HX := Lib.hid hx
  clear hx
  go_enter Try.func10, Try.ntmps10
  go_wp2_with fail
  refine (markAccount _).mono ?_
  rintro e w1 ⟨rfl, hb1⟩
  have H := Lib.hid (twinAc A n c (l.map LAcc.cells) mkAc.cells w1 B (HX.out.cs.below (hb1.mono hB)) (accs_is HX.out.ok) (Nat.le_trans hB hb1.size) (by omega) mkAc_is)
  have B1 := Lib.hid hb1
  clear hb1
  go_wp2_with fail
  refine H.out.mono ?_
  rintro e w2 ⟨g, rfl, hg, hr, hb2⟩
  have R2 := Lib.hid hr
  have HG := Lib.hid (Nat.le_trans B1.out.size hg)
  have B2 := Lib.hid (B1.out.trans (hb2.mono B1.out.size))
  clear hr hb2 hg
  go_wp2_with fail
  go_ret
  exact ⟨g, rfl, HG.out, R2.out, B2.out⟩
set_option maxHeartbeats 400000 in
theorem leftAccounts (g : Nat) (A : Option Addr) (n d B : Nat) (l : List LAcc) (w : World) (hr : Row w g 48 (accsC l ++ rowOf 3 mkAc.cells)) (hx : AccsIn w B A n l) (hB : B ≤ w.heap.size) (hn : n ≤ 1000000) :
    Calls Try.prog 15 #[.slice (some ⟨g, 0, none⟩) n (n + 3), .slice A n d] w fun e w' => e = .returned (.bool true) ∧ Below w.heap.size w w' := by
  have HX := Lib.hid hx
  have HR := Lib.hid hr
  clear hx hr
  go_enter Try.func15, Try.ntmps15
  go_wp2_with fail
  refine (markAccount _).mono ?_
  rintro e w1 ⟨rfl, hb1⟩
  have H := Lib.hid (leftAc g A n d (l.map LAcc.cells) mkAc.cells w1 B (HR.out.below hb1 HR.out.lt) (HX.out.cs.below (hb1.mono hB)) (accs_is HX.out.ok) (Nat.le_trans hB hb1.size) (by omega) mkAc_is)
  have B1 := Lib.hid hb1
  clear hb1
  generalize mkAc.cells = M at *
  go_wp2_with fail
  refine H.out.mono ?_
  rintro e w2 ⟨rfl, hb2⟩
  have B2 := Lib.hid (B1.out.trans (hb2.mono B1.out.size))
  clear hb2
  go_wp2_with fail
  go_ret
  exact ⟨rfl, B2.out⟩
end Go.Proofs.Ytodoaebpkmhhmaa

/-
  Of part RefGetN: what is needed here.
-/
namespace Go.Proofs.Ytodoaebpkmhhmaa
open Go.RowKit
set_option linter.unusedVariables false
set_option maxRecDepth 100000
theorem bytes_drop {zs : List Int} (hb : Bytes zs) (j : Nat) : Bytes (zs.drop j) := by
  intro i
  have := hb (j + i)
  simpa [List.getD_eq_getElem?_getD] using this
theorem num_down (zs : List Int) (hb : Bytes zs) (k j : Nat) (hk : k + 1 + j ≤ 8) :
    IntKind.u64.wrap (IntKind.u64.wrap (256 * num (zs.drop (k + 1)) j) + IntKind.u64.wrap (zs.getD k 0)) = num (zs.drop k) (j + 1) := by
  have h := hb k
  have hn := num_bound (zs.drop (k + 1)) (bytes_drop hb _) j
  have e : num (zs.drop k) (j + 1) = zs.getD k 0 + 256 * num (zs.drop (k + 1)) j := by
    rw [num_shift, List.drop_drop]
    simp [List.getD_eq_getElem?_getD]
  rw [e]
  have hp : (256 : Int) ^ j ≤ 72057594037927936 := by
    have h1 : (256 : Nat) ^ j ≤ 256 ^ 7 := Nat.pow_le_pow_right (by omega) (by omega)
    have h2 : ((256 ^ j : Nat) : Int) = (256 : Int) ^ j := by simp
    omega
  generalize num (zs.drop (k + 1)) j = p at *
  generalize zs.getD k 0 = z at *
  rw [u64_in (256 * p) (by omega) (by omega), u64_in z (by omega) (by omega), u64_in _ (by omega) (by omega)]
  omega
set_option maxHeartbeats 400000 in
theorem refGet (A : Option Addr) (n c : Nat) (zs : List Int) (m : Int) (w : World) (S : Nat)
    (hx : Sees w S A n (bv zs)) (hn : n ≤ maxLen) (hb : Bytes zs) :
    Calls Try.prog 50 #[.slice A n c, .int .i64 m] w fun e w' => e = .returned (.tuple #[.int .u64 (getN zs m).1, .int .i64 (getN zs m).2]) ∧ w = w' := by
  unfold maxLen at hn
  have lx := Lib.hid (show zs.length = n by have := hx.len; rwa [bv_length] at this)
  by_cases hm : m < 1 ∨ 8 < m
  · have hg : getN zs m = (0, 1) := by simp [getN, hm]
    have HG := Lib.hid hg
    clear hg
    rcases hm with hm | hm
    · go_enter Try.func50, Try.ntmps50
      go_wp2
      go_ret2
      exact ⟨tup2_of HG.out, rfl⟩
    · have h2 : ¬ m < 1 := by omega
      go_enter Try.func50, Try.ntmps50
      go_wp2
      go_ret2
      exact ⟨tup2_of HG.out, rfl⟩
  · have hm1 : ¬ m < 1 := by omega
    have hm2 : ¬ 8 < m := by omega
    by_cases hl : (n : Int) < m
    · have hg : getN zs m = (0, 5) := by simp [getN, hm]; rw [lx.out]; exact hl
      have HG := Lib.hid hg
      clear hg hm
      go_enter Try.func50, Try.ntmps50
      go_wp2
      go_ret2
      exact ⟨tup2_of HG.out, rfl⟩
    · obtain ⟨mm, rfl⟩ := Int.eq_ofNat_of_zero_le (show 0 ≤ m by omega)
      have hg : getN zs mm = (num zs mm, 0) := by simp [getN, hm]; rw [lx.out]; omega
      have hm8 : mm ≤ 8 := by omega
      have hm1 : 1 ≤ mm := by omega
      have hmn : mm ≤ n := by omega
      have HG := Lib.hid hg
      clear hg hm hl hm2
      go_enter Try.func50, Try.ntmps50
      go_wp2
      go_loop [6, 7] (fun v i => ∃ (k : Nat), k ≤ mm ∧ i = .int .i64 ((k : Int) - 1) ∧ v = .int .u64 (num (zs.drop k) (mm - k))) (fun _ i => (intOf i + 1).toNat)
      case atStart => exact ⟨mm, Nat.le_refl _, rfl, by simp [num]⟩
      case round =>
        obtain ⟨k, hk, rfl, rfl⟩ := hrel
        by_cases hlt : 0 < k
        · obtain ⟨k, rfl⟩ : ∃ j, k = j + 1 := ⟨k - 1, by omega⟩
          obtain ⟨a, rfl, ha, hca⟩ := hx.byte (k := k) (by omega)
          have HS := Lib.hid (num_down zs hb k (mm - (k + 1)) (by omega))
          generalize zs.getD k 0 = z at *
          generalize num (zs.drop (k + 1)) (mm - (k + 1)) = p at *
          have hc1 : (((k + 1 : Nat) : Int) - 1) = (k : Int) := by omega
          rw [hc1]
          clear hc1
          go_wp2
          go_round
          case rel => exact ⟨k, by omega, by go_num, by rw [HS.out, show mm - (k + 1) + 1 = mm - k by omega]⟩
          case measure => simp [intOf]
        · have hk0 : k = 0 := by omega
          subst hk0
          have hc1 : (((0 : Nat) : Int) - 1) = -1 := by omega
          rw [hc1]
          clear hc1
          go_wp2
          go_ret2
          exact ⟨tup2_of HG.out, rfl⟩
end Go.Proofs.Ytodoaebpkmhhmaa
