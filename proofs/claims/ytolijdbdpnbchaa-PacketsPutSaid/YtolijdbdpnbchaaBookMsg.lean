/-
  Book.Message: a message's lists, page by page.
  A message of the call's own: its lists' pages; a book found apart.
-/
import Derived.Test.YtolijdbdpnbchaaPages
namespace Go.Proofs.Ytolijdbdpnbchaa
open Go.RowKit
set_option linter.unusedVariables false

/-- a list: where it lies, how long it is, its room -/
structure Sl where
  A : Option Nat
  n : Nat
  c : Nat
def Sl.val (x : Sl) : Value := .slice (x.A.map fun g => ⟨g, 0, none⟩) x.n x.c
def Sg.isK : Sg → Kd
  | .b _ _ => .b
  | .k _ _ => .k
  | .s _ _ => .s
def Pg2.key (q : Pg2) : Sl × Kd := (⟨q.A, q.n, q.c⟩, q.s.isK)

/-- a book of the call's own, from world w0 on, its pages' lists and kinds -/
def Bk (w0 : World) (p base : Nat) (ks : List (Sl × Kd)) (w : World) : Prop :=
  ∃ (P : List Pg2) (A : Option Addr) (c : Nat), P.map Pg2.key = ks ∧ (∀ q ∈ P, q.s.Wf) ∧ BookW w0 p base A P.length c (P.map Pg2.val) w

section
variable {w0 w w' : World} {p base B : Nat} {ks ks' : List (Sl × Kd)}
theorem Bk.start (h : Bk w0 p base ks w) : Bk w p base ks w := by
  obtain ⟨P, A, c, h1, h2, h3⟩ := h
  exact ⟨P, A, c, h1, h2, h3.start⟩
theorem Bk.trans (h : Bk w0 p base ks w) (h' : Bk w p base ks' w') : Bk w0 p base ks' w' := by
  obtain ⟨P, A, c, h1, h2, h3⟩ := h
  obtain ⟨P', A', c', h1', h2', h3'⟩ := h'
  exact ⟨P', A', c', h1', h2', h3.trans h3'⟩
theorem Bk.alloc (h : Bk w0 p base ks w) (o : Obj) : Bk w0 p base ks (w.alloc o) := by
  obtain ⟨P, A, c, h1, h2, h3⟩ := h
  exact ⟨P, A, c, h1, h2, h3.alloc o⟩
theorem Bk.one (h : Bk w0 p base ks w) : ButOne base p w0 w := by
  obtain ⟨P, A, c, h1, h2, h3⟩ := h
  exact h3.one
theorem Bk.row {g t : Nat} {xs : List Value} (h : Bk w0 p base ks w) (hr : Row w0 g t xs) (hg : g ≠ p) (ht : t ≠ 75) : Row w g t xs := by
  obtain ⟨P, A, c, h1, h2, h3⟩ := h
  exact h3.rowK hr hg ht
theorem Bk.plt (h : Bk w0 p base ks w) : p < w.heap.size := by
  obtain ⟨P, A, c, h1, h2, h3⟩ := h
  exact h3.row.lt
end

theorem bkBytes (p base : Nat) (ks : List (Sl × Kd)) (x : Sl) (w0 w : World) (h : Bk w0 p base ks w) (hn : ks.length ≤ 1000000) :
    Calls Try.prog 16 #[.pointer (some ⟨p, 0, none⟩), x.val] w fun e w' => e = .returned (.tuple #[]) ∧ Bk w0 p base (ks ++ [(x, Kd.b)]) w' := by
  obtain ⟨P, A, c, h1, h2, h3⟩ := h
  subst h1
  refine (bookBytesW p base A _ P.length c x.n x.c _ w0 w h3 (by simpa using hn)).mono ?_
  rintro e w' ⟨hh, ff, A', c', rfl, h4⟩
  refine ⟨rfl, P ++ [⟨x.A, x.n, x.c, .b hh ff⟩], A', c', by simp [Pg2.key, Sg.isK], fun q hq => ?_, ?_⟩
  · rcases List.mem_append.1 hq with hq | hq
    · exact h2 q hq
    · obtain rfl : q = _ := List.mem_singleton.1 hq
      trivial
  · rw [List.length_append, List.map_append]
    exact h4
theorem bkKeys (p base : Nat) (ks : List (Sl × Kd)) (x : Sl) (w0 w : World) (h : Bk w0 p base ks w) (hn : ks.length ≤ 1000000) :
    Calls Try.prog 59 #[.pointer (some ⟨p, 0, none⟩), x.val] w fun e w' => e = .returned (.tuple #[]) ∧ Bk w0 p base (ks ++ [(x, Kd.k)]) w' := by
  obtain ⟨P, A, c, h1, h2, h3⟩ := h
  subst h1
  refine (bookKeys p base A _ P.length c x.n x.c _ w0 w h3 (by simpa using hn)).mono ?_
  rintro e w' ⟨z1, z2, A', c', rfl, hz1, hz2, h4⟩
  refine ⟨rfl, P ++ [⟨x.A, x.n, x.c, .k z1 z2⟩], A', c', by simp [Pg2.key, Sg.isK], fun q hq => ?_, ?_⟩
  · rcases List.mem_append.1 hq with hq | hq
    · exact h2 q hq
    · obtain rfl : q = _ := List.mem_singleton.1 hq
      exact ⟨hz1, hz2⟩
  · rw [List.length_append, List.map_append]
    exact h4

theorem bkSigs (p base : Nat) (ks : List (Sl × Kd)) (x : Sl) (w0 w : World) (h : Bk w0 p base ks w) (hn : ks.length ≤ 1000000) :
    Calls Try.prog 37 #[.pointer (some ⟨p, 0, none⟩), x.val] w fun e w' => e = .returned (.tuple #[]) ∧ Bk w0 p base (ks ++ [(x, Kd.s)]) w' := by
  obtain ⟨P, A, c, h1, h2, h3⟩ := h
  subst h1
  refine (bookSigs p base A _ P.length c x.n x.c _ w0 w h3 (by simpa using hn)).mono ?_
  rintro e w' ⟨z1, z2, A', c', rfl, hz1, hz2, h4⟩
  refine ⟨rfl, P ++ [⟨x.A, x.n, x.c, .s z1 z2⟩], A', c', by simp [Pg2.key, Sg.isK], fun q hq => ?_, ?_⟩
  · rcases List.mem_append.1 hq with hq | hq
    · exact h2 q hq
    · obtain rfl : q = _ := List.mem_singleton.1 hq
      exact ⟨hz1, hz2⟩
  · rw [List.length_append, List.map_append]
    exact h4

/-- the pages of n pairs of lists of bytes -/
def flat (f : Nat → Sl × Sl) (n : Nat) : List (Sl × Kd) := (List.range n).flatMap fun i => [((f i).1, Kd.b), ((f i).2, Kd.b)]
theorem flat_succ (f : Nat → Sl × Sl) (n : Nat) : flat f (n + 1) = flat f n ++ [((f n).1, Kd.b)] ++ [((f n).2, Kd.b)] := by
  unfold flat
  rw [List.range_succ, List.flatMap_append]
  simp
theorem flat_len (f : Nat → Sl × Sl) : ∀ n, (flat f n).length = 2 * n
  | 0 => rfl
  | n + 1 => by rw [flat_succ, List.length_append, List.length_append, flat_len f n]; simp; omega
/-- a message's pages -/
def pagesOf (K : Sl) (iv : Nat → Sl × Sl) (n : Nat) (lv : Nat → Sl × Sl) (m : Nat) : List (Sl × Kd) := [(K, Kd.k)] ++ flat iv n ++ flat lv m

/-- where the i-th element's two lists stand -/
def TwoAt (w : World) (B size o : Nat) (x : Sl) (f : Nat → Sl × Sl) : Prop :=
  ∀ i, i < x.n → ∃ g, x.A = some g ∧ g < B ∧ w.cell? ⟨g, i * size + o, none⟩ = some (f i).1.val ∧ w.cell? ⟨g, i * size + (o + 1), none⟩ = some (f i).2.val

theorem TwoAt.keep {w w' : World} {B size o : Nat} {x : Sl} {f : Nat → Sl × Sl} (h : TwoAt w B size o x f) (hb : Below B w w') : TwoAt w' B size o x f := fun i hi => by
  obtain ⟨g, h1, h2, h3, h4⟩ := h i hi
  exact ⟨g, h1, h2, (hb.cell h2).trans h3, (hb.cell h2).trans h4⟩

set_option maxRecDepth 100000 in
set_option maxHeartbeats 2000000 in
theorem bookMessage (p base B : Nat) (ks : List (Sl × Kd)) (C : List Value) (K I L : Sl) (iv lv : Nat → Sl × Sl) (w0 w : World) (h : Bk w0 p base ks w)
    (h4 : C[4]? = some K.val) (h37 : C[37]? = some I.val) (h38 : C[38]? = some L.val) (hI : TwoAt w B 3 1 I iv) (hL : TwoAt w B 34 32 L lv) (hB : B ≤ base) (hp : B ≤ p) (hn : ks.length + 3 + 2 * I.n + 2 * L.n ≤ 1000000) :
    Calls Try.prog 38 #[.pointer (some ⟨p, 0, none⟩), .agg C.toArray] w fun e w' => e = .returned (.tuple #[]) ∧ Bk w0 p base (ks ++ pagesOf K iv I.n lv L.n) w' := by
  have HW := Lib.hid h
  have hplt := h.plt
  have H1 := Lib.hid ((h.alloc (.cells C.toArray 31)).start)
  have RM := Lib.hid (Row.new w 31 C)
  have hBs : B ≤ w.heap.size := by
    obtain ⟨P, A, c, _, _, h3⟩ := h
    have := h3.lt
    omega
  have HI := Lib.hid (hI.keep ((Below.refl B w).alloc hBs (.cells C.toArray 31)))
  have HL := Lib.hid (hL.keep ((Below.refl B w).alloc hBs (.cells C.toArray 31)))
  have C4 := Lib.hid h4
  have C37 := Lib.hid h37
  have C38 := Lib.hid h38
  have HB := Lib.hid (And.intro hB hp)
  have c4 : (w.alloc (.cells C.toArray 31)).cell? ⟨w.heap.size, 4, none⟩ = some K.val := by rw [RM.out.cell]; exact h4
  have hkn : ks.length ≤ 1000000 := by omega
  clear h hI hL h4 h37 h38 hB hp
  have HTR : Hid (∀ ks' w', Bk (w.alloc (.cells C.toArray 31)) p base ks' w' → Bk w0 p base ks' w') := Lib.hid fun ks' w' h' => (HW.out.alloc _).trans h'
  go_enter Try.func38, Try.ntmps38
  unfold Sl.val at c4
  go_wp2_with fail
  refine (bkKeys p base ks K _ _ H1.out hkn).mono ?_
  rintro e w1 ⟨rfl, hb1⟩
  have HB1 := Lib.hid hb1
  clear hb1 c4 H1
  generalize w.alloc (.cells C.toArray 31) = W at *
  obtain ⟨mb, hmb⟩ : ∃ mb, w.heap.size = mb := ⟨_, rfl⟩
  rw [hmb] at RM ⊢
  have hne : mb ≠ p := by omega
  have c37 : w1.cell? ⟨mb, 37, none⟩ = some (.slice (I.A.map fun g => ⟨g, 0, none⟩) I.n I.c) := by
    rw [(HB1.out.row RM.out hne (by decide)).cell]
    exact C37.out
  clear hplt hmb
  go_wp2_with fail
  go_loopw [4] (fun i wr => ∃ k : Nat, k ≤ I.n ∧ i = .int .i64 k ∧ Bk W p base (ks ++ [(K, Kd.k)] ++ flat iv k) wr) (fun i _ => I.n - (intOf i).toNat)
  case atStart => exact ⟨0, Nat.zero_le _, rfl, by simpa [flat] using HB1.out⟩
  case round =>
    obtain ⟨k, hk, rfl, hb⟩ := hrel
    clear HB1
    have HBk := Lib.hid hb
    have hlen : (ks ++ [(K, Kd.k)] ++ flat iv k).length + 1 ≤ 1000000 := by
      rw [List.length_append, flat_len]
      simp; omega
    by_cases hlt : k < I.n
    · obtain ⟨g, hg, hgB, e1, e2⟩ := HI.out k hlt
      have cX : wr.cell? ⟨mb, 37, none⟩ = some (.slice (some ⟨g, 0, none⟩) I.n I.c) := by
        rw [(hb.row RM.out hne (by decide)).cell, C37.out]
        unfold Sl.val
        rw [hg]
        rfl
      have v1 : wr.cell? ⟨g, k * 3 + 1, none⟩ = some (.slice ((iv k).1.A.map fun g => ⟨g, 0, none⟩) (iv k).1.n (iv k).1.c) := ((hb.one.below HB.out.1 HB.out.2).cell hgB).trans e1
      have E2 := Lib.hid e2
      have HLEN := Lib.hid hlen
      clear hb e1 e2 hlen
      go_wp2_with fail
      refine (bkBytes p base _ (iv k).1 W wr HBk.out (by have := HLEN.out; omega)).mono ?_
      rintro e w2 ⟨rfl, hb2⟩
      have cY : w2.cell? ⟨mb, 37, none⟩ = some (.slice (some ⟨g, 0, none⟩) I.n I.c) := by
        rw [(hb2.row RM.out hne (by decide)).cell, C37.out]
        unfold Sl.val
        rw [hg]
        rfl
      have v2 : w2.cell? ⟨g, k * 3 + 2, none⟩ = some (.slice ((iv k).2.A.map fun g => ⟨g, 0, none⟩) (iv k).2.n (iv k).2.c) := ((hb2.one.below HB.out.1 HB.out.2).cell hgB).trans E2.out
      have HBk2 := Lib.hid hb2
      clear hb2 cX v1
      go_wp2_with fail
      refine (bkBytes p base _ (iv k).2 W w2 HBk2.out (by rw [List.length_append]; have := HLEN.out; simpa using this)).mono ?_
      rintro e w3 ⟨rfl, hb3⟩
      have HBk3 := Lib.hid hb3
      clear hb3 cY v2
      go_wp2_with fail
      go_roundw
      case rel =>
        refine ⟨k + 1, by omega, by go_num, ?_⟩
        have := HBk3.out
        rw [flat_succ]
        simpa only [List.append_assoc] using this
      case measure => simp [intOf]; omega
    · have hkn2 : k = I.n := by omega
      have HE := Lib.hid (show Bk W p base (ks ++ ([(K, Kd.k)] ++ flat iv I.n)) wr by rw [← List.append_assoc]; rw [← hkn2]; exact hb)
      have cX : wr.cell? ⟨mb, 37, none⟩ = some (.slice (I.A.map fun g => ⟨g, 0, none⟩) I.n I.c) := by
        rw [(hb.row RM.out hne (by decide)).cell]
        exact C37.out
      clear hb HBk hlen hkn2
      obtain ⟨wq, hwq⟩ : ∃ u : World, u = wr := ⟨_, rfl⟩
      subst hwq
      have c38 : wq.cell? ⟨mb, 38, none⟩ = some (.slice (L.A.map fun g => ⟨g, 0, none⟩) L.n L.c) := by
        rw [(HE.out.row RM.out hne (by decide)).cell]
        exact C38.out
      go_wp2_with fail
      go_loopw [5] (fun i wr => ∃ k : Nat, k ≤ L.n ∧ i = .int .i64 k ∧ Bk W p base (ks ++ ([(K, Kd.k)] ++ flat iv I.n) ++ flat lv k) wr) (fun i _ => L.n - (intOf i).toNat)
      case atStart => exact ⟨0, Nat.zero_le _, rfl, by simpa [flat] using HE.out⟩
      case round =>
        obtain ⟨k, hk, rfl, hb⟩ := hrel
        clear HE
        have HBk := Lib.hid hb
        have hlen : (ks ++ ([(K, Kd.k)] ++ flat iv I.n) ++ flat lv k).length + 1 ≤ 1000000 := by
          rw [List.length_append, flat_len]
          rw [List.length_append, List.length_append, flat_len]; simp; omega
        by_cases hlt : k < L.n
        · obtain ⟨g, hg, hgB, e1, e2⟩ := HL.out k hlt
          have cX : wr.cell? ⟨mb, 38, none⟩ = some (.slice (some ⟨g, 0, none⟩) L.n L.c) := by
            rw [(hb.row RM.out hne (by decide)).cell, C38.out]
            unfold Sl.val
            rw [hg]
            rfl
          have v1 : wr.cell? ⟨g, k * 34 + 32, none⟩ = some (.slice ((lv k).1.A.map fun g => ⟨g, 0, none⟩) (lv k).1.n (lv k).1.c) := ((hb.one.below HB.out.1 HB.out.2).cell hgB).trans e1
          have E2 := Lib.hid e2
          have HLEN := Lib.hid hlen
          clear hb e1 e2 hlen
          go_wp2_with fail
          refine (bkBytes p base _ (lv k).1 W wr HBk.out (by have := HLEN.out; omega)).mono ?_
          rintro e w2 ⟨rfl, hb2⟩
          have cY : w2.cell? ⟨mb, 38, none⟩ = some (.slice (some ⟨g, 0, none⟩) L.n L.c) := by
            rw [(hb2.row RM.out hne (by decide)).cell, C38.out]
            unfold Sl.val
            rw [hg]
            rfl
          have v2 : w2.cell? ⟨g, k * 34 + 33, none⟩ = some (.slice ((lv k).2.A.map fun g => ⟨g, 0, none⟩) (lv k).2.n (lv k).2.c) := ((hb2.one.below HB.out.1 HB.out.2).cell hgB).trans E2.out
          have HBk2 := Lib.hid hb2
          clear hb2 cX v1
          go_wp2_with fail
          refine (bkBytes p base _ (lv k).2 W w2 HBk2.out (by rw [List.length_append]; have := HLEN.out; simpa using this)).mono ?_
          rintro e w3 ⟨rfl, hb3⟩
          have HBk3 := Lib.hid hb3
          clear hb3 cY v2
          go_wp2_with fail
          go_roundw
          case rel =>
            refine ⟨k + 1, by omega, by go_num, ?_⟩
            have := HBk3.out
            rw [flat_succ]
            simpa only [List.append_assoc] using this
          case measure => simp [intOf]; omega
        · have hkn2 : k = L.n := by omega
          have HE := Lib.hid (show Bk W p base (ks ++ ([(K, Kd.k)] ++ flat iv I.n) ++ flat lv L.n) wr by rw [← hkn2]; exact hb)
          have cX : wr.cell? ⟨mb, 38, none⟩ = some (.slice (L.A.map fun g => ⟨g, 0, none⟩) L.n L.c) := by
            rw [(hb.row RM.out hne (by decide)).cell]
            exact C38.out
          clear hb HBk hlen hkn2
          go_wp2_with fail
          go_end0
          refine ⟨rfl, HTR.out _ _ ?_⟩
          have := HE.out
          unfold pagesOf
          simpa only [List.append_assoc] using this

def ety : Kd → TypeId
  | .b => 5
  | .k => 58
  | .s => 62
def esz : Kd → Nat
  | .b => 1
  | .k => 32
  | .s => 64

/-- a page's list lies in memory, whole -/
def SlFit (w : World) (y : Sl × Kd) : Prop :=
  match y.1.A with
  | none => y.1.n = 0 ∧ y.1.c = 0
  | some g => y.1.n ≤ y.1.c ∧ y.1.c ≤ 9223372036854775807 ∧ ∃ xs, Row w g (ety y.2) xs ∧ y.1.c * esz y.2 ≤ xs.length ∧ (y.2 ≠ .b → xs.length = y.1.c * esz y.2)

theorem SlFit.keep {w w' : World} {y : Sl × Kd} (h : SlFit w y) (hk : ∀ g, y.1.A = some g → w'.heap[g]? = w.heap[g]?) : SlFit w' y := by
  obtain ⟨⟨A, n, c⟩, kd⟩ := y
  cases A with
  | none => exact h
  | some g =>
    obtain ⟨h1, h2, xs, hr, hl⟩ := h
    exact ⟨h1, h2, xs, ⟨(hk g rfl).trans hr.is⟩, hl⟩

theorem own_sl {w : World} {base n size : Nat} {e : TypeId} {v : Value} {xs : List Value} (h : w.ownsRow base e size v n xs) :
    ∃ x : Sl, v = x.val ∧ x.n = n ∧ (x.A = none → x.n = 0 ∧ x.c = 0) ∧ ∀ g, x.A = some g → base ≤ g ∧ g < w.heap.size ∧ v.ownBlock = some g ∧ x.n ≤ x.c ∧ x.c ≤ 9223372036854775807 ∧ ∃ cur, Row w g e cur ∧ cur.length = x.c * size := by
  rcases h.2 with ⟨rfl, h2⟩ | ⟨g, cap, cur, rfl, hg, hh, r1, r2, r3, r4⟩
  · exact ⟨⟨none, 0, 0⟩, rfl, h2.symm, fun _ => ⟨rfl, rfl⟩, fun g e => by cases e⟩
  · refine ⟨⟨some g, n, cap⟩, rfl, rfl, ?_, ?_⟩
    · intro e'
      cases e'
    intro g' e'
    cases e'
    exact ⟨hg, (Array.getElem?_eq_some_iff.1 hh).1, rfl, r1, by unfold maxLen at r2; omega, cur.toList, ⟨by simpa using hh⟩, by simpa using r3⟩

/-- what is told of pairs of lists of bytes: they lie in intervals that rise -/
structure Pairs (w : World) (lo hi n : Nat) (f : Nat → Sl × Sl) : Prop where
  fit : ∀ i, i < n → SlFit w ((f i).1, Kd.b) ∧ SlFit w ((f i).2, Kd.b)
  rise : ∃ L M R : Nat → Nat, (∀ i, i < n → lo ≤ L i ∧ L i ≤ M i ∧ M i ≤ R i ∧ R i ≤ hi ∧ (∀ g, (f i).1.A = some g → L i ≤ g ∧ g < M i) ∧ ∀ g, (f i).2.A = some g → M i ≤ g ∧ g < R i) ∧ ∀ i, i + 1 < n → R i ≤ L (i + 1)

/-- the blocks of some pages -/
def blocks (ks : List (Sl × Kd)) : List Nat := ks.filterMap fun y => y.1.A
theorem blocks_app (a b : List (Sl × Kd)) : blocks (a ++ b) = blocks a ++ blocks b := by simp [blocks, List.filterMap_append]
theorem blocks_one (y : Sl × Kd) : ∀ g ∈ blocks [y], y.1.A = some g := by
  intro g hg
  unfold blocks at hg
  rw [List.filterMap_cons] at hg
  split at hg
  · cases hg
  · rename_i h
    simp at hg
    rw [h, hg]
theorem pair_one (y : Sl × Kd) : (blocks [y]).Pairwise (· < ·) := by
  unfold blocks
  rw [List.filterMap_cons]
  split <;> simp

theorem pair_app {a b : List Nat} {m : Nat} (ha : a.Pairwise (· < ·)) (hb : b.Pairwise (· < ·)) (h1 : ∀ x ∈ a, x < m) (h2 : ∀ x ∈ b, m ≤ x) : (a ++ b).Pairwise (· < ·) :=
  List.pairwise_append.2 ⟨ha, hb, fun x hx y hy => by have := h1 x hx; have := h2 y hy; omega⟩

theorem Pairs.blocks {w : World} {lo hi n : Nat} {f : Nat → Sl × Sl} (h : Pairs w lo hi n f) (hlh : lo ≤ hi) : ∀ k, k ≤ n → (blocks (flat f k)).Pairwise (· < ·) ∧ (∀ g ∈ blocks (flat f k), lo ≤ g ∧ g < hi) := by
  obtain ⟨L, M, R, h1, h2⟩ := h.rise
  have key : ∀ k, k ≤ n → (Go.Proofs.Ytolijdbdpnbchaa.blocks (flat f k)).Pairwise (· < ·) ∧ (∀ g ∈ Go.Proofs.Ytolijdbdpnbchaa.blocks (flat f k), lo ≤ g ∧ g < hi) ∧ ∀ g ∈ Go.Proofs.Ytolijdbdpnbchaa.blocks (flat f k), ∀ i, k = i + 1 → g < R i := by
    intro k
    induction k with
    | zero =>
      intro _
      have e : Go.Proofs.Ytolijdbdpnbchaa.blocks (flat f 0) = [] := rfl
      rw [e]
      exact ⟨List.Pairwise.nil, by simp, by simp⟩
    | succ k ih =>
      intro hk
      obtain ⟨i1, i2, i3⟩ := ih (by omega)
      obtain ⟨j1, j2, j3, j4, j5, j6⟩ := h1 k (by omega)
      have hlow : ∀ g ∈ Go.Proofs.Ytolijdbdpnbchaa.blocks (flat f k), g < L k := by
        intro g hg
        cases k with
        | zero => cases hg
        | succ k =>
          have := i3 g hg k rfl
          have := h2 k (by omega)
          omega
      have m1 : ∀ g ∈ Go.Proofs.Ytolijdbdpnbchaa.blocks [((f k).1, Kd.b)], L k ≤ g ∧ g < M k := fun g hg => j5 g (blocks_one _ g hg)
      have m2 : ∀ g ∈ Go.Proofs.Ytolijdbdpnbchaa.blocks [((f k).2, Kd.b)], M k ≤ g ∧ g < R k := fun g hg => j6 g (blocks_one _ g hg)
      rw [flat_succ, blocks_app, blocks_app]
      refine ⟨pair_app (pair_app i1 (pair_one _) hlow fun g hg => (m1 g hg).1) (pair_one _) (m := M k) (fun g hg => ?_) fun g hg => (m2 g hg).1, fun g hg => ?_, fun g hg i hi => ?_⟩
      · rcases List.mem_append.1 hg with hg | hg
        · have := hlow g hg; omega
        · exact (m1 g hg).2
      · rcases List.mem_append.1 hg with hg | hg
        · rcases List.mem_append.1 hg with hg | hg
          · exact i2 g hg
          · have := m1 g hg; omega
        · have := m2 g hg; omega
      · obtain rfl : k = i := by omega
        rcases List.mem_append.1 hg with hg | hg
        · rcases List.mem_append.1 hg with hg | hg
          · have := hlow g hg; omega
          · have := m1 g hg; omega
        · exact (m2 g hg).2
  intro k hk
  exact ⟨(key k hk).1, (key k hk).2.1⟩

theorem flat_mem {f : Nat → Sl × Sl} {n : Nat} {y : Sl × Kd} (h : y ∈ flat f n) : ∃ i, i < n ∧ (y = ((f i).1, Kd.b) ∨ y = ((f i).2, Kd.b)) := by
  unfold flat at h
  obtain ⟨i, hi, hy⟩ := List.mem_flatMap.1 h
  exact ⟨i, List.mem_range.1 hi, by simpa using hy⟩
theorem Pairs.fits {w : World} {lo hi n : Nat} {f : Nat → Sl × Sl} (h : Pairs w lo hi n f) : ∀ y ∈ flat f n, SlFit w y := fun y hy => by
  obtain ⟨i, hi, rfl | rfl⟩ := flat_mem hy
  · exact (h.fit i hi).1
  · exact (h.fit i hi).2

theorem OwnR.sl {w : World} {lo hi : Nat} {v : Value} {l : List Int} (h : OwnR w lo hi v l) : ∃ x : Sl, v = x.val ∧ SlFit w (x, Kd.b) ∧ ∀ g, x.A = some g → lo ≤ g ∧ g < hi := by
  obtain ⟨x, hv, hn, h0, h1⟩ := own_sl h.own
  refine ⟨x, hv, ?_, fun g hg => ⟨(h1 g hg).1, h.lt g (h1 g hg).2.2.1⟩⟩
  obtain ⟨A, n, c⟩ := x
  cases A with
  | none => exact h0 rfl
  | some g =>
    obtain ⟨_, _, _, h2, h3, cur, h4, h5⟩ := h1 g rfl
    exact ⟨h2, h3, cur, h4, by rw [h5]; exact Nat.le_refl _, fun _ => by rw [h5]; rfl⟩

theorem pages_in {w : World} {lo hi : Nat} {v : Value} {l : List LIn} (h : LVR InV 89 3 w lo hi v l) : ∃ (x : Sl) (f : Nat → Sl × Sl), v = x.val ∧ x.n = l.length ∧ TwoAt w hi 3 1 x f ∧ Pairs w lo hi l.length f := by
  obtain ⟨w0, css, L, R, h1, h2, h3, h4⟩ := h
  obtain ⟨x, hv, hn, hx0, hx1⟩ := own_sl h1.own
  have hl : ∀ (i : Nat) y, css[i]? = some y → y.length = 3 := fun i y hy => by
    have hi2 := (List.getElem?_eq_some_iff.1 hy).1
    rw [h1.len] at hi2
    exact inV_size (h1.each i y _ hy (List.getElem?_eq_getElem hi2)).2.2.2.1
  have hE : ∀ i, ∃ p : (Sl × Sl) × Nat, i < l.length → ∃ cs, css[i]? = some cs ∧ cs[1]? = some p.1.1.val ∧ cs[2]? = some p.1.2.val ∧ lo ≤ L i ∧ L i ≤ p.2 ∧ p.2 ≤ R i ∧ R i ≤ hi ∧ SlFit w (p.1.1, Kd.b) ∧ SlFit w (p.1.2, Kd.b) ∧ (∀ g, p.1.1.A = some g → L i ≤ g ∧ g < p.2) ∧ ∀ g, p.1.2.A = some g → p.2 ≤ g ∧ g < R i := by
    intro i
    by_cases hi' : i < l.length
    · obtain ⟨cs, hcs⟩ : ∃ cs, css[i]? = some cs := ⟨_, List.getElem?_eq_getElem (by rw [h1.len]; exact hi')⟩
      obtain ⟨k1, k2, k3, k4, k5⟩ := h1.each i cs _ hcs (List.getElem?_eq_getElem hi')
      obtain ⟨va, vd, mid, rfl, m1, m2, m3, m4⟩ := k4
      obtain ⟨xa, rfl, fa, ga⟩ := m3.sl
      obtain ⟨xd, rfl, fd, gd⟩ := m4.sl
      refine ⟨((xa, xd), mid), fun _ => ⟨_, hcs, rfl, rfl, k1, m1, m2, by omega, fa.keep fun g hg => ?_, fd.keep fun g hg => ?_, ga, gd⟩⟩
      · have := ga g hg; exact h4 g (by omega) (by omega)
      · have := gd g hg; exact h4 g (by omega) (by omega)
    · exact ⟨((⟨none, 0, 0⟩, ⟨none, 0, 0⟩), 0), fun h => absurd h hi'⟩
  obtain ⟨F, hF⟩ := Classical.skolem.1 hE
  refine ⟨x, fun i => (F i).1, hv, hn, fun i hi' => ?_, ⟨fun i hi' => ?_, L, fun i => (F i).2, R, fun i hi' => ?_, h1.rise⟩⟩
  · rw [hn] at hi'
    obtain ⟨cs, c0, c1, c2, _⟩ := hF i hi'
    have hA : ∃ g, x.A = some g := by
      cases hq : x.A with
      | none => have := (hx0 hq).1; omega
      | some g => exact ⟨g, rfl⟩
    obtain ⟨g, hA⟩ := hA
    obtain ⟨b1, b2, b3, _⟩ := hx1 g hA
    have e : ∀ j u, cs[j]? = some u → w.cell? ⟨g, i * 3 + j, none⟩ = some u := fun j u hu => by
      have how := h1.own
      rw [hv] at how
      unfold Sl.val at how
      rw [hA, hn] at how
      obtain ⟨g', e1, _, _, _, h7⟩ := own_cell how (flatten_at 3 css i cs hl c0 j u hu)
      cases e1
      rw [← h7]
      exact World.cell?_of_block (h4 g b1 (by omega))
    exact ⟨g, hA, by omega, e 1 _ c1, e 2 _ c2⟩
  · obtain ⟨cs, c0, c1, c2, d1, d2, d3, d4, d5, d6, d7, d8⟩ := hF i hi'
    exact ⟨d5, d6⟩
  · obtain ⟨cs, c0, c1, c2, d1, d2, d3, d4, d5, d6, d7, d8⟩ := hF i hi'
    exact ⟨d1, d2, d3, d4, d7, d8⟩
theorem pages_look {w : World} {lo hi : Nat} {v : Value} {l : List LLook} (h : LVR LookV 93 34 w lo hi v l) : ∃ (x : Sl) (f : Nat → Sl × Sl), v = x.val ∧ x.n = l.length ∧ TwoAt w hi 34 32 x f ∧ Pairs w lo hi l.length f := by
  obtain ⟨w0, css, L, R, h1, h2, h3, h4⟩ := h
  obtain ⟨x, hv, hn, hx0, hx1⟩ := own_sl h1.own
  have hl : ∀ (i : Nat) y, css[i]? = some y → y.length = 34 := fun i y hy => by
    have hi2 := (List.getElem?_eq_some_iff.1 hy).1
    rw [h1.len] at hi2
    exact lookV_size (h1.each i y _ hy (List.getElem?_eq_getElem hi2)).2.2.2.1
  have hE : ∀ i, ∃ p : (Sl × Sl) × Nat, i < l.length → ∃ cs, css[i]? = some cs ∧ cs[32]? = some p.1.1.val ∧ cs[33]? = some p.1.2.val ∧ lo ≤ L i ∧ L i ≤ p.2 ∧ p.2 ≤ R i ∧ R i ≤ hi ∧ SlFit w (p.1.1, Kd.b) ∧ SlFit w (p.1.2, Kd.b) ∧ (∀ g, p.1.1.A = some g → L i ≤ g ∧ g < p.2) ∧ ∀ g, p.1.2.A = some g → p.2 ≤ g ∧ g < R i := by
    intro i
    by_cases hi' : i < l.length
    · obtain ⟨cs, hcs⟩ : ∃ cs, css[i]? = some cs := ⟨_, List.getElem?_eq_getElem (by rw [h1.len]; exact hi')⟩
      obtain ⟨k1, k2, k3, k4, k5⟩ := h1.each i cs _ hcs (List.getElem?_eq_getElem hi')
      obtain ⟨va, vd, mid, rfl, ht, m1, m2, m3, m4⟩ := k4
      obtain ⟨xa, rfl, fa, ga⟩ := m3.sl
      obtain ⟨xd, rfl, fd, gd⟩ := m4.sl
      refine ⟨((xa, xd), mid), fun _ => ⟨_, hcs, by rw [List.getElem?_append_right (by rw [bv_length, ht]; omega), bv_length, ht]; rfl, by rw [List.getElem?_append_right (by rw [bv_length, ht]; omega), bv_length, ht]; rfl, k1, m1, m2, by omega, fa.keep fun g hg => ?_, fd.keep fun g hg => ?_, ga, gd⟩⟩
      · have := ga g hg; exact h4 g (by omega) (by omega)
      · have := gd g hg; exact h4 g (by omega) (by omega)
    · exact ⟨((⟨none, 0, 0⟩, ⟨none, 0, 0⟩), 0), fun h => absurd h hi'⟩
  obtain ⟨F, hF⟩ := Classical.skolem.1 hE
  refine ⟨x, fun i => (F i).1, hv, hn, fun i hi' => ?_, ⟨fun i hi' => ?_, L, fun i => (F i).2, R, fun i hi' => ?_, h1.rise⟩⟩
  · rw [hn] at hi'
    obtain ⟨cs, c0, c1, c2, _⟩ := hF i hi'
    have hA : ∃ g, x.A = some g := by
      cases hq : x.A with
      | none => have := (hx0 hq).1; omega
      | some g => exact ⟨g, rfl⟩
    obtain ⟨g, hA⟩ := hA
    obtain ⟨b1, b2, b3, _⟩ := hx1 g hA
    have e : ∀ j u, cs[j]? = some u → w.cell? ⟨g, i * 34 + j, none⟩ = some u := fun j u hu => by
      have how := h1.own
      rw [hv] at how
      unfold Sl.val at how
      rw [hA, hn] at how
      obtain ⟨g', e1, _, _, _, h7⟩ := own_cell how (flatten_at 34 css i cs hl c0 j u hu)
      cases e1
      rw [← h7]
      exact World.cell?_of_block (h4 g b1 (by omega))
    exact ⟨g, hA, by omega, e 32 _ c1, e 33 _ c2⟩
  · obtain ⟨cs, c0, c1, c2, d1, d2, d3, d4, d5, d6, d7, d8⟩ := hF i hi'
    exact ⟨d5, d6⟩
  · obtain ⟨cs, c0, c1, c2, d1, d2, d3, d4, d5, d6, d7, d8⟩ := hF i hi'
    exact ⟨d1, d2, d3, d4, d7, d8⟩

theorem page_keys {w : World} {lo hi : Nat} {v : Value} {l : List (List Int)} (h : LVR KeyV 58 32 w lo hi v l) : ∃ x : Sl, v = x.val ∧ x.n = l.length ∧ SlFit w (x, Kd.k) ∧ ∀ g, x.A = some g → lo ≤ g ∧ g < hi := by
  obtain ⟨w0, css, L, R, h1, h2, h3, h4⟩ := h
  obtain ⟨x, hv, hn, hx0, hx1⟩ := own_sl h1.own
  refine ⟨x, hv, hn, ?_, fun g hg => ?_⟩
  · obtain ⟨A, n, c⟩ := x
    cases A with
    | none => exact hx0 rfl
    | some g =>
      obtain ⟨b1, b2, _, b4, b5, cur, b6, b7⟩ := hx1 g rfl
      exact ⟨b4, b5, cur, ⟨(h4 g b1 (by omega)).trans b6.is⟩, Nat.le_of_eq b7.symm, fun _ => b7⟩
  · have := hx1 g hg
    omega

theorem pair_lt : ∀ {P : List Pg2} {i j : Nat} {g g' : Nat}, (P.filterMap fun q => q.A).Pairwise (· < ·) → i < j → (hi : i < P.length) → (hj : j < P.length) → P[i].A = some g → P[j].A = some g' → g < g'
  | [], i, j, g, g', _, _, hi, _, _, _ => absurd hi (by simp)
  | q :: r, i, j, g, g', h, hij, hi, hj, e, e' => by
    cases j with
    | zero => omega
    | succ j =>
      have hj' : j < r.length := by simpa using hj
      have e'' : r[j].A = some g' := by simpa using e'
      cases i with
      | zero =>
        have e0 : q.A = some g := e
        rw [List.filterMap_cons, e0] at h
        exact (List.pairwise_cons.1 h).1 g' (List.mem_filterMap.2 ⟨r[j], List.getElem_mem hj', e''⟩)
      | succ i =>
        have hr : (r.filterMap fun q => q.A).Pairwise (· < ·) := by
          rw [List.filterMap_cons] at h
          split at h
          · exact h
          · exact (List.pairwise_cons.1 h).2
        exact pair_lt (i := i) (j := j) hr (by omega) (by simpa using hi) hj' (by simpa using e) e''

/-- a book whose pages lie apart -/
theorem apartBk (p base B : Nat) (ks : List (Sl × Kd)) (w0 w : World) (h : Bk w0 p base ks w) (hf : ∀ y ∈ ks, SlFit w0 y) (hd : (blocks ks).Pairwise (· < ·)) (hlow : ∀ g ∈ blocks ks, B ≤ g ∧ g < base ∧ g ≠ p) (hB : B ≤ w.heap.size) :
    Calls Try.prog 17 #[.pointer (some ⟨p, 0, none⟩)] w fun e w' => e = .returned (.bool true) ∧ Below B w w' := by
  have ho := h.one
  obtain ⟨P, A, c, h1, h2, h3⟩ := h
  by_cases hn : P.length ≤ 120
  · have hmem : ∀ q ∈ P, q.key ∈ ks := fun q hq => by rw [← h1]; exact List.mem_map.2 ⟨q, hq, rfl⟩
    have hbl : ∀ q ∈ P, ∀ g, q.A = some g → g ∈ blocks ks := fun q hq g hg => List.mem_filterMap.2 ⟨q.key, hmem q hq, hg⟩
    have hfit : ∀ q ∈ P, q.Fit w False False := by
      intro q hq
      have hy := hf _ (hmem q hq)
      have hl := hbl q hq
      obtain ⟨A', n', c', s'⟩ := q
      cases A' with
      | none => exact hy
      | some g =>
        obtain ⟨e1, e2, xs, hr, he, hek⟩ := hy
        obtain ⟨l1, l2, l3⟩ := hlow g (hl g rfl)
        have hr' : Row w g (ety s'.isK) xs := ⟨(ho.block g l2 l3).trans hr.is⟩
        have hes : esz s'.isK = s'.sz := by cases s' <;> rfl
        have het : ety s'.isK = s'.et := by cases s' <;> rfl
        rw [het] at hr'
        rw [show (Pg2.key ⟨some g, n', c', s'⟩).2 = s'.isK from rfl, hes] at he hek
        have he' : c' * s'.sz ≤ xs.length := he
        have hek' : s'.isK ≠ .b → xs.length = c' * s'.sz := hek
        have e1' : n' ≤ c' := e1
        have hle : n' * s'.sz ≤ c' * s'.sz := Nat.mul_le_mul_right _ e1'
        have hsum : c' * s'.sz = n' * s'.sz + (c' - n') * s'.sz := by rw [← Nat.add_mul]; congr 1; omega
        refine ⟨e1, e2, xs.take (n' * s'.sz), (xs.drop (n' * s'.sz)).take ((c' - n') * s'.sz), (xs.drop (n' * s'.sz)).drop ((c' - n') * s'.sz), by rwa [List.take_append_drop, List.take_append_drop], ?_, ?_, ?_, fun x => x.elim, fun x => x.elim⟩
        · show (xs.take (n' * s'.sz)).length = n' * s'.sz
          rw [List.length_take]
          exact Nat.min_eq_left (by omega)
        · show ((xs.drop (n' * s'.sz)).take ((c' - n') * s'.sz)).length = (c' - n') * s'.sz
          rw [List.length_take, List.length_drop]
          exact Nat.min_eq_left (by omega)
        · intro hz
          have : s'.isK ≠ .b := by
            cases s' with
            | b => exact absurd rfl hz
            | k => exact fun h => by cases h
            | s => exact fun h => by cases h
          have := hek' this
          exact List.drop_of_length_le (by rw [List.length_drop]; omega)
    refine (apart p base A c P w ⟨h3.row, h3.own, fun i hi => ?_⟩ ?_ h2 hn).mono ?_
    · have := hfit P[i] (List.getElem_mem hi)
      simpa using this
    · have hd' : (P.filterMap fun q => q.A).Pairwise (· < ·) := by
        have : blocks ks = P.filterMap fun q => q.A := by
          rw [← h1]
          unfold blocks
          rw [List.filterMap_map]
          rfl
        rw [← this]
        exact hd
      intro i j hi hj g e e'
      rcases Nat.lt_trichotomy i j with hij | hij | hij
      · exact absurd rfl (Nat.ne_of_lt (pair_lt hd' hij hi hj e e'))
      · exact hij
      · exact absurd rfl (Nat.ne_of_lt (pair_lt hd' hij hj hi e' e))
    · rintro e w' ⟨rfl, ht⟩
      exact ⟨rfl, ht.below hB fun q hq g hg => (hlow g (hbl q hq g hg)).1⟩
  · refine (apart_many p A P.length c w h3.row (by omega)).mono ?_
    rintro e w' ⟨rfl, rfl⟩
    exact ⟨rfl, Below.refl _ _⟩

theorem TwoAt.more {w : World} {B B' size o : Nat} {x : Sl} {f : Nat → Sl × Sl} (h : TwoAt w B size o x f) (hB : B ≤ B') : TwoAt w B' size o x f := fun i hi => by
  obtain ⟨g, h1, h2, h3, h4⟩ := h i hi
  exact ⟨g, h1, by omega, h3, h4⟩

/-- a book that has just been laid -/
theorem Bk.new (w : World) : Bk (w.alloc (.cells #[.slice none 0 0] 45)) w.heap.size w.heap.size [] (w.alloc (.cells #[.slice none 0 0] 45)) := by
  refine ⟨[], none, 0, rfl, by simp, ?_⟩
  exact ⟨Row.new w 45 [.slice none 0 0], World.ownsRow_nil _ _ _ _, ButOne.refl _ _ _, by simp, fun _ _ _ _ => rfl⟩

/-- a message of the call's own, page by page -/
structure MsgPages (w : World) (lo hi : Nat) (q : Raw) (m : LMsg) (K I L : Sl) (iv lv : Nat → Sl × Sl) : Prop where
  k : Value.slice q.KA q.kn q.kc = K.val
  i : Value.slice q.IA q.n q.ic = I.val
  l : Value.slice q.LA q.ln q.lc = L.val
  ti : TwoAt w hi 3 1 I iv
  tl : TwoAt w hi 34 32 L lv
  fits : ∀ y ∈ pagesOf K iv I.n lv L.n, SlFit w y
  rise : (blocks (pagesOf K iv I.n lv L.n)).Pairwise (· < ·)
  low : ∀ g ∈ blocks (pagesOf K iv I.n lv L.n), lo ≤ g ∧ g < hi
  n : I.n = m.ins.length ∧ L.n = m.looks.length

theorem MsgV.pages {w : World} {lo hi : Nat} {q : Raw} {m : LMsg} (h : MsgV w lo hi q m) : ∃ K I L iv lv, MsgPages w lo hi q m K I L iv lv := by
  obtain ⟨a1, b1, a2, b2, a3, b3, ho, h5, h6, h7⟩ := h.is
  obtain ⟨K, hK, _, fK, gK⟩ := page_keys h5
  obtain ⟨I, iv, hI, nI, tI, pI⟩ := pages_in h6
  obtain ⟨L, lv, hL, nL, tL, pL⟩ := pages_look h7
  obtain ⟨rI, lI⟩ := pI.blocks (by omega) I.n (by omega)
  obtain ⟨rL, lL⟩ := pL.blocks (by omega) L.n (by omega)
  have lK : ∀ g ∈ blocks [(K, Kd.k)], a1 ≤ g ∧ g < b1 := fun g hg => gK g (blocks_one _ g hg)
  have hmem : ∀ g ∈ blocks (pagesOf K iv I.n lv L.n), lo ≤ g ∧ g < hi := by
    intro g hg
    unfold pagesOf at hg
    rw [blocks_app, blocks_app] at hg
    rcases List.mem_append.1 hg with hg | hg
    · rcases List.mem_append.1 hg with hg | hg
      · have := lK g hg; omega
      · have := lI g hg; omega
    · have := lL g hg; omega
  refine ⟨K, I, L, iv, lv, hK, hI, hL, tI.more (by omega), tL.more (by omega), fun y hy => ?_, ?_, hmem, nI, nL⟩
  · unfold pagesOf at hy
    rcases List.mem_append.1 hy with hy | hy
    · rcases List.mem_append.1 hy with hy | hy
      · rw [List.mem_singleton.1 hy]; exact fK
      · rw [nI] at hy; exact pI.fits y hy
    · rw [nL] at hy; exact pL.fits y hy
  · unfold pagesOf
    rw [blocks_app, blocks_app]
    refine pair_app (m := a3) (pair_app (m := a2) (pair_one _) rI (fun g hg => ?_) fun g hg => (lI g hg).1) rL (fun g hg => ?_) fun g hg => (lL g hg).1
    · have := lK g hg; omega
    · rcases List.mem_append.1 hg with hg | hg
      · have := lK g hg; omega
      · have := lI g hg; omega

end Go.Proofs.Ytolijdbdpnbchaa
