/-
  Transactions, plainly: what one is ('LTx'), its bytes ('encTx'), how they are read ('pTx'), and how a transaction lies in memory ('TxIn').
-/
import Derived.Test.YtolijdbdpnbchaaParseBack
import Derived.Test.YtolijdbdpnbchaaPutMsg
import Derived.Test.YtolijdbdpnbchaaEnc
import Derived.Test.YtolijdbdpnbchaaGetMsg
import Derived.Test.YtolijdbdpnbchaaMessage
namespace Go.Proofs.Ytolijdbdpnbchaa
open Go.RowKit
set_option linter.unusedVariables false

/-- a transaction -/
structure LTx where
  sigs : List (List Int)
  m : LMsg

/-- a transaction's bytes -/
def encTx (x : LTx) : List Int := short x.sigs.length ++ (x.sigs.flatten ++ enc x.m)
/-- may it be put, but for its length? -/
def TFits (x : LTx) : Prop := x.sigs.length ≤ 65535 ∧ Fits x.m
/-- all numbers are bytes, signatures have 64 of them -/
structure LTx.Wf (x : LTx) : Prop where
  sigs : ∀ s ∈ x.sigs, s.length = 64 ∧ AllBytes s
  m : x.m.Wf
/-- what there is of a transaction at the front -/
def pSigs (zs : List Int) : PR (List (List Int)) := pList (pTake 64) zs
def pTx (zs : List Int) : PR LTx := match pSigs zs with
  | .error c => .error c
  | .ok (s, r) => match pMsg r with
    | .error c => .error c
    | .ok (m, r) => .ok (⟨s, m⟩, r)
/-- the transaction that bytes are -/
def wTx (zs : List Int) : Except Int LTx := if 1232 < zs.length then .error 3 else match pTx zs with
  | .error c => .error c
  | .ok (x, r) => if r.length = 0 then .ok x else .error 4

theorem flat64_len : ∀ (l : List (List Int)), (∀ y ∈ l, y.length = 64) → l.flatten.length = l.length * 64
  | [], _ => rfl
  | y :: r, h => by
    have := flat64_len r (fun z hz => h z (by simp [hz]))
    have hy := h y (by simp)
    simp only [List.flatten_cons, List.length_append, List.length_cons, this, hy]
    omega
theorem encTx_len {x : LTx} (h : ∀ y ∈ x.sigs, y.length = 64) : (encTx x).length = (short x.sigs.length).length + x.sigs.length * 64 + (enc x.m).length := by
  unfold encTx
  simp only [List.length_append, flat64_len x.sigs h]
  omega

theorem got_sigs : Got (fun l => short l.length ++ l.flatten) (fun l => l.length ≤ 65535 ∧ ∀ k ∈ l, k.length = 64 ∧ AllBytes k) pSigs := by
  intro zs l r hz h
  have := got_list (got_take 64) zs l r hz h
  simp only [flatMap_id] at this
  exact this
theorem err_sigs : Errs pSigs := err_list (got_take 64) (err_take 64)
theorem puts_sigs : Puts (fun l => short l.length ++ l.flatten) (fun l : List (List Int) => l.length ≤ 65535 ∧ ∀ k ∈ l, k.length = 64) pSigs := by
  rintro l h r
  have := puts_list (puts_take 64) l h r
  simp only [flatMap_id] at this
  exact this
theorem front_sigs : FromFront pSigs := front_list (front_take 64)
theorem front_tx : FromFront pTx := by
  intro zs x r h
  unfold pTx at h
  split at h
  · cases h
  rename_i e1
  split at h
  · cases h
  rename_i e2
  cases h
  exact (front_sigs _ _ _ e1).trans (front_msg _ _ _ e2)
theorem pTx_got {zs : List Int} (hz : AllBytes zs) {x : LTx} {r : List Int} (h : pTx zs = .ok (x, r)) : zs = encTx x ++ r ∧ TFits x ∧ x.Wf := by
  unfold pTx at h
  split at h
  · cases h
  rename_i s r1 e1
  split at h
  · cases h
  rename_i m r2 e2
  cases h
  obtain ⟨h1, h2, h3⟩ := got_sigs _ _ _ hz e1
  have hz1 : AllBytes r1 := hz.behind h1
  obtain ⟨h4, h5, h6⟩ := pMsg_got hz1 e2
  refine ⟨?_, ⟨h2, h5⟩, ⟨h3, h6⟩⟩
  rw [h1, h4]
  simp [encTx]
theorem pTx_err {zs : List Int} (hz : AllBytes zs) {c : Int} (h : pTx zs = .error c) : c = 4 ∨ c = 5 := by
  unfold pTx at h
  split at h
  · rename_i e1
    cases h
    exact err_sigs _ _ hz e1
  rename_i s r1 e1
  split at h
  · rename_i e2
    cases h
    exact pMsg_err (hz.behind (got_sigs _ _ _ hz e1).1) e2
  · cases h
theorem pTx_put {x : LTx} (hf : TFits x) (hw : x.Wf) (r : List Int) : pTx (encTx x ++ r) = .ok (x, r) := by
  obtain ⟨s, m⟩ := x
  have h1 := puts_sigs s ⟨hf.1, fun k hk => (hw.sigs k hk).1⟩ (enc m ++ r)
  have h2 := pMsg_put hf.2 hw.m r
  have e : encTx ⟨s, m⟩ ++ r = (short s.length ++ s.flatten) ++ (enc m ++ r) := by simp [encTx]
  unfold pTx
  rw [e, h1]
  simp only [h2]
theorem stable_sigs : Stable pSigs := stable_list (stable_take 64)
theorem stable_tx : Stable pTx := stable_same (stable_bind stable_sigs fun s => stable_bind stable_msg fun m => stable_ret (LTx.mk s m)) fun zs => by
  unfold pTx pBind
  rcases pSigs zs with c | ⟨x0, r0⟩
  · rfl
  dsimp only
  rcases pMsg r0 with c | ⟨x1, r1⟩ <;> rfl
/-- what was put, cut anywhere, ends too soon -/
theorem pTx_cut {x : LTx} (hf : TFits x) (hw : x.Wf) {k : Nat} (hk : k < (encTx x).length) : pTx ((encTx x).take k) = .error 5 := by
  have h0 := stable_tx ((encTx x).take k) ((encTx x).drop k)
  rw [List.take_append_drop] at h0
  have h1 : pTx (encTx x) = .ok (x, []) := by have := pTx_put hf hw []; rwa [List.append_nil] at this
  cases e : pTx ((encTx x).take k) with
  | ok p =>
    obtain ⟨y, r⟩ := p
    rw [e] at h0
    dsimp only at h0
    rw [h1] at h0
    have h2 : ([] : List Int) = r ++ (encTx x).drop k := (Prod.mk.inj (Except.ok.inj h0)).2
    have h3 : (r ++ (encTx x).drop k).length = 0 := by rw [← h2, List.length_nil]
    rw [List.length_append, List.length_drop] at h3
    omega
  | error c =>
    rw [e] at h0
    rcases h0 with h0 | h0
    · rw [h0]
    · rw [h1] at h0
      cases h0

/-- so many parts of 64 bytes -/
theorem many_short {zs : List Int} : ∀ (n : Nat), zs.length < n * 64 → pMany (pTake 64) n zs = .error 5
  | 0, h => by omega
  | n + 1, h => by
    unfold pMany
    by_cases h1 : zs.length < n * 64
    · rw [many_short (zs := zs) n h1]
    · cases e : pMany (pTake 64) n zs with
      | error c =>
        exfalso
        exact absurd e (by
          have : ∀ (k : Nat), k * 64 ≤ zs.length → ∃ l, pMany (pTake 64) k zs = .ok (l, zs.drop (k * 64)) := by
            intro k
            induction k with
            | zero => exact fun _ => ⟨[], by simp [pMany]⟩
            | succ k ih =>
              intro hk
              obtain ⟨l, hl⟩ := ih (by omega)
              refine ⟨l ++ [(zs.drop (k * 64)).take 64], ?_⟩
              unfold pMany
              rw [hl]
              dsimp only
              unfold pTake
              rw [if_neg (by rw [List.length_drop]; omega)]
              dsimp only
              rw [List.drop_drop, show k * 64 + 64 = (k + 1) * 64 by omega]
          obtain ⟨l, hl⟩ := this n (by omega)
          rw [hl]
          intro h'
          cases h')
      | ok p =>
        obtain ⟨l, r⟩ := p
        dsimp only
        have hr : r.length = zs.length - n * 64 := by
          have : ∀ (k : Nat) l r, pMany (pTake 64) k zs = .ok (l, r) → r = zs.drop (k * 64) ∧ k * 64 ≤ zs.length := by
            intro k
            induction k with
            | zero => intro l r h; cases h; simp
            | succ k ih =>
              intro l r h
              unfold pMany at h
              split at h
              · cases h
              rename_i l1 r1 e1
              split at h
              · cases h
              rename_i x2 r2 e2
              cases h
              obtain ⟨h1, h2⟩ := ih _ _ e1
              unfold pTake at e2
              split at e2
              · cases e2
              rename_i h3
              cases e2
              subst h1
              rw [List.length_drop] at h3
              refine ⟨?_, by omega⟩
              rw [List.drop_drop, show k * 64 + 64 = (k + 1) * 64 by omega]
          rw [(this n l r e).1, List.length_drop]
        unfold pTake
        rw [if_pos (by omega)]
theorem many_long {zs : List Int} : ∀ (n : Nat), n * 64 ≤ zs.length → ∃ l, pMany (pTake 64) n zs = .ok (l, zs.drop (n * 64)) ∧ l.length = n ∧ (∀ y ∈ l, y.length = 64) ∧ l.flatten = zs.take (n * 64)
  | 0, _ => ⟨[], by simp [pMany], rfl, by simp, by simp⟩
  | n + 1, h => by
    obtain ⟨l, h1, h2, h3, h4⟩ := many_long (zs := zs) n (by omega)
    have hl : ((zs.drop (n * 64)).take 64).length = 64 := by rw [List.length_take, List.length_drop]; omega
    refine ⟨l ++ [(zs.drop (n * 64)).take 64], ?_, by simp [h2], ?_, ?_⟩
    · unfold pMany
      rw [h1]
      dsimp only
      unfold pTake
      rw [if_neg (by rw [List.length_drop]; omega)]
      dsimp only
      rw [List.drop_drop, show n * 64 + 64 = (n + 1) * 64 by omega]
    · intro y hy
      rcases List.mem_append.1 hy with hy | hy
      · exact h3 y hy
      · rw [List.mem_singleton.1 hy]; exact hl
    · rw [List.flatten_append, h4, show (n + 1) * 64 = n * 64 + 64 by omega, List.take_add]
      simp

/-- signatures that lie below block B -/
structure SigsIn (w : World) (B : Nat) (A : Option Addr) (n : Nat) (l : List (List Int)) : Prop where
  len : l.length = n
  each : ∀ k ∈ l, k.length = 64
  sees : Sees w B A (n * 64) (bv l.flatten)

/-- where a transaction's lists lie -/
structure TRaw where
  SA : Option Addr
  sn : Nat
  sc : Nat
  q : Raw

/-- a transaction's cells -/
def TRaw.cells (s : TRaw) (x : LTx) : List Value := .slice s.SA s.sn s.sc :: s.q.cells x.m

/-- a transaction's lists lie below block B -/
structure TxIn (w : World) (B : Nat) (s : TRaw) (x : LTx) : Prop where
  sigs : SigsIn w B s.SA s.sn x.sigs
  sn : s.sn ≤ s.sc ∧ s.sc ≤ maxLen
  m : MsgIn w B s.q x.m

section
variable {w w' : World} {B B' : Nat}
theorem SigsIn.keep {A : Option Addr} {n : Nat} {l : List (List Int)} (h : SigsIn w B A n l) (hk : ∀ p : Addr, p.block < B → w'.cell? p = w.cell? p) : SigsIn w' B A n l := ⟨h.len, h.each, h.sees.keep hk⟩
theorem SigsIn.more {A : Option Addr} {n : Nat} {l : List (List Int)} (h : SigsIn w B A n l) (hB : B ≤ B') : SigsIn w B' A n l := ⟨h.len, h.each, h.sees.more hB⟩
theorem SigsIn.below {A : Option Addr} {n : Nat} {l : List (List Int)} (h : SigsIn w B A n l) (hb : Below B w w') : SigsIn w' B A n l := h.keep fun _ hp => hb.cell hp
variable {s : TRaw} {x : LTx}
theorem TxIn.keep (h : TxIn w B s x) (hk : ∀ p : Addr, p.block < B → w'.cell? p = w.cell? p) : TxIn w' B s x := ⟨h.sigs.keep hk, h.sn, h.m.keep hk⟩
theorem TxIn.more (h : TxIn w B s x) (hB : B ≤ B') : TxIn w B' s x := ⟨h.sigs.more hB, h.sn, h.m.more hB⟩
theorem TxIn.below (h : TxIn w B s x) (hb : Below B w w') : TxIn w' B s x := h.keep fun _ hp => hb.cell hp
theorem TxIn.alloc (h : TxIn w B s x) (hB : B ≤ w.heap.size) (o : Obj) : TxIn (w.alloc o) B s x := h.keep fun p hp => World.cell?_alloc_lt w o p (by omega)
theorem TxIn.drewN (h : TxIn w B s x) (n : Nat) : TxIn (w.drewN n) B s x := h.keep fun p hp => rfl
theorem tcells_len (h : x.m.recent.length = 32) : (s.cells x).length = 40 := by simp [TRaw.cells, cells_len h]
theorem tcells_0 : (s.cells x)[0]? = some (.slice s.SA s.sn s.sc) := rfl
theorem tcells_m (j : Nat) : (s.cells x)[1 + j]? = (s.q.cells x.m)[j]? := by unfold TRaw.cells; rw [show 1 + j = j + 1 by omega]; rfl
theorem tcells_one : ∀ u ∈ s.cells x, u.oneCell' = true := by
  intro u hu
  rcases List.mem_cons.1 hu with rfl | hu
  · rfl
  · exact cells_one u hu
end
theorem size_tx : (Try.prog.info? 33).map (·.size) = some 40 := by kernel_rfl
theorem size_sig : (Try.prog.info? 62).map (·.size) = some 64 := by kernel_rfl

theorem flatten_get64 : ∀ (l : List (List Int)) (k : Nat) (x : List Int), (∀ y ∈ l, y.length = 64) → l[k]? = some x → ∀ j, j < 64 → l.flatten[k * 64 + j]? = x[j]?
  | [], k, x, _, h, _, _ => by simp at h
  | y :: r, 0, x, hl, h, j, hj => by
    have : y = x := by simpa using h
    subst this
    have hy := hl y (by simp)
    rw [List.flatten_cons, List.getElem?_append_left (by omega)]
    simp
  | y :: r, k + 1, x, hl, h, j, hj => by
    have hy := hl y (by simp)
    rw [List.flatten_cons, List.getElem?_append_right (by omega)]
    have := flatten_get64 r k x (fun z hz => hl z (by simp [hz])) (by simpa using h) j hj
    rw [← this]
    congr 1
    omega
/-- the k-th signature -/
structure SigAt (w : World) (a : Addr) (k : Nat) (x : List Int) : Prop where
  cells : ∀ j u, (bv x)[j]? = some u → w.cell? ((a.add (k * 64)).add j) = some u
  len : x.length = 64
theorem SigsIn.get {w : World} {B n : Nat} {A : Option Addr} {l : List (List Int)} (h : SigsIn w B A n l) {k : Nat} (hk : k < n) : ∃ a x, A = some a ∧ a.block < B ∧ l[k]? = some x ∧ SigAt w a k x := by
  obtain ⟨x, hx⟩ : ∃ x, l[k]? = some x := ⟨_, List.getElem?_eq_getElem (by rw [h.len]; exact hk)⟩
  have hxl := h.each x (List.mem_of_getElem? hx)
  obtain ⟨a, u, e, hb, _, _⟩ := h.sees.at_ (k := k * 64) (by omega)
  refine ⟨a, x, e, hb, hx, fun j u hu => ?_, hxl⟩
  have hj : j < 64 := by have := (List.getElem?_eq_some_iff.1 hu).1; rw [bv_length] at this; omega
  rw [bv_getElem?, ← flatten_get64 l k x h.each hx j hj, ← bv_getElem?] at hu
  obtain ⟨a', e', _, hc⟩ := h.sees.cell _ u hu
  rw [e] at e'
  cases e'
  rw [addr_add]
  exact hc
theorem SigAt.keep {w w' : World} {B k : Nat} {a : Addr} {x : List Int} (h : SigAt w a k x) (ha : a.block < B) (hk : ∀ p : Addr, p.block < B → w'.cell? p = w.cell? p) : SigAt w' a k x :=
  ⟨fun j u hu => (hk _ (by rw [addr_block, addr_block]; exact ha)).trans (h.cells j u hu), h.len⟩

/-- the zero transaction -/
def zRaw : TRaw := ⟨none, 0, 0, ⟨none, 0, 0, none, 0, 0, none, 0, 0⟩⟩
def zTx : LTx := ⟨[], ⟨false, 0, 0, 0, [], zero32, [], []⟩⟩
def tzero : List Value := .slice none 0 0 :: mzero
theorem tzero_is : tzero = zRaw.cells zTx := rfl
theorem zTx_in (w : World) (B : Nat) : TxIn w B zRaw zTx :=
  ⟨⟨rfl, fun k hk => by simp [zTx] at hk, Sees.nil _ _ _⟩, by simp [zRaw, maxLen], ⟨rfl, ⟨rfl, fun k hk => by simp [zTx] at hk, Sees.nil _ _ _⟩, ⟨rfl, fun i y h => by simp [zTx] at h⟩, ⟨rfl, fun i y h => by simp [zTx] at h⟩, by simp [zRaw, maxLen], by simp [zRaw, maxLen], by simp [zRaw, maxLen]⟩⟩
theorem size_tz : (Try.prog.info? 33).map (·.size) = some tzero.length := size_tx
theorem tzero_one : ∀ u ∈ tzero, u.oneCell' = true := tcells_one (s := zRaw) (x := zTx)
end Go.Proofs.Ytolijdbdpnbchaa
