/-
  Plain words for memory, over no program: a slice value that reads as a list of cells ('Sees'); bytes as cells ('bv').
-/
import Derived.Below
import Derived.Laws.OwnMore
import Derived.Deep.AppendLies
import Derived.Deep.Draws
import Derived.Lib.Hide
namespace Go.Proofs.Ytolijdbdpnbchaa
open Go.RowKit

/-- bytes (or numbers of another kind) as cells -/
def cv (k : IntKind) (zs : List Int) : List Value := zs.map (Value.int k)
def bv (zs : List Int) : List Value := cv .u8 zs

theorem cv_length (k : IntKind) (zs : List Int) : (cv k zs).length = zs.length := by simp [cv]
theorem bv_length (zs : List Int) : (bv zs).length = zs.length := cv_length _ zs
theorem bv_append (xs ys : List Int) : bv (xs ++ ys) = bv xs ++ bv ys := by simp [bv, cv]
theorem bv_getElem? (zs : List Int) (i : Nat) : (bv zs)[i]? = zs[i]?.map (Value.int .u8) := by simp [bv, cv]
theorem bv_at {zs : List Int} {i : Nat} (h : i < zs.length) : (bv zs)[i]? = some (.int .u8 (zs.getD i 0)) := by
  rw [bv_getElem?, List.getD_eq_getElem?_getD, List.getElem?_eq_getElem h]; rfl
theorem bv_one (zs : List Int) : ∀ u ∈ bv zs, u.oneCell' = true := by
  intro u hu
  simp only [bv, cv, List.mem_map] at hu
  obtain ⟨z, _, rfl⟩ := hu
  rfl

/-- a result of a test, told -/
theorem told_true {p : Prop} [Decidable p] (h : p) : Ending.returned (.bool true) = .returned (.bool (decide p)) := by rw [decide_eq_true h]
theorem told_false {p : Prop} [Decidable p] (h : ¬ p) : Ending.returned (.bool false) = .returned (.bool (decide p)) := by rw [decide_eq_false h]

theorem addr_block (a : Addr) (n : Nat) : (a.add n).block = a.block := by unfold Addr.add; split <;> rfl
theorem addr_add (a : Addr) (i j : Nat) : (a.add i).add j = a.add (i + j) := by
  unfold Addr.add
  rcases Nat.eq_zero_or_pos i with hi | hi <;> rcases Nat.eq_zero_or_pos j with hj | hj
  · simp [hi, hj]
  · simp [hi, show j ≠ 0 by omega]
  · simp [hj, show i ≠ 0 by omega]
  · simp [show i ≠ 0 by omega, show j ≠ 0 by omega, Nat.add_assoc]
theorem addr_row (g i j : Nat) : (⟨g, i, none⟩ : Addr).add j = ⟨g, i + j, none⟩ := by unfold Addr.add; split <;> simp_all

/-- The slice value '.slice A n c' reads as the cells xs; each cell lies below block B. -/
structure Sees (w : World) (B : Nat) (A : Option Addr) (n : Nat) (xs : List Value) : Prop where
  len : xs.length = n
  cell : ∀ i u, xs[i]? = some u → ∃ a, A = some a ∧ a.block < B ∧ w.cell? (a.add i) = some u

section
variable {w w' : World} {B B' n : Nat} {A : Option Addr} {xs : List Value}
theorem Sees.nil (w : World) (B : Nat) (A : Option Addr) : Sees w B A 0 [] := ⟨rfl, fun i u h => by simp at h⟩
theorem Sees.keep (h : Sees w B A n xs) (hk : ∀ p : Addr, p.block < B → w'.cell? p = w.cell? p) : Sees w' B A n xs :=
  ⟨h.len, fun i u hu => by
    obtain ⟨a, e, hb, hc⟩ := h.cell i u hu
    exact ⟨a, e, hb, (hk _ (by rw [addr_block]; exact hb)).trans hc⟩⟩
theorem Sees.more (h : Sees w B A n xs) (hB : B ≤ B') : Sees w B' A n xs :=
  ⟨h.len, fun i u hu => by
    obtain ⟨a, e, hb, hc⟩ := h.cell i u hu
    exact ⟨a, e, by omega, hc⟩⟩
theorem Sees.below (h : Sees w B A n xs) (hb : Below B w w') : Sees w' B A n xs := h.keep fun _ hp => hb.cell hp
theorem Sees.drew (h : Sees w B A n xs) : Sees w.drew B A n xs := ⟨h.len, h.cell⟩
theorem Sees.drewN (h : Sees w B A n xs) (k : Nat) : Sees (w.drewN k) B A n xs := ⟨h.len, h.cell⟩
theorem Sees.alloc (h : Sees w B A n xs) (hB : B ≤ w.heap.size) (o : Obj) : Sees (w.alloc o) B A n xs := h.keep fun p hp => World.cell?_alloc_lt w o p (by omega)
theorem Sees.setCell (h : Sees w B A n xs) {p : Addr} (hB : B ≤ p.block) (u : Value) : Sees (w.setCell p u) B A n xs :=
  h.keep fun q hq => World.cell?_setCell_other w p q u (fun e => by subst e; omega)
theorem Sees.at_ {k : Nat} (h : Sees w B A n xs) (hk : k < n) : ∃ a u, A = some a ∧ a.block < B ∧ xs[k]? = some u ∧ w.cell? (a.add k) = some u := by
  have hl : k < xs.length := by have := h.len; omega
  obtain ⟨a, e, hb, hc⟩ := h.cell k _ (List.getElem?_eq_getElem hl)
  exact ⟨a, _, e, hb, List.getElem?_eq_getElem hl, hc⟩
theorem Sees.byte {zs : List Int} {k : Nat} (h : Sees w B A n (bv zs)) (hk : k < n) : ∃ a, A = some a ∧ a.block < B ∧ w.cell? (a.add k) = some (.int .u8 (zs.getD k 0)) := by
  obtain ⟨a, u, e, hb, hx, hc⟩ := h.at_ hk
  have hl : k < zs.length := by have := h.len; rw [bv_length] at this; omega
  rw [bv_at hl] at hx
  cases hx
  exact ⟨a, e, hb, hc⟩
theorem Sees.of_own {base : Nat} {e : TypeId} {c : Nat} (h : w.ownsRow base e 1 (.slice A n c) n xs) : Sees w w.heap.size A n xs := by
  refine ⟨by have := h.1; omega, fun i u hu => ?_⟩
  have hl : i < xs.length := (List.getElem?_eq_some_iff.1 hu).1
  rcases h.2 with ⟨_, rfl⟩ | ⟨g, cap, cur, hv, hg, hh, hnc, _, hsz, htk⟩
  · have := h.1; omega
  · have hA : A = some ⟨g, 0, none⟩ := by injection hv
    subst hA
    exact ⟨_, rfl, (Array.getElem?_eq_some_iff.1 hh).1, h.cells (g := g) rfl i u hu⟩
end
end Go.Proofs.Ytolijdbdpnbchaa
