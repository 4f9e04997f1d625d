/-
  A message of the call's own lies below the block at which its blocks end.
-/
import Derived.Test.YtolijdbdpnbchaaMessage
namespace Go.Proofs.Ytolijdbdpnbchaa
open Go.RowKit
set_option linter.unusedVariables false

theorem flatten_at {α : Type} (size : Nat) : ∀ (l : List (List α)) (k : Nat) (x : List α), (∀ (i : Nat) y, l[i]? = some y → y.length = size) → l[k]? = some x → ∀ j u, x[j]? = some u → l.flatten[k * size + j]? = some u
  | [], k, x, _, h, _, _, _ => by simp at h
  | y :: r, 0, x, hl, h, j, u, hu => by
    have : y = x := by simpa using h
    subst this
    have hj := (List.getElem?_eq_some_iff.1 hu).1
    rw [List.flatten_cons, List.getElem?_append_left (by simpa using hj)]
    simpa using hu
  | y :: r, k + 1, x, hl, h, j, u, hu => by
    have hy := hl 0 y (by simp)
    rw [List.flatten_cons, List.getElem?_append_right (by rw [hy, Nat.add_mul]; omega)]
    have := flatten_at size r k x (fun i z hz => hl (i + 1) z (by simpa using hz)) (by simpa using h) j u hu
    rw [← this]
    congr 1
    rw [hy, Nat.add_mul]
    omega

/-- a row of one's own, cell by cell -/
theorem own_cell {w : World} {base n size c : Nat} {e : TypeId} {A : Option Addr} {xs : List Value} (h : w.ownsRow base e size (.slice A n c) n xs) {i : Nat} {u : Value} (hu : xs[i]? = some u) :
    ∃ g, A = some ⟨g, 0, none⟩ ∧ (Value.slice A n c).ownBlock = some g ∧ base ≤ g ∧ g < w.heap.size ∧ w.cell? ⟨g, i, none⟩ = some u := by
  rcases h.2 with ⟨h1, h2⟩ | ⟨g, cap, cur, hv, hg, hh, r1, r2, r3, r4⟩
  · subst h2
    have h3 := h.1
    rw [Nat.zero_mul] at h3
    rw [List.length_eq_zero_iff.1 h3] at hu
    simp at hu
  · cases hv
    refine ⟨g, rfl, rfl, hg, (Array.getElem?_eq_some_iff.1 hh).1, ?_⟩
    rw [cell_of_row w g i cur e (0, 0) hh]
    rw [← r4, List.getElem?_take] at hu
    split at hu
    · simpa using hu
    · cases hu
theorem own_caps {w : World} {base n size c : Nat} {e : TypeId} {A : Option Addr} {xs : List Value} (h : w.ownsRow base e size (.slice A n c) n xs) : n ≤ c ∧ c ≤ maxLen := by
  rcases h.2 with ⟨h1, h2⟩ | ⟨g, cap, cur, hv, hg, hh, r1, r2, r3, r4⟩
  · cases h1
    simp [maxLen]
  · cases hv
    exact ⟨r1, r2⟩

theorem OwnR.in_ {w : World} {lo hi B : Nat} {v : Value} {l : List Int} (h : OwnR w lo hi v l) (hB : hi ≤ B) : BytesIn w B v l := by
  obtain ⟨A, c, rfl⟩ := h.own.form
  have hc := own_caps h.own
  refine ⟨A, c, rfl, ⟨bv_length _, fun i u hu => ?_⟩, hc.1, hc.2⟩
  obtain ⟨g, rfl, h1, h2, h3, h4⟩ := own_cell h.own hu
  have := h.lt g h1
  exact ⟨_, rfl, by show g < B; omega, by rw [addr_row, Nat.zero_add]; exact h4⟩

/-- the elements of a list of the call's own -/
theorem LVR.at_ {α : Type} {EV : World → Nat → Nat → List Value → α → Prop} {e size : Nat} {w : World} {lo hi : Nat} {A : Option Addr} {n c : Nat} {l : List α} (h : LVR EV e size w lo hi (.slice A n c) l) (hS : Stays EV)
    (hlen : ∀ w lo hi cs x, EV w lo hi cs x → cs.length = size) :
    l.length = n ∧ (n ≤ c ∧ c ≤ maxLen) ∧ ∀ i x, l[i]? = some x → ∃ g cs L R, A = some ⟨g, 0, none⟩ ∧ g < hi ∧ (∀ j u, cs[j]? = some u → w.cell? ⟨g, i * size + j, none⟩ = some u) ∧ L ≤ R ∧ R ≤ hi ∧ EV w L R cs x := by
  obtain ⟨w0, css, L, R, h1, h2, h3, h4⟩ := h
  obtain ⟨A', c', e'⟩ := h1.form
  cases e'
  refine ⟨rfl, own_caps h1.own, fun i x hx => ?_⟩
  have hi' := (List.getElem?_eq_some_iff.1 hx).1
  have hl : ∀ (i : Nat) y, css[i]? = some y → y.length = size := fun i y hy => by
    have hi2 := (List.getElem?_eq_some_iff.1 hy).1
    rw [h1.len] at hi2
    exact hlen _ _ _ _ _ (h1.each i y _ hy (List.getElem?_eq_getElem hi2)).2.2.2.1
  obtain ⟨cs, hcs⟩ : ∃ cs, css[i]? = some cs := ⟨_, List.getElem?_eq_getElem (by rw [h1.len]; exact hi')⟩
  obtain ⟨k1, k2, k3, k4, k5⟩ := h1.each i cs x hcs hx
  obtain ⟨g, cap, cur, hv, hg, hh⟩ : ∃ g cap cur, (Value.slice A l.length c) = .slice (some ⟨g, 0, none⟩) l.length cap ∧ lo ≤ g ∧ w0.heap[g]? = some (.cells cur e (0, 0)) := by
    rcases h1.own.2 with ⟨h5, h6⟩ | ⟨g, cap, cur, hv, hg, hh, _⟩
    · omega
    · exact ⟨g, cap, cur, hv, hg, hh⟩
  have hglt := (Array.getElem?_eq_some_iff.1 hh).1
  cases hv
  refine ⟨g, cs, L i, R i, rfl, by omega, fun j u hu => ?_, k2, by omega, hS w0 w _ _ _ _ (fun k a b => h4 k (by omega) (by omega)) k4⟩
  obtain ⟨g', e1, _, _, _, h7⟩ := own_cell h1.own (flatten_at size css i cs hl hcs j u hu)
  cases e1
  rw [← h7]
  exact World.cell?_of_block (h4 g hg (by omega))

theorem KeysIn.of_list {w : World} {B : Nat} {A : Option Addr} {n : Nat} {l : List (List Int)} (hn : l.length = n) (h : ∀ (i : Nat) x, l[i]? = some x → x.length = 32 ∧ ∃ g, A = some ⟨g, 0, none⟩ ∧ g < B ∧ ∀ j u, (bv x)[j]? = some u → w.cell? ⟨g, i * 32 + j, none⟩ = some u) : KeysIn w B A n l := by
  have he : ∀ k ∈ l, k.length = 32 := fun k hk => by
    obtain ⟨i, hi, rfl⟩ := List.getElem_of_mem hk
    exact (h i _ (List.getElem?_eq_getElem hi)).1
  have hf : l.flatten.length = n * 32 := by
    rw [← hn]
    clear hn h
    induction l with
    | nil => rfl
    | cons y r ih =>
      have h1 := ih (fun k hk => he k (by simp [hk]))
      have h2 := he y (by simp)
      simp only [List.flatten_cons, List.length_append, List.length_cons, h1, h2]
      omega
  refine ⟨hn, he, ⟨by rw [bv_length]; exact hf, fun i u hu => ?_⟩⟩
  have hi := (List.getElem?_eq_some_iff.1 hu).1
  rw [bv_length, hf] at hi
  have hk : i / 32 < l.length := by omega
  obtain ⟨h1, g, rfl, h2, h3⟩ := h (i / 32) _ (List.getElem?_eq_getElem hk)
  refine ⟨_, rfl, h2, ?_⟩
  rw [addr_row, Nat.zero_add]
  have hlt : i % 32 < (bv l[i / 32]).length := by rw [bv_length, h1]; omega
  obtain ⟨u', hu'⟩ : ∃ u', (bv l[i / 32])[i % 32]? = some u' := ⟨_, List.getElem?_eq_getElem hlt⟩
  have h4 := h3 _ _ hu'
  rw [show i / 32 * 32 + i % 32 = i by omega] at h4
  rw [h4]
  rw [bv_getElem?] at hu hu'
  obtain ⟨z', hz', rfl⟩ : ∃ z, (l[i / 32])[i % 32]? = some z ∧ u' = .int .u8 z := by
    cases hq : (l[i / 32])[i % 32]? with
    | none => rw [hq] at hu'; simp at hu'
    | some z => rw [hq] at hu'; exact ⟨z, rfl, by simpa using hu'.symm⟩
  have h5 := flatten_at 32 l (i / 32) _ (fun i y hy => he y (List.mem_of_getElem? hy)) (List.getElem?_eq_getElem hk) (i % 32) z' hz'
  rw [show i / 32 * 32 + i % 32 = i by omega] at h5
  rw [h5] at hu
  exact hu

theorem MsgV.in_ {w : World} {lo hi : Nat} {q : Raw} {m : LMsg} (h : MsgV w lo hi q m) : MsgIn w hi q m := by
  obtain ⟨a1, b1, a2, b2, a3, b3, ho, h5, h6, h7⟩ := h.is
  obtain ⟨k1, k2, k3⟩ := h5.at_ stays_key (fun w lo hi cs x hx => by rw [hx.1, bv_length, hx.2])
  obtain ⟨i1, i2, i3⟩ := h6.at_ stays_in (fun w lo hi cs x hx => by obtain ⟨_, _, _, rfl, _⟩ := hx; rfl)
  obtain ⟨l1, l2, l3⟩ := h7.at_ stays_look (fun w lo hi cs x hx => by obtain ⟨_, _, _, rfl, h, _⟩ := hx; simp [bv_length, h])
  refine ⟨h.recent, KeysIn.of_list k1 fun i x hx => ?_, ⟨i1, fun i x hx => ?_⟩, ⟨l1, fun i x hx => ?_⟩, k2, i2, l2⟩
  · obtain ⟨g, cs, L, R, e, hg, hc, hL, hR, hE⟩ := k3 i x hx
    obtain ⟨rfl, hl⟩ := hE
    exact ⟨hl, g, e, by omega, hc⟩
  · obtain ⟨g, cs, L, R, e, hg, hc, hL, hR, hE⟩ := i3 i x hx
    obtain ⟨va, vd, mid, rfl, h1, h2, h3, h4⟩ := hE
    refine ⟨_, va, vd, e, by show g < hi; omega, ?_, ?_, ?_, h3.in_ (by omega), h4.in_ (by omega)⟩
    · rw [addr_row, Nat.zero_add]; exact hc 0 _ rfl
    · rw [addr_row, Nat.zero_add]; exact hc 1 _ rfl
    · rw [addr_row, Nat.zero_add]; exact hc 2 _ rfl
  · obtain ⟨g, cs, L, R, e, hg, hc, hL, hR, hE⟩ := l3 i x hx
    obtain ⟨va, vd, mid, rfl, h0, h1, h2, h3, h4⟩ := hE
    exact ⟨_, va, vd, e, by show g < hi; omega, fun j u hu => by rw [addr_row, Nat.zero_add]; exact hc j u hu, h0, h3.in_ (by omega), h4.in_ (by omega)⟩
end Go.Proofs.Ytolijdbdpnbchaa
