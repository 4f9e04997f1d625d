/-
  Parts joined: Mem Bits17 Pop17 Row Append Put Msg Whole Many GetMsg RefAt BookK Tx TxMsg GetTx Great Rules Role TwinMsg Example Rec12 Ones17 HoldWalk MoreWalk Slab17 Find17 New17 Lives6 Known Lives7 PlayMem12 Put17 Gone17 Free17 Acts17.
-/
import Derived.Below
import Derived.Laws.OwnMore
import Derived.Deep.AppendLies
import Derived.Deep.Draws
import Derived.Lib.Hide
import Derived.Laws.BitsAllLaws
import Derived.WalkSmall
import Derived.Laws.MakeOwn
import Derived.Laws.CopyOwn
import Derived.Laws.Rows
import Derived.Maps.AppendAt
import Derived.OwnWalk
import Derived.WalkKit
import Derived.Test.YtkhcgclnmdgpbaaRows
import Derived.WalkSpells
import Derived.WalkLawsBesides
import Derived.IntWalk
import Derived.Deep.MidRow
import Derived.Deep.WholeRow
import Derived.Great.BuildSlice
import Derived.Recover
import Derived.Deep.RegionHeld
import Derived.Deep.QuietTactic
import Derived.BigQuiet
import Derived.Deep.RegionHeld2
import Derived.Deep.CutBlock
import Derived.Laws.Tables
import Derived.ChangeKeysEq
import Derived.ProofKit
import Derived.OpenShut
import Derived.ShutString
import Derived.ChangeOld
import Derived.Lib.SmallJoins
import Derived.Laws.Slices
import Derived.Deep.Slices
import Derived.Deep.Strs
import Derived.SizedLaws
import Derived.Laws.StructEq
import Derived.Deep.DeepCutAuto
import Derived.Laws.EntriesVeiled
import Derived.Deep.RegionHeld3
import Derived.Maps.OwnSet
import Derived.DeepKeys4
import Derived.WideKeyArr
import Derived.WideKeyEntry
import Derived.Shelf.SlMaps.Clone
import Derived.Laws.Append
import Derived.Laws.AppendOwn
import Derived.WalkMore
import Derived.LaidMore
/-
  Of part Mem: what is needed here.
-/
namespace Go.Proofs.Ytkhcgclnmdgpbaa
open Go.RowKit
/-- bytes (or numbers of another kind) as cells -/
def cv (k : IntKind) (zs : List Int) : List Value := zs.map (Value.int k)
def bv (zs : List Int) : List Value := cv .u8 zs
theorem cv_length (k : IntKind) (zs : List Int) : (cv k zs).length = zs.length := by simp [cv]
theorem addr_block (a : Addr) (n : Nat) : (a.add n).block = a.block := by unfold Addr.add; split <;> rfl
theorem addr_row (g i j : Nat) : (⟨g, i, none⟩ : Addr).add j = ⟨g, i + j, none⟩ := by unfold Addr.add; split <;> simp_all
/-- The slice value '.slice A n c' reads as the cells xs; each cell lies below block B. -/
structure Sees (w : World) (B : Nat) (A : Option Addr) (n : Nat) (xs : List Value) : Prop where
  len : xs.length = n
  cell : ∀ i u, xs[i]? = some u → ∃ a, A = some a ∧ a.block < B ∧ w.cell? (a.add i) = some u
section
variable {w w' : World} {B B' n : Nat} {A : Option Addr} {xs : List Value}
theorem Sees.nil (w : World) (B : Nat) (A : Option Addr) : Sees w B A 0 [] := ⟨rfl, fun i u h => by simp at h⟩
theorem Sees.keep (h : Sees w B A n xs) (hk : ∀ p : Addr, p.block < B → w'.cell? p = w.cell? p) : Sees w' B A n xs :=
  ⟨h.len, fun i u hu => by
    obtain ⟨a, e, hb, hc⟩ := h.cell i u hu
    exact ⟨a, e, hb, (hk _ (by rw [addr_block]; exact hb)).trans hc⟩⟩
theorem Sees.below (h : Sees w B A n xs) (hb : Below B w w') : Sees w' B A n xs := h.keep fun _ hp => hb.cell hp
theorem Sees.drew (h : Sees w B A n xs) : Sees w.drew B A n xs := ⟨h.len, h.cell⟩
theorem Sees.alloc (h : Sees w B A n xs) (hB : B ≤ w.heap.size) (o : Obj) : Sees (w.alloc o) B A n xs := h.keep fun p hp => World.cell?_alloc_lt w o p (by omega)
theorem Sees.setCell (h : Sees w B A n xs) {p : Addr} (hB : B ≤ p.block) (u : Value) : Sees (w.setCell p u) B A n xs :=
  h.keep fun q hq => World.cell?_setCell_other w p q u (fun e => by subst e; omega)
theorem Sees.at_ {k : Nat} (h : Sees w B A n xs) (hk : k < n) : ∃ a u, A = some a ∧ a.block < B ∧ xs[k]? = some u ∧ w.cell? (a.add k) = some u := by
  have hl : k < xs.length := by have := h.len; omega
  obtain ⟨a, e, hb, hc⟩ := h.cell k _ (List.getElem?_eq_getElem hl)
  exact ⟨a, _, e, hb, List.getElem?_eq_getElem hl, hc⟩
theorem Sees.of_own {base : Nat} {e : TypeId} {c : Nat} (h : w.ownsRow base e 1 (.slice A n c) n xs) : Sees w w.heap.size A n xs := by
  refine ⟨by have := h.1; omega, fun i u hu => ?_⟩
  have hl : i < xs.length := (List.getElem?_eq_some_iff.1 hu).1
  rcases h.2 with ⟨_, rfl⟩ | ⟨g, cap, cur, hv, hg, hh, hnc, _, hsz, htk⟩
  · have := h.1; omega
  · have hA : A = some ⟨g, 0, none⟩ := by injection hv
    subst hA
    exact ⟨_, rfl, (Array.getElem?_eq_some_iff.1 hh).1, h.cells (g := g) rfl i u hu⟩
end
end Go.Proofs.Ytkhcgclnmdgpbaa

/-
  Of part Bits17: what is needed here.
-/
namespace Go.Proofs.Ytkhcgclnmdgpbaa
/-- the bits of a word: one for each thing -/
def wd17 {α : Type} : List (Option α) → Nat
  | [] => 0
  | x :: r => (if x.isSome then 1 else 0) + 2 * wd17 r
theorem wd_cons17 {α : Type} (x : Option α) (r : List (Option α)) : wd17 (x :: r) = (if x.isSome then 1 else 0) + 2 * wd17 r := rfl
/-- how many of the lowest n bits are set -/
def pop17 : Nat → Nat → Nat
  | 0, _ => 0
  | n + 1, x => x % 2 + pop17 n (x / 2)
section
variable {α : Type}
theorem wd_lt17 : ∀ (l : List (Option α)), wd17 l < 2 ^ l.length
  | [] => by simp [wd17]
  | x :: r => by
    have := wd_lt17 r
    rw [List.length_cons, Nat.pow_succ, wd_cons17]
    split <;> omega
theorem wd_bit17 : ∀ (l : List (Option α)) (k : Nat), (wd17 l).testBit k = (l.getD k none).isSome
  | [], k => by simp [wd17]
  | x :: r, 0 => by
    rw [Nat.testBit_zero, wd_cons17]
    cases x <;> simp <;> omega
  | x :: r, k + 1 => by
    rw [Nat.testBit_succ, show wd17 (x :: r) / 2 = wd17 r from by rw [wd_cons17]; split <;> omega, wd_bit17 r k]
    rfl
theorem wd_pop17 : ∀ (l : List (Option α)), pop17 l.length (wd17 l) = l.countP Option.isSome
  | [] => rfl
  | x :: r => by
    have h2 : wd17 (x :: r) / 2 = wd17 r := by rw [wd_cons17]; split <;> omega
    have h1 : wd17 (x :: r) % 2 = if x.isSome then 1 else 0 := by rw [wd_cons17]; split <;> omega
    rw [List.length_cons]
    show wd17 (x :: r) % 2 + pop17 r.length (wd17 (x :: r) / 2) = _
    rw [h1, h2, wd_pop17 r, List.countP_cons]
    split <;> omega
theorem wd_zero17 {l : List (Option α)} : wd17 l = 0 ↔ ∀ x ∈ l, x = none := by
  induction l with
  | nil => simp [wd17]
  | cons x r ih =>
    have e : wd17 (x :: r) = (if x.isSome then 1 else 0) + 2 * wd17 r := rfl
    rw [e]
    cases x with
    | none =>
      simp only [Option.isSome_none, Bool.false_eq_true, if_false, Nat.zero_add, List.mem_cons, forall_eq_or_imp, true_and]
      rw [← ih]
      omega
    | some v => simp
theorem wd_set17 {l : List (Option α)} {k : Nat} (hk : k < l.length) (x : α) : wd17 (l.set k (some x)) = wd17 l ||| 2 ^ k := by
  apply Nat.eq_of_testBit_eq
  intro i
  rw [wd_bit17, Nat.testBit_or, wd_bit17, Nat.testBit_two_pow, List.getD_eq_getElem?_getD, List.getD_eq_getElem?_getD, List.getElem?_set]
  by_cases h : k = i
  · subst h
    simp [hk]
  · simp [h]
theorem wd_free17 {l : List (Option α)} {k : Nat} (hk : k < l.length) (h64 : l.length = 64) : wd17 (l.set k none) = wd17 l &&& (18446744073709551615 - 2 ^ k) := by
  apply Nat.eq_of_testBit_eq
  intro i
  have hp : (2 : Nat) ^ k < 2 ^ 64 := Nat.pow_lt_pow_right (by omega) (by omega)
  rw [wd_bit17, Nat.testBit_and, wd_bit17, show 18446744073709551615 - 2 ^ k = 2 ^ 64 - (2 ^ k + 1) by omega, Nat.testBit_two_pow_sub_succ hp, Nat.testBit_two_pow, List.getD_eq_getElem?_getD, List.getD_eq_getElem?_getD, List.getElem?_set]
  by_cases h : k = i
  · subst h
    simp [hk]
  · by_cases hi : i < 64
    · simp [h, hi]
    · have : l[i]? = none := List.getElem?_eq_none (by omega)
      simp [h, this]
end
/-- what the code asks of a bit -/
theorem has_bit17 (x k : Nat) : ((x : Int) / 2 ^ k % 2 = 1) ↔ x.testBit k = true := by
  rw [Nat.testBit_eq_decide_div_mod_eq, decide_eq_true_eq]
  constructor
  · intro h
    exact_mod_cast h
  · intro h
    exact_mod_cast h
theorem two_pow17 (k : Nat) : (2 : Int) ^ k = ((2 ^ k : Nat) : Int) := (Int.natCast_pow 2 k).symm
theorem shl_one17 {k : Nat} (hk : k < 64) : IntKind.u64.wrap (1 * 2 ^ k) = ((2 ^ k : Nat) : Int) := by
  have hp : (2 : Nat) ^ k < 2 ^ 64 := Nat.pow_lt_pow_right (by omega) (by omega)
  rw [IntKind.wrap_u64, Int.one_mul, two_pow17]
  generalize 2 ^ k = m at *
  omega
theorem or_bit17 (x k : Nat) (hx : x < 18446744073709551616) (hk : k < 64) : bits .or .u64 (x : Int) (IntKind.u64.wrap (1 * 2 ^ k)) = ((x ||| 2 ^ k : Nat) : Int) := by
  have hp : (2 : Nat) ^ k < 2 ^ 64 := Nat.pow_lt_pow_right (by omega) (by omega)
  have hw := shl_one17 hk
  rw [hw]
  exact u64_or_nat _ _ hx (by omega)
theorem free_bit17 (x k : Nat) (hx : x < 18446744073709551616) (hk : k < 64) : bits .andNot .u64 (x : Int) (IntKind.u64.wrap (1 * 2 ^ k)) = ((x &&& (18446744073709551615 - 2 ^ k) : Nat) : Int) := by
  have hp : (2 : Nat) ^ k < 2 ^ 64 := Nat.pow_lt_pow_right (by omega) (by omega)
  have hw := shl_one17 hk
  rw [hw]
  exact u64_andNot_nat _ _ hx (by omega)
end Go.Proofs.Ytkhcgclnmdgpbaa

/-
  Of part Pop17: what is needed here.
-/
namespace Go.Proofs.Ytkhcgclnmdgpbaa
def val17 : List Nat → Nat
  | [] => 0
  | b :: r => b + 256 * val17 r
theorem val_cons17 (b : Nat) (r : List Nat) : val17 (b :: r) = b + 256 * val17 r := rfl
theorem and_byte17 {a c y m : Nat} (ha : a < 256) (hc : c < 256) : (a + 256 * y) &&& (c + 256 * m) = (a &&& c) + 256 * (y &&& m) := by
  have h1 : ((a + 256 * y) &&& (c + 256 * m)) % 2 ^ 8 = (a &&& c) := by
    rw [Nat.and_mod_two_pow]
    congr 1 <;> omega
  have h2 : ((a + 256 * y) &&& (c + 256 * m)) / 2 ^ 8 = (y &&& m) := by
    rw [Nat.and_div_two_pow]
    congr 1 <;> omega
  omega
theorem and_val17 {c : Nat} (hc : c < 256) : ∀ {bs : List Nat}, (∀ b ∈ bs, b < 256) → val17 bs &&& val17 (bs.map fun _ => c) = val17 (bs.map fun b => b &&& c)
  | [], _ => by simp [val17]
  | b :: r, h => by
    rw [List.map_cons, List.map_cons, val_cons17, val_cons17, val_cons17, and_byte17 (h b List.mem_cons_self) hc, and_val17 hc fun x hx => h x (List.mem_cons_of_mem _ hx)]
theorem half_bit17 : ∀ (b : Fin 256) (e : Fin 2), (b.val / 2 + 128 * e.val) &&& 85 = b.val / 2 &&& 85 := by decide +kernel
theorem quarter_bit17 : ∀ (b : Fin 256) (e : Fin 4), (b.val / 4 + 64 * e.val) &&& 51 = b.val / 4 &&& 51 := by decide +kernel
theorem half_val17 : ∀ {bs : List Nat}, (∀ b ∈ bs, b < 256) → val17 bs / 2 &&& val17 (bs.map fun _ => 85) = val17 (bs.map fun b => b / 2 &&& 85)
  | [], _ => by simp [val17]
  | b :: r, h => by
    have hb := h b List.mem_cons_self
    rw [List.map_cons, List.map_cons, val_cons17, val_cons17, val_cons17, show (b + 256 * val17 r) / 2 = (b / 2 + 128 * (val17 r % 2)) + 256 * (val17 r / 2) by omega, and_byte17 (by omega) (by omega),
      half_val17 fun x hx => h x (List.mem_cons_of_mem _ hx)]
    congr 1
    exact half_bit17 ⟨b, hb⟩ ⟨val17 r % 2, by omega⟩
theorem quarter_val17 : ∀ {bs : List Nat}, (∀ b ∈ bs, b < 256) → val17 bs / 4 &&& val17 (bs.map fun _ => 51) = val17 (bs.map fun b => b / 4 &&& 51)
  | [], _ => by simp [val17]
  | b :: r, h => by
    have hb := h b List.mem_cons_self
    rw [List.map_cons, List.map_cons, val_cons17, val_cons17, val_cons17, show (b + 256 * val17 r) / 4 = (b / 4 + 64 * (val17 r % 4)) + 256 * (val17 r / 4) by omega, and_byte17 (by omega) (by omega),
      quarter_val17 fun x hx => h x (List.mem_cons_of_mem _ hx)]
    congr 1
    exact quarter_bit17 ⟨b, hb⟩ ⟨val17 r % 4, by omega⟩
theorem add_val17 (f g : Nat → Nat) : ∀ (bs : List Nat), val17 (bs.map f) + val17 (bs.map g) = val17 (bs.map fun b => f b + g b)
  | [] => rfl
  | b :: r => by
    rw [List.map_cons, List.map_cons, List.map_cons, val_cons17, val_cons17, val_cons17, ← add_val17 f g r]
    omega
theorem val_mod17 : ∀ {bs : List Nat}, (∀ b ∈ bs, b % 16 ≤ 4) → val17 bs % 16 ≤ 4
  | [], _ => by simp [val17]
  | b :: r, h => by
    have hb := h b List.mem_cons_self
    rw [val_cons17]
    omega
theorem nib_val17 : ∀ {bs : List Nat}, (∀ b ∈ bs, b % 16 ≤ 4 ∧ b / 16 ≤ 4) → (val17 bs / 16 + val17 bs) &&& val17 (bs.map fun _ => 15) = val17 (bs.map fun b => b / 16 + b % 16)
  | [], _ => by simp [val17]
  | b :: r, h => by
    have hb := h b List.mem_cons_self
    have hr := val_mod17 fun x hx => (h x (List.mem_cons_of_mem _ hx)).1
    rw [List.map_cons, List.map_cons, val_cons17, val_cons17, val_cons17, show (b + 256 * val17 r) / 16 + (b + 256 * val17 r) = (b / 16 + b + 16 * (val17 r % 16)) + 256 * (val17 r / 16 + val17 r) by omega, and_byte17 (by omega) (by omega),
      nib_val17 fun x hx => h x (List.mem_cons_of_mem _ hx)]
    congr 1
    rw [show (15 : Nat) = 2 ^ 4 - 1 from rfl, Nat.and_two_pow_sub_one_eq_mod]
    omega
def t1_17 (b : Nat) : Nat := (b / 2 &&& 85) + (b &&& 85)
def t2_17 (b : Nat) : Nat := (b / 4 &&& 51) + (b &&& 51)
theorem t_ok17 : ∀ b : Fin 256, t1_17 b.val < 256 ∧ (t2_17 (t1_17 b.val) < 256 ∧ t2_17 (t1_17 b.val) % 16 ≤ 4 ∧ t2_17 (t1_17 b.val) / 16 ≤ 4) ∧ t2_17 (t1_17 b.val) / 16 + t2_17 (t1_17 b.val) % 16 = pop17 8 b.val ∧ pop17 8 b.val ≤ 8 := by decide +kernel
/-- the code's first three steps, over bytes -/
theorem steps17 (bs : List Nat) (h : ∀ b ∈ bs, b < 256) (y z : Nat) (hy : y = (val17 bs / 2 &&& val17 (bs.map fun _ => 85)) + (val17 bs &&& val17 (bs.map fun _ => 85)))
    (hz : z = (y / 4 &&& val17 (bs.map fun _ => 51)) + (y &&& val17 (bs.map fun _ => 51))) :
    y = val17 (bs.map t1_17) ∧ z = val17 (bs.map fun b => t2_17 (t1_17 b)) ∧ (z / 16 + z) &&& val17 (bs.map fun _ => 15) = val17 (bs.map (pop17 8)) := by
  have h1 : y = val17 (bs.map t1_17) := by rw [hy, half_val17 h, and_val17 (by omega) h, add_val17]; rfl
  have hk : ∀ b ∈ bs.map t1_17, b < 256 := fun b hb => by
    obtain ⟨a, ha, rfl⟩ := List.mem_map.1 hb
    exact (t_ok17 ⟨a, h a ha⟩).1
  have h2 : z = val17 (bs.map fun b => t2_17 (t1_17 b)) := by
    have e := half_val17 h
    rw [hz, h1, show (bs.map fun _ => 51) = (bs.map t1_17).map fun _ => 51 by rw [List.map_map]; rfl, quarter_val17 hk, and_val17 (by omega) hk, add_val17, List.map_map]
    rfl
  have hn : ∀ b ∈ bs.map fun b => t2_17 (t1_17 b), b % 16 ≤ 4 ∧ b / 16 ≤ 4 := fun b hb => by
    obtain ⟨a, ha, rfl⟩ := List.mem_map.1 hb
    exact (t_ok17 ⟨a, h a ha⟩).2.1.2
  refine ⟨h1, h2, ?_⟩
  rw [h2, show (bs.map fun _ => 15) = (bs.map fun b => t2_17 (t1_17 b)).map fun _ => 15 by rw [List.map_map]; rfl, nib_val17 hn, List.map_map]
  congr 1
  exact List.map_congr_left fun a ha => (t_ok17 ⟨a, h a ha⟩).2.2.1
theorem pop_byte17 (n b y : Nat) (hb : b < 256) : pop17 (n + 8) (b + 256 * y) = pop17 8 b + pop17 n y := by
  generalize hx : b + 256 * y = x
  show x % 2 + (x / 2 % 2 + (x / 2 / 2 % 2 + (x / 2 / 2 / 2 % 2 + (x / 2 / 2 / 2 / 2 % 2 + (x / 2 / 2 / 2 / 2 / 2 % 2 + (x / 2 / 2 / 2 / 2 / 2 / 2 % 2 + (x / 2 / 2 / 2 / 2 / 2 / 2 / 2 % 2 + pop17 n (x / 2 / 2 / 2 / 2 / 2 / 2 / 2 / 2)))))))) = b % 2 + (b / 2 % 2 + (b / 2 / 2 % 2 + (b / 2 / 2 / 2 % 2 + (b / 2 / 2 / 2 / 2 % 2 + (b / 2 / 2 / 2 / 2 / 2 % 2 + (b / 2 / 2 / 2 / 2 / 2 / 2 % 2 + (b / 2 / 2 / 2 / 2 / 2 / 2 / 2 % 2 + 0))))))) + pop17 n y
  have h8 : x / 2 / 2 / 2 / 2 / 2 / 2 / 2 / 2 = y := by
    rw [Nat.div_div_eq_div_mul, Nat.div_div_eq_div_mul, Nat.div_div_eq_div_mul, Nat.div_div_eq_div_mul, Nat.div_div_eq_div_mul, Nat.div_div_eq_div_mul, Nat.div_div_eq_div_mul]
    omega
  rw [h8]
  have g0 : x % 2 = b % 2 := by omega
  have s1 : x / 2 = b / 2 + 128 * y := by omega
  have s2 : x / 2 / 2 = b / 2 / 2 + 64 * y := by rw [s1]; omega
  have s3 : x / 2 / 2 / 2 = b / 2 / 2 / 2 + 32 * y := by rw [s2]; omega
  have s4 : x / 2 / 2 / 2 / 2 = b / 2 / 2 / 2 / 2 + 16 * y := by rw [s3]; omega
  have s5 : x / 2 / 2 / 2 / 2 / 2 = b / 2 / 2 / 2 / 2 / 2 + 8 * y := by rw [s4]; omega
  have s6 : x / 2 / 2 / 2 / 2 / 2 / 2 = b / 2 / 2 / 2 / 2 / 2 / 2 + 4 * y := by rw [s5]; omega
  have s7 : x / 2 / 2 / 2 / 2 / 2 / 2 / 2 = b / 2 / 2 / 2 / 2 / 2 / 2 / 2 + 2 * y := by rw [s6]; omega
  rw [g0, s7, s6, s5, s4, s3, s2, s1]
  generalize b / 2 / 2 / 2 / 2 / 2 / 2 / 2 = c7
  generalize b / 2 / 2 / 2 / 2 / 2 / 2 = c6
  generalize b / 2 / 2 / 2 / 2 / 2 = c5
  generalize b / 2 / 2 / 2 / 2 = c4
  generalize b / 2 / 2 / 2 = c3
  generalize b / 2 / 2 = c2
  generalize b / 2 = c1
  rw [show (c1 + 128 * y) % 2 = c1 % 2 by omega, show (c2 + 64 * y) % 2 = c2 % 2 by omega, show (c3 + 32 * y) % 2 = c3 % 2 by omega, show (c4 + 16 * y) % 2 = c4 % 2 by omega, show (c5 + 8 * y) % 2 = c5 % 2 by omega, show (c6 + 4 * y) % 2 = c6 % 2 by omega, show (c7 + 2 * y) % 2 = c7 % 2 by omega]
  omega
theorem bytes17 (x : Nat) (hx : x < 18446744073709551616) : ∃ bs : List Nat, bs.length = 8 ∧ (∀ b ∈ bs, b < 256) ∧ val17 bs = x ∧ pop17 64 x = (bs.map (pop17 8)).sum := by
  refine ⟨[x % 256, x / 256 % 256, x / 256 / 256 % 256, x / 256 / 256 / 256 % 256, x / 256 / 256 / 256 / 256 % 256, x / 256 / 256 / 256 / 256 / 256 % 256, x / 256 / 256 / 256 / 256 / 256 / 256 % 256, x / 256 / 256 / 256 / 256 / 256 / 256 / 256], rfl, ?_, ?_, ?_⟩
  · intro b hb
    simp only [List.mem_cons, List.not_mem_nil, or_false] at hb
    have hl : x / 256 / 256 / 256 / 256 / 256 / 256 / 256 < 256 := by
      rw [Nat.div_div_eq_div_mul, Nat.div_div_eq_div_mul, Nat.div_div_eq_div_mul, Nat.div_div_eq_div_mul, Nat.div_div_eq_div_mul, Nat.div_div_eq_div_mul]
      exact Nat.div_lt_of_lt_mul hx
    rcases hb with rfl | rfl | rfl | rfl | rfl | rfl | rfl | rfl
    iterate 7 exact Nat.mod_lt _ (by omega)
    exact hl
  · simp only [val17]
    generalize h1 : x / 256 = x1
    generalize h2 : x1 / 256 = x2
    generalize h3 : x2 / 256 = x3
    generalize h4 : x3 / 256 = x4
    generalize h5 : x4 / 256 = x5
    generalize h6 : x5 / 256 = x6
    generalize h7 : x6 / 256 = x7
    clear hx
    have g7 : x6 % 256 + 256 * (x7 + 256 * 0) = x6 := by omega
    rw [g7]
    have g6 : x5 % 256 + 256 * x6 = x5 := by omega
    have g5 : x4 % 256 + 256 * x5 = x4 := by omega
    have g4 : x3 % 256 + 256 * x4 = x3 := by omega
    have g3 : x2 % 256 + 256 * x3 = x2 := by omega
    have g2 : x1 % 256 + 256 * x2 = x1 := by omega
    rw [g6, g5, g4, g3, g2]
    omega
  · have e : ∀ (n y : Nat), pop17 (n + 8) y = pop17 8 (y % 256) + pop17 n (y / 256) := fun n y => by
      have := pop_byte17 n (y % 256) (y / 256) (by omega)
      rwa [show y % 256 + 256 * (y / 256) = y by omega] at this
    rw [e 56, e 48, e 40, e 32, e 24, e 16, e 8]
    simp only [List.map_cons, List.map_nil, List.sum_cons, List.sum_nil, Nat.add_zero]
/-- the last three steps: the bytes' sum -/
theorem sum_bytes17 (a0 a1 a2 a3 a4 a5 a6 a7 x y z : Nat) (h : a0 ≤ 8 ∧ a1 ≤ 8 ∧ a2 ≤ 8 ∧ a3 ≤ 8 ∧ a4 ≤ 8 ∧ a5 ≤ 8 ∧ a6 ≤ 8 ∧ a7 ≤ 8) (hx : x = val17 [a0, a1, a2, a3, a4, a5, a6, a7]) (hy : y = x + x / 256) (hz : z = y + y / 65536) :
    x < 1157442765409226768 ∧ y < 2314885530818453536 ∧ z < 4629771061636907072 ∧ (z + z / 4294967296) % 128 = a0 + a1 + a2 + a3 + a4 + a5 + a6 + a7 := by
  obtain ⟨X7, e7⟩ : ∃ X, X = a7 + 256 * 0 := ⟨_, rfl⟩
  obtain ⟨X6, e6⟩ : ∃ X, X = a6 + 256 * X7 := ⟨_, rfl⟩
  obtain ⟨X5, e5⟩ : ∃ X, X = a5 + 256 * X6 := ⟨_, rfl⟩
  obtain ⟨X4, e4⟩ : ∃ X, X = a4 + 256 * X5 := ⟨_, rfl⟩
  obtain ⟨X3, e3⟩ : ∃ X, X = a3 + 256 * X4 := ⟨_, rfl⟩
  obtain ⟨X2, e2⟩ : ∃ X, X = a2 + 256 * X3 := ⟨_, rfl⟩
  obtain ⟨X1, e1⟩ : ∃ X, X = a1 + 256 * X2 := ⟨_, rfl⟩
  have e0 : x = a0 + 256 * X1 := by rw [hx, e1, e2, e3, e4, e5, e6, e7]; rfl
  have b7 : X7 ≤ 8 := by omega
  have b6 : X6 ≤ 2056 := by omega
  have b5 : X5 ≤ 526344 := by omega
  have b4 : X4 ≤ 134744072 := by omega
  have b3 : X3 ≤ 34494482440 := by omega
  have b2 : X2 ≤ 8830587504648 := by omega
  have b1 : X1 ≤ 2260630401189896 := by omega
  have b0 : x ≤ 578721382704613384 := by omega
  have f0 : x / 256 = X1 := by rw [e0]; clear e1 e2 e3 e4 e5 e6 e7 hx hy hz b0 b1 b2 b3 b4 b5 b6 b7; omega
  rw [f0] at hy
  have g0 : y = (a0 + a1) + 256 * ((a1 + a2) + 256 * (X2 + X3)) := by rw [hy, e0, e1, e2]; omega
  have k0 : y / 65536 = X2 + X3 := by rw [g0]; clear e0 e1 e2 e3 e4 e5 e6 e7 hx hy hz b0 b1 b2 b3 b4 b5 b6 b7 f0; omega
  rw [k0] at hz
  have m0 : z = (a0 + a1 + a2 + a3) + 256 * ((a1 + a2 + a3 + a4) + 256 * ((a2 + a3 + a4 + a5) + 256 * ((a3 + a4 + a5 + a6) + 256 * (X4 + X5 + X6 + X7)))) := by
    rw [hz, hy, e0, e1, e2, e3, e4, e5, e6]; omega
  have n0 : z / 4294967296 = X4 + X5 + X6 + X7 := by rw [m0]; clear e0 e1 e2 e3 e4 e5 e6 e7 hx hy hz b0 b1 b2 b3 b4 b5 b6 b7 f0 g0 k0; omega
  refine ⟨by omega, by omega, by omega, ?_⟩
  rw [n0, m0, e4, e5, e6, e7]
  clear e0 e1 e2 e3 e4 e5 e6 e7 hx hy hz b0 b1 b2 b3 b4 b5 b6 b7 f0 g0 k0 n0 m0
  omega
end Go.Proofs.Ytkhcgclnmdgpbaa

/-
  Of part Row: what is needed here.
-/
namespace Go.Proofs.Ytkhcgclnmdgpbaa
open Go.RowKit
set_option linter.unusedVariables false
set_option maxRecDepth 100000
/-- block g is just the cells xs of element type t; none is frozen -/
structure Row (w : World) (g : Nat) (t : TypeId) (xs : List Value) : Prop where
  is : w.heap[g]? = some (.cells xs.toArray t (0, 0))
section
variable {w w' : World} {g : Nat} {t : TypeId} {xs : List Value}
theorem Row.lt (h : Row w g t xs) : g < w.heap.size := (Array.getElem?_eq_some_iff.1 h.is).1
theorem Row.cell (h : Row w g t xs) (i : Nat) : w.cell? ⟨g, i, none⟩ = xs[i]? := by rw [cell_of_row w g i xs.toArray t (0, 0) h.is]; simp
theorem Row.frozen (h : Row w g t xs) (i : Nat) : w.frozen? ⟨g, i, none⟩ = false := by
  have := h.is
  simp [World.frozen?, this]
theorem Row.new (w : World) (t : TypeId) (xs : List Value) : Row (w.alloc (.cells xs.toArray t)) w.heap.size t xs := ⟨heap_alloc_new w _⟩
theorem Row.drew (h : Row w g t xs) : Row w.drew g t xs := ⟨h.is⟩
theorem Row.alloc (h : Row w g t xs) (o : Obj) : Row (w.alloc o) g t xs := ⟨(Below.heap_alloc w o g h.lt).trans h.is⟩
theorem Row.set_ (h : Row w g t xs) (i : Nat) (u : Value) : Row (w.setCell ⟨g, i, none⟩ u) g t (xs.set i u) := by
  have := h.is
  exact ⟨by simp [World.setCell, Array.getElem?_modify, this]⟩
theorem Row.far (h : Row w g t xs) {p : Addr} (hp : g ≠ p.block) (u : Value) : Row (w.setCell p u) g t xs := ⟨(Below.heap_setCell w p u g hp).trans h.is⟩
theorem Row.below {B : Nat} (h : Row w g t xs) (hb : Below B w w') (hg : g < B) : Row w' g t xs := ⟨(hb.block g hg).trans h.is⟩
theorem Row.grown {row : Option Nat} (h : Row w g t xs) (hb : w.grownBy w' row) (hg : some g ≠ row) : Row w' g t xs := ⟨(hb.block g h.lt hg).trans h.is⟩
theorem Row.sees (h : Row w g t xs) (o : Nat) : Sees w w.heap.size (some ⟨g, o, none⟩) (xs.length - o) (xs.drop o) :=
  ⟨by simp, fun i u hu => ⟨_, rfl, h.lt, by rw [addr_row, h.cell]; simpa using hu⟩⟩
theorem Row.sees0 (h : Row w g t xs) : Sees w w.heap.size (some ⟨g, 0, none⟩) xs.length xs := by simpa using h.sees 0
theorem Row.own (h : Row w g t xs) {base : Nat} (hb : base ≤ g) {n : Nat} (hn : n ≤ xs.length) (hm : xs.length ≤ maxLen) : w.ownsRow base t 1 (.slice (some ⟨g, 0, none⟩) n xs.length) n (xs.take n) :=
  ⟨by simp; omega, .inr ⟨g, xs.length, xs.toArray, rfl, hb, h.is, hn, hm, by simp, by simp⟩⟩
theorem Row.of_own {base : Nat} {n : Nat} (h : w.ownsRow base t 1 (.slice (some ⟨g, 0, none⟩) n n) n xs) : Row w g t xs := by
  rcases h.2 with ⟨hv, _⟩ | ⟨g', cap, cur, hv, _, hh, _, _, hs, ht⟩
  · cases hv
  · cases hv
    have : cur = xs.toArray := by
      rw [← ht, List.take_of_length_le (by simp; omega)]
    exact ⟨by rw [hh, this]⟩
end
end Go.Proofs.Ytkhcgclnmdgpbaa

/-
  Of part Append: what is needed here.
-/
namespace Go.Proofs.Ytkhcgclnmdgpbaa
open Go.RowKit
set_option linter.unusedVariables false
set_option maxRecDepth 100000
section
variable {P : Program} {w : World} {base : Nat} {t ty e : TypeId} {i : TypeInfo} {z : Value} {bytes : Nat} {v : Value} {n m c B : Nat} {A : Option Addr} {xs news : List Value}
theorem run_append_nothing (ht : P.underlying t = some (.slice e)) (hi : P.info? e = some i) (hown : w.ownsRow base e 1 v n xs) (c : Nat) :
    (Builtin.append_ #[t, t] ty #[v, .slice none 0 c]).run P w = .ok v w := by
  rcases hown.2 with ⟨rfl, rfl⟩ | ⟨g, cap, cur, rfl, _, _, hnc, _⟩ <;>
    simp [Builtin.append_, run_underlying ht, sizeOf, typeInfo, Builtin.lenOf, Builtin.firstCells, storeCells, *]
theorem run_append_sees (ht : P.underlying t = some (.slice e)) (hi : P.info? e = some i) (hz : i.zero = some z) (hsize : i.size = 1) (hby : i.bytes = bytes) (hzs : z.cells.size = 1)
    (hown : w.ownsRow base e 1 v n xs) (hr : Sees w B A m news) (h1 : ∀ u ∈ news, u.oneCell' = true) (hnm : n + m ≤ maxLen) (hbytes : (n + m) * bytes ≤ 140737488355328) (hbase : base ≤ w.heap.size) (c : Nat) :
    ∃ v' w', (Builtin.append_ #[t, t] ty #[v, .slice A m c]).run P w = .ok v' w' ∧ w'.ownsRow base e 1 v' (n + m) (xs ++ news) ∧ w.grownBy w' v.ownBlock ∧ (v'.ownBlock = v.ownBlock ∨ v'.ownBlock = some w.heap.size) := by
  cases A with
  | none =>
    have hn : news = [] := by
      cases news with
      | nil => rfl
      | cons u r =>
        obtain ⟨a, h, _⟩ := hr.cell 0 u rfl
        cases h
    subst hn
    obtain rfl : m = 0 := by simpa using hr.len.symm
    exact ⟨v, w, run_append_nothing ht hi hown c, by simpa using hown, World.grownBy.refl w _, .inl rfl⟩
  | some ad =>
    obtain ⟨v', w', hrun, h2, h3, _, h5⟩ := run_append_own_at (P := P) w base t ty e i z 1 bytes ht hi hz hsize hby hzs (by omega) v n xs hown ad m c news (by rw [hr.len]; omega)
      (fun j u hu => by
        obtain ⟨a, h, _, hc⟩ := hr.cell j u hu
        cases h
        exact hc) h1 hnm hbytes hbase
    exact ⟨v', w', hrun, h2, h3, h5⟩
theorem wp_append_sees {o : Oper} {a : Act} {K : Act → World → Prop} {Q : Exit → Act → World → Prop} (s x : Operand)
    (ho : o.op = .call { callee := .builtin .append, args := #[s, x], argTypes := #[t, t] })
    (ht : P.underlying t = some (.slice e)) (hi : P.info? e = some i) (hz : i.zero = some z) (hsize : i.size = 1) (hby : i.bytes = bytes) (hzs : z.cells.size = 1)
    (hs : a.eval s = v) (hown : w.ownsRow base e 1 v n xs) (hx : a.eval x = .slice A m c) (hr : Sees w B A m news) (h1 : ∀ u ∈ news, u.oneCell' = true)
    (hnm : n + m ≤ maxLen) (hbytes : (n + m) * bytes ≤ 140737488355328) (hbase : base ≤ w.heap.size)
    (h : ∀ v' w', w'.ownsRow base e 1 v' (n + m) (xs ++ news) → w.grownBy w' v.ownBlock → (v'.ownBlock = v.ownBlock ∨ v'.ownBlock = some w.heap.size) → K (a.put o.dst v') w') : o.wp P a w K Q := by
  obtain ⟨v', w', hrun, h2, h3, h4⟩ := run_append_sees (P := P) (ty := o.type) ht hi hz hsize hby hzs hown hr h1 hnm hbytes hbase c
  unfold Oper.wp execOp
  simp only [ho, resolve, invoke, builtin, Sem.run_bind, Sem.run_pure, Result.andThen_ok, List.map_toArray, List.map_cons, List.map_nil, hs, hx, hrun]
  exact h v' w' h2 h3 h4
theorem wpList_append_sees {ops : Array Oper} {rest : List Oper} {o : Oper} {a : Act} {Q : Exit → Act → World → Prop} (hgd : o.guard = none) (s x : Operand) (t : TypeId)
    (ho : o.op = .call { callee := .builtin .append, args := #[s, x], argTypes := #[t, t] })
    (base : Nat) (e : TypeId) (i : TypeInfo) (z : Value) (bytes : Nat)
    (ht : P.underlying t = some (.slice e)) (hi : P.info? e = some i) (hz : i.zero = some z) (hsize : i.size = 1) (hby : i.bytes = bytes) (hzs : z.cells.size = 1)
    (v : Value) (n : Nat) (xs : List Value) (hs : a.eval s = v) (hown : w.ownsRow base e 1 v n xs) (B : Nat) (A : Option Addr) (m c : Nat) (news : List Value) (hx : a.eval x = .slice A m c) (hr : Sees w B A m news) (h1 : ∀ u ∈ news, u.oneCell' = true)
    (hnm : n + m ≤ maxLen) (hbytes : (n + m) * bytes ≤ 140737488355328) (hbase : base ≤ w.heap.size)
    (h : ∀ v' w', w'.ownsRow base e 1 v' (n + m) (xs ++ news) → w.grownBy w' v.ownBlock → (v'.ownBlock = v.ownBlock ∨ v'.ownBlock = some w.heap.size) → wpList P ops Q rest (a.put o.dst v') w') : wpList P ops Q (o :: rest) a w :=
  wpList_plain hgd fun _ hK => wp_append_sees s x ho ht hi hz hsize hby hzs hs hown hx hr h1 hnm hbytes hbase fun v' w' h2 h3 h4 => hK _ _ (h v' w' h2 h3 h4)
end
theorem own_form {w : World} {base : Nat} {e : TypeId} {v : Value} {n : Nat} {xs : List Value} (h : w.ownsRow base e 1 v n xs) : ∃ A c, v = .slice A n c := by
  rcases h.2 with ⟨rfl, rfl⟩ | ⟨g, cap, cur, rfl, _⟩
  · exact ⟨_, _, rfl⟩
  · exact ⟨_, _, rfl⟩
/-- the blocks of the call's own stay above what was there -/
theorem below_append {B : Nat} {a w w' : World} {base : Nat} {e : TypeId} {v : Value} {n : Nat} {xs : List Value} (h : Below B a w) (hown : w.ownsRow base e 1 v n xs) (hB : B ≤ base) (hs : B ≤ w.heap.size) (hg : w.grownBy w' v.ownBlock) : Below B a w' :=
  h.grown hg hs fun k hk => by have := (hown.lt k hk).1; omega
end Go.Proofs.Ytkhcgclnmdgpbaa

/-
  Of part Put: what is needed here.
-/
namespace Go.Proofs.Ytkhcgclnmdgpbaa
open Go.RowKit
set_option linter.unusedVariables false
set_option maxRecDepth 100000
/-- the bytes of a short number -/
def short (n : Int) : List Int :=
  if n < 128 then [n] else if n < 16384 then [n % 128 + 128, n / 128] else [n % 128 + 128, n / 128 % 128 + 128, n / 16384]
end Go.Proofs.Ytkhcgclnmdgpbaa

/-
  Of part Msg: what is needed here.
-/
namespace Go.Proofs.Ytkhcgclnmdgpbaa
open Go.RowKit
set_option linter.unusedVariables false
set_option maxRecDepth 100000
/-- an instruction -/
structure LIn where
  p : Int
  acc : List Int
  dat : List Int
/-- a lookup -/
structure LLook where
  tab : List Int
  wr : List Int
  rd : List Int
/-- a message -/
structure LMsg where
  v0 : Bool
  s : Int
  r : Int
  o : Int
  keys : List (List Int)
  recent : List Int
  ins : List LIn
  looks : List LLook
/-- how many, and the bytes -/
def encL (l : List Int) : List Int := short l.length ++ l
def encIn (i : LIn) : List Int := i.p :: (encL i.acc ++ encL i.dat)
def encLook (l : LLook) : List Int := l.tab ++ (encL l.wr ++ encL l.rd)
def encHead (m : LMsg) : List Int := (if m.v0 then [128] else []) ++ [m.s, m.r, m.o]
def encTail (m : LMsg) : List Int := if m.v0 then short m.looks.length ++ m.looks.flatMap encLook else []
/-- a message's bytes -/
def enc (m : LMsg) : List Int := encHead m ++ (short m.keys.length ++ (m.keys.flatten ++ (m.recent ++ (short m.ins.length ++ (m.ins.flatMap encIn ++ encTail m)))))
end Go.Proofs.Ytkhcgclnmdgpbaa

/-
  Of part Whole: what is needed here.
-/
namespace Go.Proofs.Ytkhcgclnmdgpbaa
open Go.RowKit
set_option linter.unusedVariables false
set_option maxRecDepth 100000
section
variable {P : Program}
/-- a value of many cells, read from an address -/
theorem run_loadAt_at (w : World) (p : Addr) (ty : TypeId) (cs : List Value) (d : TypeDesc) (hc : ∀ j v, cs[j]? = some v → w.cell? (p.add j) = some v)
    (hu : P.underlying ty = some d) (hd : d.isRow = true) (hi : (P.info? ty).map (·.size) = some cs.length) :
    (Instr.loadAt ty (.pointer (some p))).run P w = .ok (.agg cs.toArray) w := by
  have hl : (loadCells p cs.length).run P w = .ok cs.toArray w := run_loadCells_list (P := P) w p cs hc
  cases hq : P.info? ty with
  | none => simp [hq] at hi
  | some i =>
    have hs : i.size = cs.length := by simpa [hq] using hi
    have hagg : (isAgg ty).run P w = .ok true w := by
      unfold isAgg
      rw [Sem.run_bind, run_underlying hu w]
      cases d <;> simp_all
    simp [Instr.loadAt, Instr.sureAddr, loadVar, Sem.run_bind, hagg, sizeOf, typeInfo, hq, hs, hl]
theorem wpList_load_at {ops : Array Oper} {rest : List Oper} {op : Oper} {a : Act} {w : World} {Q : Exit → Act → World → Prop} (hgd : op.guard = none) (ty : TypeId) (x : Operand) (ho : op.op = .load ty x)
    (p : Addr) (cs : List Value) (d : TypeDesc) (hu : P.underlying ty = some d) (hd : d.isRow = true) (hi : (P.info? ty).map (·.size) = some cs.length) (hc : ∀ j v, cs[j]? = some v → w.cell? (p.add j) = some v)
    (hx : a.eval x = .pointer (some p)) (h : wpList P ops Q rest (a.put op.dst (.agg cs.toArray)) w) : wpList P ops Q (op :: rest) a w :=
  wpList_plain hgd fun _ hK => by
    unfold Oper.wp execOp
    simp only [ho, hx, Sem.run_bind, Sem.run_pure, run_loadAt_at w p ty cs d hc hu hd hi, Result.andThen_ok]
    exact hK _ _ h
/-- the same, the pointer's block a whole row -/
theorem wpList_load_whole {ops : Array Oper} {rest : List Oper} {op : Oper} {a : Act} {w : World} {Q : Exit → Act → World → Prop} (hgd : op.guard = none) (ty : TypeId) (x : Operand) (ho : op.op = .load ty x)
    (g t : Nat) (cs : List Value) (d : TypeDesc) (hu : P.underlying ty = some d) (hd : d.isRow = true) (hi : (P.info? ty).map (·.size) = some cs.length) (hr : Row w g t cs)
    (hx : a.eval x = .pointer (some ⟨g, 0, none⟩)) (h : wpList P ops Q rest (a.put op.dst (.agg cs.toArray)) w) : wpList P ops Q (op :: rest) a w :=
  wpList_load_at hgd ty x ho ⟨g, 0, none⟩ cs d hu hd hi (fun j v hv => by rw [addr_row, hr.cell]; simpa using hv) hx h
/-- a value of many cells into a block that is known whole: the world behind it, of which this is told -/
theorem run_storeAt_whole (w : World) (g ty : Nat) (c cs : List Value) (hr : Row w g ty c) (hi : (P.info? ty).map (·.size) = some cs.length) (hl : c.length = cs.length) (h1 : ∀ u ∈ cs, u.oneCell' = true) :
    (Instr.storeAt ty (.pointer (some ⟨g, 0, none⟩)) (.agg cs.toArray)).run P w = .ok () (w.setRow g cs.toArray) := by
  have := run_storeVar_row (P := P) w g ty ty c.toArray cs.toArray hr.is (by simpa using hi) (by simpa using hl) (all_oneCell_toArray h1)
  simp only [Instr.storeAt, Instr.sureAddr, Sem.run_bind, Sem.run_pure, Result.andThen_ok, this]
/-- but for block g, w' is w -/
structure Turned (w w' : World) (g : Nat) : Prop where
  os : w'.os = w.os
  tape : w'.tape = w.tape
  output : w'.output = w.output
  size : w'.heap.size = w.heap.size
  block : ∀ k, k ≠ g → w'.heap[k]? = w.heap[k]?
theorem turned_setRow (w : World) (g : Nat) (cs : Array Value) : Turned w (w.setRow g cs) g :=
  ⟨rfl, rfl, rfl, by simp, fun k hk => setRow_other w g k cs hk⟩
theorem turned_setCell (w : World) (p : Addr) (u : Value) : Turned w (w.setCell p u) p.block :=
  ⟨rfl, rfl, rfl, by simp [World.setCell], fun k hk => Below.heap_setCell _ _ _ _ hk⟩
theorem row_setRow {w : World} {g t : Nat} {c : List Value} (hr : Row w g t c) (cs : List Value) : Row (w.setRow g cs.toArray) g t cs :=
  ⟨setRow_heap w g c.toArray cs.toArray t _ hr.is⟩
theorem Turned.below {w w' : World} {g B : Nat} (h : Turned w w' g) (hB : B ≤ g) : Below B w w' :=
  ⟨h.os, h.tape, h.output, by rw [h.size]; exact Nat.le_refl _, fun k hk => h.block k (by omega)⟩
theorem wpList_store_whole {ops : Array Oper} {rest : List Oper} {op : Oper} {a : Act} {w : World} {Q : Exit → Act → World → Prop} (hgd : op.guard = none) (ty : TypeId) (x y : Operand) (ho : op.op = .store ty x y)
    (g : Nat) (c cs : List Value) (hr : Row w g ty c) (hi : (P.info? ty).map (·.size) = some cs.length) (hl : c.length = cs.length) (h1 : ∀ u ∈ cs, u.oneCell' = true)
    (hx : a.eval x = .pointer (some ⟨g, 0, none⟩)) (hy : a.eval y = .agg cs.toArray)
    (h : ∀ w', Row w' g ty cs → Turned w w' g → wpList P ops Q rest (a.put op.dst undef) w') : wpList P ops Q (op :: rest) a w :=
  wpList_plain hgd fun _ hK => by
    unfold Oper.wp execOp
    simp only [ho, hx, hy, Sem.run_bind, Sem.run_pure, run_storeAt_whole w g ty c cs hr hi hl h1, Result.andThen_ok]
    exact hK _ _ (h _ (row_setRow hr cs) (turned_setRow w g _))
/-- a variable that has just been made is given its value -/
theorem wpList_store_new {ops : Array Oper} {rest : List Oper} {op : Oper} {a : Act} {w0 : World} {c : Array Value} {Q : Exit → Act → World → Prop} (hgd : op.guard = none) (ty : TypeId) (x y : Operand) (ho : op.op = .store ty x y)
    (cs : List Value) (hi : (P.info? ty).map (·.size) = some cs.length) (h1 : ∀ u ∈ cs, u.oneCell' = true) (hl : c.size = cs.length)
    (hx : a.eval x = .pointer (some ⟨w0.heap.size, 0, none⟩)) (hy : a.eval y = .agg cs.toArray)
    (h : ∀ w', Row w' w0.heap.size ty cs → Below w0.heap.size w0 w' → w'.heap.size = w0.heap.size + 1 → wpList P ops Q rest (a.put op.dst undef) w') : wpList P ops Q (op :: rest) a (w0.alloc (.cells c ty)) := by
  have hr : Row (w0.alloc (.cells c ty)) w0.heap.size ty c.toList := by
    have := Row.new w0 ty c.toList
    simpa using this
  refine wpList_store_whole hgd ty x y ho w0.heap.size c.toList cs hr hi (by simpa using hl) h1 hx hy fun w' hr' ht => ?_
  exact h w' hr' (((Below.refl _ w0).alloc (Nat.le_refl _) _).trans (ht.below (Nat.le_refl _))) (by rw [ht.size]; simp)
theorem row_setCells {g t : Nat} : ∀ (cs : List Value) (w : World) (o : Nat) (c : List Value), Row w g t c → o + cs.length ≤ c.length → Row (w.setCells g o cs) g t (c.take o ++ cs ++ c.drop (o + cs.length))
  | [], w, o, c, h, _ => by simpa [World.setCells] using h
  | v :: r, w, o, c, h, hl => by
    have h1 := row_setCells r (w.setCell ⟨g, o, none⟩ v) (o + 1) (c.set o v) (h.set_ o v) (by simp at hl ⊢; omega)
    have e : (c.set o v).take (o + 1) ++ r ++ (c.set o v).drop (o + 1 + r.length) = c.take o ++ (v :: r) ++ c.drop (o + (v :: r).length) := by
      have ho : o < c.length := by simp at hl; omega
      rw [List.take_succ_eq_append_getElem (by simpa using ho), List.drop_set_of_lt (by omega), List.take_set_of_le (Nat.le_refl o)]
      simp only [List.getElem_set_self, List.append_assoc, List.cons_append, List.nil_append, List.length_cons]
      rw [show o + 1 + r.length = o + (r.length + 1) by omega]
    rw [e] at h1
    exact h1
theorem turned_setCells {g : Nat} : ∀ (cs : List Value) (w : World) (o : Nat), Turned w (w.setCells g o cs) g
  | [], w, o => ⟨rfl, rfl, rfl, rfl, fun _ _ => rfl⟩
  | v :: r, w, o => by
    have h1 := turned_setCell w ⟨g, o, none⟩ v
    have h2 := turned_setCells (g := g) r (w.setCell ⟨g, o, none⟩ v) (o + 1)
    exact ⟨h2.os.trans h1.os, h2.tape.trans h1.tape, h2.output.trans h1.output, h2.size.trans h1.size, fun k hk => (h2.block k hk).trans (h1.block k hk)⟩
end
end Go.Proofs.Ytkhcgclnmdgpbaa

/-
  Of part Many: what is needed here.
-/
namespace Go.Proofs.Ytkhcgclnmdgpbaa
open Go.RowKit
set_option linter.unusedVariables false
set_option maxRecDepth 100000
theorem own_below {w w' : World} {base n size : Nat} {e : TypeId} {v : Value} {xs : List Value} (h : w.ownsRow base e size v n xs) (hb : Below w.heap.size w w') : w'.ownsRow base e size v n xs := by
  refine ⟨h.1, ?_⟩
  rcases h.2 with h2 | ⟨g, cap, cur, hv, hg, hh, r⟩
  · exact .inl h2
  · exact .inr ⟨g, cap, cur, hv, hg, (hb.block g (Array.getElem?_eq_some_iff.1 hh).1).trans hh, r⟩
end Go.Proofs.Ytkhcgclnmdgpbaa

/-
  Of part GetMsg: what is needed here.
-/
namespace Go.Proofs.Ytkhcgclnmdgpbaa
open Go.RowKit
set_option linter.unusedVariables false
set_option maxRecDepth 100000
/-- 'wpAnyH_take', the operations a list: the operation comes out written out -/
theorem takeL {P : Program} {L : List Oper} {Q : Exit → Act → World → Prop} {md : Region.Mode} {S : World → Prop} {i : Nat} {oi : Oper} {v : Value} {fuel : Nat} {listed : Array Bool} {a : Act} {w : World} (hi : L[i]? = some oi)
    (hs : Region.noSelect L.toArray = true) (hf : Region.free md L.toArray listed i = true) (hr : (Region.ready md L.toArray listed).contains i = true)
    (hQ : ∀ c a w, Q (.panic c) (a.put oi.dst v) w → Q (.panic c) a w) (hy : YieldsIf P L.toArray S oi v a) (hS : S w)
    (h : wpAnyH P md L.toArray Q S fuel (listed.setIfInBounds i true) (a.put oi.dst v) w) : wpAnyH P md L.toArray Q S (fuel + 1) listed a w :=
  wpAnyH_take (by simpa using hi) hs hf hr hQ hy hS h
/-- 'AllReadyH.cons', likewise, for one operation -/
theorem readyL {P : Program} {L : List Oper} {Q : Exit → Act → World → Prop} {md : Region.Mode} {S : World → Prop} {i : Nat} {o : Oper} {fuel : Nat} {listed : Array Bool} {a : Act} {w : World} (ho : L[i]? = some o) (hr : Region.ready md L.toArray listed = [i])
    (hw : Region.wanted o (yielded L.toArray a.tmps) = true)
    (h : ∀ K' : Act → World → Prop, Shut (∀ a w, S w → wpAnyH P md L.toArray Q S fuel (listed.setIfInBounds i true) a w → K' a w) → Oper.wp P o a w K' Q) : wpAnyH P md L.toArray Q S (fuel + 1) listed a w :=
  wpAnyH_ready hr (by simp) (AllReadyH.cons (by simpa using ho) (fun K hK => by
    rw [if_pos hw]
    exact h K (fun a w hS hW => hK a w hS fun _ => hW)) AllReadyH.nil)
end Go.Proofs.Ytkhcgclnmdgpbaa

/-
  Of part RefAt: what is needed here.
-/
namespace Go.Proofs.Ytkhcgclnmdgpbaa
open Go.RowKit
set_option linter.unusedVariables false
set_option maxRecDepth 100000
/-- two that may come up -/
theorem readyL2 {P : Program} {L : List Oper} {Q : Exit → Act → World → Prop} {md : Region.Mode} {S : World → Prop} {i j : Nat} {o o' : Oper} {fuel : Nat} {listed : Array Bool} {a : Act} {w : World} (ho : L[i]? = some o) (ho' : L[j]? = some o') (hr : Region.ready md L.toArray listed = [i, j])
    (hw : Region.wanted o (yielded L.toArray a.tmps) = true) (hw' : Region.wanted o' (yielded L.toArray a.tmps) = true)
    (h : ∀ K' : Act → World → Prop, Shut (∀ a w, S w → wpAnyH P md L.toArray Q S fuel (listed.setIfInBounds i true) a w → K' a w) → Oper.wp P o a w K' Q)
    (h' : ∀ K' : Act → World → Prop, Shut (∀ a w, S w → wpAnyH P md L.toArray Q S fuel (listed.setIfInBounds j true) a w → K' a w) → Oper.wp P o' a w K' Q) : wpAnyH P md L.toArray Q S (fuel + 1) listed a w :=
  wpAnyH_ready hr (by simp) (AllReadyH.cons (by simpa using ho) (fun K hK => by
    rw [if_pos hw]
    exact h K (fun a w hS hW => hK a w hS fun _ => hW)) (AllReadyH.cons (by simpa using ho') (fun K hK => by
    rw [if_pos hw']
    exact h' K (fun a w hS hW => hK a w hS fun _ => hW)) AllReadyH.nil))
end Go.Proofs.Ytkhcgclnmdgpbaa

/-
  Of part BookK: what is needed here.
-/
namespace Go.Proofs.Ytkhcgclnmdgpbaa
open Go.RowKit
set_option linter.unusedVariables false
set_option maxRecDepth 100000
theorem wp_built {o : Oper} {a : Act} {w : World} {K : Act → World → Prop} {Q : Exit → Act → World → Prop} (t : TypeId) (parts : Array (Nat × Operand)) (cells : Array Value) (ho : o.op = .build t parts)
    (h : Try.prog.built t (parts.map fun (i, x) => (i, a.eval x)).toList = some cells) (hK : K (a.put o.dst (.agg cells)) w) : o.wp Try.prog a w K Q :=
  wp_build t parts ho (by rw [h]; rfl) (by rw [h]; exact hK)
end Go.Proofs.Ytkhcgclnmdgpbaa

/-
  Of part Tx: what is needed here.
-/
namespace Go.Proofs.Ytkhcgclnmdgpbaa
open Go.RowKit
set_option linter.unusedVariables false
set_option maxRecDepth 100000
/-- a transaction -/
structure LTx where
  sigs : List (List Int)
  m : LMsg
end Go.Proofs.Ytkhcgclnmdgpbaa

/-
  Of part TxMsg: what is needed here.
-/
namespace Go.Proofs.Ytkhcgclnmdgpbaa
open Go.RowKit
set_option linter.unusedVariables false
set_option maxRecDepth 100000
theorem wp_store_part {P : Program} {op : Oper} {a : Act} {w : World} {K : Act → World → Prop} {Q : Exit → Act → World → Prop} (ty : TypeId) (x y : Operand) (ho : op.op = .store ty x y)
    (g t o : Nat) (c cs : List Value) (hr : Row w g t c) (hi : (P.info? ty).map (·.size) = some cs.length) (hl : o + cs.length ≤ c.length) (h1 : ∀ u ∈ cs, u.oneCell' = true)
    (hx : a.eval x = .pointer (some ⟨g, o, none⟩)) (hy : a.eval y = .agg cs.toArray)
    (h : ∀ w', Row w' g t (c.take o ++ cs ++ c.drop (o + cs.length)) → Turned w w' g → K (a.put op.dst undef) w') : op.wp P a w K Q :=
  wp_store_mid ty x y ho g o cs.toArray hx hy (fun j hj => ⟨by
      have hj' : j < cs.length := by simpa using hj
      rw [hr.cell, List.getElem?_eq_getElem (by omega)]; rfl, hr.frozen _⟩) (by simpa using hi) (all_oneCell_toArray h1)
    (h _ (by simpa using row_setCells cs w o c hr hl) (turned_setCells cs w o))
end Go.Proofs.Ytkhcgclnmdgpbaa

/-
  Of part GetTx: what is needed here.
-/
namespace Go.Proofs.Ytkhcgclnmdgpbaa
open Go.RowKit
set_option linter.unusedVariables false
set_option maxRecDepth 100000
section
variable {P : Program}
theorem results_cell1 {fn : Func} {p0 p1 : Tmp} {t0 : TypeId} (h : fn.results = #[.cell p0 t0, .tmp p1]) (tmps : Array Value) (w : World) (a0 : Addr) (v0 v1 : Value)
    (h0 : tmps.getD p0 undef = .pointer (some a0)) (h1 : tmps.getD p1 undef = v1)
    (l0 : (loadVar t0 a0).run P w = .ok v0 w) :
    (results fn tmps).run P w = .ok (.tuple #[v0, v1]) w := by
  have h0' : tmps[p0]?.getD undef = .pointer (some a0) := by simpa using h0
  have h1' : tmps[p1]?.getD undef = v1 := by simpa using h1
  simp [results, h, h0', h1', asAddr, l0]
end
end Go.Proofs.Ytkhcgclnmdgpbaa

/-
  Of part Great: what is needed here.
-/
namespace Go.Proofs.Ytkhcgclnmdgpbaa
open Go.RowKit
set_option linter.unusedVariables false
set_option maxRecDepth 100000
def lookSize (l : List LLook) : Nat := (l.map fun i => i.wr.length + i.rd.length).sum
end Go.Proofs.Ytkhcgclnmdgpbaa

/-
  Of part Rules: what is needed here.
-/
namespace Go.Proofs.Ytkhcgclnmdgpbaa
open Go.RowKit
set_option linter.unusedVariables false
set_option maxRecDepth 100000
/-- a lookup's indices -/
def ixs (l : LLook) : Nat := l.wr.length + l.rd.length
/-- all keys -/
def tot (m : LMsg) : Nat := m.keys.length + lookSize m.looks
/-- an instruction that names a key that there is not -/
def astray (tt : Nat) (a : Int) : Bool := decide ((tt : Int) ≤ a)
def pstray (own : Nat) (p : Int) : Bool := decide (p = 0 ∨ (own : Int) ≤ p)
def stray (own tt : Nat) (i : LIn) : Bool := pstray own i.p || i.acc.any (astray tt)
def noix (l : LLook) : Bool := decide (ixs l = 0)
/-- the rules, broken -/
def b1 (x : LTx) : Bool := decide (x.m.s = 0 ∨ (x.sigs.length : Int) ≠ x.m.s)
def b2 (m : LMsg) : Bool := decide (m.s ≤ m.r ∨ (m.keys.length : Int) < m.s + m.o)
def b3 (m : LMsg) : Bool := m.looks.any noix
def b4 (m : LMsg) : Bool := decide (64 < tot m)
def b5 (m : LMsg) : Bool := m.ins.any (stray m.keys.length (tot m))
def b6 (m : LMsg) : Bool := decide (¬ m.keys.Nodup)
end Go.Proofs.Ytkhcgclnmdgpbaa

/-
  Of part Role: what is needed here.
-/
namespace Go.Proofs.Ytkhcgclnmdgpbaa
open Go.RowKit
set_option linter.unusedVariables false
set_option maxRecDepth 100000
/-- a role -/
structure LRole where
  key : List Int
  sg : Bool
  wr : Bool
theorem LRole.ext_iff' {a b : LRole} : a = b ↔ a.key = b.key ∧ a.sg = b.sg ∧ a.wr = b.wr := by
  obtain ⟨x, y, z⟩ := a
  obtain ⟨x', y', z'⟩ := b
  constructor
  · rintro h
    cases h
    exact ⟨rfl, rfl, rfl⟩
  · rintro ⟨h1, h2, h3⟩
    simp only at h1 h2 h3
    rw [h1, h2, h3]
instance : DecidableEq LRole := fun a b => decidable_of_iff (a.key = b.key ∧ a.sg = b.sg ∧ a.wr = b.wr) LRole.ext_iff'.symm
def LRole.cells (r : LRole) : List Value := bv r.key ++ [.bool r.sg, .bool r.wr]
/-- the zero role -/
def r0 : LRole := ⟨List.replicate 32 0, false, false⟩
end Go.Proofs.Ytkhcgclnmdgpbaa

/-
  Of part TwinMsg: what is needed here.
-/
namespace Go.Proofs.Ytkhcgclnmdgpbaa
open Go.RowKit
set_option linter.unusedVariables false
set_option maxRecDepth 100000
/-- a load of many cells yields them -/
theorem exec_load_at {P : Program} {a : Act} {o : Oper} (w : World) (ty : TypeId) (x : Operand) (ho : o.op = .load ty x) (p : Addr) (cs : List Value) (d : TypeDesc) (hu : P.underlying ty = some d) (hd : d.isRow = true) (hi : (P.info? ty).map (·.size) = some cs.length)
    (hc : ∀ j v, cs[j]? = some v → w.cell? (p.add j) = some v) (hx : a.eval x = .pointer (some p)) : (execOp a.eval o).run P w = .ok (.value (.agg cs.toArray)) w := by
  unfold execOp
  simp only [ho, hx, Sem.run_bind, Sem.run_pure, run_loadAt_at w p ty cs d hc hu hd hi, Result.andThen_ok]
end Go.Proofs.Ytkhcgclnmdgpbaa

/-
  Of part Example: what is needed here.
-/
namespace Go.Proofs.Ytkhcgclnmdgpbaa
open Go.RowKit
set_option linter.unusedVariables false
set_option maxRecDepth 100000
def xk (a : Int) : List Int := a :: List.replicate 31 0
end Go.Proofs.Ytkhcgclnmdgpbaa

/-
  Of part Rec12: what is needed here.
-/
namespace Go.Proofs.Ytkhcgclnmdgpbaa
open Go.RowKit
set_option linter.unusedVariables false
set_option maxRecDepth 100000
/-- a variable of many cells is made -/
theorem wp_alloc_zero {P : Program} {o : Oper} {a : Act} {w : World} {K : Act → World → Prop} {Q : Exit → Act → World → Prop} (t : TypeId) (ho : o.op = .alloc t) (z : List Value)
    (hi : (P.info? t).map (·.zero) = some (some (.agg z.toArray))) (h : K (a.put o.dst (.pointer (some ⟨w.heap.size, 0, none⟩))) (w.alloc (.cells z.toArray t))) : o.wp P a w K Q := by
  cases hq : P.info? t with
  | none => simp [hq] at hi
  | some i =>
    have hz : i.zero = some (.agg z.toArray) := by simpa [hq] using hi
    unfold Oper.wp execOp
    simp [ho, Instr.alloc, zeroValue, typeInfo, hq, hz, newVar, newRow, Value.cells]
    exact h
theorem wpList_alloc_zero {P : Program} {ops : Array Oper} {rest : List Oper} {o : Oper} {a : Act} {w : World} {Q : Exit → Act → World → Prop} (hg : o.guard = none) (t : TypeId) (ho : o.op = .alloc t) (z : List Value)
    (hi : (P.info? t).map (·.zero) = some (some (.agg z.toArray))) (h : wpList P ops Q rest (a.put o.dst (.pointer (some ⟨w.heap.size, 0, none⟩))) (w.alloc (.cells z.toArray t))) : wpList P ops Q (o :: rest) a w :=
  wpList_plain hg fun K hK => wp_alloc_zero t ho z hi (hK _ _ h)
/-- a value of many cells is put into a block of its own -/
theorem wpList_box_new {P : Program} {ops : Array Oper} {rest : List Oper} {o : Oper} {a : Act} {w : World} {Q : Exit → Act → World → Prop} (hg : o.guard = none) (t : TypeId) (x : Operand) (ho : o.op = .box t x) (z : List Value)
    (hx : a.eval x = .agg z.toArray) (h : wpList P ops Q rest (a.put o.dst (.pointer (some ⟨w.heap.size, 0, none⟩))) (w.alloc (.cells z.toArray t))) : wpList P ops Q (o :: rest) a w := by
  refine wpList_plain hg fun K hK => ?_
  unfold Oper.wp execOp
  simp [ho, Instr.box, newVar, newRow, Value.cells, hx]
  exact hK _ _ h
end Go.Proofs.Ytkhcgclnmdgpbaa

/-
  Of part Ones17: what is needed here.
-/
namespace Go.Proofs.Ytkhcgclnmdgpbaa
open Go.RowKit
set_option linter.unusedVariables false
set_option maxRecDepth 100000
theorem wrapn17 (a b y : Nat) (h : a + b = y) (hy : y < 18446744073709551616) : IntKind.u64.wrap ((a : Int) + (b : Int)) = (y : Int) := by
  rw [IntKind.wrap_u64]; omega
theorem pop_le17 : ∀ (n x : Nat), pop17 n x ≤ n
  | 0, _ => Nat.le_refl _
  | n + 1, x => by
    have := pop_le17 n (x / 2)
    show x % 2 + pop17 n (x / 2) ≤ n + 1
    omega
theorem and127_17 (z p : Nat) (h : z % 128 = p) : bits .and .i64 (z : Int) 127 = (p : Int) := by
  rw [i64_and127]; omega
theorem list8 {α : Type} {l : List α} (h : l.length = 8) : ∃ a b c d e f g i, l = [a, b, c, d, e, f, g, i] := by
  match l, h with
  | [a, b, c, d, e, f, g, i], _ => exact ⟨a, b, c, d, e, f, g, i, rfl⟩
/-- what the code comes by, as numbers -/
theorem ones_steps17 (x : Nat) (hx : x < 18446744073709551616) : ∃ a1 a2 y c1 c2 z s u v1 v2 v3 : Nat,
    bits .and .u64 ((x : Int) / 2) 6148914691236517205 = (a1 : Int) ∧ bits .and .u64 (x : Int) 6148914691236517205 = (a2 : Int) ∧ IntKind.u64.wrap ((a1 : Int) + (a2 : Int)) = (y : Int) ∧
    bits .and .u64 ((y : Int) / 4) 3689348814741910323 = (c1 : Int) ∧ bits .and .u64 (y : Int) 3689348814741910323 = (c2 : Int) ∧ IntKind.u64.wrap ((c1 : Int) + (c2 : Int)) = (z : Int) ∧
    IntKind.u64.wrap ((z : Int) / 16 + (z : Int)) = (s : Int) ∧ bits .and .u64 (s : Int) 1085102592571150095 = (u : Int) ∧
    IntKind.u64.wrap ((u : Int) + (u : Int) / 256) = (v1 : Int) ∧ IntKind.u64.wrap ((v1 : Int) + (v1 : Int) / 65536) = (v2 : Int) ∧ IntKind.u64.wrap ((v2 : Int) + (v2 : Int) / 4294967296) = (v3 : Int) ∧
    v3 < 9223372036854775808 ∧ bits .and .i64 (v3 : Int) 127 = ((pop17 64 x : Nat) : Int) := by
  obtain ⟨bs, hl, hb, hv, hp⟩ := bytes17 x hx
  have hm : ∀ c : Nat, val17 (bs.map fun _ => c) = val17 (List.replicate 8 c) := fun c => by rw [List.map_const', hl]
  obtain ⟨y, hy⟩ : ∃ y, y = (x / 2 &&& 6148914691236517205) + (x &&& 6148914691236517205) := ⟨_, rfl⟩
  obtain ⟨z, hz⟩ : ∃ z, z = (y / 4 &&& 3689348814741910323) + (y &&& 3689348814741910323) := ⟨_, rfl⟩
  obtain ⟨h1, h2, h3⟩ := steps17 bs hb y z (by rw [hm, hv]; exact hy) (by rw [hm]; exact hz)
  obtain ⟨b0, b1, b2, b3, b4, b5, b6, b7, rfl⟩ := list8 hl
  have hk : ∀ b ∈ [b0, b1, b2, b3, b4, b5, b6, b7], pop17 8 b ≤ 8 := fun b _ => pop_le17 8 b
  simp only [List.mem_cons, List.not_mem_nil, or_false, forall_eq_or_imp, forall_eq] at hk
  obtain ⟨s, hs⟩ : ∃ s, s = z / 16 + z := ⟨_, rfl⟩
  obtain ⟨u, hu⟩ : ∃ u, u = (s &&& 1085102592571150095) := ⟨_, rfl⟩
  have hu2 : u = val17 [pop17 8 b0, pop17 8 b1, pop17 8 b2, pop17 8 b3, pop17 8 b4, pop17 8 b5, pop17 8 b6, pop17 8 b7] := by rw [hu, hs]; rw [hm] at h3; exact h3
  obtain ⟨g1, g2, g3, g4⟩ := sum_bytes17 _ _ _ _ _ _ _ _ u (u + u / 256) (u + u / 256 + (u + u / 256) / 65536) hk hu2 rfl rfl
  have i1 : x / 2 &&& 6148914691236517205 ≤ 6148914691236517205 := Nat.and_le_right
  have i2 : x &&& 6148914691236517205 ≤ 6148914691236517205 := Nat.and_le_right
  have i3 : y / 4 &&& 3689348814741910323 ≤ 3689348814741910323 := Nat.and_le_right
  have i4 : y &&& 3689348814741910323 ≤ 3689348814741910323 := Nat.and_le_right
  have p64 : pop17 64 x = pop17 8 b0 + pop17 8 b1 + pop17 8 b2 + pop17 8 b3 + pop17 8 b4 + pop17 8 b5 + pop17 8 b6 + pop17 8 b7 := by
    rw [hp]; simp only [List.map_cons, List.map_nil, List.sum_cons, List.sum_nil]; omega
  rw [p64, ← g4]
  refine ⟨_, _, y, _, _, z, s, u, u + u / 256, u + u / 256 + (u + u / 256) / 65536, (u + u / 256 + (u + u / 256) / 65536) + (u + u / 256 + (u + u / 256) / 65536) / 4294967296, ?_, u64_and_nat x 6148914691236517205 hx (by omega), wrapn17 _ _ _ hy.symm (by omega), ?_, u64_and_nat y 3689348814741910323 (by omega) (by omega), wrapn17 _ _ _ hz.symm (by omega), ?_, ?_, ?_, ?_, ?_, ?_, and127_17 _ _ rfl⟩
  · rw [show (x : Int) / 2 = ((x / 2 : Nat) : Int) by omega]
    exact u64_and_nat (x / 2) 6148914691236517205 (by omega) (by omega)
  · rw [show (y : Int) / 4 = ((y / 4 : Nat) : Int) by omega]
    exact u64_and_nat (y / 4) 3689348814741910323 (by omega) (by omega)
  · rw [show (z : Int) / 16 = ((z / 16 : Nat) : Int) by omega]
    exact wrapn17 _ _ _ hs.symm (by omega)
  · rw [hu]
    exact u64_and_nat s 1085102592571150095 (by omega) (by omega)
  · rw [show (u : Int) / 256 = ((u / 256 : Nat) : Int) by omega]
    exact wrapn17 _ _ _ rfl (by omega)
  · rw [show ((u + u / 256 : Nat) : Int) / 65536 = (((u + u / 256) / 65536 : Nat) : Int) by omega]
    exact wrapn17 _ _ _ rfl (by omega)
  · rw [show ((u + u / 256 + (u + u / 256) / 65536 : Nat) : Int) / 4294967296 = (((u + u / 256 + (u + u / 256) / 65536) / 4294967296 : Nat) : Int) by omega]
    exact wrapn17 _ _ _ rfl (by omega)
  · omega
set_option maxHeartbeats 1000000 in
theorem ones17 (x : Nat) (w : World) (hx : x < 18446744073709551616) : Calls Try.prog 34 #[.int .u64 x] w fun e w' => e = .returned (.int .i64 ((pop17 64 x : Nat) : Int)) ∧ w = w' := by
  obtain ⟨a1, a2, y, c1, c2, z, s, u, v1, v2, v3, h1, h2, h3, h4, h5, h6, h7, h8, h9, h10, h11, h12, h13⟩ := ones_steps17 x hx
  have hw : IntKind.i64.wrap (v3 : Int) = (v3 : Int) := IntWalk.i64_in _ (by omega)
  generalize pop17 64 x = r at *
  go_enter Try.func34, Try.ntmps34
  go_wp2_with fail
  go_ret
  exact ⟨rfl, rfl⟩
end Go.Proofs.Ytkhcgclnmdgpbaa

/-
  Of part HoldWalk: what is needed here.
-/
namespace Go.Proofs.Ytkhcgclnmdgpbaa
open Go.RowKit Go.Maps
set_option linter.unusedVariables false
set_option maxRecDepth 100000
def i1 : DataW Unit := .lit (.int .i64 1)
end Go.Proofs.Ytkhcgclnmdgpbaa

/-
  Of part MoreWalk: what is needed here.
-/
namespace Go.Proofs.Ytkhcgclnmdgpbaa
open Go.RowKit
set_option linter.unusedVariables false
set_option maxRecDepth 100000
theorem Sees.far {w : World} {B n : Nat} {A : Option Addr} {xs : List Value} (h : Sees w B A n xs) {p : Addr} (hp : ∀ a, A = some a → a.block ≠ p.block) (u : Value) : Sees (w.setCell p u) B A n xs :=
  ⟨h.len, fun i v hv => by
    obtain ⟨a, ha, hb, hc⟩ := h.cell i v hv
    exact ⟨a, ha, hb, (World.cell?_setCell_other w p _ u (fun e => hp a ha (by rw [e, addr_block]))).trans hc⟩⟩
end Go.Proofs.Ytkhcgclnmdgpbaa

/-
  Of part Slab17: what is needed here.
-/
namespace Go.Proofs.Ytkhcgclnmdgpbaa
open Go.RowKit
set_option linter.unusedVariables false
set_option maxRecDepth 100000
/-- a slab's things, by their numbers -/
abbrev F17 := Nat → Option Int
def up17 (f : F17) (n : Nat) (v : Option Int) : F17 := fun k => if k = n then v else f k
/-- those of one shelf -/
def seg17 (f : F17) (i : Nat) : List (Option Int) := (List.range 64).map fun k => f (i * 64 + k)
section
variable {f : F17} {i k n : Nat} {v : Option Int}
theorem seg_len17 (f : F17) (i : Nat) : (seg17 f i).length = 64 := by simp [seg17]
theorem seg_get17 (hk : k < 64) : (seg17 f i)[k]? = some (f (i * 64 + k)) := by simp [seg17, hk]
theorem seg_up17 (f : F17) (n : Nat) (v : Option Int) : seg17 (up17 f n v) (n / 64) = (seg17 f (n / 64)).set (n % 64) v := by
  refine List.ext_getElem? fun k => ?_
  rw [List.getElem?_set, seg_len17]
  by_cases hk : k < 64
  · rw [seg_get17 hk, seg_get17 hk]
    by_cases h : n % 64 = k
    · rw [if_pos h, if_pos (by omega)]
      simp only [up17]
      rw [if_pos (by omega)]
    · rw [if_neg h]
      simp only [up17]
      rw [if_neg (by omega)]
  · rw [List.getElem?_eq_none (by rw [seg_len17]; omega), List.getElem?_eq_none (by rw [seg_len17]; omega)]
    split
    · rw [if_neg (by omega)]
    · rfl
theorem seg_ne17 (f : F17) (v : Option Int) (h : i ≠ n / 64) : seg17 (up17 f n v) i = seg17 f i := by
  unfold seg17
  refine List.map_congr_left fun k hk => ?_
  have := List.mem_range.1 hk
  simp only [up17]
  rw [if_neg (by omega)]
theorem wd_seg17 (f : F17) (i : Nat) : wd17 (seg17 f i) < 18446744073709551616 := by
  have := wd_lt17 (seg17 f i)
  rw [seg_len17] at this
  exact this
theorem bit_seg17 (hk : k < 64) : (wd17 (seg17 f i)).testBit k = (f (i * 64 + k)).isSome := by
  rw [wd_bit17, List.getD_eq_getElem?_getD, seg_get17 hk]
  rfl
end
def thV17 : Option Nat → Value
  | none => .slice none 0 0
  | some g => .slice (some ⟨g, 0, none⟩) 64 64
/-- the things of one shelf, in memory -/
structure Th17 (w : World) (P : Nat → Prop) (l : List (Option Int)) (t : Option Nat) : Prop where
  no : t = none → ∀ x ∈ l, x = none
  yes : ∀ g, t = some g → P g ∧ ∃ ys : List Value, Row w g 27 ys ∧ ys.length = 64 ∧ ∀ (k : Nat) (x : Int), l[k]? = some (some x) → ys[k]? = some (.int .u64 x)
/-- a slab in memory: what it may write lies in blocks of P -/
structure Slab17 (w : World) (P : Nat → Prop) (sb gb room : Nat) (f : F17) : Prop where
  rm : 1 ≤ room ∧ room ≤ 4096
  out : ∀ n, room ≤ n → f n = none
  top : Row w sb 50 [.int .i64 room, .slice (some ⟨gb, 0, none⟩) ((room + 63) / 64) ((room + 63) / 64)]
  own : P gb
  she : ∃ (xs : List Value) (th : Nat → Option Nat), Row w gb 67 xs ∧ xs.length = (room + 63) / 64 * 2 ∧
    (∀ i, i < (room + 63) / 64 → xs[i * 2]? = some (.int .u64 (wd17 (seg17 f i))) ∧ xs[i * 2 + 1]? = some (thV17 (th i)) ∧ Th17 w P (seg17 f i) (th i)) ∧
    ∀ i j t, i ≠ j → i < (room + 63) / 64 → j < (room + 63) / 64 → th i = some t → th j ≠ some t
/-- nothing but blocks of P is written -/
structure Only17 (P : Nat → Prop) (w w' : World) : Prop where
  os : w'.os = w.os
  tape : w'.tape = w.tape
  output : w'.output = w.output
  size : w.heap.size ≤ w'.heap.size
  block : ∀ k, k < w.heap.size → ¬ P k → w'.heap[k]? = w.heap[k]?
section
variable {w w' w'' : World} {P P' : Nat → Prop} {sb gb room : Nat} {f : F17}
theorem Only17.of {B : Nat} (h : Below B w w') (hB : w.heap.size ≤ B) : Only17 P w w' := ⟨h.os, h.tape, h.output, h.size, fun k hk _ => h.block k (by omega)⟩
theorem Only17.trans (h : Only17 P w w') (h2 : Only17 P w' w'') : Only17 P w w'' :=
  ⟨h2.os.trans h.os, h2.tape.trans h.tape, h2.output.trans h.output, Nat.le_trans h.size h2.size, fun k hk hp => (h2.block k (by have := h.size; omega) hp).trans (h.block k hk hp)⟩
theorem Only17.mono (h : Only17 P w w') (hp : ∀ k, P k → P' k) : Only17 P' w w' := ⟨h.os, h.tape, h.output, h.size, fun k hk hn => h.block k hk fun e => hn (hp k e)⟩
theorem Only17.below {B : Nat} (h : Only17 P w w') (hp : ∀ k, P k → B ≤ k) (hB : B ≤ w.heap.size) : Below B w w' :=
  ⟨h.os, h.tape, h.output, h.size, fun k hk => h.block k (by omega) fun e => by have := hp k e; omega⟩
theorem Th17.keep {l : List (Option Int)} {t : Option Nat} (h : Th17 w P l t) (hk : ∀ k, k < w.heap.size → P k → w'.heap[k]? = w.heap[k]?) : Th17 w' P l t :=
  ⟨h.no, fun g hg => by
    obtain ⟨h1, ys, h2, h3⟩ := h.yes g hg
    exact ⟨h1, ys, ⟨(hk g h2.lt h1).trans h2.is⟩, h3⟩⟩
theorem Slab17.keep (h : Slab17 w P sb gb room f) (hs : w'.heap[sb]? = w.heap[sb]?) (hk : ∀ k, k < w.heap.size → P k → w'.heap[k]? = w.heap[k]?) : Slab17 w' P sb gb room f := by
  obtain ⟨xs, th, h1, h2, h3, h4⟩ := h.she
  exact ⟨h.rm, h.out, ⟨hs.trans h.top.is⟩, h.own, xs, th, ⟨(hk gb h1.lt h.own).trans h1.is⟩, h2, fun i hi => ⟨(h3 i hi).1, (h3 i hi).2.1, (h3 i hi).2.2.keep hk⟩, h4⟩
theorem Slab17.below (h : Slab17 w P sb gb room f) (hb : Below w.heap.size w w') : Slab17 w' P sb gb room f :=
  h.keep (hb.block _ h.top.lt) fun k hk _ => hb.block k hk
theorem Slab17.mono (h : Slab17 w P sb gb room f) (hp : ∀ k, k < w.heap.size → P k → P' k) : Slab17 w P' sb gb room f := by
  obtain ⟨xs, th, h1, h2, h3, h4⟩ := h.she
  exact ⟨h.rm, h.out, h.top, hp _ h1.lt h.own, xs, th, h1, h2, fun i hi => ⟨(h3 i hi).1, (h3 i hi).2.1, (h3 i hi).2.2.no, fun g hg => by
    obtain ⟨k1, ys, k2, k3⟩ := (h3 i hi).2.2.yes g hg
    exact ⟨hp g k2.lt k1, ys, k2, k3⟩⟩, h4⟩
/-- a shelf's cells -/
theorem Slab17.shelf (h : Slab17 w P sb gb room f) {i : Nat} (hi : i < (room + 63) / 64) : ∃ t, w.cell? ⟨gb, i * 2, none⟩ = some (.int .u64 (wd17 (seg17 f i))) ∧ w.cell? ⟨gb, i * 2 + 1, none⟩ = some (thV17 t) ∧ w.frozen? ⟨gb, i * 2, none⟩ = false ∧ w.frozen? ⟨gb, i * 2 + 1, none⟩ = false ∧ Th17 w P (seg17 f i) t ∧ gb < w.heap.size := by
  obtain ⟨xs, th, h1, h2, h3, h4⟩ := h.she
  exact ⟨th i, (h1.cell _).trans (h3 i hi).1, (h1.cell _).trans (h3 i hi).2.1, h1.frozen _, h1.frozen _, (h3 i hi).2.2, h1.lt⟩
end
set_option maxHeartbeats 1000000 in
theorem has17 (q : Addr) (h k : Nat) (w : World) (hc : w.cell? q = some (.int .u64 h)) (hh : h < 18446744073709551616) (hk : k < 64) :
    Calls Try.prog 33 #[.pointer (some q), .int .i64 k] w fun e w' => e = .returned (.bool (h.testBit k)) ∧ w = w' := by
  have h0 : (0 : Int) ≤ k := by omega
  have h1 : (k : Int) ≤ 64 := by omega
  have hdk : (h : Int) / 2 ^ k = ((h / 2 ^ k : Nat) : Int) := by rw [two_pow17]; exact (Int.natCast_ediv h (2 ^ k)).symm
  have hdl := Nat.div_le_self h (2 ^ k)
  obtain ⟨r, hr⟩ : ∃ r, r = (h : Int) / 2 ^ k % 2 := ⟨_, rfl⟩
  have e1 : bits .and .u64 ((h : Int) / 2 ^ k) 1 = r := by
    rw [hr, hdk]
    clear hdk hr
    generalize h / 2 ^ k = d at *
    exact and_one_u64 _ (by omega) (by omega)
  have e2 : (r == 1) = h.testBit k := by
    rw [Bool.eq_iff_iff, ← has_bit17, ← hr, beq_iff_eq]
  clear hdk hdl
  clear hr
  generalize h.testBit k = b at *
  go_enter Try.func33, Try.ntmps33
  go_wp2_with fail
  go_ret
  exact ⟨rfl, rfl⟩
end Go.Proofs.Ytkhcgclnmdgpbaa

/-
  Of part Find17: what is needed here.
-/
namespace Go.Proofs.Ytkhcgclnmdgpbaa
open Go.RowKit
set_option linter.unusedVariables false
set_option maxRecDepth 100000
/-- what find answers -/
def fnd17 (gb i : Nat) : Bool → Value
  | true => .tuple #[.pointer (some ⟨gb, i * 2, none⟩), .int .i64 0]
  | false => .tuple #[.pointer none, .int .i64 11]
section
variable {w w' : World} {P : Nat → Prop} {sb gb room : Nat} {f : F17}
set_option maxHeartbeats 1000000 in
theorem there17 (h : Slab17 w P sb gb room f) : Calls Try.prog 27 #[.pointer (some ⟨sb, 0, none⟩)] w fun e w' => e = .returned (.bool true) ∧ w = w' := by
  have oc1 : w.cell? ⟨sb, 1, none⟩ = _ := h.top.cell 1
  generalize (room + 63) / 64 = m at oc1
  clear h
  go_enter Try.func27, Try.ntmps27
  go_wp2_with fail
  go_ret
  exact ⟨rfl, rfl⟩
set_option maxHeartbeats 1000000 in
theorem find_off17 (h : Slab17 w P sb gb room f) (n : Int) (hn : n < 0 ∨ (room : Int) ≤ n) : Calls Try.prog 30 #[.pointer (some ⟨sb, 0, none⟩), .int .i64 n] w fun e w' => e = .returned (.tuple #[.pointer none, .int .i64 11]) ∧ w = w' := by
  have HT := Lib.hid (there17 h)
  have oc0 : w.cell? ⟨sb, 0, none⟩ = _ := h.top.cell 0
  clear h
  go_enter Try.func30, Try.ntmps30
  go_wp2_with fail
  refine HT.out.mono ?_
  rintro e w1 ⟨rfl, rfl⟩
  by_cases h0 : n < 0
  · go_wp2_with fail
    go_ret2
    exact ⟨rfl, rfl⟩
  · have hr : (room : Int) ≤ n := by omega
    go_wp2_with fail
    go_ret2
    exact ⟨rfl, rfl⟩
set_option maxHeartbeats 400000 in
theorem find17 (h : Slab17 w P sb gb room f) (n : Nat) (z : Int) (hz : z = n) (hn : n < room) : Calls Try.prog 30 #[.pointer (some ⟨sb, 0, none⟩), .int .i64 z] w fun e w' => e = .returned (fnd17 gb (n / 64) (f n).isSome) ∧ w = w' := by
  have HT := Lib.hid (there17 h)
  have oc0 : w.cell? ⟨sb, 0, none⟩ = _ := h.top.cell 0
  have oc1 : w.cell? ⟨sb, 1, none⟩ = _ := h.top.cell 1
  have hrm := h.rm
  obtain ⟨i, hi⟩ : ∃ i, i = n / 64 := ⟨_, rfl⟩
  obtain ⟨j, hj⟩ : ∃ j, j = n % 64 := ⟨_, rfl⟩
  obtain ⟨m, hm⟩ : ∃ m, m = (room + 63) / 64 := ⟨_, rfl⟩
  have him : i < m := by omega
  have hjl : j < 64 := by omega
  obtain ⟨t, hs, _⟩ := h.shelf (i := i) (by omega)
  have HB : Hid ((wd17 (seg17 f i)).testBit j = (f n).isSome) := Lib.hid (by rw [bit_seg17 hjl, hi, hj]; congr 2; omega)
  have hq : z.tdiv 64 = (i : Int) := by rw [hi, Int.tdiv_eq_ediv_of_nonneg (by omega)]; omega
  have hq2 : z.tmod 64 = (j : Int) := by rw [hj, Int.tmod_eq_emod_of_nonneg (by omega)]; omega
  have hq3 : z / 64 = (i : Int) := by rw [hi]; omega
  have hq4 : z % 64 = (j : Int) := by rw [hj]; omega
  have HS := Lib.hid hs
  have HW := Lib.hid (wd_seg17 f i)
  have him' : (i : Int) < m := by omega
  have h0 : ¬ z < 0 := by omega
  have hnr : ¬ (room : Int) ≤ z := by omega
  rw [← hm] at oc1
  rw [← hi]
  have hi64 : i < 64 := by omega
  have d0 : decide (z < 0) = false := decide_eq_false h0
  have d1 : decide ((room : Int) ≤ z) = false := decide_eq_false hnr
  clear h hs hi hj hm hrm hz
  generalize (f n).isSome = b at *
  go_enter Try.func30, Try.ntmps30
  go_wp2_with fail
  refine HT.out.mono ?_
  rintro e w1 ⟨rfl, rfl⟩
  go_wp2_with fail
  refine (has17 _ _ j w HS.out HW.out hjl).mono ?_
  rintro e w1 ⟨rfl, rfl⟩
  rw [HB.out]
  cases b with
  | true =>
    go_wp2_with fail
    go_ret2
    exact ⟨rfl, rfl⟩
  | false =>
    go_wp2_with fail
    go_ret2
    exact ⟨rfl, rfl⟩
end
end Go.Proofs.Ytkhcgclnmdgpbaa

/-
  Of part New17: what is needed here.
-/
namespace Go.Proofs.Ytkhcgclnmdgpbaa
open Go.RowKit
set_option linter.unusedVariables false
set_option maxRecDepth 100000
def none17 : F17 := fun _ => none
theorem seg_none17 (i : Nat) : ∀ x ∈ seg17 none17 i, x = none := fun x hx => by
  unfold seg17 at hx
  obtain ⟨k, _, rfl⟩ := List.mem_map.1 hx
  rfl
theorem info_sh17 : (Try.prog.info? 67).map (fun i => (i.zero, i.size, i.bytes)) = some (some (.agg [.int .u64 0, .slice none 0 0].toArray), 2, 32) := by kernel_rfl
theorem made_sh17 (m : Nat) : (madeCells (Value.agg [.int .u64 0, .slice none 0 0].toArray).cells (m * 2)).toList.length = m * 2 ∧ ∀ i, i < m → (madeCells (Value.agg [.int .u64 0, .slice none 0 0].toArray).cells (m * 2)).toList[i * 2]? = some (.int .u64 0) ∧ (madeCells (Value.agg [.int .u64 0, .slice none 0 0].toArray).cells (m * 2)).toList[i * 2 + 1]? = some (.slice none 0 0) := by
  refine ⟨by simp [madeCells], fun i hi => ⟨?_, ?_⟩⟩
  · have h1 : i * 2 < m * 2 := by omega
    have h2 : i * 2 % 2 = 0 := by omega
    simp [madeCells, Value.cells, h1, h2]
  · have h1 : i * 2 + 1 < m * 2 := by omega
    have h2 : (i * 2 + 1) % 2 = 1 := by omega
    simp [madeCells, Value.cells, h1, h2]
theorem built_slab17 (z : Int) (g m : Nat) : Try.prog.built 50 [(0, .int .i64 z), (1, .slice (some ⟨g, 0, none⟩) m m)] = some [Value.int .i64 z, .slice (some ⟨g, 0, none⟩) m m].toArray := by kernel_rfl
theorem row_own17 {w : World} {base size n g : Nat} {e : TypeId} {xs : List Value} (h : w.ownsRow base e size (.slice (some ⟨g, 0, none⟩) n n) n xs) : Row w g e xs ∧ xs.length = n * size := by
  refine ⟨?_, h.1⟩
  rcases h.2 with ⟨hv, _⟩ | ⟨g', cap, cur, hv, _, hh, _, _, hs, ht⟩
  · cases hv
  · cases hv
    have : cur = xs.toArray := by
      rw [← ht, List.take_of_length_le (by simp; omega)]
    exact ⟨by rw [hh, this]⟩
section
variable {w w' : World} {P : Nat → Prop}
set_option maxHeartbeats 1000000 in
theorem new_bad17 (z : Int) (hz : z < 1 ∨ 4096 < z) : Calls Try.prog 7 #[.int .i64 z] w fun e w' => e = .returned (.tuple #[.pointer none, .int .i64 1]) ∧ w = w' := by
  by_cases h0 : z < 1
  · have d0 : decide (z < 1) = true := decide_eq_true h0
    go_enter Try.func7, Try.ntmps7
    go_wp2_with fail
    go_ret2
    exact ⟨rfl, rfl⟩
  · have h1 : 4096 < z := by omega
    have d0 : decide (z < 1) = false := decide_eq_false h0
    have d1 : decide (4096 < z) = true := decide_eq_true h1
    go_enter Try.func7, Try.ntmps7
    go_wp2_with fail
    go_ret2
    exact ⟨rfl, rfl⟩
set_option maxHeartbeats 2000000 in
theorem new17 (room : Nat) (z : Int) (hz : z = room) (hr : 1 ≤ room ∧ room ≤ 4096) (hP : ∀ k, w.heap.size ≤ k → P k) : Calls Try.prog 7 #[.int .i64 z] w fun e w' => ∃ sb gb, e = .returned (.tuple #[.pointer (some ⟨sb, 0, none⟩), .int .i64 0]) ∧ Slab17 w' P sb gb room none17 ∧ w.heap.size ≤ sb ∧ w.heap.size ≤ gb ∧ Below w.heap.size w w' := by
  obtain ⟨m, hm⟩ : ∃ m, m = (room + 63) / 64 := ⟨_, rfl⟩
  have d0 : decide (z < 1) = false := decide_eq_false (by omega)
  have d1 : decide (4096 < z) = false := decide_eq_false (by omega)
  have hz1 : 1 ≤ z := by omega
  have hz2 : z ≤ 4096 := by omega
  have hq1 : (z + 64 - 1).tdiv 64 = (m : Int) := by rw [Int.tdiv_eq_ediv_of_nonneg (by omega)]; omega
  have hq2 : (z + 63).tdiv 64 = (m : Int) := by rw [Int.tdiv_eq_ediv_of_nonneg (by omega)]; omega
  have hm64 : m ≤ 64 := by omega
  have HZ := Lib.hid hz
  have HM := Lib.hid hm
  have HP := Lib.hid hP
  clear hz hm hP
  go_enter Try.func7, Try.ntmps7
  go_wp2_with (first
    | (at_make; (obtain ⟨i0, hi, hz0, hz1, hz2⟩ := info_parts info_sh17); go_must (refine wpList_make_full _ rfl (.tmp 14) (.tmp 14) 48 rfl w.heap.size 67 i0 _ 2 Try.underlying48 hi hz0 hz1 .i64 .i64 _ _ m ?_ ?_ rfl rfl (by rw [hz2]; omega) (by unfold maxLen; omega) (Nat.le_refl _) ?_; go_simp; go_simp; intro w1 hown hgrow))
    | ((with_reducible show wpList _ _ _ ({ dst := some 16, op := Op.build _ _, type := _, pos := _, after := _, guard := _ } :: _) _ _); go_must (refine wpList_plain rfl fun K hK => wp_built _ _ _ rfl (by simp only [List.map_toArray, List.map_cons, List.map_nil]; exact (built_slab17 _ _ _)) (hK _ _ ?_)))
    | ((with_reducible show wpList _ _ _ ({ dst := some 17, op := Op.box _ _, type := _, pos := _, after := _, guard := _ } :: _) _ _); go_must (refine wpList_box_new rfl 50 (.tmp 16) rfl [.int .i64 z, .slice (some ⟨w.heap.size, 0, none⟩) m m] ?_ ?_; go_simp))
    | fail)
  go_ret2
  obtain ⟨h1, h2⟩ := made_sh17 m
  have hrow : Row w1 w.heap.size 67 _ ∧ _ := row_own17 hown
  have hb1 := (Below.refl w.heap.size w).grown hgrow (Nat.le_refl _) (fun k hk => by cases hk)
  have hb := hb1.alloc hb1.size (.cells [Value.int .i64 z, .slice (some ⟨w.heap.size, 0, none⟩) m m].toArray 50)
  refine ⟨w1.heap.size, w.heap.size, rfl, ⟨hr, fun _ _ => rfl, ?_, HP.out _ (Nat.le_refl _), _, fun _ => none, hrow.1.alloc _, by rw [h1, HM.out], fun i hi => ⟨?_, ?_, ⟨fun _ => seg_none17 i, fun g hg => by cases hg⟩⟩, fun i j t _ _ _ ht => by cases ht⟩, hb1.size, Nat.le_refl _, hb⟩
  · rw [← HM.out, ← HZ.out]
    exact Row.new w1 50 _
  · rw [wd_zero17.2 (seg_none17 i)]
    exact (h2 i (by rw [HM.out]; exact hi)).1
  · exact (h2 i (by rw [HM.out]; exact hi)).2
end
end Go.Proofs.Ytkhcgclnmdgpbaa

/-
  Of part Lives6: what is needed here.
-/
namespace Go.Proofs.Ytkhcgclnmdgpbaa
open Go.RowKit
set_option linter.unusedVariables false
set_option maxRecDepth 100000
def y1 : List LLook := [⟨xk 9, [2], [0, 1]⟩]
def y2 : List LLook := [⟨xk 9, [], [3]⟩]
end Go.Proofs.Ytkhcgclnmdgpbaa

/-
  Of part Known: what is needed here.
-/
namespace Go.Proofs.Ytkhcgclnmdgpbaa
open Go.RowKit
set_option linter.unusedVariables false
/-- the known programs' keys -/
def k0 : List Int := List.replicate 32 0
def k3 : List Int := 3 :: List.replicate 31 0
end Go.Proofs.Ytkhcgclnmdgpbaa

/-
  Of part Lives7: what is needed here.
-/
namespace Go.Proofs.Ytkhcgclnmdgpbaa
open Go.RowKit
set_option linter.unusedVariables false
set_option maxRecDepth 100000
def xq (a : Int) : List Int := a :: List.replicate 31 0
def e7 : List LRole := [⟨xq 1, true, true⟩, ⟨xq 2, true, false⟩, ⟨xq 4, false, true⟩, ⟨k0, false, false⟩]
end Go.Proofs.Ytkhcgclnmdgpbaa

/-
  Of part PlayMem12: what is needed here.
-/
namespace Go.Proofs.Ytkhcgclnmdgpbaa
open Go.RowKit
set_option linter.unusedVariables false
set_option maxRecDepth 100000
theorem row_ne12 {V : World} {g g' t t' : Nat} {xs ys : List Value} (h : Row V g t xs) (h' : Row V g' t' ys) (hne : t ≠ t') : g ≠ g' := by
  rintro rfl
  have := h.is.symm.trans h'.is
  injection this with this
  injection this with _ this
  exact hne this
end Go.Proofs.Ytkhcgclnmdgpbaa

/-
  Of part Put17: what is needed here.
-/
namespace Go.Proofs.Ytkhcgclnmdgpbaa
open Go.RowKit
set_option linter.unusedVariables false
set_option maxRecDepth 100000
def thS17 (th : Nat → Option Nat) (n : Nat) (v : Option Nat) : Nat → Option Nat := fun i => if i = n then v else th i
theorem ths_self17 (th : Nat → Option Nat) (n : Nat) (v : Option Nat) : thS17 th n v n = v := by unfold thS17; rw [if_pos rfl]
theorem ths_ne17 (th : Nat → Option Nat) {n i : Nat} (v : Option Nat) (h : ¬ i = n) : thS17 th n v i = th i := by unfold thS17; rw [if_neg h]
section
variable {w w' : World} {P : Nat → Prop} {sb gb room : Nat} {f : F17}
theorem slab_up17 {n i0 : Nat} {v : Option Int} {t' : Option Nat} {xs zs : List Value} {th : Nat → Option Nat} (h : Slab17 w P sb gb room f) (hn : n < room) (hi0 : i0 = n / 64) (h1 : Row w gb 67 xs) (h2 : xs.length = (room + 63) / 64 * 2)
    (h3 : ∀ i, i < (room + 63) / 64 → xs[i * 2]? = some (.int .u64 (wd17 (seg17 f i))) ∧ xs[i * 2 + 1]? = some (thV17 (th i)) ∧ Th17 w P (seg17 f i) (th i))
    (h4 : ∀ i j t, i ≠ j → i < (room + 63) / 64 → j < (room + 63) / 64 → th i = some t → th j ≠ some t)
    (hs : w'.heap[sb]? = w.heap[sb]?) (hg : Row w' gb 67 zs) (hzl : zs.length = xs.length) (hz1 : zs[i0 * 2]? = some (.int .u64 (wd17 (seg17 (up17 f n v) i0)))) (hz2 : zs[i0 * 2 + 1]? = some (thV17 t')) (hzk : ∀ k, k ≠ i0 * 2 → k ≠ i0 * 2 + 1 → zs[k]? = xs[k]?)
    (ht : Th17 w' P (seg17 (up17 f n v) i0) t') (hk : ∀ k, k < w.heap.size → k ≠ gb → th i0 ≠ some k → w'.heap[k]? = w.heap[k]?) (hne : ∀ t, t' = some t → t = w.heap.size ∨ th i0 = some t) : Slab17 w' P sb gb room (up17 f n v) := by
  subst hi0
  have hnm : n / 64 < (room + 63) / 64 := by omega
  have hlt : ∀ i t, i < (room + 63) / 64 → th i = some t → t < w.heap.size ∧ t ≠ gb := fun i t hi e => by
    obtain ⟨_, ys, hr, _⟩ := (h3 i hi).2.2.yes t e
    exact ⟨hr.lt, row_ne12 hr h1 (by decide)⟩
  refine ⟨h.rm, fun k hk2 => ?_, ⟨hs.trans h.top.is⟩, h.own, _, thS17 th (n / 64) t', hg, by rw [hzl]; exact h2, fun i hi => ?_, fun i j t hij hi hj e1 e2 => ?_⟩
  · simp only [up17]
    rw [if_neg (by omega)]
    exact h.out k hk2
  · by_cases hin : i = n / 64
    · subst hin
      rw [ths_self17]
      exact ⟨hz1, hz2, ht⟩
    · rw [ths_ne17 th t' hin, hzk _ (by omega) (by omega), hzk _ (by omega) (by omega), seg_ne17 f v hin]
      refine ⟨(h3 i hi).1, (h3 i hi).2.1, (h3 i hi).2.2.no, fun g hg2 => ?_⟩
      obtain ⟨k1, ys, k2, k3⟩ := (h3 i hi).2.2.yes g hg2
      exact ⟨k1, ys, ⟨(hk g k2.lt (hlt i g hi hg2).2 (h4 i (n / 64) g hin hi hnm hg2)).trans k2.is⟩, k3⟩
  · by_cases hin : i = n / 64
    · rw [hin, ths_self17] at e1
      rw [ths_ne17 th t' (by omega)] at e2
      rcases hne t e1 with h5 | h5
      · have := (hlt j t hj e2).1; omega
      · exact h4 j (n / 64) t (by omega) hj hnm e2 h5
    · rw [ths_ne17 th t' hin] at e1
      by_cases hjn : j = n / 64
      · rw [hjn, ths_self17] at e2
        rcases hne t e2 with h5 | h5
        · have := (hlt i t hi e1).1; omega
        · exact h4 i (n / 64) t hin hi hnm e1 h5
      · rw [ths_ne17 th t' hjn] at e2
        exact h4 i j t hij hi hj e1 e2
theorem th_up17 {n i j t : Nat} {x : Int} {ys : List Value} (hi : i = n / 64) (hj : j = n % 64) (hr : Row w' t 27 (ys.set j (.int .u64 x))) (hl : ys.length = 64) (hp : P t) (hy : ∀ (k : Nat) (y : Int), (seg17 f i)[k]? = some (some y) → ys[k]? = some (.int .u64 y)) :
    Th17 w' P (seg17 (up17 f n (some x)) i) (some t) := by
  refine ⟨fun e => (by cases e), fun g hg => ?_⟩
  cases hg
  refine ⟨hp, _, hr, by rw [List.length_set]; exact hl, fun k y hk => ?_⟩
  rw [hi, seg_up17, ← hj, ← hi, List.getElem?_set, seg_len17] at hk
  rw [List.getElem?_set]
  by_cases hjk : j = k
  · rw [if_pos hjk, if_pos (by omega)] at hk
    rw [if_pos hjk, if_pos (by omega)]
    rw [Option.some.inj (Option.some.inj hk)]
  · rw [if_neg hjk] at hk
    rw [if_neg hjk]
    exact hy k y hk
theorem only_cell17 {p : Addr} {u : Value} (hp : P p.block) : Only17 P w (w.setCell p u) :=
  ⟨rfl, rfl, rfl, by simp, fun k hk hn => Below.heap_setCell w p u k fun e => hn (by rw [e]; exact hp)⟩
theorem only_grown17 (h : w.grownBy w' none) : Only17 P w w' := ⟨h.os, h.tape, h.output, h.size, fun k hk _ => h.block k hk (fun e => by cases e)⟩
theorem info_u17 : (Try.prog.info? 27).map (fun i => (i.zero, i.size, i.bytes)) = some (some (.int .u64 0), 1, 8) := by kernel_rfl
theorem only_set17 {p : Addr} {u : Value} (hp : P p.block) : Only17 P w (w.setCell p u).drew :=
  ⟨rfl, rfl, rfl, by simp, fun k hk hn => Below.heap_setCell w p u k fun e => hn (by rw [e]; exact hp)⟩
set_option maxHeartbeats 400000 in
theorem shput17 (h : Slab17 w P sb gb room f) (n : Nat) (x : Int) (i j : Nat) (hi : i = n / 64) (hj : j = n % 64) (hn : n < room) (hP : ∀ k, w.heap.size ≤ k → P k) :
    Calls Try.prog 29 #[.pointer (some ⟨gb, i * 2, none⟩), .int .i64 j, .int .u64 x] w fun e w' => e = .returned (.tuple #[]) ∧ Slab17 w' P sb gb room (up17 f n (some x)) ∧ Only17 P w w' := by
  obtain ⟨xs, th, h1, h2, h3, h4⟩ := h.she
  obtain ⟨c1, c2, c3⟩ := h3 i (by omega)
  have hjl : j < 64 := by omega
  have h0 : (0 : Int) ≤ j := by omega
  have h64 : (j : Int) ≤ 64 := by omega
  have oc : w.cell? ⟨gb, i * 2, none⟩ = some (.int .u64 (wd17 (seg17 f i))) := (h1.cell _).trans c1
  have oc1 : w.cell? ⟨gb, i * 2 + 1, none⟩ = some (thV17 (th i)) := (h1.cell _).trans c2
  have fr := h1.frozen (i * 2)
  have HW : Hid (wd17 (seg17 (up17 f n (some x)) i) = wd17 (seg17 f i) ||| 2 ^ j) := Lib.hid (by rw [hi, hj, seg_up17, wd_set17 (by rw [seg_len17]; omega)])
  obtain ⟨wd, hwd⟩ : ∃ d, d = wd17 (seg17 f i) := ⟨_, rfl⟩
  have HWL := wd_seg17 f i
  rw [← hwd] at oc HW HWL
  have e2 := or_bit17 wd j HWL hjl
  rw [← HW.out] at e2
  have e3 : IntKind.u64.wrap (1 * 2 ^ j) = IntKind.u64.wrap (2 ^ j) := by rw [Int.one_mul]
  obtain ⟨pw, hpw⟩ : ∃ p, p = IntKind.u64.wrap (2 ^ j) := ⟨_, rfl⟩
  rw [e3, ← hpw] at e2
  rw [← hpw] at e3
  have e4 := hpw.symm
  have HHWD := Lib.hid hwd
  have H0 := Lib.hid h
  have H1 := Lib.hid h1
  have H2 := Lib.hid h2
  have H3 := Lib.hid h3
  have H4 := Lib.hid h4
  have HI := Lib.hid hi
  have HJ := Lib.hid hj
  have C3 := Lib.hid c3
  clear h h1 h2 h3 h4 c1 c2 c3 hpw hwd hi hj
  by_cases hz : wd = 0
  · have HZ := Lib.hid hz
    subst hz
    have e20 : bits .or .u64 0 pw = ((wd17 (seg17 (up17 f n (some x)) i) : Nat) : Int) := e2
    have oc0 : w.cell? ⟨gb, i * 2, none⟩ = some (.int .u64 0) := oc
    clear e2 oc
    have HNO : Hid (∀ (k : Nat) (y : Int), (seg17 f i)[k]? ≠ some (some y)) := Lib.hid fun k y hk => by
      have := wd_zero17.1 (HHWD.out.symm.trans rfl) _ (List.mem_of_getElem? hk)
      cases this
    obtain ⟨tn, htn⟩ : ∃ t, t = w.heap.size := ⟨_, rfl⟩
    have HTN : Hid (w.heap.size = tn) := Lib.hid htn.symm
    have HP := Lib.hid hP
    have HL1 : Hid (i * 2 + 1 < xs.length) := Lib.hid (by have := H2.out; have := HI.out; have := H0.out.rm; omega)
    clear oc1 hP
    go_enter Try.func29, Try.ntmps29
    go_upto_region 2 with (first
      | (at_make; (obtain ⟨i0, hii, hzz0, hzz1, hzz2⟩ := info_parts info_u17); go_must (refine wpList_make_full _ rfl (.const (.int .i64 64)) (.const (.int .i64 64)) 65 rfl w.heap.size 27 i0 _ 1 Try.underlying65 hii hzz0 hzz1 .i64 .i64 _ _ 64 rfl rfl rfl rfl (by rw [hzz2]; omega) (by unfold maxLen; omega) (Nat.le_refl _) ?_; intro w1 hown hgrow; have oc9 : w1.cell? ⟨gb, i * 2 + 1, none⟩ = _ := ((H1.out.grown hgrow (by simp)).cell (i * 2 + 1)).trans (List.getElem?_eq_getElem HL1.out); have fr9 := (H1.out.grown hgrow (by simp)).frozen (i * 2 + 1)))
      | fail)
    obtain ⟨hr9, hl9⟩ := row_own17 hown
    have hg1 := H1.out.grown hgrow (by simp)
    rw [← htn] at hr9 ⊢
    generalize hyz : (madeCells (Value.int .u64 0).cells (64 * 1)).toList = ys at *
    have YL : ys.length = 64 := hl9
    have RXS : Row (w1.setCell ⟨gb, i * 2 + 1, none⟩ (.slice (some ⟨tn, 0, none⟩) 64 64)) gb 67 (xs.set (i * 2 + 1) (.slice (some ⟨tn, 0, none⟩) 64 64)) := hg1.set_ _ _
    have RYS : Row (w1.setCell ⟨gb, i * 2 + 1, none⟩ (.slice (some ⟨tn, 0, none⟩) 64 64)) tn 27 ys := hr9.far (by show tn ≠ gb; exact row_ne12 hr9 hg1 (by decide)) _
    have HKW : Hid (∀ k, k < w.heap.size → k ≠ gb → (w1.setCell ⟨gb, i * 2 + 1, none⟩ (.slice (some ⟨tn, 0, none⟩) 64 64)).heap[k]? = w.heap[k]?) := Lib.hid fun k h5 h6 => (Below.heap_setCell w1 ⟨gb, i * 2 + 1, none⟩ _ k h6).trans (hgrow.block k h5 (fun e => by cases e))
    have HW1 : Hid (Only17 P w (w1.setCell ⟨gb, i * 2 + 1, none⟩ (.slice (some ⟨tn, 0, none⟩) 64 64))) := Lib.hid ((only_grown17 hgrow).trans (only_cell17 H0.out.own))
    clear hown hgrow hr9 hl9 hg1 hyz oc9 fr9 htn
    generalize w1.setCell ⟨gb, i * 2 + 1, none⟩ (.slice (some ⟨tn, 0, none⟩) 64 64) = wa at *
    have OCS : (xs.set (i * 2 + 1) (.slice (some ⟨tn, 0, none⟩) 64 64))[i * 2 + 1]? = some (.slice (some ⟨tn, 0, none⟩) 64 64) := List.getElem?_set_self HL1.out
    have oc' : wa.cell? ⟨gb, i * 2, none⟩ = some (.int .u64 0) := by
      rw [RXS.cell, List.getElem?_set_ne (by omega), ← H1.out.cell]
      exact oc0
    have fr' : wa.frozen? ⟨gb, i * 2, none⟩ = false := RXS.frozen _
    clear oc0 fr
    go_region
    clear oc'
    have RG : Hid (Row (wa.setCell ⟨gb, i * 2, none⟩ (.int .u64 ((wd17 (seg17 (up17 f n (some x)) i) : Nat) : Int))).drew gb 67 ((xs.set (i * 2 + 1) (.slice (some ⟨tn, 0, none⟩) 64 64)).set (i * 2) (.int .u64 ((wd17 (seg17 (up17 f n (some x)) i) : Nat) : Int)))) := Lib.hid (RXS.set_ _ _).drew
    have RT : Hid (Row (wa.setCell ⟨gb, i * 2, none⟩ (.int .u64 ((wd17 (seg17 (up17 f n (some x)) i) : Nat) : Int))).drew tn 27 ys) := Lib.hid (RYS.far (by show tn ≠ gb; exact row_ne12 RYS RXS (by decide)) _).drew
    have HK : Hid (∀ k, k ≠ gb → (wa.setCell ⟨gb, i * 2, none⟩ (.int .u64 ((wd17 (seg17 (up17 f n (some x)) i) : Nat) : Int))).drew.heap[k]? = wa.heap[k]?) := Lib.hid fun k hk => Below.heap_setCell wa ⟨gb, i * 2, none⟩ _ k hk
    have HO : Hid (Only17 P wa (wa.setCell ⟨gb, i * 2, none⟩ (.int .u64 ((wd17 (seg17 (up17 f n (some x)) i) : Nat) : Int))).drew) := Lib.hid (only_set17 H0.out.own)
    generalize (wa.setCell ⟨gb, i * 2, none⟩ (.int .u64 ((wd17 (seg17 (up17 f n (some x)) i) : Nat) : Int))).drew = w2 at *
    have oc2 : w2.cell? ⟨gb, i * 2 + 1, none⟩ = some (.slice (some ⟨tn, 0, none⟩) 64 64) := by rw [RG.out.cell, List.getElem?_set_ne (by omega)]; exact OCS
    have oc3 : w2.cell? ⟨tn, j, none⟩ = _ := (RT.out.cell j).trans (List.getElem?_eq_getElem (by rw [YL]; exact hjl))
    have fr3 := RT.out.frozen j
    have hj64 : (j : Int) < 64 := by omega
    go_wp2_with fail
    refine bodyPost_end (results_none rfl _ _ _) rfl ?_
    have hsb : sb ≠ gb := row_ne12 H0.out.top H1.out (by decide)
    have hsl := H0.out.top.lt
    refine ⟨rfl, slab_up17 H0.out hn HI.out H1.out H2.out H3.out H4.out ?_ (RG.out.far (by show gb ≠ tn; exact (row_ne12 RYS RXS (by decide)).symm) _) ?_ ?_ ?_ ?_ (th_up17 HI.out HJ.out (RT.out.set_ j _) YL (HP.out _ (by have := HTN.out; omega)) (fun k y hk => absurd hk (HNO.out k y))) ?_ ?_, HW1.out.trans (HO.out.trans (only_cell17 (HP.out _ (by show w.heap.size ≤ tn; have := HTN.out; omega))))⟩
    · exact (Below.heap_setCell w2 ⟨tn, j, none⟩ _ sb (by show sb ≠ tn; have := HTN.out; omega)).trans ((HK.out sb hsb).trans (HKW.out sb hsl hsb))
    · rw [List.length_set, List.length_set]
    · rw [List.getElem?_set_self (by rw [List.length_set]; have := H2.out; have := HI.out; have := H0.out.rm; omega)]
    · rw [List.getElem?_set_ne (by omega)]; exact OCS
    · intro k h5 h6; rw [List.getElem?_set_ne (by omega), List.getElem?_set_ne (by omega)]
    · intro k hk hkg hkt
      exact (Below.heap_setCell w2 ⟨tn, j, none⟩ _ k (by show k ≠ tn; have := HTN.out; omega)).trans ((HK.out k hkg).trans (HKW.out k hk hkg))
    · intro g hg; cases hg; exact .inl HTN.out.symm
  · have hz2 : ¬ (wd : Int) = 0 := by omega
    have hz' : ((wd : Int) == 0) = false := by rw [beq_eq_false_iff_ne]; omega
    obtain ⟨t, hti⟩ : ∃ t, th i = some t := by
      cases hti : th i with
      | some t => exact ⟨t, rfl⟩
      | none => exact absurd (HHWD.out.trans (wd_zero17.2 (C3.out.no hti))) hz
    rw [hti] at oc1
    obtain ⟨kp, ys, k2, k3, k4⟩ := C3.out.yes t hti
    have K4 := Lib.hid k4
    clear k4
    have OCS : xs[i * 2 + 1]? = some (.slice (some ⟨t, 0, none⟩) 64 64) := ((H1.out.cell _).symm.trans oc1)
    have RXS := H1.out
    have RYS := k2
    have YL := k3
    clear oc1
    go_enter Try.func29, Try.ntmps29
    go_upto_region 2 with fail

    go_region
    clear oc
    have RG : Hid (Row (w.setCell ⟨gb, i * 2, none⟩ (.int .u64 ((wd17 (seg17 (up17 f n (some x)) i) : Nat) : Int))).drew gb 67 (xs.set (i * 2) (.int .u64 ((wd17 (seg17 (up17 f n (some x)) i) : Nat) : Int)))) := Lib.hid (RXS.set_ _ _).drew
    have RT : Hid (Row (w.setCell ⟨gb, i * 2, none⟩ (.int .u64 ((wd17 (seg17 (up17 f n (some x)) i) : Nat) : Int))).drew t 27 ys) := Lib.hid (RYS.far (by show t ≠ gb; exact row_ne12 RYS RXS (by decide)) _).drew
    have HK : Hid (∀ k, k ≠ gb → (w.setCell ⟨gb, i * 2, none⟩ (.int .u64 ((wd17 (seg17 (up17 f n (some x)) i) : Nat) : Int))).drew.heap[k]? = w.heap[k]?) := Lib.hid fun k hk => Below.heap_setCell w ⟨gb, i * 2, none⟩ _ k hk
    have HO : Hid (Only17 P w (w.setCell ⟨gb, i * 2, none⟩ (.int .u64 ((wd17 (seg17 (up17 f n (some x)) i) : Nat) : Int))).drew) := Lib.hid (only_set17 H0.out.own)
    generalize (w.setCell ⟨gb, i * 2, none⟩ (.int .u64 ((wd17 (seg17 (up17 f n (some x)) i) : Nat) : Int))).drew = w2 at *
    have oc2 : w2.cell? ⟨gb, i * 2 + 1, none⟩ = some (.slice (some ⟨t, 0, none⟩) 64 64) := by rw [RG.out.cell, List.getElem?_set_ne (by omega)]; exact OCS
    have oc3 : w2.cell? ⟨t, j, none⟩ = _ := (RT.out.cell j).trans (List.getElem?_eq_getElem (by rw [YL]; exact hjl))
    have fr3 := RT.out.frozen j
    have hj64 : (j : Int) < 64 := by omega
    go_wp2_with fail
    refine bodyPost_end (results_none rfl _ _ _) rfl ?_
    have hsb : sb ≠ gb := row_ne12 H0.out.top H1.out (by decide)
    refine ⟨rfl, slab_up17 H0.out hn HI.out H1.out H2.out H3.out H4.out ?_ (RG.out.far (by show gb ≠ t; exact (row_ne12 RYS RXS (by decide)).symm) _) ?_ ?_ ?_ ?_ (th_up17 HI.out HJ.out (RT.out.set_ j _) YL kp K4.out) ?_ ?_, HO.out.trans (only_cell17 kp)⟩
    · exact (Below.heap_setCell w2 ⟨t, j, none⟩ _ sb (row_ne12 H0.out.top k2 (by decide))).trans ((HK.out sb hsb).trans rfl)
    · rw [List.length_set]
    · rw [List.getElem?_set_self (by have := H2.out; have := HI.out; have := H0.out.rm; omega)]
    · rw [List.getElem?_set_ne (by omega)]; exact OCS
    · intro k h5 h6; rw [List.getElem?_set_ne (by omega)]
    · intro k hk hkg hkt
      exact (Below.heap_setCell w2 ⟨t, j, none⟩ _ k (fun e => hkt (by rw [e]; exact hti))).trans ((HK.out k hkg).trans rfl)
    · intro g hg; cases hg; exact .inr hti
end
end Go.Proofs.Ytkhcgclnmdgpbaa

/-
  Of part Gone17: what is needed here.
-/
namespace Go.Proofs.Ytkhcgclnmdgpbaa
open Go.RowKit
set_option linter.unusedVariables false
set_option maxRecDepth 100000
section
variable {w w' : World} {P : Nat → Prop} {sb gb room : Nat} {f : F17}
theorem th_gone17 {n i j t : Nat} {z : Value} {ys : List Value} (hi : i = n / 64) (hj : j = n % 64) (hr : Row w' t 27 (ys.set j z)) (hl : ys.length = 64) (hp : P t) (hy : ∀ (k : Nat) (y : Int), (seg17 f i)[k]? = some (some y) → ys[k]? = some (.int .u64 y)) :
    Th17 w' P (seg17 (up17 f n none) i) (some t) := by
  refine ⟨fun e => (by cases e), fun g hg => ?_⟩
  cases hg
  refine ⟨hp, _, hr, by rw [List.length_set]; exact hl, fun k y hk => ?_⟩
  rw [hi, seg_up17, ← hj, ← hi, List.getElem?_set, seg_len17] at hk
  rw [List.getElem?_set]
  by_cases hjk : j = k
  · rw [if_pos hjk, if_pos (by omega)] at hk
    cases hk
  · rw [if_neg hjk] at hk
    rw [if_neg hjk]
    exact hy k y hk
set_option maxHeartbeats 500000 in
theorem gone17 (h : Slab17 w P sb gb room f) (n : Nat) (i j : Nat) (hi : i = n / 64) (hj : j = n % 64) (hn : n < room) (hf : (f n).isSome = true) :
    Calls Try.prog 32 #[.pointer (some ⟨gb, i * 2, none⟩), .int .i64 j] w fun e w' => e = .returned (.tuple #[]) ∧ Slab17 w' P sb gb room (up17 f n none) ∧ Only17 P w w' := by
  obtain ⟨xs, th, h1, h2, h3, h4⟩ := h.she
  obtain ⟨c1, c2, c3⟩ := h3 i (by omega)
  have hjl : j < 64 := by omega
  have h0 : (0 : Int) ≤ j := by omega
  have h64 : (j : Int) ≤ 64 := by omega
  have oc : w.cell? ⟨gb, i * 2, none⟩ = some (.int .u64 (wd17 (seg17 f i))) := (h1.cell _).trans c1
  have fr := h1.frozen (i * 2)
  have HW : Hid (wd17 (seg17 (up17 f n none) i) = wd17 (seg17 f i) &&& (18446744073709551615 - 2 ^ j)) := Lib.hid (by rw [hi, hj, seg_up17, wd_free17 (by rw [seg_len17]; omega) (seg_len17 _ _)])
  obtain ⟨t, hti⟩ : ∃ t, th i = some t := by
    cases hti : th i with
    | some t => exact ⟨t, rfl⟩
    | none =>
      have hij : i * 64 + j = n := by omega
      have hsg : (seg17 f i)[j]? = some (f n) := by rw [seg_get17 hjl, hij]
      have h5 := c3.no hti (f n) (List.mem_of_getElem? hsg)
      rw [h5] at hf
      cases hf
  obtain ⟨kp, ys, k2, k3, k4⟩ := c3.yes t hti
  have K4 := Lib.hid k4
  have OCS : xs[i * 2 + 1]? = some (.slice (some ⟨t, 0, none⟩) 64 64) := by rw [c2, hti]; rfl
  have HVO := Lib.hid OCS
  obtain ⟨wd, hwd⟩ : ∃ d, d = wd17 (seg17 f i) := ⟨_, rfl⟩
  have HWL := wd_seg17 f i
  rw [← hwd] at oc HW HWL
  have e2 := free_bit17 wd j HWL hjl
  rw [← HW.out] at e2
  obtain ⟨wn, hwn⟩ : ∃ d, d = wd17 (seg17 (up17 f n none) i) := ⟨_, rfl⟩
  have HWN := Lib.hid hwn
  have HWZ : Hid (wn = 0 → ∀ x ∈ seg17 (up17 f n none) i, x = none) := Lib.hid fun e => wd_zero17.1 (hwn.symm.trans e)
  rw [← hwn] at e2
  have e3 : IntKind.u64.wrap (1 * 2 ^ j) = IntKind.u64.wrap (2 ^ j) := by rw [Int.one_mul]
  obtain ⟨pw, hpw⟩ : ∃ p, p = IntKind.u64.wrap (2 ^ j) := ⟨_, rfl⟩
  rw [e3, ← hpw] at e2
  rw [← hpw] at e3
  have e4 := hpw.symm
  have H0 := Lib.hid h
  have H1 := Lib.hid h1
  have H2 := Lib.hid h2
  have H3 := Lib.hid h3
  have H4 := Lib.hid h4
  have HI := Lib.hid hi
  have HJ := Lib.hid hj
  have HTI := Lib.hid hti
  have K2 := Lib.hid k2
  have K3 := Lib.hid k3
  have KP := Lib.hid kp
  clear h h1 h2 h3 h4 c1 c2 c3 hpw hwd hi hj hwn hti k2 k3 k4 OCS hf kp
  go_enter Try.func32, Try.ntmps32
  go_upto_region 1 with fail
  go_region
  clear oc e2 e3 e4
  have RG : Hid (Row (w.setCell ⟨gb, i * 2, none⟩ (.int .u64 (wn : Int))).drew gb 67 (xs.set (i * 2) (.int .u64 (wn : Int)))) := Lib.hid (H1.out.set_ _ _).drew
  have RT : Hid (Row (w.setCell ⟨gb, i * 2, none⟩ (.int .u64 (wn : Int))).drew t 27 ys) := Lib.hid (K2.out.far (by show t ≠ gb; exact row_ne12 K2.out H1.out (by decide)) _).drew
  have HK : Hid (∀ k, k ≠ gb → (w.setCell ⟨gb, i * 2, none⟩ (.int .u64 (wn : Int))).drew.heap[k]? = w.heap[k]?) := Lib.hid fun k hk => Below.heap_setCell w ⟨gb, i * 2, none⟩ _ k hk
  have HO : Hid (Only17 P w (w.setCell ⟨gb, i * 2, none⟩ (.int .u64 (wn : Int))).drew) := Lib.hid (only_set17 H0.out.own)
  generalize (w.setCell ⟨gb, i * 2, none⟩ (.int .u64 (wn : Int))).drew = w2 at *
  have oc2 : w2.cell? ⟨gb, i * 2 + 1, none⟩ = some (.slice (some ⟨t, 0, none⟩) 64 64) := by rw [RG.out.cell, List.getElem?_set_ne (by omega)]; exact HVO.out
  have oc3 : w2.cell? ⟨t, j, none⟩ = _ := (RT.out.cell j).trans (List.getElem?_eq_getElem (by rw [K3.out]; exact hjl))
  have fr3 := RT.out.frozen j
  have hj64 : (j : Int) < 64 := by omega
  go_upto_region 3 with fail
  have HGT : Hid (gb ≠ t) := Lib.hid (row_ne12 H1.out K2.out (by decide))
  have RG3 : Hid (Row (w2.setCell ⟨t, j, none⟩ (.int .u64 0)) gb 67 (xs.set (i * 2) (.int .u64 (wn : Int)))) := Lib.hid (RG.out.far HGT.out _)
  have RT3 : Hid (Row (w2.setCell ⟨t, j, none⟩ (.int .u64 0)) t 27 (ys.set j (.int .u64 0))) := Lib.hid (RT.out.set_ _ _)
  have HK3 : Hid (∀ k, k ≠ gb → k ≠ t → (w2.setCell ⟨t, j, none⟩ (.int .u64 0)).heap[k]? = w.heap[k]?) := Lib.hid fun k h5 h6 => (Below.heap_setCell w2 ⟨t, j, none⟩ _ k h6).trans (HK.out k h5)
  have HO3 : Hid (Only17 P w (w2.setCell ⟨t, j, none⟩ (.int .u64 0))) := Lib.hid (HO.out.trans (only_cell17 KP.out))
  clear oc2 oc3 fr3
  generalize w2.setCell ⟨t, j, none⟩ (.int .u64 0) = w3 at *
  have HL1 : Hid (i * 2 + 1 < xs.length) := Lib.hid (by have := H2.out; have := HI.out; have := H0.out.rm; omega)
  have oc4 : w3.cell? ⟨gb, i * 2, none⟩ = some (.int .u64 (wn : Int)) := by rw [RG3.out.cell, List.getElem?_set_self (by have := HL1.out; omega)]
  have HSB : Hid (sb ≠ gb ∧ sb ≠ t) := Lib.hid ⟨row_ne12 H0.out.top H1.out (by decide), row_ne12 H0.out.top K2.out (by decide)⟩
  by_cases hz : wn = 0
  · have HZ := Lib.hid (HWZ.out hz)
    subst hz
    have oc4' : w3.cell? ⟨gb, i * 2, none⟩ = some (.int .u64 0) := oc4
    have oc5 : w3.cell? ⟨gb, i * 2 + 1, none⟩ = some (.slice (some ⟨t, 0, none⟩) 64 64) := by rw [RG3.out.cell, List.getElem?_set_ne (by omega)]; exact HVO.out
    have fr5 := RG3.out.frozen (i * 2 + 1)
    clear oc4
    go_wp2_with fail
    refine bodyPost_end (results_none rfl _ _ _) rfl ?_
    refine ⟨rfl, slab_up17 (t' := none) H0.out hn HI.out H1.out H2.out H3.out H4.out ?_ (RG3.out.set_ _ _) ?_ ?_ ?_ ?_ ⟨fun _ => HZ.out, fun g hg => (by cases hg)⟩ ?_ ?_, HO3.out.trans (only_cell17 H0.out.own)⟩
    · exact (Below.heap_setCell w3 ⟨gb, i * 2 + 1, none⟩ _ sb HSB.out.1).trans (HK3.out sb HSB.out.1 HSB.out.2)
    · rw [List.length_set, List.length_set]
    · rw [List.getElem?_set_ne (by omega), List.getElem?_set_self (by have := HL1.out; omega), ← HWN.out]
    · rw [List.getElem?_set_self (by rw [List.length_set]; exact HL1.out)]; rfl
    · intro k h5 h6; rw [List.getElem?_set_ne (by omega), List.getElem?_set_ne (by omega)]
    · intro k hk hkg hkt
      exact (Below.heap_setCell w3 ⟨gb, i * 2 + 1, none⟩ _ k hkg).trans (HK3.out k hkg (fun e => hkt (by rw [e]; exact HTI.out)))
    · intro g hg; cases hg
  · have hz' : ((wn : Int) == 0) = false := by rw [beq_eq_false_iff_ne]; omega
    have hz2 : ¬ (wn : Int) = 0 := by omega
    go_wp2_with fail
    refine bodyPost_end (results_none rfl _ _ _) rfl ?_
    refine ⟨rfl, slab_up17 H0.out hn HI.out H1.out H2.out H3.out H4.out (HK3.out sb HSB.out.1 HSB.out.2) RG3.out ?_ ?_ ?_ ?_ (th_gone17 HI.out HJ.out RT3.out K3.out KP.out K4.out) ?_ ?_, HO3.out⟩
    · rw [List.length_set]
    · rw [List.getElem?_set_self (by have := HL1.out; omega), ← HWN.out]
    · rw [List.getElem?_set_ne (by omega)]; exact HVO.out
    · intro k h5 h6; rw [List.getElem?_set_ne (by omega)]
    · intro k hk hkg hkt
      exact HK3.out k hkg (fun e => hkt (by rw [e]; exact HTI.out))
    · intro g hg; cases hg; exact .inr HTI.out
end
end Go.Proofs.Ytkhcgclnmdgpbaa

/-
  Of part Free17: what is needed here.
-/
namespace Go.Proofs.Ytkhcgclnmdgpbaa
open Go.RowKit
set_option linter.unusedVariables false
set_option maxRecDepth 100000
def Lst17 (f : F17) (n : Nat) : Prop := (∀ k, k < n → (f k).isSome = true) ∧ f n = none
def FreeDone17 (f : F17) (w : World) (e : Ending) (w' : World) : Prop := (∃ n : Nat, Lst17 f n ∧ e = .returned (.int .i64 n)) ∧ w = w'
section
variable {w w' : World} {P : Nat → Prop} {sb gb room : Nat} {f : F17}
theorem Slab17.has (h : Slab17 w P sb gb room f) {i j : Nat} (hi : i < (room + 63) / 64) (hj : j < 64) :
    Calls Try.prog 33 #[.pointer (some ⟨gb, i * 2, none⟩), .int .i64 j] w fun e w' => e = .returned (.bool (f (i * 64 + j)).isSome) ∧ w = w' := by
  obtain ⟨t, hs, _⟩ := h.shelf hi
  rw [← bit_seg17 hj]
  exact has17 _ _ j w hs (wd_seg17 f i) hj
set_option maxHeartbeats 2000000 in
theorem free17 (h : Slab17 w P sb gb room f) : Calls Try.prog 28 #[.pointer (some ⟨sb, 0, none⟩)] w (FreeDone17 f w) := by
  have oc1 : w.cell? ⟨sb, 1, none⟩ = _ := h.top.cell 1
  have hrm := h.rm
  obtain ⟨m, hm⟩ : ∃ m, m = (room + 63) / 64 := ⟨_, rfl⟩
  have HAS : Hid (∀ i j : Nat, i < m → j < 64 → Calls Try.prog 33 #[.pointer (some ⟨gb, i * 2, none⟩), .int .i64 j] w fun e w' => e = .returned (.bool (f (i * 64 + j)).isSome) ∧ w = w') := Lib.hid fun i j hi hj => h.has (by omega) hj
  have HO : Hid (f (m * 64) = none) := Lib.hid (h.out _ (by omega))
  have hm64 : m ≤ 64 := by omega
  rw [← hm] at oc1
  have HE : Hid (∀ (n : Nat) (z : Int), z = n → Lst17 f n → FreeDone17 f w (.returned (.int .i64 z)) w) := Lib.hid fun n z hz hn => ⟨⟨n, hn, by rw [hz]⟩, rfl⟩
  generalize FreeDone17 f w = D at *
  clear h hm hrm
  go_enter Try.func28, Try.ntmps28
  go_wp2_with fail
  go_step3
  go_wp2_with fail
  go_step3
  go_wp2_with fail
  go_loopw [3, 11] (fun n c wr => ∃ i : Nat, i ≤ m ∧ n = .int .i64 ((i * 64 : Nat) : Int) ∧ c = .int .i64 i ∧ Hid (∀ k, k < i * 64 → (f k).isSome = true) ∧ wr = w) (fun n c _ => m - (intOf c).toNat)
  case atStart => exact ⟨0, Nat.zero_le _, rfl, rfl, Lib.hid (fun k hk => absurd hk (by omega)), rfl⟩
  case round =>
    obtain ⟨i, hi, rfl, rfl, HI, hw⟩ := hrel
    have hw' := hw.symm
    subst hw'
    by_cases hlt : i < m
    · have hlt' : (i : Int) < m := by omega
      go_wp2_with fail
      go_loopw [3, 14] (fun n c wr => ∃ j : Nat, j ≤ 64 ∧ n = .int .i64 ((i * 64 + j : Nat) : Int) ∧ c = .int .i64 j ∧ Hid (∀ k, k < i * 64 + j → (f k).isSome = true) ∧ wr = w) (fun n c _ => 64 - (intOf c).toNat)
      case atStart => exact ⟨0, Nat.zero_le _, rfl, rfl, HI, rfl⟩
      case round =>
        obtain ⟨j, hj, rfl, rfl, HJ, hw⟩ := hrel
        have hw' := hw.symm
        subst hw'
        by_cases hj6 : j < 64
        · have hj6' : (j : Int) < 64 := by omega
          go_wp2_with fail
          refine (HAS.out i j hlt hj6).mono ?_
          rintro e w' ⟨rfl, rfl⟩
          obtain ⟨b, hb⟩ : ∃ b, b = (f (i * 64 + j)).isSome := ⟨_, rfl⟩
          have HBB := Lib.hid hb
          rw [← hb]
          clear hb
          cases b with
          | true =>
            go_wp2_with fail
            go_roundw
            case rel => exact ⟨j + 1, by omega, by go_num, by go_num, Lib.hid (fun k hk => by
              rcases Nat.lt_succ_iff_lt_or_eq.1 (show k < i * 64 + j + 1 by omega) with hk | rfl
              · exact HJ.out k hk
              · exact HBB.out.symm), trivial⟩
            case measure => simp [intOf]; omega
          | false =>
            have hx : Hid (Lst17 f (i * 64 + j)) := Lib.hid ⟨HJ.out, by cases hfn : f (i * 64 + j) with
              | none => rfl
              | some v => have := HBB.out; rw [hfn] at this; cases this⟩
            go_wp2_with fail
            exact HE.out (i * 64 + j) _ (by omega) hx.out
        · have hje : j = 64 := by omega
          have hj6' : ¬ (j : Int) < 64 := by omega
          subst hje
          go_wp2_with fail
          go_roundw
          case rel => exact ⟨i + 1, by omega, by go_num, by go_num, Lib.hid (fun k hk => HJ.out k (by omega)), trivial⟩
          case measure => simp [intOf]; omega
    · have hie : i = m := by omega
      have hlt' : ¬ (i : Int) < m := by omega
      subst hie
      have hx : Hid (Lst17 f (i * 64)) := Lib.hid ⟨HI.out, HO.out⟩
      go_wp2_with fail
      exact HE.out (i * 64) _ (by omega) hx.out
end
end Go.Proofs.Ytkhcgclnmdgpbaa

/-
  Of part Acts17: what is needed here.
-/
namespace Go.Proofs.Ytkhcgclnmdgpbaa
open Go.RowKit
set_option linter.unusedVariables false
set_option maxRecDepth 100000
/-- what has a number, whichever -/
def at17 (f : F17) (z : Int) : Option Int := if z < 0 then none else f z.toNat
def got17 : Option Int → Value
  | none => .tuple #[.int .u64 0, .int .i64 11]
  | some x => .tuple #[.int .u64 x, .int .i64 0]
section
variable {w w' : World} {P : Nat → Prop} {sb gb room : Nat} {f : F17}
theorem Slab17.in_ (h : Slab17 w P sb gb room f) {z x : Int} (hz : at17 f z = some x) : ∃ n : Nat, z = n ∧ n < room ∧ f n = some x := by
  unfold at17 at hz
  by_cases h0 : z < 0
  · rw [if_pos h0] at hz; cases hz
  · rw [if_neg h0] at hz
    refine ⟨z.toNat, by omega, ?_, hz⟩
    rcases Nat.lt_or_ge z.toNat room with h1 | h1
    · exact h1
    · rw [h.out _ h1] at hz; cases hz
theorem find_no17 (h : Slab17 w P sb gb room f) (z : Int) (hz : at17 f z = none) : Calls Try.prog 30 #[.pointer (some ⟨sb, 0, none⟩), .int .i64 z] w fun e w' => e = .returned (.tuple #[.pointer none, .int .i64 11]) ∧ w = w' := by
  by_cases h0 : z < 0 ∨ (room : Int) ≤ z
  · exact find_off17 h z h0
  · have h1 := find17 h z.toNat z (by omega) (by omega)
    unfold at17 at hz
    rw [if_neg (by omega)] at hz
    rw [hz] at h1
    exact h1
theorem find_yes17 (h : Slab17 w P sb gb room f) (n : Nat) (z x : Int) (hz : z = n) (hn : n < room) (hx : f n = some x) : Calls Try.prog 30 #[.pointer (some ⟨sb, 0, none⟩), .int .i64 z] w fun e w' => e = .returned (.tuple #[.pointer (some ⟨gb, n / 64 * 2, none⟩), .int .i64 0]) ∧ w = w' := by
  have h1 := find17 h n z hz hn
  rw [hx] at h1
  exact h1
theorem Slab17.thing (h : Slab17 w P sb gb room f) {n i j : Nat} {x : Int} (hi : i = n / 64) (hj : j = n % 64) (hn : n < room) (hx : f n = some x) : ∃ t, w.cell? ⟨gb, i * 2 + 1, none⟩ = some (.slice (some ⟨t, 0, none⟩) 64 64) ∧ w.cell? ⟨t, j, none⟩ = some (.int .u64 x) := by
  obtain ⟨t, _, h2, _, _, h3, _⟩ := h.shelf (i := i) (by omega)
  have hij : i * 64 + j = n := by omega
  have hsg : (seg17 f i)[j]? = some (some x) := by rw [seg_get17 (by omega), hij, hx]
  cases t with
  | none => have := h3.no rfl _ (List.mem_of_getElem? hsg); cases this
  | some g =>
    obtain ⟨_, ys, hr, _, hy⟩ := h3.yes g rfl
    exact ⟨g, h2, (hr.cell j).trans (hy j x hsg)⟩
theorem Lst17.le {n : Nat} (hl : Lst17 f n) (h : Slab17 w P sb gb room f) : n ≤ room := by
  rcases Nat.lt_or_ge room n with h1 | h1
  · have := hl.1 room h1
    rw [h.out room (Nat.le_refl _)] at this
    cases this
  · exact h1
def PutDone17 (P : Nat → Prop) (sb gb room : Nat) (f : F17) (x : Int) (w : World) (e : Ending) (w' : World) : Prop :=
  ∃ n, Lst17 f n ∧ ((n = room ∧ e = .returned (.tuple #[.int .i64 0, .int .i64 3]) ∧ w = w') ∨ (n < room ∧ e = .returned (.tuple #[.int .i64 n, .int .i64 0]) ∧ Slab17 w' P sb gb room (up17 f n (some x)) ∧ Only17 P w w'))
set_option maxHeartbeats 1000000 in
theorem put17 (h : Slab17 w P sb gb room f) (x : Int) (hP : ∀ k, w.heap.size ≤ k → P k) : Calls Try.prog 10 #[.pointer (some ⟨sb, 0, none⟩), .int .u64 x] w (PutDone17 P sb gb room f x w) := by
  have HT := Lib.hid (there17 h)
  have HF := Lib.hid (free17 h)
  have HH := Lib.hid h
  have oc0 : w.cell? ⟨sb, 0, none⟩ = _ := h.top.cell 0
  have HD : Hid (∀ n e w', Lst17 f n → ((n = room ∧ e = .returned (.tuple #[.int .i64 0, .int .i64 3]) ∧ w = w') ∨ (n < room ∧ e = .returned (.tuple #[.int .i64 n, .int .i64 0]) ∧ Slab17 w' P sb gb room (up17 f n (some x)) ∧ Only17 P w w')) → PutDone17 P sb gb room f x w e w') := Lib.hid fun n e w' h1 h2 => ⟨n, h1, h2⟩
  generalize PutDone17 P sb gb room f x w = D at *
  have HP := Lib.hid hP
  have hrm := h.rm
  clear h hP
  go_enter Try.func10, Try.ntmps10
  go_wp2_with fail
  refine HT.out.mono ?_
  rintro e w1 ⟨rfl, rfl⟩
  go_wp2_with fail
  refine HF.out.mono ?_
  rintro e w1 ⟨⟨n, hn, rfl⟩, rfl⟩
  have hnl := hn.le HH.out
  have HN := Lib.hid hn
  clear hn
  by_cases hnr : n = room
  · have HE := Lib.hid (HD.out n _ w HN.out (.inl ⟨hnr, rfl, rfl⟩))
    subst hnr
    go_wp2_with fail
    exact HE.out
  · have hnr' : ((n : Int) == (room : Int)) = false := by rw [beq_eq_false_iff_ne]; omega
    have hnr2 : ¬ (n : Int) = (room : Int) := by omega
    obtain ⟨i, hi⟩ : ∃ i, i = n / 64 := ⟨_, rfl⟩
    obtain ⟨j, hj⟩ : ∃ j, j = n % 64 := ⟨_, rfl⟩
    obtain ⟨m, hm⟩ : ∃ m, m = (room + 63) / 64 := ⟨_, rfl⟩
    have hi64 : i < 64 := by omega
    have him' : (i : Int) < m := by omega
    have hq : (n : Int).tdiv 64 = (i : Int) := by rw [hi, Int.tdiv_eq_ediv_of_nonneg (by omega)]; omega
    have hq2 : (n : Int).tmod 64 = (j : Int) := by rw [hj, Int.tmod_eq_emod_of_nonneg (by omega)]; omega
    have hq3 : (n : Int) / 64 = (i : Int) := by rw [hi]; omega
    have hq4 : (n : Int) % 64 = (j : Int) := by rw [hj]; omega
    have oc1 : w.cell? ⟨sb, 1, none⟩ = some (.slice (some ⟨gb, 0, none⟩) m m) := by rw [hm]; exact HH.out.top.cell 1
    have HC := Lib.hid (shput17 HH.out n x i j hi hj (by omega) HP.out)
    have HNR : Hid (n < room) := Lib.hid (by omega)
    clear hi hj hm hnr hnl
    go_wp2_with fail
    refine HC.out.mono ?_
    rintro e w1 ⟨rfl, hs, ho⟩
    have HE := Lib.hid (HD.out n _ w1 HN.out (.inr ⟨HNR.out, rfl, hs, ho⟩))
    clear hs ho
    go_wp2_with fail
    exact HE.out
set_option maxHeartbeats 1000000 in
theorem get17 (h : Slab17 w P sb gb room f) (z : Int) : Calls Try.prog 12 #[.pointer (some ⟨sb, 0, none⟩), .int .i64 z] w fun e w' => e = .returned (got17 (at17 f z)) ∧ w = w' := by
  cases hz : at17 f z with
  | none =>
    have HF := Lib.hid (find_no17 h z hz)
    clear h hz
    show Calls _ _ _ _ fun e w' => e = .returned (.tuple #[.int .u64 0, .int .i64 11]) ∧ w = w'
    go_enter Try.func12, Try.ntmps12
    go_wp2_with fail
    refine HF.out.mono ?_
    rintro e w1 ⟨rfl, rfl⟩
    go_wp2_with fail
    go_ret2
    exact ⟨rfl, rfl⟩
  | some x =>
    obtain ⟨n, hzn, hn, hf⟩ := h.in_ hz
    have HF := Lib.hid (find_yes17 h n z x hzn hn hf)
    obtain ⟨i, hi⟩ : ∃ i, i = n / 64 := ⟨_, rfl⟩
    obtain ⟨j, hj⟩ : ∃ j, j = n % 64 := ⟨_, rfl⟩
    obtain ⟨t, oc1, oc2⟩ := h.thing hi hj hn hf
    have hq2 : z.tmod 64 = (j : Int) := by rw [hj, Int.tmod_eq_emod_of_nonneg (by omega)]; omega
    have hq4 : z % 64 = (j : Int) := by rw [hj]; omega
    have hj64 : (j : Int) < 64 := by omega
    rw [← hi] at HF
    clear h hz hzn hn hf hi hj
    show Calls _ _ _ _ fun e w' => e = .returned (.tuple #[.int .u64 x, .int .i64 0]) ∧ w = w'
    go_enter Try.func12, Try.ntmps12
    go_wp2_with fail
    refine HF.out.mono ?_
    rintro e w1 ⟨rfl, rfl⟩
    go_wp2_with fail
    go_ret2
    exact ⟨rfl, rfl⟩
def SetDone17 (P : Nat → Prop) (sb gb room : Nat) (f : F17) (z : Int) (v : Option Int) (w : World) (e : Ending) (w' : World) : Prop :=
  (at17 f z = none ∧ e = .returned (.int .i64 11) ∧ w = w') ∨ ∃ (n : Nat) (x : Int), z = n ∧ n < room ∧ f n = some x ∧ e = .returned (.int .i64 0) ∧ Slab17 w' P sb gb room (up17 f n v) ∧ Only17 P w w'
set_option maxHeartbeats 1000000 in
theorem freed17 (h : Slab17 w P sb gb room f) (z : Int) : Calls Try.prog 16 #[.pointer (some ⟨sb, 0, none⟩), .int .i64 z] w (SetDone17 P sb gb room f z none w) := by
  cases hz : at17 f z with
  | none =>
    have HF := Lib.hid (find_no17 h z hz)
    have HE : Hid (SetDone17 P sb gb room f z none w (.returned (.int .i64 11)) w) := Lib.hid (.inl ⟨hz, rfl, rfl⟩)
    generalize SetDone17 P sb gb room f z none w = D at *
    clear h hz
    go_enter Try.func16, Try.ntmps16
    go_wp2_with fail
    refine HF.out.mono ?_
    rintro e w1 ⟨rfl, rfl⟩
    go_wp2_with fail
    exact HE.out
  | some x =>
    obtain ⟨n, hzn, hn, hf⟩ := h.in_ hz
    have HF := Lib.hid (find_yes17 h n z x hzn hn hf)
    obtain ⟨i, hi⟩ : ∃ i, i = n / 64 := ⟨_, rfl⟩
    obtain ⟨j, hj⟩ : ∃ j, j = n % 64 := ⟨_, rfl⟩
    have HC := Lib.hid (gone17 h n i j hi hj hn (by rw [hf]; rfl))
    have HE : Hid (∀ w', Slab17 w' P sb gb room (up17 f n none) → Only17 P w w' → SetDone17 P sb gb room f z none w (.returned (.int .i64 0)) w') := Lib.hid fun w' h1 h2 => .inr ⟨n, x, hzn, hn, hf, rfl, h1, h2⟩
    generalize SetDone17 P sb gb room f z none w = D at *
    have hq2 : z.tmod 64 = (j : Int) := by rw [hj, Int.tmod_eq_emod_of_nonneg (by omega)]; omega
    have hq4 : z % 64 = (j : Int) := by rw [hj]; omega
    have hj64 : (j : Int) < 64 := by omega
    rw [← hi] at HF
    clear h hz hzn hn hf hi hj
    go_enter Try.func16, Try.ntmps16
    go_wp2_with fail
    refine HF.out.mono ?_
    rintro e w1 ⟨rfl, rfl⟩
    go_wp2_with fail
    refine HC.out.mono ?_
    rintro e w1 ⟨rfl, hs, ho⟩
    have HX := Lib.hid (HE.out w1 hs ho)
    clear hs ho
    go_wp2_with fail
    exact HX.out
end
end Go.Proofs.Ytkhcgclnmdgpbaa
