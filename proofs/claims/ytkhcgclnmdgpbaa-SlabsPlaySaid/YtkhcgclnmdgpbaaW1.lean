/-
  Parts joined: Mem Bits17 Pop17 Row Append Put Msg Whole Many GetMsg IsIn RefAt BookK Tx Great OpenMsg Rules Role Example AppendN Rec12 Ones17 HoldWalk MoreWalk OtherMem Slab17 Find17 Free17 Len17 Nums17 New17 Resolve Lives6 Known Lives7 Bad8 PlayMem12.
-/
import Derived.Below
import Derived.Laws.OwnMore
import Derived.Deep.AppendLies
import Derived.Deep.Draws
import Derived.Lib.Hide
import Derived.Laws.BitsAllLaws
import Derived.WalkSmall
import Derived.Laws.MakeOwn
import Derived.Laws.CopyOwn
import Derived.Laws.Rows
import Derived.Maps.AppendAt
import Derived.OwnWalk
import Derived.WalkKit
import Derived.Test.YtkhcgclnmdgpbaaRows
import Derived.WalkSpells
import Derived.WalkLawsBesides
import Derived.IntWalk
import Derived.Deep.MidRow
import Derived.Deep.WholeRow
import Derived.Great.BuildSlice
import Derived.Recover
import Derived.Deep.RegionHeld
import Derived.Deep.QuietTactic
import Derived.BigQuiet
import Derived.Deep.RegionHeld2
import Derived.Deep.CutBlock
import Derived.Laws.Tables
import Derived.ChangeKeysEq
import Derived.ProofKit
import Derived.OpenShut
import Derived.ShutString
import Derived.ChangeOld
import Derived.Lib.SmallJoins
import Derived.Deep.Slices
import Derived.Deep.Strs
import Derived.SizedLaws
import Derived.Laws.StructEq
import Derived.Laws.Slices
import Derived.Deep.DeepCutAuto
import Derived.Laws.EntriesVeiled
import Derived.Deep.RegionHeld3
import Derived.Maps.OwnSet
import Derived.DeepKeys4
import Derived.WideKeyArr
import Derived.WideKeyEntry
import Derived.Shelf.SlMaps.Clone
import Derived.Laws.Append
import Derived.Laws.AppendOwn
import Derived.LaidMore
import Derived.WalkMore
/-
  Of part Mem: what is needed here.
-/
namespace Go.Proofs.Ytkhcgclnmdgpbaa
open Go.RowKit
/-- bytes (or numbers of another kind) as cells -/
def cv (k : IntKind) (zs : List Int) : List Value := zs.map (Value.int k)
def bv (zs : List Int) : List Value := cv .u8 zs
theorem cv_length (k : IntKind) (zs : List Int) : (cv k zs).length = zs.length := by simp [cv]
theorem addr_block (a : Addr) (n : Nat) : (a.add n).block = a.block := by unfold Addr.add; split <;> rfl
theorem addr_add (a : Addr) (i j : Nat) : (a.add i).add j = a.add (i + j) := by
  unfold Addr.add
  rcases Nat.eq_zero_or_pos i with hi | hi <;> rcases Nat.eq_zero_or_pos j with hj | hj
  · simp [hi, hj]
  · simp [hi, show j ≠ 0 by omega]
  · simp [hj, show i ≠ 0 by omega]
  · simp [show i ≠ 0 by omega, show j ≠ 0 by omega, Nat.add_assoc]
theorem addr_row (g i j : Nat) : (⟨g, i, none⟩ : Addr).add j = ⟨g, i + j, none⟩ := by unfold Addr.add; split <;> simp_all
/-- The slice value '.slice A n c' reads as the cells xs; each cell lies below block B. -/
structure Sees (w : World) (B : Nat) (A : Option Addr) (n : Nat) (xs : List Value) : Prop where
  len : xs.length = n
  cell : ∀ i u, xs[i]? = some u → ∃ a, A = some a ∧ a.block < B ∧ w.cell? (a.add i) = some u
section
variable {w w' : World} {B B' n : Nat} {A : Option Addr} {xs : List Value}
theorem Sees.nil (w : World) (B : Nat) (A : Option Addr) : Sees w B A 0 [] := ⟨rfl, fun i u h => by simp at h⟩
theorem Sees.keep (h : Sees w B A n xs) (hk : ∀ p : Addr, p.block < B → w'.cell? p = w.cell? p) : Sees w' B A n xs :=
  ⟨h.len, fun i u hu => by
    obtain ⟨a, e, hb, hc⟩ := h.cell i u hu
    exact ⟨a, e, hb, (hk _ (by rw [addr_block]; exact hb)).trans hc⟩⟩
theorem Sees.below (h : Sees w B A n xs) (hb : Below B w w') : Sees w' B A n xs := h.keep fun _ hp => hb.cell hp
theorem Sees.drew (h : Sees w B A n xs) : Sees w.drew B A n xs := ⟨h.len, h.cell⟩
theorem Sees.alloc (h : Sees w B A n xs) (hB : B ≤ w.heap.size) (o : Obj) : Sees (w.alloc o) B A n xs := h.keep fun p hp => World.cell?_alloc_lt w o p (by omega)
theorem Sees.setCell (h : Sees w B A n xs) {p : Addr} (hB : B ≤ p.block) (u : Value) : Sees (w.setCell p u) B A n xs :=
  h.keep fun q hq => World.cell?_setCell_other w p q u (fun e => by subst e; omega)
theorem Sees.at_ {k : Nat} (h : Sees w B A n xs) (hk : k < n) : ∃ a u, A = some a ∧ a.block < B ∧ xs[k]? = some u ∧ w.cell? (a.add k) = some u := by
  have hl : k < xs.length := by have := h.len; omega
  obtain ⟨a, e, hb, hc⟩ := h.cell k _ (List.getElem?_eq_getElem hl)
  exact ⟨a, _, e, hb, List.getElem?_eq_getElem hl, hc⟩
theorem Sees.of_own {base : Nat} {e : TypeId} {c : Nat} (h : w.ownsRow base e 1 (.slice A n c) n xs) : Sees w w.heap.size A n xs := by
  refine ⟨by have := h.1; omega, fun i u hu => ?_⟩
  have hl : i < xs.length := (List.getElem?_eq_some_iff.1 hu).1
  rcases h.2 with ⟨_, rfl⟩ | ⟨g, cap, cur, hv, hg, hh, hnc, _, hsz, htk⟩
  · have := h.1; omega
  · have hA : A = some ⟨g, 0, none⟩ := by injection hv
    subst hA
    exact ⟨_, rfl, (Array.getElem?_eq_some_iff.1 hh).1, h.cells (g := g) rfl i u hu⟩
end
end Go.Proofs.Ytkhcgclnmdgpbaa

/-
  Of part Bits17: what is needed here.
-/
namespace Go.Proofs.Ytkhcgclnmdgpbaa
/-- the bits of a word: one for each thing -/
def wd17 {α : Type} : List (Option α) → Nat
  | [] => 0
  | x :: r => (if x.isSome then 1 else 0) + 2 * wd17 r
theorem wd_cons17 {α : Type} (x : Option α) (r : List (Option α)) : wd17 (x :: r) = (if x.isSome then 1 else 0) + 2 * wd17 r := rfl
/-- how many of the lowest n bits are set -/
def pop17 : Nat → Nat → Nat
  | 0, _ => 0
  | n + 1, x => x % 2 + pop17 n (x / 2)
section
variable {α : Type}
theorem wd_lt17 : ∀ (l : List (Option α)), wd17 l < 2 ^ l.length
  | [] => by simp [wd17]
  | x :: r => by
    have := wd_lt17 r
    rw [List.length_cons, Nat.pow_succ, wd_cons17]
    split <;> omega
theorem wd_bit17 : ∀ (l : List (Option α)) (k : Nat), (wd17 l).testBit k = (l.getD k none).isSome
  | [], k => by simp [wd17]
  | x :: r, 0 => by
    rw [Nat.testBit_zero, wd_cons17]
    cases x <;> simp <;> omega
  | x :: r, k + 1 => by
    rw [Nat.testBit_succ, show wd17 (x :: r) / 2 = wd17 r from by rw [wd_cons17]; split <;> omega, wd_bit17 r k]
    rfl
theorem wd_pop17 : ∀ (l : List (Option α)), pop17 l.length (wd17 l) = l.countP Option.isSome
  | [] => rfl
  | x :: r => by
    have h2 : wd17 (x :: r) / 2 = wd17 r := by rw [wd_cons17]; split <;> omega
    have h1 : wd17 (x :: r) % 2 = if x.isSome then 1 else 0 := by rw [wd_cons17]; split <;> omega
    rw [List.length_cons]
    show wd17 (x :: r) % 2 + pop17 r.length (wd17 (x :: r) / 2) = _
    rw [h1, h2, wd_pop17 r, List.countP_cons]
    split <;> omega
theorem wd_zero17 {l : List (Option α)} : wd17 l = 0 ↔ ∀ x ∈ l, x = none := by
  induction l with
  | nil => simp [wd17]
  | cons x r ih =>
    have e : wd17 (x :: r) = (if x.isSome then 1 else 0) + 2 * wd17 r := rfl
    rw [e]
    cases x with
    | none =>
      simp only [Option.isSome_none, Bool.false_eq_true, if_false, Nat.zero_add, List.mem_cons, forall_eq_or_imp, true_and]
      rw [← ih]
      omega
    | some v => simp
theorem wd_set17 {l : List (Option α)} {k : Nat} (hk : k < l.length) (x : α) : wd17 (l.set k (some x)) = wd17 l ||| 2 ^ k := by
  apply Nat.eq_of_testBit_eq
  intro i
  rw [wd_bit17, Nat.testBit_or, wd_bit17, Nat.testBit_two_pow, List.getD_eq_getElem?_getD, List.getD_eq_getElem?_getD, List.getElem?_set]
  by_cases h : k = i
  · subst h
    simp [hk]
  · simp [h]
theorem wd_free17 {l : List (Option α)} {k : Nat} (hk : k < l.length) (h64 : l.length = 64) : wd17 (l.set k none) = wd17 l &&& (18446744073709551615 - 2 ^ k) := by
  apply Nat.eq_of_testBit_eq
  intro i
  have hp : (2 : Nat) ^ k < 2 ^ 64 := Nat.pow_lt_pow_right (by omega) (by omega)
  rw [wd_bit17, Nat.testBit_and, wd_bit17, show 18446744073709551615 - 2 ^ k = 2 ^ 64 - (2 ^ k + 1) by omega, Nat.testBit_two_pow_sub_succ hp, Nat.testBit_two_pow, List.getD_eq_getElem?_getD, List.getD_eq_getElem?_getD, List.getElem?_set]
  by_cases h : k = i
  · subst h
    simp [hk]
  · by_cases hi : i < 64
    · simp [h, hi]
    · have : l[i]? = none := List.getElem?_eq_none (by omega)
      simp [h, this]
end
/-- what the code asks of a bit -/
theorem has_bit17 (x k : Nat) : ((x : Int) / 2 ^ k % 2 = 1) ↔ x.testBit k = true := by
  rw [Nat.testBit_eq_decide_div_mod_eq, decide_eq_true_eq]
  constructor
  · intro h
    exact_mod_cast h
  · intro h
    exact_mod_cast h
theorem two_pow17 (k : Nat) : (2 : Int) ^ k = ((2 ^ k : Nat) : Int) := (Int.natCast_pow 2 k).symm
theorem shl_one17 {k : Nat} (hk : k < 64) : IntKind.u64.wrap (1 * 2 ^ k) = ((2 ^ k : Nat) : Int) := by
  have hp : (2 : Nat) ^ k < 2 ^ 64 := Nat.pow_lt_pow_right (by omega) (by omega)
  rw [IntKind.wrap_u64, Int.one_mul, two_pow17]
  generalize 2 ^ k = m at *
  omega
theorem or_bit17 (x k : Nat) (hx : x < 18446744073709551616) (hk : k < 64) : bits .or .u64 (x : Int) (IntKind.u64.wrap (1 * 2 ^ k)) = ((x ||| 2 ^ k : Nat) : Int) := by
  have hp : (2 : Nat) ^ k < 2 ^ 64 := Nat.pow_lt_pow_right (by omega) (by omega)
  have hw := shl_one17 hk
  rw [hw]
  exact u64_or_nat _ _ hx (by omega)
theorem free_bit17 (x k : Nat) (hx : x < 18446744073709551616) (hk : k < 64) : bits .andNot .u64 (x : Int) (IntKind.u64.wrap (1 * 2 ^ k)) = ((x &&& (18446744073709551615 - 2 ^ k) : Nat) : Int) := by
  have hp : (2 : Nat) ^ k < 2 ^ 64 := Nat.pow_lt_pow_right (by omega) (by omega)
  have hw := shl_one17 hk
  rw [hw]
  exact u64_andNot_nat _ _ hx (by omega)
end Go.Proofs.Ytkhcgclnmdgpbaa

/-
  Of part Pop17: what is needed here.
-/
namespace Go.Proofs.Ytkhcgclnmdgpbaa
def val17 : List Nat → Nat
  | [] => 0
  | b :: r => b + 256 * val17 r
theorem val_cons17 (b : Nat) (r : List Nat) : val17 (b :: r) = b + 256 * val17 r := rfl
theorem and_byte17 {a c y m : Nat} (ha : a < 256) (hc : c < 256) : (a + 256 * y) &&& (c + 256 * m) = (a &&& c) + 256 * (y &&& m) := by
  have h1 : ((a + 256 * y) &&& (c + 256 * m)) % 2 ^ 8 = (a &&& c) := by
    rw [Nat.and_mod_two_pow]
    congr 1 <;> omega
  have h2 : ((a + 256 * y) &&& (c + 256 * m)) / 2 ^ 8 = (y &&& m) := by
    rw [Nat.and_div_two_pow]
    congr 1 <;> omega
  omega
theorem and_val17 {c : Nat} (hc : c < 256) : ∀ {bs : List Nat}, (∀ b ∈ bs, b < 256) → val17 bs &&& val17 (bs.map fun _ => c) = val17 (bs.map fun b => b &&& c)
  | [], _ => by simp [val17]
  | b :: r, h => by
    rw [List.map_cons, List.map_cons, val_cons17, val_cons17, val_cons17, and_byte17 (h b List.mem_cons_self) hc, and_val17 hc fun x hx => h x (List.mem_cons_of_mem _ hx)]
theorem half_bit17 : ∀ (b : Fin 256) (e : Fin 2), (b.val / 2 + 128 * e.val) &&& 85 = b.val / 2 &&& 85 := by decide +kernel
theorem quarter_bit17 : ∀ (b : Fin 256) (e : Fin 4), (b.val / 4 + 64 * e.val) &&& 51 = b.val / 4 &&& 51 := by decide +kernel
theorem half_val17 : ∀ {bs : List Nat}, (∀ b ∈ bs, b < 256) → val17 bs / 2 &&& val17 (bs.map fun _ => 85) = val17 (bs.map fun b => b / 2 &&& 85)
  | [], _ => by simp [val17]
  | b :: r, h => by
    have hb := h b List.mem_cons_self
    rw [List.map_cons, List.map_cons, val_cons17, val_cons17, val_cons17, show (b + 256 * val17 r) / 2 = (b / 2 + 128 * (val17 r % 2)) + 256 * (val17 r / 2) by omega, and_byte17 (by omega) (by omega),
      half_val17 fun x hx => h x (List.mem_cons_of_mem _ hx)]
    congr 1
    exact half_bit17 ⟨b, hb⟩ ⟨val17 r % 2, by omega⟩
theorem quarter_val17 : ∀ {bs : List Nat}, (∀ b ∈ bs, b < 256) → val17 bs / 4 &&& val17 (bs.map fun _ => 51) = val17 (bs.map fun b => b / 4 &&& 51)
  | [], _ => by simp [val17]
  | b :: r, h => by
    have hb := h b List.mem_cons_self
    rw [List.map_cons, List.map_cons, val_cons17, val_cons17, val_cons17, show (b + 256 * val17 r) / 4 = (b / 4 + 64 * (val17 r % 4)) + 256 * (val17 r / 4) by omega, and_byte17 (by omega) (by omega),
      quarter_val17 fun x hx => h x (List.mem_cons_of_mem _ hx)]
    congr 1
    exact quarter_bit17 ⟨b, hb⟩ ⟨val17 r % 4, by omega⟩
theorem add_val17 (f g : Nat → Nat) : ∀ (bs : List Nat), val17 (bs.map f) + val17 (bs.map g) = val17 (bs.map fun b => f b + g b)
  | [] => rfl
  | b :: r => by
    rw [List.map_cons, List.map_cons, List.map_cons, val_cons17, val_cons17, val_cons17, ← add_val17 f g r]
    omega
theorem val_mod17 : ∀ {bs : List Nat}, (∀ b ∈ bs, b % 16 ≤ 4) → val17 bs % 16 ≤ 4
  | [], _ => by simp [val17]
  | b :: r, h => by
    have hb := h b List.mem_cons_self
    rw [val_cons17]
    omega
theorem nib_val17 : ∀ {bs : List Nat}, (∀ b ∈ bs, b % 16 ≤ 4 ∧ b / 16 ≤ 4) → (val17 bs / 16 + val17 bs) &&& val17 (bs.map fun _ => 15) = val17 (bs.map fun b => b / 16 + b % 16)
  | [], _ => by simp [val17]
  | b :: r, h => by
    have hb := h b List.mem_cons_self
    have hr := val_mod17 fun x hx => (h x (List.mem_cons_of_mem _ hx)).1
    rw [List.map_cons, List.map_cons, val_cons17, val_cons17, val_cons17, show (b + 256 * val17 r) / 16 + (b + 256 * val17 r) = (b / 16 + b + 16 * (val17 r % 16)) + 256 * (val17 r / 16 + val17 r) by omega, and_byte17 (by omega) (by omega),
      nib_val17 fun x hx => h x (List.mem_cons_of_mem _ hx)]
    congr 1
    rw [show (15 : Nat) = 2 ^ 4 - 1 from rfl, Nat.and_two_pow_sub_one_eq_mod]
    omega
def t1_17 (b : Nat) : Nat := (b / 2 &&& 85) + (b &&& 85)
def t2_17 (b : Nat) : Nat := (b / 4 &&& 51) + (b &&& 51)
theorem t_ok17 : ∀ b : Fin 256, t1_17 b.val < 256 ∧ (t2_17 (t1_17 b.val) < 256 ∧ t2_17 (t1_17 b.val) % 16 ≤ 4 ∧ t2_17 (t1_17 b.val) / 16 ≤ 4) ∧ t2_17 (t1_17 b.val) / 16 + t2_17 (t1_17 b.val) % 16 = pop17 8 b.val ∧ pop17 8 b.val ≤ 8 := by decide +kernel
/-- the code's first three steps, over bytes -/
theorem steps17 (bs : List Nat) (h : ∀ b ∈ bs, b < 256) (y z : Nat) (hy : y = (val17 bs / 2 &&& val17 (bs.map fun _ => 85)) + (val17 bs &&& val17 (bs.map fun _ => 85)))
    (hz : z = (y / 4 &&& val17 (bs.map fun _ => 51)) + (y &&& val17 (bs.map fun _ => 51))) :
    y = val17 (bs.map t1_17) ∧ z = val17 (bs.map fun b => t2_17 (t1_17 b)) ∧ (z / 16 + z) &&& val17 (bs.map fun _ => 15) = val17 (bs.map (pop17 8)) := by
  have h1 : y = val17 (bs.map t1_17) := by rw [hy, half_val17 h, and_val17 (by omega) h, add_val17]; rfl
  have hk : ∀ b ∈ bs.map t1_17, b < 256 := fun b hb => by
    obtain ⟨a, ha, rfl⟩ := List.mem_map.1 hb
    exact (t_ok17 ⟨a, h a ha⟩).1
  have h2 : z = val17 (bs.map fun b => t2_17 (t1_17 b)) := by
    have e := half_val17 h
    rw [hz, h1, show (bs.map fun _ => 51) = (bs.map t1_17).map fun _ => 51 by rw [List.map_map]; rfl, quarter_val17 hk, and_val17 (by omega) hk, add_val17, List.map_map]
    rfl
  have hn : ∀ b ∈ bs.map fun b => t2_17 (t1_17 b), b % 16 ≤ 4 ∧ b / 16 ≤ 4 := fun b hb => by
    obtain ⟨a, ha, rfl⟩ := List.mem_map.1 hb
    exact (t_ok17 ⟨a, h a ha⟩).2.1.2
  refine ⟨h1, h2, ?_⟩
  rw [h2, show (bs.map fun _ => 15) = (bs.map fun b => t2_17 (t1_17 b)).map fun _ => 15 by rw [List.map_map]; rfl, nib_val17 hn, List.map_map]
  congr 1
  exact List.map_congr_left fun a ha => (t_ok17 ⟨a, h a ha⟩).2.2.1
theorem pop_byte17 (n b y : Nat) (hb : b < 256) : pop17 (n + 8) (b + 256 * y) = pop17 8 b + pop17 n y := by
  generalize hx : b + 256 * y = x
  show x % 2 + (x / 2 % 2 + (x / 2 / 2 % 2 + (x / 2 / 2 / 2 % 2 + (x / 2 / 2 / 2 / 2 % 2 + (x / 2 / 2 / 2 / 2 / 2 % 2 + (x / 2 / 2 / 2 / 2 / 2 / 2 % 2 + (x / 2 / 2 / 2 / 2 / 2 / 2 / 2 % 2 + pop17 n (x / 2 / 2 / 2 / 2 / 2 / 2 / 2 / 2)))))))) = b % 2 + (b / 2 % 2 + (b / 2 / 2 % 2 + (b / 2 / 2 / 2 % 2 + (b / 2 / 2 / 2 / 2 % 2 + (b / 2 / 2 / 2 / 2 / 2 % 2 + (b / 2 / 2 / 2 / 2 / 2 / 2 % 2 + (b / 2 / 2 / 2 / 2 / 2 / 2 / 2 % 2 + 0))))))) + pop17 n y
  have h8 : x / 2 / 2 / 2 / 2 / 2 / 2 / 2 / 2 = y := by
    rw [Nat.div_div_eq_div_mul, Nat.div_div_eq_div_mul, Nat.div_div_eq_div_mul, Nat.div_div_eq_div_mul, Nat.div_div_eq_div_mul, Nat.div_div_eq_div_mul, Nat.div_div_eq_div_mul]
    omega
  rw [h8]
  have g0 : x % 2 = b % 2 := by omega
  have s1 : x / 2 = b / 2 + 128 * y := by omega
  have s2 : x / 2 / 2 = b / 2 / 2 + 64 * y := by rw [s1]; omega
  have s3 : x / 2 / 2 / 2 = b / 2 / 2 / 2 + 32 * y := by rw [s2]; omega
  have s4 : x / 2 / 2 / 2 / 2 = b / 2 / 2 / 2 / 2 + 16 * y := by rw [s3]; omega
  have s5 : x / 2 / 2 / 2 / 2 / 2 = b / 2 / 2 / 2 / 2 / 2 + 8 * y := by rw [s4]; omega
  have s6 : x / 2 / 2 / 2 / 2 / 2 / 2 = b / 2 / 2 / 2 / 2 / 2 / 2 + 4 * y := by rw [s5]; omega
  have s7 : x / 2 / 2 / 2 / 2 / 2 / 2 / 2 = b / 2 / 2 / 2 / 2 / 2 / 2 / 2 + 2 * y := by rw [s6]; omega
  rw [g0, s7, s6, s5, s4, s3, s2, s1]
  generalize b / 2 / 2 / 2 / 2 / 2 / 2 / 2 = c7
  generalize b / 2 / 2 / 2 / 2 / 2 / 2 = c6
  generalize b / 2 / 2 / 2 / 2 / 2 = c5
  generalize b / 2 / 2 / 2 / 2 = c4
  generalize b / 2 / 2 / 2 = c3
  generalize b / 2 / 2 = c2
  generalize b / 2 = c1
  rw [show (c1 + 128 * y) % 2 = c1 % 2 by omega, show (c2 + 64 * y) % 2 = c2 % 2 by omega, show (c3 + 32 * y) % 2 = c3 % 2 by omega, show (c4 + 16 * y) % 2 = c4 % 2 by omega, show (c5 + 8 * y) % 2 = c5 % 2 by omega, show (c6 + 4 * y) % 2 = c6 % 2 by omega, show (c7 + 2 * y) % 2 = c7 % 2 by omega]
  omega
theorem bytes17 (x : Nat) (hx : x < 18446744073709551616) : ∃ bs : List Nat, bs.length = 8 ∧ (∀ b ∈ bs, b < 256) ∧ val17 bs = x ∧ pop17 64 x = (bs.map (pop17 8)).sum := by
  refine ⟨[x % 256, x / 256 % 256, x / 256 / 256 % 256, x / 256 / 256 / 256 % 256, x / 256 / 256 / 256 / 256 % 256, x / 256 / 256 / 256 / 256 / 256 % 256, x / 256 / 256 / 256 / 256 / 256 / 256 % 256, x / 256 / 256 / 256 / 256 / 256 / 256 / 256], rfl, ?_, ?_, ?_⟩
  · intro b hb
    simp only [List.mem_cons, List.not_mem_nil, or_false] at hb
    have hl : x / 256 / 256 / 256 / 256 / 256 / 256 / 256 < 256 := by
      rw [Nat.div_div_eq_div_mul, Nat.div_div_eq_div_mul, Nat.div_div_eq_div_mul, Nat.div_div_eq_div_mul, Nat.div_div_eq_div_mul, Nat.div_div_eq_div_mul]
      exact Nat.div_lt_of_lt_mul hx
    rcases hb with rfl | rfl | rfl | rfl | rfl | rfl | rfl | rfl
    iterate 7 exact Nat.mod_lt _ (by omega)
    exact hl
  · simp only [val17]
    generalize h1 : x / 256 = x1
    generalize h2 : x1 / 256 = x2
    generalize h3 : x2 / 256 = x3
    generalize h4 : x3 / 256 = x4
    generalize h5 : x4 / 256 = x5
    generalize h6 : x5 / 256 = x6
    generalize h7 : x6 / 256 = x7
    clear hx
    have g7 : x6 % 256 + 256 * (x7 + 256 * 0) = x6 := by omega
    rw [g7]
    have g6 : x5 % 256 + 256 * x6 = x5 := by omega
    have g5 : x4 % 256 + 256 * x5 = x4 := by omega
    have g4 : x3 % 256 + 256 * x4 = x3 := by omega
    have g3 : x2 % 256 + 256 * x3 = x2 := by omega
    have g2 : x1 % 256 + 256 * x2 = x1 := by omega
    rw [g6, g5, g4, g3, g2]
    omega
  · have e : ∀ (n y : Nat), pop17 (n + 8) y = pop17 8 (y % 256) + pop17 n (y / 256) := fun n y => by
      have := pop_byte17 n (y % 256) (y / 256) (by omega)
      rwa [show y % 256 + 256 * (y / 256) = y by omega] at this
    rw [e 56, e 48, e 40, e 32, e 24, e 16, e 8]
    simp only [List.map_cons, List.map_nil, List.sum_cons, List.sum_nil, Nat.add_zero]
/-- the last three steps: the bytes' sum -/
theorem sum_bytes17 (a0 a1 a2 a3 a4 a5 a6 a7 x y z : Nat) (h : a0 ≤ 8 ∧ a1 ≤ 8 ∧ a2 ≤ 8 ∧ a3 ≤ 8 ∧ a4 ≤ 8 ∧ a5 ≤ 8 ∧ a6 ≤ 8 ∧ a7 ≤ 8) (hx : x = val17 [a0, a1, a2, a3, a4, a5, a6, a7]) (hy : y = x + x / 256) (hz : z = y + y / 65536) :
    x < 1157442765409226768 ∧ y < 2314885530818453536 ∧ z < 4629771061636907072 ∧ (z + z / 4294967296) % 128 = a0 + a1 + a2 + a3 + a4 + a5 + a6 + a7 := by
  obtain ⟨X7, e7⟩ : ∃ X, X = a7 + 256 * 0 := ⟨_, rfl⟩
  obtain ⟨X6, e6⟩ : ∃ X, X = a6 + 256 * X7 := ⟨_, rfl⟩
  obtain ⟨X5, e5⟩ : ∃ X, X = a5 + 256 * X6 := ⟨_, rfl⟩
  obtain ⟨X4, e4⟩ : ∃ X, X = a4 + 256 * X5 := ⟨_, rfl⟩
  obtain ⟨X3, e3⟩ : ∃ X, X = a3 + 256 * X4 := ⟨_, rfl⟩
  obtain ⟨X2, e2⟩ : ∃ X, X = a2 + 256 * X3 := ⟨_, rfl⟩
  obtain ⟨X1, e1⟩ : ∃ X, X = a1 + 256 * X2 := ⟨_, rfl⟩
  have e0 : x = a0 + 256 * X1 := by rw [hx, e1, e2, e3, e4, e5, e6, e7]; rfl
  have b7 : X7 ≤ 8 := by omega
  have b6 : X6 ≤ 2056 := by omega
  have b5 : X5 ≤ 526344 := by omega
  have b4 : X4 ≤ 134744072 := by omega
  have b3 : X3 ≤ 34494482440 := by omega
  have b2 : X2 ≤ 8830587504648 := by omega
  have b1 : X1 ≤ 2260630401189896 := by omega
  have b0 : x ≤ 578721382704613384 := by omega
  have f0 : x / 256 = X1 := by rw [e0]; clear e1 e2 e3 e4 e5 e6 e7 hx hy hz b0 b1 b2 b3 b4 b5 b6 b7; omega
  rw [f0] at hy
  have g0 : y = (a0 + a1) + 256 * ((a1 + a2) + 256 * (X2 + X3)) := by rw [hy, e0, e1, e2]; omega
  have k0 : y / 65536 = X2 + X3 := by rw [g0]; clear e0 e1 e2 e3 e4 e5 e6 e7 hx hy hz b0 b1 b2 b3 b4 b5 b6 b7 f0; omega
  rw [k0] at hz
  have m0 : z = (a0 + a1 + a2 + a3) + 256 * ((a1 + a2 + a3 + a4) + 256 * ((a2 + a3 + a4 + a5) + 256 * ((a3 + a4 + a5 + a6) + 256 * (X4 + X5 + X6 + X7)))) := by
    rw [hz, hy, e0, e1, e2, e3, e4, e5, e6]; omega
  have n0 : z / 4294967296 = X4 + X5 + X6 + X7 := by rw [m0]; clear e0 e1 e2 e3 e4 e5 e6 e7 hx hy hz b0 b1 b2 b3 b4 b5 b6 b7 f0 g0 k0; omega
  refine ⟨by omega, by omega, by omega, ?_⟩
  rw [n0, m0, e4, e5, e6, e7]
  clear e0 e1 e2 e3 e4 e5 e6 e7 hx hy hz b0 b1 b2 b3 b4 b5 b6 b7 f0 g0 k0 n0 m0
  omega
end Go.Proofs.Ytkhcgclnmdgpbaa

/-
  Of part Row: what is needed here.
-/
namespace Go.Proofs.Ytkhcgclnmdgpbaa
open Go.RowKit
set_option linter.unusedVariables false
set_option maxRecDepth 100000
/-- block g is just the cells xs of element type t; none is frozen -/
structure Row (w : World) (g : Nat) (t : TypeId) (xs : List Value) : Prop where
  is : w.heap[g]? = some (.cells xs.toArray t (0, 0))
section
variable {w w' : World} {g : Nat} {t : TypeId} {xs : List Value}
theorem Row.lt (h : Row w g t xs) : g < w.heap.size := (Array.getElem?_eq_some_iff.1 h.is).1
theorem Row.cell (h : Row w g t xs) (i : Nat) : w.cell? ⟨g, i, none⟩ = xs[i]? := by rw [cell_of_row w g i xs.toArray t (0, 0) h.is]; simp
theorem Row.frozen (h : Row w g t xs) (i : Nat) : w.frozen? ⟨g, i, none⟩ = false := by
  have := h.is
  simp [World.frozen?, this]
theorem Row.new (w : World) (t : TypeId) (xs : List Value) : Row (w.alloc (.cells xs.toArray t)) w.heap.size t xs := ⟨heap_alloc_new w _⟩
theorem Row.drew (h : Row w g t xs) : Row w.drew g t xs := ⟨h.is⟩
theorem Row.alloc (h : Row w g t xs) (o : Obj) : Row (w.alloc o) g t xs := ⟨(Below.heap_alloc w o g h.lt).trans h.is⟩
theorem Row.set_ (h : Row w g t xs) (i : Nat) (u : Value) : Row (w.setCell ⟨g, i, none⟩ u) g t (xs.set i u) := by
  have := h.is
  exact ⟨by simp [World.setCell, Array.getElem?_modify, this]⟩
theorem Row.far (h : Row w g t xs) {p : Addr} (hp : g ≠ p.block) (u : Value) : Row (w.setCell p u) g t xs := ⟨(Below.heap_setCell w p u g hp).trans h.is⟩
theorem Row.below {B : Nat} (h : Row w g t xs) (hb : Below B w w') (hg : g < B) : Row w' g t xs := ⟨(hb.block g hg).trans h.is⟩
theorem Row.grown {row : Option Nat} (h : Row w g t xs) (hb : w.grownBy w' row) (hg : some g ≠ row) : Row w' g t xs := ⟨(hb.block g h.lt hg).trans h.is⟩
theorem Row.sees (h : Row w g t xs) (o : Nat) : Sees w w.heap.size (some ⟨g, o, none⟩) (xs.length - o) (xs.drop o) :=
  ⟨by simp, fun i u hu => ⟨_, rfl, h.lt, by rw [addr_row, h.cell]; simpa using hu⟩⟩
theorem Row.sees0 (h : Row w g t xs) : Sees w w.heap.size (some ⟨g, 0, none⟩) xs.length xs := by simpa using h.sees 0
theorem Row.own (h : Row w g t xs) {base : Nat} (hb : base ≤ g) {n : Nat} (hn : n ≤ xs.length) (hm : xs.length ≤ maxLen) : w.ownsRow base t 1 (.slice (some ⟨g, 0, none⟩) n xs.length) n (xs.take n) :=
  ⟨by simp; omega, .inr ⟨g, xs.length, xs.toArray, rfl, hb, h.is, hn, hm, by simp, by simp⟩⟩
theorem Row.of_own {base : Nat} {n : Nat} (h : w.ownsRow base t 1 (.slice (some ⟨g, 0, none⟩) n n) n xs) : Row w g t xs := by
  rcases h.2 with ⟨hv, _⟩ | ⟨g', cap, cur, hv, _, hh, _, _, hs, ht⟩
  · cases hv
  · cases hv
    have : cur = xs.toArray := by
      rw [← ht, List.take_of_length_le (by simp; omega)]
    exact ⟨by rw [hh, this]⟩
end
end Go.Proofs.Ytkhcgclnmdgpbaa

/-
  Of part Append: what is needed here.
-/
namespace Go.Proofs.Ytkhcgclnmdgpbaa
open Go.RowKit
set_option linter.unusedVariables false
set_option maxRecDepth 100000
section
variable {P : Program} {w : World} {base : Nat} {t ty e : TypeId} {i : TypeInfo} {z : Value} {bytes : Nat} {v : Value} {n m c B : Nat} {A : Option Addr} {xs news : List Value}
theorem run_append_nothing (ht : P.underlying t = some (.slice e)) (hi : P.info? e = some i) (hown : w.ownsRow base e 1 v n xs) (c : Nat) :
    (Builtin.append_ #[t, t] ty #[v, .slice none 0 c]).run P w = .ok v w := by
  rcases hown.2 with ⟨rfl, rfl⟩ | ⟨g, cap, cur, rfl, _, _, hnc, _⟩ <;>
    simp [Builtin.append_, run_underlying ht, sizeOf, typeInfo, Builtin.lenOf, Builtin.firstCells, storeCells, *]
theorem run_append_sees (ht : P.underlying t = some (.slice e)) (hi : P.info? e = some i) (hz : i.zero = some z) (hsize : i.size = 1) (hby : i.bytes = bytes) (hzs : z.cells.size = 1)
    (hown : w.ownsRow base e 1 v n xs) (hr : Sees w B A m news) (h1 : ∀ u ∈ news, u.oneCell' = true) (hnm : n + m ≤ maxLen) (hbytes : (n + m) * bytes ≤ 140737488355328) (hbase : base ≤ w.heap.size) (c : Nat) :
    ∃ v' w', (Builtin.append_ #[t, t] ty #[v, .slice A m c]).run P w = .ok v' w' ∧ w'.ownsRow base e 1 v' (n + m) (xs ++ news) ∧ w.grownBy w' v.ownBlock ∧ (v'.ownBlock = v.ownBlock ∨ v'.ownBlock = some w.heap.size) := by
  cases A with
  | none =>
    have hn : news = [] := by
      cases news with
      | nil => rfl
      | cons u r =>
        obtain ⟨a, h, _⟩ := hr.cell 0 u rfl
        cases h
    subst hn
    obtain rfl : m = 0 := by simpa using hr.len.symm
    exact ⟨v, w, run_append_nothing ht hi hown c, by simpa using hown, World.grownBy.refl w _, .inl rfl⟩
  | some ad =>
    obtain ⟨v', w', hrun, h2, h3, _, h5⟩ := run_append_own_at (P := P) w base t ty e i z 1 bytes ht hi hz hsize hby hzs (by omega) v n xs hown ad m c news (by rw [hr.len]; omega)
      (fun j u hu => by
        obtain ⟨a, h, _, hc⟩ := hr.cell j u hu
        cases h
        exact hc) h1 hnm hbytes hbase
    exact ⟨v', w', hrun, h2, h3, h5⟩
theorem wp_append_sees {o : Oper} {a : Act} {K : Act → World → Prop} {Q : Exit → Act → World → Prop} (s x : Operand)
    (ho : o.op = .call { callee := .builtin .append, args := #[s, x], argTypes := #[t, t] })
    (ht : P.underlying t = some (.slice e)) (hi : P.info? e = some i) (hz : i.zero = some z) (hsize : i.size = 1) (hby : i.bytes = bytes) (hzs : z.cells.size = 1)
    (hs : a.eval s = v) (hown : w.ownsRow base e 1 v n xs) (hx : a.eval x = .slice A m c) (hr : Sees w B A m news) (h1 : ∀ u ∈ news, u.oneCell' = true)
    (hnm : n + m ≤ maxLen) (hbytes : (n + m) * bytes ≤ 140737488355328) (hbase : base ≤ w.heap.size)
    (h : ∀ v' w', w'.ownsRow base e 1 v' (n + m) (xs ++ news) → w.grownBy w' v.ownBlock → (v'.ownBlock = v.ownBlock ∨ v'.ownBlock = some w.heap.size) → K (a.put o.dst v') w') : o.wp P a w K Q := by
  obtain ⟨v', w', hrun, h2, h3, h4⟩ := run_append_sees (P := P) (ty := o.type) ht hi hz hsize hby hzs hown hr h1 hnm hbytes hbase c
  unfold Oper.wp execOp
  simp only [ho, resolve, invoke, builtin, Sem.run_bind, Sem.run_pure, Result.andThen_ok, List.map_toArray, List.map_cons, List.map_nil, hs, hx, hrun]
  exact h v' w' h2 h3 h4
theorem wpList_append_sees {ops : Array Oper} {rest : List Oper} {o : Oper} {a : Act} {Q : Exit → Act → World → Prop} (hgd : o.guard = none) (s x : Operand) (t : TypeId)
    (ho : o.op = .call { callee := .builtin .append, args := #[s, x], argTypes := #[t, t] })
    (base : Nat) (e : TypeId) (i : TypeInfo) (z : Value) (bytes : Nat)
    (ht : P.underlying t = some (.slice e)) (hi : P.info? e = some i) (hz : i.zero = some z) (hsize : i.size = 1) (hby : i.bytes = bytes) (hzs : z.cells.size = 1)
    (v : Value) (n : Nat) (xs : List Value) (hs : a.eval s = v) (hown : w.ownsRow base e 1 v n xs) (B : Nat) (A : Option Addr) (m c : Nat) (news : List Value) (hx : a.eval x = .slice A m c) (hr : Sees w B A m news) (h1 : ∀ u ∈ news, u.oneCell' = true)
    (hnm : n + m ≤ maxLen) (hbytes : (n + m) * bytes ≤ 140737488355328) (hbase : base ≤ w.heap.size)
    (h : ∀ v' w', w'.ownsRow base e 1 v' (n + m) (xs ++ news) → w.grownBy w' v.ownBlock → (v'.ownBlock = v.ownBlock ∨ v'.ownBlock = some w.heap.size) → wpList P ops Q rest (a.put o.dst v') w') : wpList P ops Q (o :: rest) a w :=
  wpList_plain hgd fun _ hK => wp_append_sees s x ho ht hi hz hsize hby hzs hs hown hx hr h1 hnm hbytes hbase fun v' w' h2 h3 h4 => hK _ _ (h v' w' h2 h3 h4)
end
theorem own_form {w : World} {base : Nat} {e : TypeId} {v : Value} {n : Nat} {xs : List Value} (h : w.ownsRow base e 1 v n xs) : ∃ A c, v = .slice A n c := by
  rcases h.2 with ⟨rfl, rfl⟩ | ⟨g, cap, cur, rfl, _⟩
  · exact ⟨_, _, rfl⟩
  · exact ⟨_, _, rfl⟩
/-- the blocks of the call's own stay above what was there -/
theorem below_append {B : Nat} {a w w' : World} {base : Nat} {e : TypeId} {v : Value} {n : Nat} {xs : List Value} (h : Below B a w) (hown : w.ownsRow base e 1 v n xs) (hB : B ≤ base) (hs : B ≤ w.heap.size) (hg : w.grownBy w' v.ownBlock) : Below B a w' :=
  h.grown hg hs fun k hk => by have := (hown.lt k hk).1; omega
end Go.Proofs.Ytkhcgclnmdgpbaa

/-
  Of part Put: what is needed here.
-/
namespace Go.Proofs.Ytkhcgclnmdgpbaa
open Go.RowKit
set_option linter.unusedVariables false
set_option maxRecDepth 100000
/-- the bytes of a short number -/
def short (n : Int) : List Int :=
  if n < 128 then [n] else if n < 16384 then [n % 128 + 128, n / 128] else [n % 128 + 128, n / 128 % 128 + 128, n / 16384]
end Go.Proofs.Ytkhcgclnmdgpbaa

/-
  Of part Msg: what is needed here.
-/
namespace Go.Proofs.Ytkhcgclnmdgpbaa
open Go.RowKit
set_option linter.unusedVariables false
set_option maxRecDepth 100000
/-- an instruction -/
structure LIn where
  p : Int
  acc : List Int
  dat : List Int
/-- a lookup -/
structure LLook where
  tab : List Int
  wr : List Int
  rd : List Int
/-- a message -/
structure LMsg where
  v0 : Bool
  s : Int
  r : Int
  o : Int
  keys : List (List Int)
  recent : List Int
  ins : List LIn
  looks : List LLook
/-- how many, and the bytes -/
def encL (l : List Int) : List Int := short l.length ++ l
def encIn (i : LIn) : List Int := i.p :: (encL i.acc ++ encL i.dat)
def encLook (l : LLook) : List Int := l.tab ++ (encL l.wr ++ encL l.rd)
def encHead (m : LMsg) : List Int := (if m.v0 then [128] else []) ++ [m.s, m.r, m.o]
def encTail (m : LMsg) : List Int := if m.v0 then short m.looks.length ++ m.looks.flatMap encLook else []
/-- a message's bytes -/
def enc (m : LMsg) : List Int := encHead m ++ (short m.keys.length ++ (m.keys.flatten ++ (m.recent ++ (short m.ins.length ++ (m.ins.flatMap encIn ++ encTail m)))))
/-- a byte -/
def IsByte (z : Int) : Prop := 0 ≤ z ∧ z < 256
end Go.Proofs.Ytkhcgclnmdgpbaa

/-
  Of part Whole: what is needed here.
-/
namespace Go.Proofs.Ytkhcgclnmdgpbaa
open Go.RowKit
set_option linter.unusedVariables false
set_option maxRecDepth 100000
section
variable {P : Program}
/-- a value of many cells, read from an address -/
theorem run_loadAt_at (w : World) (p : Addr) (ty : TypeId) (cs : List Value) (d : TypeDesc) (hc : ∀ j v, cs[j]? = some v → w.cell? (p.add j) = some v)
    (hu : P.underlying ty = some d) (hd : d.isRow = true) (hi : (P.info? ty).map (·.size) = some cs.length) :
    (Instr.loadAt ty (.pointer (some p))).run P w = .ok (.agg cs.toArray) w := by
  have hl : (loadCells p cs.length).run P w = .ok cs.toArray w := run_loadCells_list (P := P) w p cs hc
  cases hq : P.info? ty with
  | none => simp [hq] at hi
  | some i =>
    have hs : i.size = cs.length := by simpa [hq] using hi
    have hagg : (isAgg ty).run P w = .ok true w := by
      unfold isAgg
      rw [Sem.run_bind, run_underlying hu w]
      cases d <;> simp_all
    simp [Instr.loadAt, Instr.sureAddr, loadVar, Sem.run_bind, hagg, sizeOf, typeInfo, hq, hs, hl]
theorem wpList_load_at {ops : Array Oper} {rest : List Oper} {op : Oper} {a : Act} {w : World} {Q : Exit → Act → World → Prop} (hgd : op.guard = none) (ty : TypeId) (x : Operand) (ho : op.op = .load ty x)
    (p : Addr) (cs : List Value) (d : TypeDesc) (hu : P.underlying ty = some d) (hd : d.isRow = true) (hi : (P.info? ty).map (·.size) = some cs.length) (hc : ∀ j v, cs[j]? = some v → w.cell? (p.add j) = some v)
    (hx : a.eval x = .pointer (some p)) (h : wpList P ops Q rest (a.put op.dst (.agg cs.toArray)) w) : wpList P ops Q (op :: rest) a w :=
  wpList_plain hgd fun _ hK => by
    unfold Oper.wp execOp
    simp only [ho, hx, Sem.run_bind, Sem.run_pure, run_loadAt_at w p ty cs d hc hu hd hi, Result.andThen_ok]
    exact hK _ _ h
/-- a value of many cells into a block that is known whole: the world behind it, of which this is told -/
theorem run_storeAt_whole (w : World) (g ty : Nat) (c cs : List Value) (hr : Row w g ty c) (hi : (P.info? ty).map (·.size) = some cs.length) (hl : c.length = cs.length) (h1 : ∀ u ∈ cs, u.oneCell' = true) :
    (Instr.storeAt ty (.pointer (some ⟨g, 0, none⟩)) (.agg cs.toArray)).run P w = .ok () (w.setRow g cs.toArray) := by
  have := run_storeVar_row (P := P) w g ty ty c.toArray cs.toArray hr.is (by simpa using hi) (by simpa using hl) (all_oneCell_toArray h1)
  simp only [Instr.storeAt, Instr.sureAddr, Sem.run_bind, Sem.run_pure, Result.andThen_ok, this]
/-- but for block g, w' is w -/
structure Turned (w w' : World) (g : Nat) : Prop where
  os : w'.os = w.os
  tape : w'.tape = w.tape
  output : w'.output = w.output
  size : w'.heap.size = w.heap.size
  block : ∀ k, k ≠ g → w'.heap[k]? = w.heap[k]?
theorem turned_setRow (w : World) (g : Nat) (cs : Array Value) : Turned w (w.setRow g cs) g :=
  ⟨rfl, rfl, rfl, by simp, fun k hk => setRow_other w g k cs hk⟩
theorem row_setRow {w : World} {g t : Nat} {c : List Value} (hr : Row w g t c) (cs : List Value) : Row (w.setRow g cs.toArray) g t cs :=
  ⟨setRow_heap w g c.toArray cs.toArray t _ hr.is⟩
theorem Turned.below {w w' : World} {g B : Nat} (h : Turned w w' g) (hB : B ≤ g) : Below B w w' :=
  ⟨h.os, h.tape, h.output, by rw [h.size]; exact Nat.le_refl _, fun k hk => h.block k (by omega)⟩
theorem Turned.row {w w' : World} {g k t : Nat} {xs : List Value} (h : Turned w w' g) (hr : Row w k t xs) (hk : k ≠ g) : Row w' k t xs := ⟨(h.block k hk).trans hr.is⟩
theorem wpList_store_whole {ops : Array Oper} {rest : List Oper} {op : Oper} {a : Act} {w : World} {Q : Exit → Act → World → Prop} (hgd : op.guard = none) (ty : TypeId) (x y : Operand) (ho : op.op = .store ty x y)
    (g : Nat) (c cs : List Value) (hr : Row w g ty c) (hi : (P.info? ty).map (·.size) = some cs.length) (hl : c.length = cs.length) (h1 : ∀ u ∈ cs, u.oneCell' = true)
    (hx : a.eval x = .pointer (some ⟨g, 0, none⟩)) (hy : a.eval y = .agg cs.toArray)
    (h : ∀ w', Row w' g ty cs → Turned w w' g → wpList P ops Q rest (a.put op.dst undef) w') : wpList P ops Q (op :: rest) a w :=
  wpList_plain hgd fun _ hK => by
    unfold Oper.wp execOp
    simp only [ho, hx, hy, Sem.run_bind, Sem.run_pure, run_storeAt_whole w g ty c cs hr hi hl h1, Result.andThen_ok]
    exact hK _ _ (h _ (row_setRow hr cs) (turned_setRow w g _))
/-- a variable that has just been made is given its value -/
theorem wpList_store_new {ops : Array Oper} {rest : List Oper} {op : Oper} {a : Act} {w0 : World} {c : Array Value} {Q : Exit → Act → World → Prop} (hgd : op.guard = none) (ty : TypeId) (x y : Operand) (ho : op.op = .store ty x y)
    (cs : List Value) (hi : (P.info? ty).map (·.size) = some cs.length) (h1 : ∀ u ∈ cs, u.oneCell' = true) (hl : c.size = cs.length)
    (hx : a.eval x = .pointer (some ⟨w0.heap.size, 0, none⟩)) (hy : a.eval y = .agg cs.toArray)
    (h : ∀ w', Row w' w0.heap.size ty cs → Below w0.heap.size w0 w' → w'.heap.size = w0.heap.size + 1 → wpList P ops Q rest (a.put op.dst undef) w') : wpList P ops Q (op :: rest) a (w0.alloc (.cells c ty)) := by
  have hr : Row (w0.alloc (.cells c ty)) w0.heap.size ty c.toList := by
    have := Row.new w0 ty c.toList
    simpa using this
  refine wpList_store_whole hgd ty x y ho w0.heap.size c.toList cs hr hi (by simpa using hl) h1 hx hy fun w' hr' ht => ?_
  exact h w' hr' (((Below.refl _ w0).alloc (Nat.le_refl _) _).trans (ht.below (Nat.le_refl _))) (by rw [ht.size]; simp)
end
end Go.Proofs.Ytkhcgclnmdgpbaa

/-
  Of part Many: what is needed here.
-/
namespace Go.Proofs.Ytkhcgclnmdgpbaa
open Go.RowKit
set_option linter.unusedVariables false
set_option maxRecDepth 100000
theorem own_below {w w' : World} {base n size : Nat} {e : TypeId} {v : Value} {xs : List Value} (h : w.ownsRow base e size v n xs) (hb : Below w.heap.size w w') : w'.ownsRow base e size v n xs := by
  refine ⟨h.1, ?_⟩
  rcases h.2 with h2 | ⟨g, cap, cur, hv, hg, hh, r⟩
  · exact .inl h2
  · exact .inr ⟨g, cap, cur, hv, hg, (hb.block g (Array.getElem?_eq_some_iff.1 hh).1).trans hh, r⟩
/-- from w, with the row v, to w', with the row v': of what was there v's block alone may have been written -/
structure Grew (w w' : World) (v v' : Value) : Prop where
  grown : w.grownBy w' v.ownBlock
  fresh : ∀ k, v'.ownBlock = some k → v.ownBlock = some k ∨ w.heap.size ≤ k
section
variable {w w' w'' : World} {v v' v'' : Value}
theorem Grew.refl (w : World) (v : Value) : Grew w w v v := ⟨World.grownBy.refl w _, fun k h => .inl h⟩
theorem Grew.size (h : Grew w w' v v') : w.heap.size ≤ w'.heap.size := h.grown.size
theorem Grew.trans (h : Grew w w' v v') (k : Grew w' w'' v' v'') : Grew w w'' v v'' :=
  ⟨⟨k.grown.os.trans h.grown.os, k.grown.tape.trans h.grown.tape, k.grown.output.trans h.grown.output, Nat.le_trans h.size k.size, fun i hi hne =>
      (k.grown.block i (Nat.lt_of_lt_of_le hi h.size) fun e => by
        rcases h.fresh i e.symm with h1 | h1
        · exact hne h1.symm
        · omega).trans (h.grown.block i hi hne)⟩,
    fun i hi => by
      rcases k.fresh i hi with h1 | h1
      · exact h.fresh i h1
      · exact .inr (Nat.le_trans h.size h1)⟩
theorem Grew.of_below (hb : Below w.heap.size w w') (v : Value) : Grew w w' v v := ⟨⟨hb.os, hb.tape, hb.output, hb.size, fun k hk _ => hb.block k hk⟩, fun k h => .inl h⟩
theorem Grew.alloc (h : Grew w w' v v') (o : Obj) : Grew w (w'.alloc o) v v' := h.trans (.of_below ((Below.refl _ _).alloc (Nat.le_refl _) o) v')
theorem Grew.row {g t : Nat} {ys : List Value} (h : Grew w w' v v') (hr : Row w g t ys) (hg : some g ≠ v.ownBlock) : Row w' g t ys := hr.grown h.grown hg
theorem Grew.below {base n size : Nat} {e : TypeId} {xs : List Value} (h : Grew w w' v v') (hown : w.ownsRow base e size v n xs) (hbase : base ≤ w.heap.size) : Below base w w' :=
  (Below.refl base w).grown h.grown hbase fun k hk => (hown.lt k hk).1
end
end Go.Proofs.Ytkhcgclnmdgpbaa

/-
  Of part GetMsg: what is needed here.
-/
namespace Go.Proofs.Ytkhcgclnmdgpbaa
open Go.RowKit
set_option linter.unusedVariables false
set_option maxRecDepth 100000
/-- 'wpAnyH_take', the operations a list: the operation comes out written out -/
theorem takeL {P : Program} {L : List Oper} {Q : Exit → Act → World → Prop} {md : Region.Mode} {S : World → Prop} {i : Nat} {oi : Oper} {v : Value} {fuel : Nat} {listed : Array Bool} {a : Act} {w : World} (hi : L[i]? = some oi)
    (hs : Region.noSelect L.toArray = true) (hf : Region.free md L.toArray listed i = true) (hr : (Region.ready md L.toArray listed).contains i = true)
    (hQ : ∀ c a w, Q (.panic c) (a.put oi.dst v) w → Q (.panic c) a w) (hy : YieldsIf P L.toArray S oi v a) (hS : S w)
    (h : wpAnyH P md L.toArray Q S fuel (listed.setIfInBounds i true) (a.put oi.dst v) w) : wpAnyH P md L.toArray Q S (fuel + 1) listed a w :=
  wpAnyH_take (by simpa using hi) hs hf hr hQ hy hS h
/-- 'AllReadyH.cons', likewise, for one operation -/
theorem readyL {P : Program} {L : List Oper} {Q : Exit → Act → World → Prop} {md : Region.Mode} {S : World → Prop} {i : Nat} {o : Oper} {fuel : Nat} {listed : Array Bool} {a : Act} {w : World} (ho : L[i]? = some o) (hr : Region.ready md L.toArray listed = [i])
    (hw : Region.wanted o (yielded L.toArray a.tmps) = true)
    (h : ∀ K' : Act → World → Prop, Shut (∀ a w, S w → wpAnyH P md L.toArray Q S fuel (listed.setIfInBounds i true) a w → K' a w) → Oper.wp P o a w K' Q) : wpAnyH P md L.toArray Q S (fuel + 1) listed a w :=
  wpAnyH_ready hr (by simp) (AllReadyH.cons (by simpa using ho) (fun K hK => by
    rw [if_pos hw]
    exact h K (fun a w hS hW => hK a w hS fun _ => hW)) AllReadyH.nil)
end Go.Proofs.Ytkhcgclnmdgpbaa

/-
  Of part IsIn: what is needed here.
-/
namespace Go.Proofs.Ytkhcgclnmdgpbaa
open Go.RowKit
set_option linter.unusedVariables false
set_option maxRecDepth 100000
theorem flatten_at {α : Type} (size : Nat) : ∀ (l : List (List α)) (k : Nat) (x : List α), (∀ (i : Nat) y, l[i]? = some y → y.length = size) → l[k]? = some x → ∀ j u, x[j]? = some u → l.flatten[k * size + j]? = some u
  | [], k, x, _, h, _, _, _ => by simp at h
  | y :: r, 0, x, hl, h, j, u, hu => by
    have : y = x := by simpa using h
    subst this
    have hj := (List.getElem?_eq_some_iff.1 hu).1
    rw [List.flatten_cons, List.getElem?_append_left (by simpa using hj)]
    simpa using hu
  | y :: r, k + 1, x, hl, h, j, u, hu => by
    have hy := hl 0 y (by simp)
    rw [List.flatten_cons, List.getElem?_append_right (by rw [hy, Nat.add_mul]; omega)]
    have := flatten_at size r k x (fun i z hz => hl (i + 1) z (by simpa using hz)) (by simpa using h) j u hu
    rw [← this]
    congr 1
    rw [hy, Nat.add_mul]
    omega
end Go.Proofs.Ytkhcgclnmdgpbaa

/-
  Of part RefAt: what is needed here.
-/
namespace Go.Proofs.Ytkhcgclnmdgpbaa
open Go.RowKit
set_option linter.unusedVariables false
set_option maxRecDepth 100000
/-- two that may come up -/
theorem readyL2 {P : Program} {L : List Oper} {Q : Exit → Act → World → Prop} {md : Region.Mode} {S : World → Prop} {i j : Nat} {o o' : Oper} {fuel : Nat} {listed : Array Bool} {a : Act} {w : World} (ho : L[i]? = some o) (ho' : L[j]? = some o') (hr : Region.ready md L.toArray listed = [i, j])
    (hw : Region.wanted o (yielded L.toArray a.tmps) = true) (hw' : Region.wanted o' (yielded L.toArray a.tmps) = true)
    (h : ∀ K' : Act → World → Prop, Shut (∀ a w, S w → wpAnyH P md L.toArray Q S fuel (listed.setIfInBounds i true) a w → K' a w) → Oper.wp P o a w K' Q)
    (h' : ∀ K' : Act → World → Prop, Shut (∀ a w, S w → wpAnyH P md L.toArray Q S fuel (listed.setIfInBounds j true) a w → K' a w) → Oper.wp P o' a w K' Q) : wpAnyH P md L.toArray Q S (fuel + 1) listed a w :=
  wpAnyH_ready hr (by simp) (AllReadyH.cons (by simpa using ho) (fun K hK => by
    rw [if_pos hw]
    exact h K (fun a w hS hW => hK a w hS fun _ => hW)) (AllReadyH.cons (by simpa using ho') (fun K hK => by
    rw [if_pos hw']
    exact h' K (fun a w hS hW => hK a w hS fun _ => hW)) AllReadyH.nil))
section
variable {P : Program}
/-- 'wpList_buildOne' as one step -/
theorem wp_buildOne {o : Oper} {a : Act} {w : World} {K : Act → World → Prop} {Q : Exit → Act → World → Prop} (t e : TypeId) (y : Operand) (ho : o.op = .buildSlice t 1 #[(0, y)])
    (cs : List Value) (z : Value) (size bytes : Nat) (hu : P.underlying t = some (.slice e)) (hi : (P.info? e).map (fun i => (i.zero, i.size, i.bytes)) = some (some z, size, bytes)) (hzs : z.cells.size = size) (hs0 : 0 < size) (hs1 : size ≤ 1000)
    (hcs : cs.length = size) (hy : a.eval y = .agg cs.toArray)
    (h : K (a.put o.dst (.slice (some ⟨w.heap.size, 0, none⟩) 1 1)) (w.alloc (.cells cs.toArray e))) : o.wp P a w K Q := by
  obtain ⟨ie, hie, h1, h2, _⟩ := info_parts hi
  subst h2
  refine wp_buildSlice t e 1 _ ho cs.toArray ie z hu hie h1 (by omega) (by omega) ?_ h
  have := Go.Great.fill_whole (s := ie.size) hs0 [Value.agg cs.toArray] ((Array.range (1 * ie.size)).map (z.cells[· % z.cells.size]!)) (by simp [Value.cells, hcs]) (by simp)
  simpa [hy, Value.cells] using this
end
end Go.Proofs.Ytkhcgclnmdgpbaa

/-
  Of part BookK: what is needed here.
-/
namespace Go.Proofs.Ytkhcgclnmdgpbaa
open Go.RowKit
set_option linter.unusedVariables false
set_option maxRecDepth 100000
theorem wp_built {o : Oper} {a : Act} {w : World} {K : Act → World → Prop} {Q : Exit → Act → World → Prop} (t : TypeId) (parts : Array (Nat × Operand)) (cells : Array Value) (ho : o.op = .build t parts)
    (h : Try.prog.built t (parts.map fun (i, x) => (i, a.eval x)).toList = some cells) (hK : K (a.put o.dst (.agg cells)) w) : o.wp Try.prog a w K Q :=
  wp_build t parts ho (by rw [h]; rfl) (by rw [h]; exact hK)
end Go.Proofs.Ytkhcgclnmdgpbaa

/-
  Of part Tx: what is needed here.
-/
namespace Go.Proofs.Ytkhcgclnmdgpbaa
open Go.RowKit
set_option linter.unusedVariables false
set_option maxRecDepth 100000
/-- a transaction -/
structure LTx where
  sigs : List (List Int)
  m : LMsg
end Go.Proofs.Ytkhcgclnmdgpbaa

/-
  Of part Great: what is needed here.
-/
namespace Go.Proofs.Ytkhcgclnmdgpbaa
open Go.RowKit
set_option linter.unusedVariables false
set_option maxRecDepth 100000
def lookSize (l : List LLook) : Nat := (l.map fun i => i.wr.length + i.rd.length).sum
end Go.Proofs.Ytkhcgclnmdgpbaa

/-
  Of part OpenMsg: what is needed here.
-/
namespace Go.Proofs.Ytkhcgclnmdgpbaa
open Go.RowKit
set_option linter.unusedVariables false
set_option maxRecDepth 100000
open Go.ChangeShapes Go.WideShapes Go.RowKit
theorem list_of {α : Type} {p : Nat → α → Prop} : ∀ (n : Nat), (∀ i, i < n → ∃ x, p i x) → ∃ l : List α, l.length = n ∧ ∀ i x, l[i]? = some x → p i x
  | 0, _ => ⟨[], rfl, fun i x h => by simp at h⟩
  | n + 1, h => by
    obtain ⟨l, hl, hp⟩ := list_of n fun i hi => h i (by omega)
    obtain ⟨x, hx⟩ := h n (Nat.lt_succ_self _)
    refine ⟨l ++ [x], by simp [hl], fun i y hy => ?_⟩
    by_cases hi : i < n
    · rw [List.getElem?_append_left (by omega)] at hy
      exact hp i y hy
    · rw [List.getElem?_append_right (by omega)] at hy
      have h1 := (List.getElem?_eq_some_iff.1 hy).1
      simp at h1
      have : i = n := by omega
      subst this
      rw [show i - l.length = 0 by omega] at hy
      simp at hy
      exact hy ▸ hx
theorem byte_wf {z : Int} (h : (Lit.int .u8 z).wf = true) : IsByte z := by
  have := bounds_u8 h
  unfold IsByte
  omega
section
variable {H : Type} {enc : TypeId × Value → H}
/-- no list in it is longer than the form's reach -/
def Wt (t : TypeId) (d : DataW H) : Prop := ∀ n ∈ d.weights Try.prog t, n ≤ reachBytes
theorem wt_all {e : TypeId} : ∀ {l : List (DataW H)}, (∀ n ∈ DataW.weightsAll Try.prog e l, n ≤ reachBytes) → ∀ d ∈ l, Wt e d
  | [], _, d, hd => by simp at hd
  | y :: r, h, d, hd => by
    rcases List.mem_cons.1 hd with rfl | hd
    · exact fun n hn => h n (by simp [DataW.weightsAll, hn])
    · exact wt_all (l := r) (fun n hn => h n (by simp [DataW.weightsAll, hn])) d hd
variable {w : World} {base : Nat} {held : Bool}
theorem open_sl {t e : TypeId} {fuel : Nat} {cs : List Value} {x : DataW H × List MemPlace} (ht : Try.prog.underlying t = some (.slice e)) (hc : 0 < Try.prog.cellsOf e)
    (h : DataW.trod enc Try.prog w base (fun _ => true) held fuel t cs = some x) (hw : Wt t x.1) :
    ∃ A n c, cs = [.slice A n c] ∧ n ≤ c ∧ c ≤ maxLen ∧ n * Try.prog.bytesOf e ≤ reachBytes ∧ ∀ i, i < n → ∃ a cs' y m, A = some a ∧ a.block < w.heap.size ∧ cs'.length = Try.prog.cellsOf e ∧
      (∀ j u, cs'[j]? = some u → w.cell? (a.add (i * Try.prog.cellsOf e + j)) = some u) ∧ DataW.trod enc Try.prog w base (fun _ => true) held m e cs' = some y ∧ Wt e y.1 := by
  rcases Go.Deep.open_slice ht h with ⟨rfl, rfl⟩ | ⟨a, len, cap, m, n, D, Pl, rfl, hb, hl, hm, hmm, rfl, hx⟩
  · exact ⟨none, 0, 0, rfl, Nat.le_refl _, Nat.zero_le _, by simp, fun i hi => by omega⟩
  · have hm' : m = cap := by simpa using hmm
    have h1 : ((len + (m - len)) * Try.prog.bytesOf e) ≤ reachBytes := by
      refine hw _ ?_
      simp [DataW.weights, ht]
    have h2 : ∀ d ∈ (List.range len).map D, Wt e d := wt_all fun n hn => hw n (by simp only [DataW.weights, ht]; simp [hn])
    refine ⟨some a, len, cap, rfl, hl, hm, Nat.le_trans (Nat.mul_le_mul_right _ (by omega)) h1, fun i hi => ?_⟩
    obtain ⟨cs', hcs, htr⟩ := hx i (by omega)
    have hbl := World.cells?_block hcs hc
    obtain ⟨_, hlen, hat⟩ := World.cells?_some hcs
    refine ⟨a, cs', _, n, rfl, by rwa [addr_block] at hbl, hlen, fun j u hu => ?_, htr, h2 _ (by simp; exact ⟨i, hi, rfl⟩)⟩
    have := hat j (by have := (List.getElem?_eq_some_iff.1 hu).1; omega)
    rw [addr_add] at this
    rw [this, hu]
theorem reach47 : reachBytes ≤ 140737488355328 := by decide
end
open Go.ChangeShapes Go.WideShapes Go.RowKit
open Go.ChangeShapes Go.WideShapes Go.RowKit
end Go.Proofs.Ytkhcgclnmdgpbaa

/-
  Of part Rules: what is needed here.
-/
namespace Go.Proofs.Ytkhcgclnmdgpbaa
open Go.RowKit
set_option linter.unusedVariables false
set_option maxRecDepth 100000
/-- a lookup's indices -/
def ixs (l : LLook) : Nat := l.wr.length + l.rd.length
/-- all keys -/
def tot (m : LMsg) : Nat := m.keys.length + lookSize m.looks
/-- an instruction that names a key that there is not -/
def astray (tt : Nat) (a : Int) : Bool := decide ((tt : Int) ≤ a)
def pstray (own : Nat) (p : Int) : Bool := decide (p = 0 ∨ (own : Int) ≤ p)
def stray (own tt : Nat) (i : LIn) : Bool := pstray own i.p || i.acc.any (astray tt)
def noix (l : LLook) : Bool := decide (ixs l = 0)
/-- the rules, broken -/
def b1 (x : LTx) : Bool := decide (x.m.s = 0 ∨ (x.sigs.length : Int) ≠ x.m.s)
def b2 (m : LMsg) : Bool := decide (m.s ≤ m.r ∨ (m.keys.length : Int) < m.s + m.o)
def b3 (m : LMsg) : Bool := m.looks.any noix
def b4 (m : LMsg) : Bool := decide (64 < tot m)
def b5 (m : LMsg) : Bool := m.ins.any (stray m.keys.length (tot m))
def b6 (m : LMsg) : Bool := decide (¬ m.keys.Nodup)
end Go.Proofs.Ytkhcgclnmdgpbaa

/-
  Of part Role: what is needed here.
-/
namespace Go.Proofs.Ytkhcgclnmdgpbaa
open Go.RowKit
set_option linter.unusedVariables false
set_option maxRecDepth 100000
/-- elements of sz cells each that lie below block B -/
structure CsIn (sz : Nat) (w : World) (B : Nat) (A : Option Addr) (n : Nat) (l : List (List Value)) : Prop where
  len : l.length = n
  each : ∀ k ∈ l, k.length = sz
  sees : Sees w B A (n * sz) l.flatten
theorem cs_flat {sz : Nat} : ∀ {l : List (List Value)}, (∀ k ∈ l, k.length = sz) → l.flatten.length = l.length * sz
  | [], _ => by simp
  | y :: r, h => by
    rw [List.flatten_cons, List.length_append, cs_flat (l := r) (fun z hz => h z (List.mem_cons_of_mem _ hz)), h y (by simp), List.length_cons, Nat.add_mul]
    omega
section
variable {sz n B B' : Nat} {w w' : World} {A : Option Addr} {l : List (List Value)}
theorem CsIn.keep (h : CsIn sz w B A n l) (hk : ∀ p : Addr, p.block < B → w'.cell? p = w.cell? p) : CsIn sz w' B A n l := ⟨h.len, h.each, h.sees.keep hk⟩
theorem CsIn.below (h : CsIn sz w B A n l) (hb : Below B w w') : CsIn sz w' B A n l := ⟨h.len, h.each, h.sees.below hb⟩
theorem CsIn.get (h : CsIn sz w B A n l) {k : Nat} (hk : k < n) (h0 : 0 < sz) : ∃ a x, A = some a ∧ a.block < B ∧ l[k]? = some x ∧ x.length = sz ∧ ∀ j u, x[j]? = some u → w.cell? ((a.add (k * sz)).add j) = some u := by
  obtain ⟨x, hx⟩ : ∃ x, l[k]? = some x := ⟨_, List.getElem?_eq_getElem (by rw [h.len]; exact hk)⟩
  have hxl := h.each x (List.mem_of_getElem? hx)
  have hat := flatten_at sz l k x (fun i y hy => h.each y (List.mem_of_getElem? hy)) hx
  obtain ⟨u0, hu0⟩ : ∃ u, x[0]? = some u := ⟨_, List.getElem?_eq_getElem (by rw [hxl]; exact h0)⟩
  obtain ⟨a, e, hb, _⟩ := h.sees.cell _ _ (hat 0 u0 hu0)
  refine ⟨a, x, e, hb, hx, hxl, fun j u hu => ?_⟩
  obtain ⟨a', e', _, hc⟩ := h.sees.cell _ _ (hat j u hu)
  rw [e] at e'
  cases e'
  rw [addr_add]
  exact hc
theorem CsIn.nil (w : World) (B : Nat) (A : Option Addr) : CsIn sz w B A 0 [] := ⟨rfl, by simp, by rw [Nat.zero_mul]; exact Sees.nil _ _ _⟩
end
/-- a role -/
structure LRole where
  key : List Int
  sg : Bool
  wr : Bool
theorem LRole.ext_iff' {a b : LRole} : a = b ↔ a.key = b.key ∧ a.sg = b.sg ∧ a.wr = b.wr := by
  obtain ⟨x, y, z⟩ := a
  obtain ⟨x', y', z'⟩ := b
  constructor
  · rintro h
    cases h
    exact ⟨rfl, rfl, rfl⟩
  · rintro ⟨h1, h2, h3⟩
    simp only at h1 h2 h3
    rw [h1, h2, h3]
instance : DecidableEq LRole := fun a b => decidable_of_iff (a.key = b.key ∧ a.sg = b.sg ∧ a.wr = b.wr) LRole.ext_iff'.symm
def LRole.cells (r : LRole) : List Value := bv r.key ++ [.bool r.sg, .bool r.wr]
/-- the zero role -/
def r0 : LRole := ⟨List.replicate 32 0, false, false⟩
end Go.Proofs.Ytkhcgclnmdgpbaa

/-
  Of part Example: what is needed here.
-/
namespace Go.Proofs.Ytkhcgclnmdgpbaa
open Go.RowKit
set_option linter.unusedVariables false
set_option maxRecDepth 100000
def xk (a : Int) : List Int := a :: List.replicate 31 0
end Go.Proofs.Ytkhcgclnmdgpbaa

/-
  Of part AppendN: what is needed here.
-/
namespace Go.Proofs.Ytkhcgclnmdgpbaa
open Go.RowKit
set_option linter.unusedVariables false
set_option maxRecDepth 100000
section
variable {P : Program} {w : World} {base : Nat} {t ty e : TypeId} {i : TypeInfo} {z : Value} {size bytes : Nat} {v : Value} {n m c B : Nat} {A : Option Addr} {xs news : List Value}
theorem run_append_nothingN (ht : P.underlying t = some (.slice e)) (hi : P.info? e = some i) (hown : w.ownsRow base e size v n xs) (c : Nat) :
    (Builtin.append_ #[t, t] ty #[v, .slice none 0 c]).run P w = .ok v w := by
  rcases hown.2 with ⟨rfl, rfl⟩ | ⟨g, cap, cur, rfl, _, _, hnc, _⟩ <;>
    simp [Builtin.append_, run_underlying ht, sizeOf, typeInfo, Builtin.lenOf, Builtin.firstCells, storeCells, *]
theorem wp_appendN {o : Oper} {a : Act} {K : Act → World → Prop} {Q : Exit → Act → World → Prop} (s x : Operand) (t e : TypeId) (z : Value) (size bytes : Nat)
    (ho : o.op = .call { callee := .builtin .append, args := #[s, x], argTypes := #[t, t] })
    (ht : P.underlying t = some (.slice e)) (hi : (P.info? e).map (fun i => (i.zero, i.size, i.bytes)) = some (some z, size, bytes)) (hzs : z.cells.size = size) (hs0 : 0 < size)
    (v : Value) (n : Nat) (xs : List Value) (base B : Nat) (A : Option Addr) (m c : Nat) (news : List Value)
    (hs : a.eval s = v) (hown : w.ownsRow base e size v n xs) (hx : a.eval x = .slice A m c) (hr : Sees w B A (m * size) news) (h1 : ∀ u ∈ news, u.oneCell' = true)
    (hnm : n + m ≤ maxLen) (hbytes : (n + m) * bytes ≤ 140737488355328) (hbase : base ≤ w.heap.size)
    (h : ∀ v' w', w'.ownsRow base e size v' (n + m) (xs ++ news) → Grew w w' v v' → K (a.put o.dst v') w') : o.wp P a w K Q := by
  obtain ⟨i0, hi, hz0, hz1, hz2⟩ := info_parts hi
  have hrun : ∃ v' w', (Builtin.append_ #[t, t] o.type #[v, .slice A m c]).run P w = .ok v' w' ∧ w'.ownsRow base e size v' (n + m) (xs ++ news) ∧ Grew w w' v v' := by
    cases A with
    | none =>
      have hn : news = [] := by
        cases news with
        | nil => rfl
        | cons u r =>
          obtain ⟨a, h, _⟩ := hr.cell 0 u rfl
          cases h
      subst hn
      have hl : m * size = 0 := by simpa using hr.len.symm
      obtain rfl : m = 0 := by
        rcases Nat.mul_eq_zero.1 hl with h | h
        · exact h
        · omega
      exact ⟨v, w, run_append_nothingN ht hi hown c, by simpa using hown, Grew.refl _ _⟩
    | some ad =>
      obtain ⟨v', w', hrun, h2, h3, _, h5⟩ := run_append_own_at (P := P) w base t o.type e i0 z size bytes ht hi hz0 hz1 hz2 hzs hs0 v n xs hown ad m c news hr.len
        (fun j u hu => by
          obtain ⟨a, h, _, hc⟩ := hr.cell j u hu
          cases h
          exact hc) h1 hnm hbytes hbase
      refine ⟨v', w', hrun, h2, ⟨h3, fun k hk => ?_⟩⟩
      rcases h5 with h5 | h5
      · exact .inl (h5 ▸ hk)
      · rw [h5] at hk
        cases hk
        exact .inr (Nat.le_refl _)
  obtain ⟨v', w', hr2, h2, h3⟩ := hrun
  unfold Oper.wp execOp
  simp only [ho, resolve, invoke, builtin, Sem.run_bind, Sem.run_pure, Result.andThen_ok, List.map_toArray, List.map_cons, List.map_nil, hs, hx, hr2]
  exact h v' w' h2 h3
end
theorem own_nilN (w : World) (base : Nat) (e : TypeId) (size : Nat) : w.ownsRow base e size (.slice none 0 0) 0 [] := World.ownsRow_nil w base e size
theorem own_form2 {w : World} {base : Nat} {e : TypeId} {size n : Nat} {v : Value} {xs : List Value} (h : w.ownsRow base e size v n xs) : ∃ A c, v = .slice A n c ∧ Sees w w.heap.size A (n * size) xs ∧ n ≤ c ∧ c ≤ maxLen ∧ (∀ g, v.ownBlock = some g → base ≤ g ∧ g < w.heap.size) := by
  have hlt := h.lt
  rcases h.2 with ⟨rfl, rfl⟩ | ⟨g, cap, cur, rfl, hg, hh, h1, h2, h3, h4⟩
  · have hx : xs = [] := List.eq_nil_of_length_eq_zero (by simpa using h.1)
    subst hx
    exact ⟨none, 0, rfl, by rw [Nat.zero_mul]; exact Sees.nil _ _ _, Nat.le_refl _, by simp [maxLen], hlt⟩
  · refine ⟨_, cap, rfl, ⟨h.1, fun j u hu => ⟨_, rfl, (Array.getElem?_eq_some_iff.1 hh).1, h.cells (g := g) rfl j u hu⟩⟩, h1, h2, hlt⟩
end Go.Proofs.Ytkhcgclnmdgpbaa

/-
  Of part Rec12: what is needed here.
-/
namespace Go.Proofs.Ytkhcgclnmdgpbaa
open Go.RowKit
set_option linter.unusedVariables false
set_option maxRecDepth 100000
/-- a variable of many cells is made -/
theorem wp_alloc_zero {P : Program} {o : Oper} {a : Act} {w : World} {K : Act → World → Prop} {Q : Exit → Act → World → Prop} (t : TypeId) (ho : o.op = .alloc t) (z : List Value)
    (hi : (P.info? t).map (·.zero) = some (some (.agg z.toArray))) (h : K (a.put o.dst (.pointer (some ⟨w.heap.size, 0, none⟩))) (w.alloc (.cells z.toArray t))) : o.wp P a w K Q := by
  cases hq : P.info? t with
  | none => simp [hq] at hi
  | some i =>
    have hz : i.zero = some (.agg z.toArray) := by simpa [hq] using hi
    unfold Oper.wp execOp
    simp [ho, Instr.alloc, zeroValue, typeInfo, hq, hz, newVar, newRow, Value.cells]
    exact h
theorem wpList_alloc_zero {P : Program} {ops : Array Oper} {rest : List Oper} {o : Oper} {a : Act} {w : World} {Q : Exit → Act → World → Prop} (hg : o.guard = none) (t : TypeId) (ho : o.op = .alloc t) (z : List Value)
    (hi : (P.info? t).map (·.zero) = some (some (.agg z.toArray))) (h : wpList P ops Q rest (a.put o.dst (.pointer (some ⟨w.heap.size, 0, none⟩))) (w.alloc (.cells z.toArray t))) : wpList P ops Q (o :: rest) a w :=
  wpList_plain hg fun K hK => wp_alloc_zero t ho z hi (hK _ _ h)
/-- a value of many cells is put into a block of its own -/
theorem wpList_box_new {P : Program} {ops : Array Oper} {rest : List Oper} {o : Oper} {a : Act} {w : World} {Q : Exit → Act → World → Prop} (hg : o.guard = none) (t : TypeId) (x : Operand) (ho : o.op = .box t x) (z : List Value)
    (hx : a.eval x = .agg z.toArray) (h : wpList P ops Q rest (a.put o.dst (.pointer (some ⟨w.heap.size, 0, none⟩))) (w.alloc (.cells z.toArray t))) : wpList P ops Q (o :: rest) a w := by
  refine wpList_plain hg fun K hK => ?_
  unfold Oper.wp execOp
  simp [ho, Instr.box, newVar, newRow, Value.cells, hx]
  exact hK _ _ h
end Go.Proofs.Ytkhcgclnmdgpbaa

/-
  Of part Ones17: what is needed here.
-/
namespace Go.Proofs.Ytkhcgclnmdgpbaa
open Go.RowKit
set_option linter.unusedVariables false
set_option maxRecDepth 100000
theorem wrapn17 (a b y : Nat) (h : a + b = y) (hy : y < 18446744073709551616) : IntKind.u64.wrap ((a : Int) + (b : Int)) = (y : Int) := by
  rw [IntKind.wrap_u64]; omega
theorem pop_le17 : ∀ (n x : Nat), pop17 n x ≤ n
  | 0, _ => Nat.le_refl _
  | n + 1, x => by
    have := pop_le17 n (x / 2)
    show x % 2 + pop17 n (x / 2) ≤ n + 1
    omega
theorem and127_17 (z p : Nat) (h : z % 128 = p) : bits .and .i64 (z : Int) 127 = (p : Int) := by
  rw [i64_and127]; omega
theorem list8 {α : Type} {l : List α} (h : l.length = 8) : ∃ a b c d e f g i, l = [a, b, c, d, e, f, g, i] := by
  match l, h with
  | [a, b, c, d, e, f, g, i], _ => exact ⟨a, b, c, d, e, f, g, i, rfl⟩
/-- what the code comes by, as numbers -/
theorem ones_steps17 (x : Nat) (hx : x < 18446744073709551616) : ∃ a1 a2 y c1 c2 z s u v1 v2 v3 : Nat,
    bits .and .u64 ((x : Int) / 2) 6148914691236517205 = (a1 : Int) ∧ bits .and .u64 (x : Int) 6148914691236517205 = (a2 : Int) ∧ IntKind.u64.wrap ((a1 : Int) + (a2 : Int)) = (y : Int) ∧
    bits .and .u64 ((y : Int) / 4) 3689348814741910323 = (c1 : Int) ∧ bits .and .u64 (y : Int) 3689348814741910323 = (c2 : Int) ∧ IntKind.u64.wrap ((c1 : Int) + (c2 : Int)) = (z : Int) ∧
    IntKind.u64.wrap ((z : Int) / 16 + (z : Int)) = (s : Int) ∧ bits .and .u64 (s : Int) 1085102592571150095 = (u : Int) ∧
    IntKind.u64.wrap ((u : Int) + (u : Int) / 256) = (v1 : Int) ∧ IntKind.u64.wrap ((v1 : Int) + (v1 : Int) / 65536) = (v2 : Int) ∧ IntKind.u64.wrap ((v2 : Int) + (v2 : Int) / 4294967296) = (v3 : Int) ∧
    v3 < 9223372036854775808 ∧ bits .and .i64 (v3 : Int) 127 = ((pop17 64 x : Nat) : Int) := by
  obtain ⟨bs, hl, hb, hv, hp⟩ := bytes17 x hx
  have hm : ∀ c : Nat, val17 (bs.map fun _ => c) = val17 (List.replicate 8 c) := fun c => by rw [List.map_const', hl]
  obtain ⟨y, hy⟩ : ∃ y, y = (x / 2 &&& 6148914691236517205) + (x &&& 6148914691236517205) := ⟨_, rfl⟩
  obtain ⟨z, hz⟩ : ∃ z, z = (y / 4 &&& 3689348814741910323) + (y &&& 3689348814741910323) := ⟨_, rfl⟩
  obtain ⟨h1, h2, h3⟩ := steps17 bs hb y z (by rw [hm, hv]; exact hy) (by rw [hm]; exact hz)
  obtain ⟨b0, b1, b2, b3, b4, b5, b6, b7, rfl⟩ := list8 hl
  have hk : ∀ b ∈ [b0, b1, b2, b3, b4, b5, b6, b7], pop17 8 b ≤ 8 := fun b _ => pop_le17 8 b
  simp only [List.mem_cons, List.not_mem_nil, or_false, forall_eq_or_imp, forall_eq] at hk
  obtain ⟨s, hs⟩ : ∃ s, s = z / 16 + z := ⟨_, rfl⟩
  obtain ⟨u, hu⟩ : ∃ u, u = (s &&& 1085102592571150095) := ⟨_, rfl⟩
  have hu2 : u = val17 [pop17 8 b0, pop17 8 b1, pop17 8 b2, pop17 8 b3, pop17 8 b4, pop17 8 b5, pop17 8 b6, pop17 8 b7] := by rw [hu, hs]; rw [hm] at h3; exact h3
  obtain ⟨g1, g2, g3, g4⟩ := sum_bytes17 _ _ _ _ _ _ _ _ u (u + u / 256) (u + u / 256 + (u + u / 256) / 65536) hk hu2 rfl rfl
  have i1 : x / 2 &&& 6148914691236517205 ≤ 6148914691236517205 := Nat.and_le_right
  have i2 : x &&& 6148914691236517205 ≤ 6148914691236517205 := Nat.and_le_right
  have i3 : y / 4 &&& 3689348814741910323 ≤ 3689348814741910323 := Nat.and_le_right
  have i4 : y &&& 3689348814741910323 ≤ 3689348814741910323 := Nat.and_le_right
  have p64 : pop17 64 x = pop17 8 b0 + pop17 8 b1 + pop17 8 b2 + pop17 8 b3 + pop17 8 b4 + pop17 8 b5 + pop17 8 b6 + pop17 8 b7 := by
    rw [hp]; simp only [List.map_cons, List.map_nil, List.sum_cons, List.sum_nil]; omega
  rw [p64, ← g4]
  refine ⟨_, _, y, _, _, z, s, u, u + u / 256, u + u / 256 + (u + u / 256) / 65536, (u + u / 256 + (u + u / 256) / 65536) + (u + u / 256 + (u + u / 256) / 65536) / 4294967296, ?_, u64_and_nat x 6148914691236517205 hx (by omega), wrapn17 _ _ _ hy.symm (by omega), ?_, u64_and_nat y 3689348814741910323 (by omega) (by omega), wrapn17 _ _ _ hz.symm (by omega), ?_, ?_, ?_, ?_, ?_, ?_, and127_17 _ _ rfl⟩
  · rw [show (x : Int) / 2 = ((x / 2 : Nat) : Int) by omega]
    exact u64_and_nat (x / 2) 6148914691236517205 (by omega) (by omega)
  · rw [show (y : Int) / 4 = ((y / 4 : Nat) : Int) by omega]
    exact u64_and_nat (y / 4) 3689348814741910323 (by omega) (by omega)
  · rw [show (z : Int) / 16 = ((z / 16 : Nat) : Int) by omega]
    exact wrapn17 _ _ _ hs.symm (by omega)
  · rw [hu]
    exact u64_and_nat s 1085102592571150095 (by omega) (by omega)
  · rw [show (u : Int) / 256 = ((u / 256 : Nat) : Int) by omega]
    exact wrapn17 _ _ _ rfl (by omega)
  · rw [show ((u + u / 256 : Nat) : Int) / 65536 = (((u + u / 256) / 65536 : Nat) : Int) by omega]
    exact wrapn17 _ _ _ rfl (by omega)
  · rw [show ((u + u / 256 + (u + u / 256) / 65536 : Nat) : Int) / 4294967296 = (((u + u / 256 + (u + u / 256) / 65536) / 4294967296 : Nat) : Int) by omega]
    exact wrapn17 _ _ _ rfl (by omega)
  · omega
set_option maxHeartbeats 1000000 in
theorem ones17 (x : Nat) (w : World) (hx : x < 18446744073709551616) : Calls Try.prog 34 #[.int .u64 x] w fun e w' => e = .returned (.int .i64 ((pop17 64 x : Nat) : Int)) ∧ w = w' := by
  obtain ⟨a1, a2, y, c1, c2, z, s, u, v1, v2, v3, h1, h2, h3, h4, h5, h6, h7, h8, h9, h10, h11, h12, h13⟩ := ones_steps17 x hx
  have hw : IntKind.i64.wrap (v3 : Int) = (v3 : Int) := IntWalk.i64_in _ (by omega)
  generalize pop17 64 x = r at *
  go_enter Try.func34, Try.ntmps34
  go_wp2_with fail
  go_ret
  exact ⟨rfl, rfl⟩
end Go.Proofs.Ytkhcgclnmdgpbaa

/-
  Of part HoldWalk: what is needed here.
-/
namespace Go.Proofs.Ytkhcgclnmdgpbaa
open Go.RowKit Go.Maps
set_option linter.unusedVariables false
set_option maxRecDepth 100000
def i1 : DataW Unit := .lit (.int .i64 1)
end Go.Proofs.Ytkhcgclnmdgpbaa

/-
  Of part MoreWalk: what is needed here.
-/
namespace Go.Proofs.Ytkhcgclnmdgpbaa
open Go.RowKit
set_option linter.unusedVariables false
set_option maxRecDepth 100000
theorem Sees.far {w : World} {B n : Nat} {A : Option Addr} {xs : List Value} (h : Sees w B A n xs) {p : Addr} (hp : ∀ a, A = some a → a.block ≠ p.block) (u : Value) : Sees (w.setCell p u) B A n xs :=
  ⟨h.len, fun i v hv => by
    obtain ⟨a, ha, hb, hc⟩ := h.cell i v hv
    exact ⟨a, ha, hb, (World.cell?_setCell_other w p _ u (fun e => hp a ha (by rw [e, addr_block]))).trans hc⟩⟩
end Go.Proofs.Ytkhcgclnmdgpbaa

/-
  Of part OtherMem: what is needed here.
-/
namespace Go.Proofs.Ytkhcgclnmdgpbaa
open Go.RowKit
set_option linter.unusedVariables false
set_option maxRecDepth 100000
theorem own_is {w : World} {base : Nat} {e : TypeId} {size n g : Nat} {v : Value} {xs : List Value} (h : w.ownsRow base e size v n xs) (hg : v.ownBlock = some g) : ∃ cur, w.heap[g]? = some (.cells cur e (0, 0)) := by
  rcases h.2 with ⟨rfl, _⟩ | ⟨g', cap, cur, rfl, _, hh, _⟩
  · cases hg
  · cases hg
    exact ⟨cur, hh⟩
end Go.Proofs.Ytkhcgclnmdgpbaa

/-
  Of part Slab17: what is needed here.
-/
namespace Go.Proofs.Ytkhcgclnmdgpbaa
open Go.RowKit
set_option linter.unusedVariables false
set_option maxRecDepth 100000
/-- a slab's things, by their numbers -/
abbrev F17 := Nat → Option Int
def up17 (f : F17) (n : Nat) (v : Option Int) : F17 := fun k => if k = n then v else f k
/-- those of one shelf -/
def seg17 (f : F17) (i : Nat) : List (Option Int) := (List.range 64).map fun k => f (i * 64 + k)
section
variable {f : F17} {i k n : Nat} {v : Option Int}
theorem seg_len17 (f : F17) (i : Nat) : (seg17 f i).length = 64 := by simp [seg17]
theorem seg_get17 (hk : k < 64) : (seg17 f i)[k]? = some (f (i * 64 + k)) := by simp [seg17, hk]
theorem seg_up17 (f : F17) (n : Nat) (v : Option Int) : seg17 (up17 f n v) (n / 64) = (seg17 f (n / 64)).set (n % 64) v := by
  refine List.ext_getElem? fun k => ?_
  rw [List.getElem?_set, seg_len17]
  by_cases hk : k < 64
  · rw [seg_get17 hk, seg_get17 hk]
    by_cases h : n % 64 = k
    · rw [if_pos h, if_pos (by omega)]
      simp only [up17]
      rw [if_pos (by omega)]
    · rw [if_neg h]
      simp only [up17]
      rw [if_neg (by omega)]
  · rw [List.getElem?_eq_none (by rw [seg_len17]; omega), List.getElem?_eq_none (by rw [seg_len17]; omega)]
    split
    · rw [if_neg (by omega)]
    · rfl
theorem seg_ne17 (f : F17) (v : Option Int) (h : i ≠ n / 64) : seg17 (up17 f n v) i = seg17 f i := by
  unfold seg17
  refine List.map_congr_left fun k hk => ?_
  have := List.mem_range.1 hk
  simp only [up17]
  rw [if_neg (by omega)]
theorem wd_seg17 (f : F17) (i : Nat) : wd17 (seg17 f i) < 18446744073709551616 := by
  have := wd_lt17 (seg17 f i)
  rw [seg_len17] at this
  exact this
theorem bit_seg17 (hk : k < 64) : (wd17 (seg17 f i)).testBit k = (f (i * 64 + k)).isSome := by
  rw [wd_bit17, List.getD_eq_getElem?_getD, seg_get17 hk]
  rfl
end
def thV17 : Option Nat → Value
  | none => .slice none 0 0
  | some g => .slice (some ⟨g, 0, none⟩) 64 64
/-- the things of one shelf, in memory -/
structure Th17 (w : World) (P : Nat → Prop) (l : List (Option Int)) (t : Option Nat) : Prop where
  no : t = none → ∀ x ∈ l, x = none
  yes : ∀ g, t = some g → P g ∧ ∃ ys : List Value, Row w g 27 ys ∧ ys.length = 64 ∧ ∀ (k : Nat) (x : Int), l[k]? = some (some x) → ys[k]? = some (.int .u64 x)
/-- a slab in memory: what it may write lies in blocks of P -/
structure Slab17 (w : World) (P : Nat → Prop) (sb gb room : Nat) (f : F17) : Prop where
  rm : 1 ≤ room ∧ room ≤ 4096
  out : ∀ n, room ≤ n → f n = none
  top : Row w sb 50 [.int .i64 room, .slice (some ⟨gb, 0, none⟩) ((room + 63) / 64) ((room + 63) / 64)]
  own : P gb
  she : ∃ (xs : List Value) (th : Nat → Option Nat), Row w gb 67 xs ∧ xs.length = (room + 63) / 64 * 2 ∧
    (∀ i, i < (room + 63) / 64 → xs[i * 2]? = some (.int .u64 (wd17 (seg17 f i))) ∧ xs[i * 2 + 1]? = some (thV17 (th i)) ∧ Th17 w P (seg17 f i) (th i)) ∧
    ∀ i j t, i ≠ j → i < (room + 63) / 64 → j < (room + 63) / 64 → th i = some t → th j ≠ some t
/-- nothing but blocks of P is written -/
structure Only17 (P : Nat → Prop) (w w' : World) : Prop where
  os : w'.os = w.os
  tape : w'.tape = w.tape
  output : w'.output = w.output
  size : w.heap.size ≤ w'.heap.size
  block : ∀ k, k < w.heap.size → ¬ P k → w'.heap[k]? = w.heap[k]?
section
variable {w w' w'' : World} {P P' : Nat → Prop} {sb gb room : Nat} {f : F17}
theorem Only17.of {B : Nat} (h : Below B w w') (hB : w.heap.size ≤ B) : Only17 P w w' := ⟨h.os, h.tape, h.output, h.size, fun k hk _ => h.block k (by omega)⟩
theorem Only17.trans (h : Only17 P w w') (h2 : Only17 P w' w'') : Only17 P w w'' :=
  ⟨h2.os.trans h.os, h2.tape.trans h.tape, h2.output.trans h.output, Nat.le_trans h.size h2.size, fun k hk hp => (h2.block k (by have := h.size; omega) hp).trans (h.block k hk hp)⟩
theorem Only17.mono (h : Only17 P w w') (hp : ∀ k, P k → P' k) : Only17 P' w w' := ⟨h.os, h.tape, h.output, h.size, fun k hk hn => h.block k hk fun e => hn (hp k e)⟩
theorem Only17.below {B : Nat} (h : Only17 P w w') (hp : ∀ k, P k → B ≤ k) (hB : B ≤ w.heap.size) : Below B w w' :=
  ⟨h.os, h.tape, h.output, h.size, fun k hk => h.block k (by omega) fun e => by have := hp k e; omega⟩
theorem Th17.keep {l : List (Option Int)} {t : Option Nat} (h : Th17 w P l t) (hk : ∀ k, k < w.heap.size → P k → w'.heap[k]? = w.heap[k]?) : Th17 w' P l t :=
  ⟨h.no, fun g hg => by
    obtain ⟨h1, ys, h2, h3⟩ := h.yes g hg
    exact ⟨h1, ys, ⟨(hk g h2.lt h1).trans h2.is⟩, h3⟩⟩
theorem Slab17.keep (h : Slab17 w P sb gb room f) (hs : w'.heap[sb]? = w.heap[sb]?) (hk : ∀ k, k < w.heap.size → P k → w'.heap[k]? = w.heap[k]?) : Slab17 w' P sb gb room f := by
  obtain ⟨xs, th, h1, h2, h3, h4⟩ := h.she
  exact ⟨h.rm, h.out, ⟨hs.trans h.top.is⟩, h.own, xs, th, ⟨(hk gb h1.lt h.own).trans h1.is⟩, h2, fun i hi => ⟨(h3 i hi).1, (h3 i hi).2.1, (h3 i hi).2.2.keep hk⟩, h4⟩
theorem Slab17.below (h : Slab17 w P sb gb room f) (hb : Below w.heap.size w w') : Slab17 w' P sb gb room f :=
  h.keep (hb.block _ h.top.lt) fun k hk _ => hb.block k hk
theorem Slab17.mono (h : Slab17 w P sb gb room f) (hp : ∀ k, k < w.heap.size → P k → P' k) : Slab17 w P' sb gb room f := by
  obtain ⟨xs, th, h1, h2, h3, h4⟩ := h.she
  exact ⟨h.rm, h.out, h.top, hp _ h1.lt h.own, xs, th, h1, h2, fun i hi => ⟨(h3 i hi).1, (h3 i hi).2.1, (h3 i hi).2.2.no, fun g hg => by
    obtain ⟨k1, ys, k2, k3⟩ := (h3 i hi).2.2.yes g hg
    exact ⟨hp g k2.lt k1, ys, k2, k3⟩⟩, h4⟩
/-- a shelf's cells -/
theorem Slab17.shelf (h : Slab17 w P sb gb room f) {i : Nat} (hi : i < (room + 63) / 64) : ∃ t, w.cell? ⟨gb, i * 2, none⟩ = some (.int .u64 (wd17 (seg17 f i))) ∧ w.cell? ⟨gb, i * 2 + 1, none⟩ = some (thV17 t) ∧ w.frozen? ⟨gb, i * 2, none⟩ = false ∧ w.frozen? ⟨gb, i * 2 + 1, none⟩ = false ∧ Th17 w P (seg17 f i) t ∧ gb < w.heap.size := by
  obtain ⟨xs, th, h1, h2, h3, h4⟩ := h.she
  exact ⟨th i, (h1.cell _).trans (h3 i hi).1, (h1.cell _).trans (h3 i hi).2.1, h1.frozen _, h1.frozen _, (h3 i hi).2.2, h1.lt⟩
end
set_option maxHeartbeats 1000000 in
theorem has17 (q : Addr) (h k : Nat) (w : World) (hc : w.cell? q = some (.int .u64 h)) (hh : h < 18446744073709551616) (hk : k < 64) :
    Calls Try.prog 33 #[.pointer (some q), .int .i64 k] w fun e w' => e = .returned (.bool (h.testBit k)) ∧ w = w' := by
  have h0 : (0 : Int) ≤ k := by omega
  have h1 : (k : Int) ≤ 64 := by omega
  have hdk : (h : Int) / 2 ^ k = ((h / 2 ^ k : Nat) : Int) := by rw [two_pow17]; exact (Int.natCast_ediv h (2 ^ k)).symm
  have hdl := Nat.div_le_self h (2 ^ k)
  obtain ⟨r, hr⟩ : ∃ r, r = (h : Int) / 2 ^ k % 2 := ⟨_, rfl⟩
  have e1 : bits .and .u64 ((h : Int) / 2 ^ k) 1 = r := by
    rw [hr, hdk]
    clear hdk hr
    generalize h / 2 ^ k = d at *
    exact and_one_u64 _ (by omega) (by omega)
  have e2 : (r == 1) = h.testBit k := by
    rw [Bool.eq_iff_iff, ← has_bit17, ← hr, beq_iff_eq]
  clear hdk hdl
  clear hr
  generalize h.testBit k = b at *
  go_enter Try.func33, Try.ntmps33
  go_wp2_with fail
  go_ret
  exact ⟨rfl, rfl⟩
end Go.Proofs.Ytkhcgclnmdgpbaa

/-
  Of part Find17: what is needed here.
-/
namespace Go.Proofs.Ytkhcgclnmdgpbaa
open Go.RowKit
set_option linter.unusedVariables false
set_option maxRecDepth 100000
/-- what find answers -/
def fnd17 (gb i : Nat) : Bool → Value
  | true => .tuple #[.pointer (some ⟨gb, i * 2, none⟩), .int .i64 0]
  | false => .tuple #[.pointer none, .int .i64 11]
section
variable {w w' : World} {P : Nat → Prop} {sb gb room : Nat} {f : F17}
set_option maxHeartbeats 1000000 in
theorem there17 (h : Slab17 w P sb gb room f) : Calls Try.prog 27 #[.pointer (some ⟨sb, 0, none⟩)] w fun e w' => e = .returned (.bool true) ∧ w = w' := by
  have oc1 : w.cell? ⟨sb, 1, none⟩ = _ := h.top.cell 1
  generalize (room + 63) / 64 = m at oc1
  clear h
  go_enter Try.func27, Try.ntmps27
  go_wp2_with fail
  go_ret
  exact ⟨rfl, rfl⟩
set_option maxHeartbeats 1000000 in
theorem find_off17 (h : Slab17 w P sb gb room f) (n : Int) (hn : n < 0 ∨ (room : Int) ≤ n) : Calls Try.prog 30 #[.pointer (some ⟨sb, 0, none⟩), .int .i64 n] w fun e w' => e = .returned (.tuple #[.pointer none, .int .i64 11]) ∧ w = w' := by
  have HT := Lib.hid (there17 h)
  have oc0 : w.cell? ⟨sb, 0, none⟩ = _ := h.top.cell 0
  clear h
  go_enter Try.func30, Try.ntmps30
  go_wp2_with fail
  refine HT.out.mono ?_
  rintro e w1 ⟨rfl, rfl⟩
  by_cases h0 : n < 0
  · go_wp2_with fail
    go_ret2
    exact ⟨rfl, rfl⟩
  · have hr : (room : Int) ≤ n := by omega
    go_wp2_with fail
    go_ret2
    exact ⟨rfl, rfl⟩
set_option maxHeartbeats 400000 in
theorem find17 (h : Slab17 w P sb gb room f) (n : Nat) (z : Int) (hz : z = n) (hn : n < room) : Calls Try.prog 30 #[.pointer (some ⟨sb, 0, none⟩), .int .i64 z] w fun e w' => e = .returned (fnd17 gb (n / 64) (f n).isSome) ∧ w = w' := by
  have HT := Lib.hid (there17 h)
  have oc0 : w.cell? ⟨sb, 0, none⟩ = _ := h.top.cell 0
  have oc1 : w.cell? ⟨sb, 1, none⟩ = _ := h.top.cell 1
  have hrm := h.rm
  obtain ⟨i, hi⟩ : ∃ i, i = n / 64 := ⟨_, rfl⟩
  obtain ⟨j, hj⟩ : ∃ j, j = n % 64 := ⟨_, rfl⟩
  obtain ⟨m, hm⟩ : ∃ m, m = (room + 63) / 64 := ⟨_, rfl⟩
  have him : i < m := by omega
  have hjl : j < 64 := by omega
  obtain ⟨t, hs, _⟩ := h.shelf (i := i) (by omega)
  have HB : Hid ((wd17 (seg17 f i)).testBit j = (f n).isSome) := Lib.hid (by rw [bit_seg17 hjl, hi, hj]; congr 2; omega)
  have hq : z.tdiv 64 = (i : Int) := by rw [hi, Int.tdiv_eq_ediv_of_nonneg (by omega)]; omega
  have hq2 : z.tmod 64 = (j : Int) := by rw [hj, Int.tmod_eq_emod_of_nonneg (by omega)]; omega
  have hq3 : z / 64 = (i : Int) := by rw [hi]; omega
  have hq4 : z % 64 = (j : Int) := by rw [hj]; omega
  have HS := Lib.hid hs
  have HW := Lib.hid (wd_seg17 f i)
  have him' : (i : Int) < m := by omega
  have h0 : ¬ z < 0 := by omega
  have hnr : ¬ (room : Int) ≤ z := by omega
  rw [← hm] at oc1
  rw [← hi]
  have hi64 : i < 64 := by omega
  have d0 : decide (z < 0) = false := decide_eq_false h0
  have d1 : decide ((room : Int) ≤ z) = false := decide_eq_false hnr
  clear h hs hi hj hm hrm hz
  generalize (f n).isSome = b at *
  go_enter Try.func30, Try.ntmps30
  go_wp2_with fail
  refine HT.out.mono ?_
  rintro e w1 ⟨rfl, rfl⟩
  go_wp2_with fail
  refine (has17 _ _ j w HS.out HW.out hjl).mono ?_
  rintro e w1 ⟨rfl, rfl⟩
  rw [HB.out]
  cases b with
  | true =>
    go_wp2_with fail
    go_ret2
    exact ⟨rfl, rfl⟩
  | false =>
    go_wp2_with fail
    go_ret2
    exact ⟨rfl, rfl⟩
end
end Go.Proofs.Ytkhcgclnmdgpbaa

/-
  Of part Free17: what is needed here.
-/
namespace Go.Proofs.Ytkhcgclnmdgpbaa
open Go.RowKit
set_option linter.unusedVariables false
set_option maxRecDepth 100000
def Lst17 (f : F17) (n : Nat) : Prop := (∀ k, k < n → (f k).isSome = true) ∧ f n = none
def FreeDone17 (f : F17) (w : World) (e : Ending) (w' : World) : Prop := (∃ n : Nat, Lst17 f n ∧ e = .returned (.int .i64 n)) ∧ w = w'
section
variable {w w' : World} {P : Nat → Prop} {sb gb room : Nat} {f : F17}
theorem Slab17.has (h : Slab17 w P sb gb room f) {i j : Nat} (hi : i < (room + 63) / 64) (hj : j < 64) :
    Calls Try.prog 33 #[.pointer (some ⟨gb, i * 2, none⟩), .int .i64 j] w fun e w' => e = .returned (.bool (f (i * 64 + j)).isSome) ∧ w = w' := by
  obtain ⟨t, hs, _⟩ := h.shelf hi
  rw [← bit_seg17 hj]
  exact has17 _ _ j w hs (wd_seg17 f i) hj
set_option maxHeartbeats 2000000 in
theorem free17 (h : Slab17 w P sb gb room f) : Calls Try.prog 28 #[.pointer (some ⟨sb, 0, none⟩)] w (FreeDone17 f w) := by
  have oc1 : w.cell? ⟨sb, 1, none⟩ = _ := h.top.cell 1
  have hrm := h.rm
  obtain ⟨m, hm⟩ : ∃ m, m = (room + 63) / 64 := ⟨_, rfl⟩
  have HAS : Hid (∀ i j : Nat, i < m → j < 64 → Calls Try.prog 33 #[.pointer (some ⟨gb, i * 2, none⟩), .int .i64 j] w fun e w' => e = .returned (.bool (f (i * 64 + j)).isSome) ∧ w = w') := Lib.hid fun i j hi hj => h.has (by omega) hj
  have HO : Hid (f (m * 64) = none) := Lib.hid (h.out _ (by omega))
  have hm64 : m ≤ 64 := by omega
  rw [← hm] at oc1
  have HE : Hid (∀ (n : Nat) (z : Int), z = n → Lst17 f n → FreeDone17 f w (.returned (.int .i64 z)) w) := Lib.hid fun n z hz hn => ⟨⟨n, hn, by rw [hz]⟩, rfl⟩
  generalize FreeDone17 f w = D at *
  clear h hm hrm
  go_enter Try.func28, Try.ntmps28
  go_wp2_with fail
  go_step3
  go_wp2_with fail
  go_step3
  go_wp2_with fail
  go_loopw [3, 11] (fun n c wr => ∃ i : Nat, i ≤ m ∧ n = .int .i64 ((i * 64 : Nat) : Int) ∧ c = .int .i64 i ∧ Hid (∀ k, k < i * 64 → (f k).isSome = true) ∧ wr = w) (fun n c _ => m - (intOf c).toNat)
  case atStart => exact ⟨0, Nat.zero_le _, rfl, rfl, Lib.hid (fun k hk => absurd hk (by omega)), rfl⟩
  case round =>
    obtain ⟨i, hi, rfl, rfl, HI, hw⟩ := hrel
    have hw' := hw.symm
    subst hw'
    by_cases hlt : i < m
    · have hlt' : (i : Int) < m := by omega
      go_wp2_with fail
      go_loopw [3, 14] (fun n c wr => ∃ j : Nat, j ≤ 64 ∧ n = .int .i64 ((i * 64 + j : Nat) : Int) ∧ c = .int .i64 j ∧ Hid (∀ k, k < i * 64 + j → (f k).isSome = true) ∧ wr = w) (fun n c _ => 64 - (intOf c).toNat)
      case atStart => exact ⟨0, Nat.zero_le _, rfl, rfl, HI, rfl⟩
      case round =>
        obtain ⟨j, hj, rfl, rfl, HJ, hw⟩ := hrel
        have hw' := hw.symm
        subst hw'
        by_cases hj6 : j < 64
        · have hj6' : (j : Int) < 64 := by omega
          go_wp2_with fail
          refine (HAS.out i j hlt hj6).mono ?_
          rintro e w' ⟨rfl, rfl⟩
          obtain ⟨b, hb⟩ : ∃ b, b = (f (i * 64 + j)).isSome := ⟨_, rfl⟩
          have HBB := Lib.hid hb
          rw [← hb]
          clear hb
          cases b with
          | true =>
            go_wp2_with fail
            go_roundw
            case rel => exact ⟨j + 1, by omega, by go_num, by go_num, Lib.hid (fun k hk => by
              rcases Nat.lt_succ_iff_lt_or_eq.1 (show k < i * 64 + j + 1 by omega) with hk | rfl
              · exact HJ.out k hk
              · exact HBB.out.symm), trivial⟩
            case measure => simp [intOf]; omega
          | false =>
            have hx : Hid (Lst17 f (i * 64 + j)) := Lib.hid ⟨HJ.out, by cases hfn : f (i * 64 + j) with
              | none => rfl
              | some v => have := HBB.out; rw [hfn] at this; cases this⟩
            go_wp2_with fail
            exact HE.out (i * 64 + j) _ (by omega) hx.out
        · have hje : j = 64 := by omega
          have hj6' : ¬ (j : Int) < 64 := by omega
          subst hje
          go_wp2_with fail
          go_roundw
          case rel => exact ⟨i + 1, by omega, by go_num, by go_num, Lib.hid (fun k hk => HJ.out k (by omega)), trivial⟩
          case measure => simp [intOf]; omega
    · have hie : i = m := by omega
      have hlt' : ¬ (i : Int) < m := by omega
      subst hie
      have hx : Hid (Lst17 f (i * 64)) := Lib.hid ⟨HI.out, HO.out⟩
      go_wp2_with fail
      exact HE.out (i * 64) _ (by omega) hx.out
end
end Go.Proofs.Ytkhcgclnmdgpbaa

/-
  Of part Len17: what is needed here.
-/
namespace Go.Proofs.Ytkhcgclnmdgpbaa
open Go.RowKit
set_option linter.unusedVariables false
set_option maxRecDepth 100000
/-- how many of the numbers below n are had -/
def cnt17 (f : F17) (n : Nat) : Nat := (List.range n).countP fun k => (f k).isSome
/-- which -/
def nums17 (f : F17) (n : Nat) : List Nat := (List.range n).filter fun k => (f k).isSome
theorem size_sh17 (x y : Value) : (Try.prog.info? 67).map (·.size) = some [x, y].length := by
  show _ = some 2
  kernel_rfl
theorem zero_sh17 : (Try.prog.info? 67).map (·.zero) = some (some (.agg [.int .u64 0, .slice none 0 0].toArray)) := by kernel_rfl
theorem th_one17 (x : Int) (t : Option Nat) : ∀ u ∈ [Value.int .u64 x, thV17 t], u.oneCell' = true := by
  intro u hu
  simp only [List.mem_cons, List.not_mem_nil, or_false] at hu
  rcases hu with rfl | rfl
  · rfl
  · cases t <;> rfl
section
variable {w w' : World} {P : Nat → Prop} {sb gb room : Nat} {f : F17}
theorem cnt_succ17 (f : F17) (n : Nat) : cnt17 f (n + 1) = cnt17 f n + if (f n).isSome then 1 else 0 := by
  unfold cnt17
  rw [List.range_succ, List.countP_append]
  simp
theorem nums_succ17 (f : F17) (n : Nat) : nums17 f (n + 1) = nums17 f n ++ if (f n).isSome then [n] else [] := by
  unfold nums17
  rw [List.range_succ, List.filter_append]
  congr 1
  cases h : (f n).isSome <;> simp [h]
theorem nums_len17 (f : F17) (n : Nat) : (nums17 f n).length = cnt17 f n := by
  unfold nums17 cnt17
  rw [List.countP_eq_length_filter]
theorem cnt_seg17 (f : F17) (i : Nat) : cnt17 f (i * 64 + 64) = cnt17 f (i * 64) + pop17 64 (wd17 (seg17 f i)) := by
  have h1 := wd_pop17 (seg17 f i)
  rw [seg_len17] at h1
  rw [h1]
  have h2 : ∀ n, cnt17 f (i * 64 + n) = cnt17 f (i * 64) + ((List.range n).map fun k => f (i * 64 + k)).countP Option.isSome := by
    intro n
    induction n with
    | zero => rfl
    | succ n ih =>
      rw [← Nat.add_assoc, cnt_succ17, ih, List.range_succ, List.map_append, List.countP_append]
      simp only [List.map_cons, List.map_nil, List.countP_cons, List.countP_nil]
      omega
  exact h2 64
theorem cnt_le17 (f : F17) (n : Nat) : cnt17 f n ≤ n := by
  have := List.countP_le_length (p := fun k => (f k).isSome) (l := List.range n)
  rw [List.length_range] at this
  exact this
theorem cnt_out17 {f : F17} {room : Nat} (h : ∀ n, room ≤ n → f n = none) : ∀ n, room ≤ n → cnt17 f n = cnt17 f room := fun n hn => by
  induction n with
  | zero => rw [show room = 0 by omega]
  | succ n ih =>
    rcases Nat.lt_or_ge n room with h1 | h1
    · rw [show room = n + 1 by omega]
    · rw [cnt_succ17, ih h1, h n h1]
      rfl
set_option maxHeartbeats 2000000 in
theorem len17 (h : Slab17 w P sb gb room f) : Calls Try.prog 19 #[.pointer (some ⟨sb, 0, none⟩)] w fun e w' => e = .returned (.int .i64 (cnt17 f room)) ∧ Below w.heap.size w w' := by
  have HT := Lib.hid (there17 h)
  have HN : Hid (cnt17 f ((room + 63) / 64 * 64) = cnt17 f room) := Lib.hid (cnt_out17 h.out _ (by omega))
  have hrm := h.rm
  have HH := Lib.hid h
  have oc1 : w.cell? ⟨sb, 1, none⟩ = _ := h.top.cell 1
  obtain ⟨m, hm⟩ : ∃ m, m = (room + 63) / 64 := ⟨_, rfl⟩
  have HM : Hid (m = (room + 63) / 64) := Lib.hid hm
  have hm64 : m ≤ 64 := by omega
  rw [← hm] at oc1 HN
  clear h hm hrm
  go_enter Try.func19, Try.ntmps19
  go_wp2_with fail
  refine HT.out.mono ?_
  rintro e w1 ⟨rfl, rfl⟩
  go_wp2_with fail
  go_loopw [3, 14] (fun n c wr => ∃ i : Nat, i ≤ m ∧ n = .int .i64 (cnt17 f (i * 64) : Nat) ∧ c = .int .i64 i ∧ Hid (Below w.heap.size w wr)) (fun n c _ => m - (intOf c).toNat)
  case atStart => exact ⟨0, Nat.zero_le _, rfl, rfl, Lib.hid (Below.refl _ _)⟩
  case round =>
    obtain ⟨i, hi, rfl, rfl, HB⟩ := hrel
    have hcl := cnt_le17 f (i * 64)
    by_cases hlt : i < m
    · have hlt' : (i : Int) < m := by omega
      obtain ⟨t, h1, h2, _, _, _, h3⟩ := HH.out.shelf (i := i) (by rw [← HM.out]; exact hlt)
      have HX := Lib.hid (wd_seg17 f i)
      have HS := Lib.hid (cnt_seg17 f i)
      obtain ⟨x, hx⟩ : ∃ x, x = wd17 (seg17 f i) := ⟨_, rfl⟩
      rw [← hx] at h1 HX HS
      have HCC : Hid (∀ j u, [Value.int .u64 x, thV17 t][j]? = some u → wr.cell? ((⟨gb, i * 2, none⟩ : Addr).add j) = some u) := Lib.hid fun j u hu => by
        rw [addr_row, HB.out.cell (p := ⟨gb, i * 2 + j, none⟩) h3]
        match j, hu with
        | 0, hu => cases hu; exact h1
        | 1, hu => cases hu; exact h2
      clear h1 h2 h3 hx
      go_upto_region 7 with (first
        | ((with_reducible show wpList _ _ _ ({ dst := some 17, op := Op.load _ _, type := _, pos := _, after := _, guard := _ } :: _) _ _); go_must (refine wpList_load_at rfl 67 (.tmp 16) rfl ⟨gb, i * 2, none⟩ [Value.int .u64 x, thV17 t] _ Try.underlying67 rfl (size_sh17 _ _) HCC.out ?_ ?_; go_simp))
        | ((with_reducible show wpList _ _ _ ({ dst := some 5, op := Op.alloc _, type := _, pos := _, after := _, guard := _ } :: _) _ _); go_must (refine wpList_alloc_zero rfl 67 rfl [.int .u64 0, .slice none 0 0] zero_sh17 ?_))
        | ((with_reducible show wpList _ _ _ ({ dst := none, op := Op.store 67 (.tmp 5) _, type := _, pos := _, after := _, guard := _ } :: _) _ _); go_must (refine wpList_store_new rfl 67 (.tmp 5) (.tmp 17) rfl [Value.int .u64 x, thV17 t] (size_sh17 _ _) (th_one17 _ _) rfl ?_ ?_ ?_; go_simp; go_simp; intro w1 hr1 hb1 hz1)))
      have oc5 : w1.cell? ⟨wr.heap.size, 0, none⟩ = _ := hr1.cell 0
      have HB1 := Lib.hid (HB.out.trans (hb1.mono HB.out.size))
      clear hr1 hb1 hz1
      go_wp2_with fail
      refine (ones17 x w1 HX.out).mono ?_
      rintro e w2 ⟨rfl, rfl⟩
      have hpl := pop_le17 64 x
      have HS2 : Hid ((cnt17 f (i * 64) : Int) + (pop17 64 x : Nat) = (cnt17 f (i * 64 + 64) : Nat)) := Lib.hid (by rw [HS.out]; omega)
      have hn4096 : i * 64 ≤ 4096 := by omega
      generalize cnt17 f (i * 64) = c0 at *
      generalize pop17 64 x = p0 at *
      go_wp2_with fail
      go_roundw
      case rel => exact ⟨i + 1, by omega, by rw [show (i + 1) * 64 = i * 64 + 64 by omega, ← HS2.out], by go_num, HB1⟩
      case measure => simp [intOf]; omega
    · have hie : i = m := by omega
      have hlt' : ¬ (i : Int) < m := by omega
      subst hie
      rw [HN.out]
      go_wp2_with fail
      go_ret
      exact ⟨rfl, HB.out⟩
end
end Go.Proofs.Ytkhcgclnmdgpbaa

/-
  Of part Nums17: what is needed here.
-/
namespace Go.Proofs.Ytkhcgclnmdgpbaa
open Go.RowKit
set_option linter.unusedVariables false
set_option maxRecDepth 100000
/-- a list of numbers of the call's own -/
def OwnI17 (w : World) (base : Nat) (v : Value) (xs : List Int) : Prop := w.ownsRow base 3 1 v xs.length (cv .i64 xs)
theorem info_int17 : (Try.prog.info? 3).map (fun i => (i.zero, i.size, i.bytes)) = some (some (.int .i64 0), 1, 8) := by kernel_rfl
theorem OwnI17.below {w w' : World} {base : Nat} {v : Value} {xs : List Int} (h : OwnI17 w base v xs) (hb : Below w.heap.size w w') : OwnI17 w' base v xs := own_below h hb
theorem OwnI17.nil (w : World) (base : Nat) : OwnI17 w base (.slice none 0 0) [] := ⟨rfl, .inl ⟨rfl, rfl⟩⟩
theorem add_int17 {w : World} {ops : Array Oper} {rest : List Oper} {o : Oper} {a : Act} {Q : Exit → Act → World → Prop} (hgd : o.guard = none) (s x : Operand)
    (ho : o.op = .call { callee := .builtin .append, args := #[s, x], argTypes := #[40, 40] }) (base : Nat) (v : Value) (xs : List Int) (n : Int) (g c : Nat) (hs : a.eval s = v) (hown : OwnI17 w base v xs)
    (hx : a.eval x = .slice (some ⟨g, 0, none⟩) 1 c) (hr : Row w g 3 [.int .i64 n]) (hb : base ≤ w.heap.size) (hl : xs.length ≤ 5000)
    (k : ∀ v' w', OwnI17 w' base v' (xs ++ [n]) → Below base w w' → wpList Try.prog ops Q rest (a.put o.dst v') w') : wpList Try.prog ops Q (o :: rest) a w := by
  obtain ⟨i, hi, hz0, hz1, hz2⟩ := info_parts info_int17
  refine wpList_append_sees hgd s x 40 ho base 3 i (.int .i64 0) 8 Try.underlying40 hi hz0 hz1 hz2 rfl v xs.length (cv .i64 xs) hs hown w.heap.size _ 1 c [.int .i64 n] hx hr.sees0 (fun u hu => by rw [List.mem_singleton.1 hu]; rfl) (by unfold maxLen; omega) (by omega) hb ?_
  intro v' w' ho' hg hv
  refine k v' w' ?_ (below_append (Below.refl base w) hown (Nat.le_refl _) hb hg)
  unfold OwnI17
  rw [List.length_append]
  simp only [cv, List.map_append, List.map_cons, List.map_nil]
  exact ho'
def intsN (l : List Nat) : List Int := l.map fun (n : Nat) => (n : Int)
def NumsDone17 (l : List Nat) (w : World) (e : Ending) (w' : World) : Prop := ∃ v, e = .returned v ∧ OwnI17 w' w.heap.size v (intsN l) ∧ Below w.heap.size w w'
section
variable {w w' : World} {P : Nat → Prop} {sb gb room : Nat} {f : F17}
set_option maxHeartbeats 2000000 in
theorem nums17_ (h : Slab17 w P sb gb room f) : Calls Try.prog 18 #[.pointer (some ⟨sb, 0, none⟩)] w (NumsDone17 (nums17 f room) w) := by
  have HL := Lib.hid (len17 h)
  have HH := Lib.hid h
  have hrm := h.rm
  have hcl := cnt_le17 f room
  have HNL : Hid ((nums17 f room).length = cnt17 f room) := Lib.hid (nums_len17 f room)
  have HEN : Hid (cnt17 f room = 0 → nums17 f room = []) := Lib.hid fun e => List.eq_nil_of_length_eq_zero (by rw [nums_len17, e])
  have HD : Hid (∀ v V, OwnI17 V w.heap.size v (intsN (nums17 f room)) → Below w.heap.size w V → NumsDone17 (nums17 f room) w (.returned v) V) := Lib.hid fun v V h1 h2 => ⟨v, rfl, h1, h2⟩
  clear h
  generalize NumsDone17 (nums17 f room) w = D at *
  generalize hct : cnt17 f room = ct at *
  clear hct
  go_enter Try.func18, Try.ntmps18
  go_wp2_with fail
  refine HL.out.mono ?_
  rintro e w1 ⟨rfl, hb1⟩
  have HB1 := Lib.hid hb1
  clear hb1
  by_cases h0 : ct = 0
  · subst h0
    have HF := Lib.hid (HD.out (.slice none 0 0) w1 (by rw [HEN.out rfl]; exact OwnI17.nil w1 w.heap.size) HB1.out)
    go_wp2_with fail
    exact HF.out
  · have h0' : ¬ (ct : Int) = 0 := by omega
    go_upto_region 5 with (first
      | (at_make; (obtain ⟨i0, hi, hz0, hz1, hz2⟩ := info_parts info_int17); go_must (refine wpList_make_own _ rfl (.const (.int .i64 0)) (.tmp 10) 40 rfl w.heap.size 3 i0 _ 1 Try.underlying40 hi hz0 hz1 .i64 .i64 _ ct rfl ?_ rfl (by rw [hz2]; omega) (by unfold maxLen; omega) HB1.out.size ?_; go_simp; intro w2 hown hgrow)))
    have hb2 := HB1.out.grown hgrow HB1.out.size (fun k hk => by cases hk)
    have HB2 := Lib.hid hb2
    have HO2 : Hid (OwnI17 w2 w.heap.size (.slice (some ⟨w1.heap.size, 0, none⟩) 0 ct) (intsN (nums17 f 0))) := Lib.hid hown
    have oc0 : w2.cell? ⟨sb, 0, none⟩ = _ := (HH.out.below hb2).top.cell 0
    clear hown hgrow hb2
    go_wp2_with fail
    clear oc0
    go_loopw [4, 16] (fun l c wr => ∃ k : Nat, k ≤ room ∧ c = .int .i64 k ∧ Hid (OwnI17 wr w.heap.size l (intsN (nums17 f k))) ∧ Hid (Below w.heap.size w wr)) (fun _ c _ => room - (intOf c).toNat)
    case atStart => exact ⟨0, Nat.zero_le _, rfl, HO2, HB2⟩
    case round =>
      obtain ⟨k, hk, rfl, HO, HB⟩ := hrel
      by_cases hlt : k < room
      · have hlt' : (k : Int) < room := by omega
        obtain ⟨i, hi⟩ : ∃ i, i = k / 64 := ⟨_, rfl⟩
        obtain ⟨j, hj⟩ : ∃ j, j = k % 64 := ⟨_, rfl⟩
        obtain ⟨m, hm⟩ : ∃ m, m = (room + 63) / 64 := ⟨_, rfl⟩
        have him : i < m := by omega
        have hjl : j < 64 := by omega
        have hi64 : i < 64 := by omega
        have him' : (i : Int) < m := by omega
        have hq : (k : Int).tdiv 64 = (i : Int) := by rw [hi, Int.tdiv_eq_ediv_of_nonneg (by omega)]; omega
        have hq2 : (k : Int).tmod 64 = (j : Int) := by rw [hj, Int.tmod_eq_emod_of_nonneg (by omega)]; omega
        have hq3 : (k : Int) / 64 = (i : Int) := by rw [hi]; omega
        have hq4 : (k : Int) % 64 = (j : Int) := by rw [hj]; omega
        have oc1 : wr.cell? ⟨sb, 1, none⟩ = some (.slice (some ⟨gb, 0, none⟩) m m) := by rw [hm]; exact (HH.out.below HB.out).top.cell 1
        have HS : Hid (Calls Try.prog 33 #[.pointer (some ⟨gb, i * 2, none⟩), .int .i64 j] wr fun e w' => e = .returned (.bool (f k).isSome) ∧ wr = w') := Lib.hid (by
          have := (HH.out.below HB.out).has (i := i) (j := j) (by omega) hjl
          rwa [show i * 64 + j = k by omega] at this)
        have HLE : Hid ((intsN (nums17 f k)).length ≤ 5000) := Lib.hid (by
          have h1 := nums_len17 f k
          have h2 := cnt_le17 f k
          unfold intsN
          rw [List.length_map]
          omega)
        clear hi hj hm
        go_wp2_with fail
        refine HS.out.mono ?_
        rintro e w3 ⟨rfl, rfl⟩
        have HNS := Lib.hid (nums_succ17 f k)
        generalize (f k).isSome = b at *
        cases b with
        | false =>
          go_wp2_with fail
          go_roundw
          case rel => exact ⟨k + 1, by omega, by go_num, Lib.hid (by rw [HNS.out]; simpa using HO.out), HB⟩
          case measure => simp [intOf]; omega
        | true =>
          obtain ⟨xs, hxs⟩ : ∃ xs, xs = intsN (nums17 f k) := ⟨_, rfl⟩
          have HXS : Hid (intsN (nums17 f (k + 1)) = xs ++ [(k : Int)]) := Lib.hid (by rw [HNS.out, hxs]; simp [intsN])
          rw [← hxs] at HO HLE
          clear hxs HNS oc1
          have hbw := (Below.refl wr.heap.size wr).alloc (Nat.le_refl _) (.cells #[.int .i64 k] 3)
          have HO3 := Lib.hid (HO.out.below hbw)
          have HB3 := Lib.hid (HB.out.trans (hbw.mono HB.out.size))
          have RX := Lib.hid (Row.new wr 3 [.int .i64 k])
          have HGE := Lib.hid HB.out.size
          clear hbw
          go_wp2_with (first
            | ((with_reducible show wpList _ _ _ ({ dst := some 32, op := _, type := _, pos := _, after := _, guard := _ } :: _) _ _); go_must (refine add_int17 rfl (.tmp 29) (.tmp 31) rfl w.heap.size _ xs k _ 1 (by go_simp) HO3.out (by go_simp) RX.out HB3.out.size HLE.out ?_; intro v4 w4 ho4 hb4))
            | fail)
          go_roundw
          case rel => exact ⟨k + 1, by omega, by go_num, Lib.hid (by rw [HXS.out]; exact ho4), Lib.hid (HB3.out.trans hb4)⟩
          case measure => simp [intOf]; omega
      · have hke : k = room := by omega
        have hlt' : ¬ (k : Int) < room := by omega
        subst hke
        have HF := Lib.hid (HD.out _ wr HO.out HB.out)
        go_wp2_with fail
        exact HF.out
end
end Go.Proofs.Ytkhcgclnmdgpbaa

/-
  Of part New17: what is needed here.
-/
namespace Go.Proofs.Ytkhcgclnmdgpbaa
open Go.RowKit
set_option linter.unusedVariables false
set_option maxRecDepth 100000
def none17 : F17 := fun _ => none
theorem seg_none17 (i : Nat) : ∀ x ∈ seg17 none17 i, x = none := fun x hx => by
  unfold seg17 at hx
  obtain ⟨k, _, rfl⟩ := List.mem_map.1 hx
  rfl
theorem info_sh17 : (Try.prog.info? 67).map (fun i => (i.zero, i.size, i.bytes)) = some (some (.agg [.int .u64 0, .slice none 0 0].toArray), 2, 32) := by kernel_rfl
theorem made_sh17 (m : Nat) : (madeCells (Value.agg [.int .u64 0, .slice none 0 0].toArray).cells (m * 2)).toList.length = m * 2 ∧ ∀ i, i < m → (madeCells (Value.agg [.int .u64 0, .slice none 0 0].toArray).cells (m * 2)).toList[i * 2]? = some (.int .u64 0) ∧ (madeCells (Value.agg [.int .u64 0, .slice none 0 0].toArray).cells (m * 2)).toList[i * 2 + 1]? = some (.slice none 0 0) := by
  refine ⟨by simp [madeCells], fun i hi => ⟨?_, ?_⟩⟩
  · have h1 : i * 2 < m * 2 := by omega
    have h2 : i * 2 % 2 = 0 := by omega
    simp [madeCells, Value.cells, h1, h2]
  · have h1 : i * 2 + 1 < m * 2 := by omega
    have h2 : (i * 2 + 1) % 2 = 1 := by omega
    simp [madeCells, Value.cells, h1, h2]
theorem built_slab17 (z : Int) (g m : Nat) : Try.prog.built 50 [(0, .int .i64 z), (1, .slice (some ⟨g, 0, none⟩) m m)] = some [Value.int .i64 z, .slice (some ⟨g, 0, none⟩) m m].toArray := by kernel_rfl
theorem row_own17 {w : World} {base size n g : Nat} {e : TypeId} {xs : List Value} (h : w.ownsRow base e size (.slice (some ⟨g, 0, none⟩) n n) n xs) : Row w g e xs ∧ xs.length = n * size := by
  refine ⟨?_, h.1⟩
  rcases h.2 with ⟨hv, _⟩ | ⟨g', cap, cur, hv, _, hh, _, _, hs, ht⟩
  · cases hv
  · cases hv
    have : cur = xs.toArray := by
      rw [← ht, List.take_of_length_le (by simp; omega)]
    exact ⟨by rw [hh, this]⟩
section
variable {w w' : World} {P : Nat → Prop}
set_option maxHeartbeats 1000000 in
theorem new_bad17 (z : Int) (hz : z < 1 ∨ 4096 < z) : Calls Try.prog 7 #[.int .i64 z] w fun e w' => e = .returned (.tuple #[.pointer none, .int .i64 1]) ∧ w = w' := by
  by_cases h0 : z < 1
  · have d0 : decide (z < 1) = true := decide_eq_true h0
    go_enter Try.func7, Try.ntmps7
    go_wp2_with fail
    go_ret2
    exact ⟨rfl, rfl⟩
  · have h1 : 4096 < z := by omega
    have d0 : decide (z < 1) = false := decide_eq_false h0
    have d1 : decide (4096 < z) = true := decide_eq_true h1
    go_enter Try.func7, Try.ntmps7
    go_wp2_with fail
    go_ret2
    exact ⟨rfl, rfl⟩
set_option maxHeartbeats 2000000 in
theorem new17 (room : Nat) (z : Int) (hz : z = room) (hr : 1 ≤ room ∧ room ≤ 4096) (hP : ∀ k, w.heap.size ≤ k → P k) : Calls Try.prog 7 #[.int .i64 z] w fun e w' => ∃ sb gb, e = .returned (.tuple #[.pointer (some ⟨sb, 0, none⟩), .int .i64 0]) ∧ Slab17 w' P sb gb room none17 ∧ w.heap.size ≤ sb ∧ w.heap.size ≤ gb ∧ Below w.heap.size w w' := by
  obtain ⟨m, hm⟩ : ∃ m, m = (room + 63) / 64 := ⟨_, rfl⟩
  have d0 : decide (z < 1) = false := decide_eq_false (by omega)
  have d1 : decide (4096 < z) = false := decide_eq_false (by omega)
  have hz1 : 1 ≤ z := by omega
  have hz2 : z ≤ 4096 := by omega
  have hq1 : (z + 64 - 1).tdiv 64 = (m : Int) := by rw [Int.tdiv_eq_ediv_of_nonneg (by omega)]; omega
  have hq2 : (z + 63).tdiv 64 = (m : Int) := by rw [Int.tdiv_eq_ediv_of_nonneg (by omega)]; omega
  have hm64 : m ≤ 64 := by omega
  have HZ := Lib.hid hz
  have HM := Lib.hid hm
  have HP := Lib.hid hP
  clear hz hm hP
  go_enter Try.func7, Try.ntmps7
  go_wp2_with (first
    | (at_make; (obtain ⟨i0, hi, hz0, hz1, hz2⟩ := info_parts info_sh17); go_must (refine wpList_make_full _ rfl (.tmp 14) (.tmp 14) 48 rfl w.heap.size 67 i0 _ 2 Try.underlying48 hi hz0 hz1 .i64 .i64 _ _ m ?_ ?_ rfl rfl (by rw [hz2]; omega) (by unfold maxLen; omega) (Nat.le_refl _) ?_; go_simp; go_simp; intro w1 hown hgrow))
    | ((with_reducible show wpList _ _ _ ({ dst := some 16, op := Op.build _ _, type := _, pos := _, after := _, guard := _ } :: _) _ _); go_must (refine wpList_plain rfl fun K hK => wp_built _ _ _ rfl (by simp only [List.map_toArray, List.map_cons, List.map_nil]; exact (built_slab17 _ _ _)) (hK _ _ ?_)))
    | ((with_reducible show wpList _ _ _ ({ dst := some 17, op := Op.box _ _, type := _, pos := _, after := _, guard := _ } :: _) _ _); go_must (refine wpList_box_new rfl 50 (.tmp 16) rfl [.int .i64 z, .slice (some ⟨w.heap.size, 0, none⟩) m m] ?_ ?_; go_simp))
    | fail)
  go_ret2
  obtain ⟨h1, h2⟩ := made_sh17 m
  have hrow : Row w1 w.heap.size 67 _ ∧ _ := row_own17 hown
  have hb1 := (Below.refl w.heap.size w).grown hgrow (Nat.le_refl _) (fun k hk => by cases hk)
  have hb := hb1.alloc hb1.size (.cells [Value.int .i64 z, .slice (some ⟨w.heap.size, 0, none⟩) m m].toArray 50)
  refine ⟨w1.heap.size, w.heap.size, rfl, ⟨hr, fun _ _ => rfl, ?_, HP.out _ (Nat.le_refl _), _, fun _ => none, hrow.1.alloc _, by rw [h1, HM.out], fun i hi => ⟨?_, ?_, ⟨fun _ => seg_none17 i, fun g hg => by cases hg⟩⟩, fun i j t _ _ _ ht => by cases ht⟩, hb1.size, Nat.le_refl _, hb⟩
  · rw [← HM.out, ← HZ.out]
    exact Row.new w1 50 _
  · rw [wd_zero17.2 (seg_none17 i)]
    exact (h2 i (by rw [HM.out]; exact hi)).1
  · exact (h2 i (by rw [HM.out]; exact hi)).2
end
end Go.Proofs.Ytkhcgclnmdgpbaa

/-
  Of part Resolve: what is needed here.
-/
namespace Go.Proofs.Ytkhcgclnmdgpbaa
open Go.RowKit Go.Maps
set_option linter.unusedVariables false
set_option maxRecDepth 100000
section
variable {w0 V V' : World} {u v u' v' : Value} {a b a' : List (List Int)}
theorem own_row_neN {w : World} {base size n g t : Nat} {e : TypeId} {v : Value} {xs ys : List Value} (h : w.ownsRow base e size v n xs) (hr : Row w g t ys) (hne : e ≠ t) : some g ≠ v.ownBlock := by
  intro hg
  obtain ⟨cur, hc⟩ := own_is h hg.symm
  rw [hr.is] at hc
  injection hc with hc
  injection hc with _ hc
  exact hne hc.symm
end
end Go.Proofs.Ytkhcgclnmdgpbaa

/-
  Of part Lives6: what is needed here.
-/
namespace Go.Proofs.Ytkhcgclnmdgpbaa
open Go.RowKit
set_option linter.unusedVariables false
set_option maxRecDepth 100000
def y1 : List LLook := [⟨xk 9, [2], [0, 1]⟩]
def y2 : List LLook := [⟨xk 9, [], [3]⟩]
end Go.Proofs.Ytkhcgclnmdgpbaa

/-
  Of part Known: what is needed here.
-/
namespace Go.Proofs.Ytkhcgclnmdgpbaa
open Go.RowKit
set_option linter.unusedVariables false
/-- the known programs' keys -/
def k0 : List Int := List.replicate 32 0
def k3 : List Int := 3 :: List.replicate 31 0
end Go.Proofs.Ytkhcgclnmdgpbaa

/-
  Of part Lives7: what is needed here.
-/
namespace Go.Proofs.Ytkhcgclnmdgpbaa
open Go.RowKit
set_option linter.unusedVariables false
set_option maxRecDepth 100000
def xq (a : Int) : List Int := a :: List.replicate 31 0
def e7 : List LRole := [⟨xq 1, true, true⟩, ⟨xq 2, true, false⟩, ⟨xq 4, false, true⟩, ⟨k0, false, false⟩]
end Go.Proofs.Ytkhcgclnmdgpbaa

/-
  Of part Bad8: what is needed here.
-/
namespace Go.Proofs.Ytkhcgclnmdgpbaa
open Go.RowKit
set_option linter.unusedVariables false
set_option maxRecDepth 100000
section
variable {P : Program} {w : World} {o : Oper} {a : Act}
theorem run_head (t e : TypeId) (x j : Operand) (sz : Nat) (ho : o.op = .slice t x none (some j) none) (ht : P.underlying t = some (.slice e)) (hsz : (P.info? e).map (·.size) = some sz)
    (A : Option Addr) (n c k : Nat) (hx : a.eval x = .slice A n c) (hj : a.eval j = .int .i64 k) (hk : k ≤ c) :
    (execOp a.eval o).run P w = .ok (.value (.slice A k c)) w := by
  obtain ⟨ie, hie, hs1⟩ : ∃ i, P.info? e = some i ∧ i.size = sz := by
    cases h : P.info? e with
    | none => rw [h] at hsz; cases hsz
    | some i => rw [h] at hsz; exact ⟨i, rfl, by simpa using hsz⟩
  have he : P.elem t = e := by simp [Program.elem, ht]
  have ht' : P.underlying t = some (.slice (P.elem t)) := by rw [he]; exact ht
  have hso : (sizeOf e).run P w = .ok sz w := by simp [sizeOf, typeInfo, hie, hs1]
  have h0 : (0 : Int) ≤ k := by omega
  have h2 : (k : Int) ≤ c := by omega
  have ha : (if c = 0 then A else A.map (·.add (0 * sz))) = A := by
    split
    · rfl
    · cases A with
      | none => rfl
      | some ad => simp [Addr.add]
  unfold execOp
  simp only [ho, hx, hj, Option.map_some, Option.map_none]
  simp only [Sem.run_bind, run_sliceAt_slice w t _ _ _ _ ht', run_slice_h w t A n c ht' .i64 k h0 h2, he, hso, Result.andThen_ok, sliced, Int.toNat_natCast, Sem.run_pure, Nat.sub_zero, ha]
theorem wpList_head {ops : Array Oper} {rest : List Oper} {Q : Exit → Act → World → Prop} (hgd : o.guard = none) (t e : TypeId) (x j : Operand) (sz : Nat) (ho : o.op = .slice t x none (some j) none) (ht : P.underlying t = some (.slice e)) (hsz : (P.info? e).map (·.size) = some sz)
    (A : Option Addr) (n c k : Nat) (hx : a.eval x = .slice A n c) (hj : a.eval j = .int .i64 k) (hk : k ≤ c)
    (h : wpList P ops Q rest (a.put o.dst (.slice A k c)) w) : wpList P ops Q (o :: rest) a w :=
  wpList_plain hgd fun K hK => by
    unfold Oper.wp
    rw [run_head t e x j sz ho ht hsz A n c k hx hj hk]
    exact hK _ _ h
end
end Go.Proofs.Ytkhcgclnmdgpbaa

/-
  Of part PlayMem12: what is needed here.
-/
namespace Go.Proofs.Ytkhcgclnmdgpbaa
open Go.RowKit
set_option linter.unusedVariables false
set_option maxRecDepth 100000
theorem row_ne12 {V : World} {g g' t t' : Nat} {xs ys : List Value} (h : Row V g t xs) (h' : Row V g' t' ys) (hne : t ≠ t') : g ≠ g' := by
  rintro rfl
  have := h.is.symm.trans h'.is
  injection this with this
  injection this with _ this
  exact hne this
end Go.Proofs.Ytkhcgclnmdgpbaa
