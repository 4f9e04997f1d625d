/-
  Parts joined: PlayWalk.
-/
import Derived.Below
import Derived.Laws.OwnMore
import Derived.Deep.AppendLies
import Derived.Deep.Draws
import Derived.Lib.Hide
import Derived.Laws.MakeOwn
import Derived.Laws.CopyOwn
import Derived.Laws.Rows
import Derived.Laws.BitsAllLaws
import Derived.WalkKit
import Derived.Test.YtdbcbjjomhbhpaaRows
import Derived.WalkSpells
import Derived.WalkLawsBesides
import Derived.IntWalk
import Derived.Maps.AppendAt
import Derived.OwnWalk
import Derived.Deep.MidRow
import Derived.Deep.WholeRow
import Derived.Great.BuildSlice
import Derived.ProofKit
import Derived.OpenShut
import Derived.ShutString
import Derived.ChangeOld
import Derived.Lib.SmallJoins
import Derived.Recover
import Derived.Deep.RegionHeld
import Derived.Deep.QuietTactic
import Derived.BigQuiet
import Derived.Deep.Slices
import Derived.Deep.Strs
import Derived.SizedLaws
import Derived.Maps.OwnSet
import Derived.DeepKeys4
import Derived.WideKeyArr
import Derived.ChangeKeysEq
import Derived.Deep.RegionHeld2
import Derived.Deep.CutBlock
import Derived.Laws.Tables
import Derived.Deep.DeepCutAuto
import Derived.Laws.Slices
import Derived.Laws.EntriesVeiled
import Derived.Deep.RegionHeld3
import Derived.WideKeyEntry
import Derived.Shelf.SlMaps.Clone
import Derived.Test.YtdbcbjjomhbhpaaB1
import Derived.Test.YtdbcbjjomhbhpaaB2
import Derived.Test.YtdbcbjjomhbhpaaB3
import Derived.Test.YtdbcbjjomhbhpaaB4
/-
  Of part PlayWalk: what is needed here.
-/
namespace Go.Proofs.Ytdbcbjjomhbhpaa
open Go.RowKit
set_option linter.unusedVariables false
theorem acells_0 {q : ARaw} {x : LAct} : (ARaw.cells q x)[0]? = some (.int .u8 x.kind) := rfl
/-- at the start -/
theorem PSt.start {w w1 w2 w3 : World} {rb mb ob omb pb qb : Nat} (h1 : Below w.heap.size w w1) (h2 : Below w1.heap.size w1 w2) (hr : Reg w2 rb mb w2.heap.size 0 []) (hmb : mb = w1.heap.size) (hpb : pb = w2.heap.size)
    (h3 : Below (w2.alloc (.cells #[.slice none 0 0] 30)).heap.size (w2.alloc (.cells #[.slice none 0 0] 30)) w3) (ho : Reg w3 ob omb w3.heap.size 0 []) (homb : omb = (w2.alloc (.cells #[.slice none 0 0] 30)).heap.size) (hqb : qb = w3.heap.size) :
    PSt w (w3.alloc (.cells #[.slice none 0 0] 30)) rb mb ob omb pb qb (.slice none 0 0) (.slice none 0 0) [] [] 0 := by
  subst hmb hpb homb hqb
  have b2 := h1.trans (h2.mono h1.size)
  have ba : Below w2.heap.size w2 (w2.alloc (.cells #[.slice none 0 0] 30)) := (Below.refl _ _).alloc (Nat.le_refl _) _
  have b23 : Below w2.heap.size w2 w3 := ba.trans (h3.mono ba.size)
  have bb : Below w3.heap.size w3 (w3.alloc (.cells #[.slice none 0 0] 30)) := (Below.refl _ _).alloc (Nat.le_refl _) _
  have b2V := b23.trans (bb.mono b23.size)
  have hz : (w2.alloc (.cells #[.slice none 0 0] 30)).heap.size = w2.heap.size + 1 := by simp
  have r1 : Row (w2.alloc (.cells #[.slice none 0 0] 30)) w2.heap.size 30 [.slice none 0 0] := Row.new w2 30 [.slice none 0 0]
  have r2 : Row (w3.alloc (.cells #[.slice none 0 0] 30)) w3.heap.size 30 [.slice none 0 0] := Row.new w3 30 [.slice none 0 0]
  have hok : TsOk [] := fun t ht => by cases ht
  refine ⟨b2.trans (b2V.mono b2.size), ⟨0, Nat.le_refl _, (hr.below b2V).more b2V.size (Nat.le_refl _)⟩, ⟨0, Nat.le_refl _, (ho.below bb).more bb.size (Nat.le_refl _)⟩, ⟨(r1.below h3 r1.lt).below bb (r1.below h3 r1.lt).lt, ⟨[], World.ownsRow_nil _ _ _ _, Elems.nil⟩, hok⟩, ⟨r2, ⟨[], World.ownsRow_nil _ _ _ _, Elems.nil⟩, hok⟩, ⟨Nat.le_refl _, Nat.le_refl _⟩, ⟨?_, ?_, fun g e => (by cases e)⟩, ⟨h1.size, b2.size⟩⟩
  · have := h2.size
    rw [hz]
    omega
  · have := h3.size
    rw [hz] at this
    omega
/-- a copy of the reference -/
theorem RReg.fresh {w4 w5 : World} {pb base : Nat} {v u : Value} {ts : List LTab} {S : Nat → Prop} {css : List (List Value)} (h : RReg w4 pb base v ts S) (he : Elems 33 (ET S) w4 0 ts css) (hb : Below w4.heap.size w4 w5) (ho : w5.ownsRow base 67 33 u ts.length css.flatten) :
    RReg (w5.alloc (.cells #[u] 30)) w5.heap.size base u ts (fun g => g < (w5.alloc (.cells #[u] 30)).heap.size) := by
  have ba : Below w5.heap.size w5 (w5.alloc (.cells #[u] 30)) := (Below.refl _ _).alloc (Nat.le_refl _) _
  have b2 := hb.trans (ba.mono hb.size)
  refine ⟨Row.new w5 30 [u], ⟨css, own_below ho ba, he.turn fun cs x hx => ET.keep hx (KeepKeys.below b2) fun g hg _ => Nat.lt_of_lt_of_le hg b2.size⟩, h.good⟩
/-- the book's signs: only t's list is written -/
theorem grown_book {w2 W W0 w9 w10 : World} {tb : Nat} {bs : List Nat} (hb : Below w2.heap.size w2 W) (h0 : Below W.heap.size W W0) (ho : ButOne W.heap.size W.heap.size W0 w9) (ht : OnlyIn bs w9 w10) (hbs : ∀ g ∈ bs, g = tb) : w2.grownBy w10 (some tb) := by
  have h1 := hb.size
  have h2 := h0.size
  have h3 := ho.size
  refine ⟨ht.os.trans (ho.os.trans (h0.os.trans hb.os)), ht.tape.trans (ho.tape.trans (h0.tape.trans hb.tape)), ht.output.trans (ho.output.trans (h0.output.trans hb.output)), by have := ht.size; omega, fun k hk hne => ?_⟩
  exact (ht.block k (by omega) (fun hm => hne (by rw [hbs k hm]))).trans ((ho.block k (by omega) (by omega)).trans ((h0.block k (by omega)).trans (hb.block k hk)))
theorem own_low {w : World} {base base' size n : Nat} {e : TypeId} {v : Value} {xs : List Value} (h : w.ownsRow base e size v n xs) (hb : base' ≤ base) : w.ownsRow base' e size v n xs := by
  refine ⟨h.1, ?_⟩
  rcases h.2 with h2 | ⟨g, cap, cur, hv, hg, r⟩
  · exact .inl h2
  · exact .inr ⟨g, cap, cur, hv, Nat.le_trans hb hg, r⟩
theorem four_apart {S0 S1 S2 S3 : Sl} {l0 h0 l1 h1 l2 h2 : Nat} (k0 : ∀ g, S0.A = some g → l0 ≤ g ∧ g < h0) (k1 : ∀ g, S1.A = some g → l1 ≤ g ∧ g < h1) (k2 : ∀ g, S2.A = some g → l2 ≤ g ∧ g < h2) (k3 : ∀ g, S3.A = some g → l2 ≤ g ∧ g < h2) (h01 : h0 ≤ l1) (h12 : h1 ≤ l2) (hl : l0 ≤ l1 ∧ l1 ≤ h1 ∧ l2 ≤ h2) (hd : ∀ g, S2.A = some g → S3.A ≠ some g) :
    (blocks ([] ++ [(S0, Kd.k)] ++ [(S1, Kd.k)] ++ [(S2, Kd.k)] ++ [(S3, Kd.k)])).Pairwise (· ≠ ·) ∧ ∀ g ∈ blocks ([] ++ [(S0, Kd.k)] ++ [(S1, Kd.k)] ++ [(S2, Kd.k)] ++ [(S3, Kd.k)]), l0 ≤ g ∧ g < h2 := by
  have m0 := fun g hg => k0 g (blocks_one (S0, Kd.k) g hg)
  have m1 := fun g hg => k1 g (blocks_one (S1, Kd.k) g hg)
  have m2 := fun g hg => k2 g (blocks_one (S2, Kd.k) g hg)
  have m3 := fun g hg => k3 g (blocks_one (S3, Kd.k) g hg)
  have p : ∀ y : Sl × Kd, (blocks [y]).Pairwise (· ≠ ·) := fun y => (pair_one y).imp fun h => Nat.ne_of_lt h
  rw [List.nil_append, blocks_app, blocks_app, blocks_app]
  refine ⟨List.pairwise_append.2 ⟨List.pairwise_append.2 ⟨List.pairwise_append.2 ⟨p _, p _, fun a ha b hb => ?_⟩, p _, fun a ha b hb => ?_⟩, p _, fun a ha b hb => ?_⟩, fun g hg => ?_⟩
  · have := m0 a ha; have := m1 b hb; omega
  · have := m2 b hb
    rcases List.mem_append.1 ha with ha | ha
    · have := m0 a ha; omega
    · have := m1 a ha; omega
  · have := m3 b hb
    rcases List.mem_append.1 ha with ha | ha
    · rcases List.mem_append.1 ha with ha | ha
      · have := m0 a ha; omega
      · have := m1 a ha; omega
    · rintro rfl
      exact hd a (blocks_one _ _ ha) (blocks_one _ _ hb)
  · rcases List.mem_append.1 hg with hg | hg
    · rcases List.mem_append.1 hg with hg | hg
      · rcases List.mem_append.1 hg with hg | hg
        · have := m0 g hg; omega
        · have := m1 g hg; omega
      · have := m2 g hg; omega
    · have := m3 g hg; omega
theorem below_book {W W0 w9 w10 : World} {B : Nat} (h0 : Below W.heap.size W W0) (ho : ButOne W.heap.size W.heap.size W0 w9) (ht : Below B w9 w10) (hB : B ≤ W.heap.size) : Below B W w10 :=
  ((h0.mono hB).trans (ho.below hB hB)).trans ht
set_option maxRecDepth 100000 in
set_option maxHeartbeats 32000000 in
theorem play_walk (A : Option Addr) (n c : Nat) (l : List LAct) (w : World) (hl : ActsIn w w.heap.size A n l) (hok : ∀ y ∈ l, ActOk y) (hn : l.length ≤ 140737488355328) :
    Calls Try.prog 3 #[.slice A n c] w fun e w' => e = .returned (.bool true) ∧ Below w.heap.size w w' := by
  have hnl := hl.len
  have HG := Lib.hid (great6 A n c _ l w hl (Nat.le_refl _) (by rw [← hnl]; exact hn) hok)
  have HL := Lib.hid hl
  have HK := Lib.hid hok
  have LN := Lib.hid hnl
  clear hl hok hn hnl
  go_enter Try.func3, Try.ntmps3
  go_wp2_with fail
  refine HG.out.mono ?_
  rintro e w1 ⟨⟨b, rfl, hb⟩, hbel⟩
  have B1 := Lib.hid hbel
  have SM := Lib.hid hb
  clear hb hbel HG
  cases b with
  | true =>
    go_wp2_with fail
    refine (lives6 _).mono ?_
    rintro e w' ⟨rfl, hb⟩
    have HBB := Lib.hid (B1.out.trans (hb.mono B1.out.size))
    clear hb
    go_wp2_with fail
    go_ret
    exact ⟨rfl, HBB.out⟩
  | false =>
    have SA := Lib.hid (SM.out rfl)
    clear SM
    have hn80 : n ≤ 80 := by rw [← LN.out]; exact SA.out.1
    go_wp2_with fail
    refine (newReg w1).mono ?_
    rintro e w2 ⟨rfl, hreg, hb2⟩
    have R2 := Lib.hid hreg
    have B2 := Lib.hid hb2
    clear hreg hb2
    obtain ⟨mb, hmb⟩ : ∃ y, y = w1.heap.size := ⟨_, rfl⟩
    have HMB := Lib.hid hmb
    rw [← hmb] at R2 ⊢
    clear hmb
    obtain ⟨rb, hrb⟩ : ∃ y, y = mb + 1 := ⟨_, rfl⟩
    rw [← hrb] at R2 ⊢
    clear hrb
    go_wp2_with fail
    obtain ⟨pb, hpb⟩ : ∃ y, y = w2.heap.size := ⟨_, rfl⟩
    have HPB := Lib.hid hpb
    have BA : Hid (Below w2.heap.size w2 (w2.alloc (.cells #[.slice none 0 0] 30))) := Lib.hid ((Below.refl _ _).alloc (Nat.le_refl _) _)
    have RC := Lib.hid ((R2.out.below BA.out).more BA.out.size (Nat.le_refl _))
    have HST : Hid (∀ (w3 : World) ob omb qb, Below (w2.alloc (.cells #[.slice none 0 0] 30)).heap.size (w2.alloc (.cells #[.slice none 0 0] 30)) w3 → Reg w3 ob omb w3.heap.size 0 [] → omb = (w2.alloc (.cells #[.slice none 0 0] 30)).heap.size → qb = w3.heap.size → PSt w (w3.alloc (.cells #[.slice none 0 0] 30)) rb mb ob omb pb qb (.slice none 0 0) (.slice none 0 0) [] [] 0) := Lib.hid fun w3 ob omb qb h1 h2 h3 h4 => PSt.start B1.out B2.out R2.out HMB.out HPB.out h1 h2 h3 h4
    rw [← hpb]
    clear hpb
    generalize w2.alloc (.cells #[.slice none 0 0] 30) = W2 at *
    refine (copyReg rb mb _ 0 [] W2 RC.out).mono ?_
    rintro e w3 ⟨rfl, hreg, hb3⟩
    obtain ⟨omb0, homb⟩ : ∃ y, y = W2.heap.size := ⟨_, rfl⟩
    rw [← homb] at hreg ⊢
    obtain ⟨ob0, hob⟩ : ∃ y, y = omb0 + 1 := ⟨_, rfl⟩
    rw [← hob] at hreg ⊢
    have HS0 := Lib.hid (HST.out w3 ob0 omb0 _ hb3 hreg homb rfl)
    clear hreg hb3 homb hob HST RC BA
    go_wp2_with fail
    obtain ⟨qb0, hqb⟩ : ∃ y, y = w3.heap.size := ⟨_, rfl⟩
    rw [← hqb] at HS0 ⊢
    clear hqb
    generalize w3.alloc (.cells #[.slice none 0 0] 30) = W3 at *
    clear R2 B2 HMB HPB
    go_loopw [5, 6, 7] (fun o p i wr => ∃ (k ob omb qb : Nat) (v u : Value) (ts us : List LTab), k ≤ n ∧ o = .pointer (some ⟨ob, 0, none⟩) ∧ p = .pointer (some ⟨qb, 0, none⟩) ∧ i = .int .i64 k ∧ PSt w wr rb mb ob omb pb qb v u ts us k) (fun o p i _ => n - (intOf i).toNat)
    case atStart => exact ⟨0, ob0, omb0, qb0, _, _, _, _, Nat.zero_le _, rfl, rfl, rfl, HS0.out⟩
    case round =>
      clear HS0
      obtain ⟨k, ob, omb, qb, v, u, ts, us, hk, rfl, rfl, rfl, hst⟩ := hrel
      have ST := Lib.hid hst
      clear hst
      by_cases hlt : k < n
      · obtain ⟨a, q, x, rfl, hab, hx, hcs, hin⟩ := HL.out.get hlt
        have hmem := List.mem_of_getElem? hx
        have okx := HK.out x hmem
        have hsm := SA.out.2 x hmem
        obtain ⟨KA, kn, kc, LA, ln, lc⟩ := q
        have htab := hin.tab
        have h0 := acells_0 (q := ⟨KA, kn, kc, LA, ln, lc⟩) (x := x)
        have h33 := acells_33 (q := ⟨KA, kn, kc, LA, ln, lc⟩) htab
        have h34 := acells_34 (q := ⟨KA, kn, kc, LA, ln, lc⟩) htab
        have htb : ∀ j u, (bv x.tab)[j]? = some u → (ARaw.cells ⟨KA, kn, kc, LA, ln, lc⟩ x)[1 + j]? = some u := fun j u h => acells_tab h
        have HSX := Lib.hid (show (Try.prog.info? 32).map (·.size) = some (bv x.tab).length by rw [bv_length, htab]; exact size_key)
        have HSC := Lib.hid (show (Try.prog.info? 36).map (·.size) = some (ARaw.cells ⟨KA, kn, kc, LA, ln, lc⟩ x).length by rw [acells_len htab]; exact size_act)
        have HCL := Lib.hid (acells_len (q := ⟨KA, kn, kc, LA, ln, lc⟩) htab)
        have HC1 := Lib.hid (acells_one (q := ⟨KA, kn, kc, LA, ln, lc⟩) (x := x))
        have HKI : Hid (∀ U : World, Below w.heap.size w U → KeysIn U w.heap.size KA kn x.keys ∧ LooksIn U w.heap.size LA ln x.looks) := Lib.hid fun U hU => ⟨hin.keys.below hU, hin.looks.below hU⟩
        have HKN : Hid (x.keys.length = kn ∧ x.looks.length = ln) := Lib.hid ⟨hin.keys.len, hin.looks.len⟩
        have HSM := Lib.hid hsm
        have HOX := Lib.hid okx
        have hkn4 : kn ≤ 400 := by have := HKN.out.1; have := hsm.1; omega
        have hln4 : ln ≤ 40 := by have := HKN.out.2; have := hsm.2.1; omega
        have hkc := hin.kn
        obtain ⟨cs, hcs'⟩ : ∃ cs, cs = ARaw.cells ⟨KA, kn, kc, LA, ln, lc⟩ x := ⟨_, rfl⟩
        rw [← hcs'] at h0 h33 h34 htb HSC HCL HC1 hcs
        have CA : Hid (∀ j u, cs[j]? = some u → wr.cell? ((a.add (k * 35)).add j) = some u) := Lib.hid fun j u hu => (ST.out.b.cell (by rw [addr_block, addr_block]; exact hab)).trans (hcs j u hu)
        have HSS : Hid (∀ (V : World) bx, Row V bx 36 cs → V.cell? ⟨bx, 0, none⟩ = some (.int .u8 x.kind) ∧ (∀ j u, (bv x.tab)[j]? = some u → V.cell? ((⟨bx, 1, none⟩ : Addr).add j) = some u) ∧ V.cell? ⟨bx, 33, none⟩ = some (.slice KA kn kc) ∧ V.cell? ⟨bx, 34, none⟩ = some (.slice LA ln lc)) := Lib.hid fun V bx hV =>
          ⟨(hV.cell 0).trans h0, fun j u hu => by rw [addr_row, hV.cell]; exact htb j u hu, (hV.cell 33).trans h33, (hV.cell 34).trans h34⟩
        have hkd := okx.kind
        obtain ⟨kd, hkdd⟩ : ∃ kd, kd = x.kind := ⟨_, rfl⟩
        rw [← hkdd] at hkd HSS
        clear hcs' h0 h33 h34 htb htab hcs hin hx hmem hsm okx hkdd hab
        obtain ⟨hkd0, hkd1⟩ := hkd
        obtain ⟨bx, hbx⟩ : ∃ y, y = wr.heap.size := ⟨_, rfl⟩
        go_upto_region 11 with (first
          | ((with_reducible show wpList _ _ _ ({ dst := some 43, op := Op.load _ _, type := _, pos := _, after := _, guard := _ } :: _) _ _); go_must (refine wpList_load_at rfl 36 (.tmp 42) rfl (a.add (k * 35)) cs _ Try.underlying36 rfl HSC.out CA.out ?_ ?_; go_simp))
          | ((with_reducible show wpList _ _ _ ({ dst := none, op := Op.store 36 _ _, type := _, pos := _, after := _, guard := _ } :: _) _ _); go_must (refine wpList_store_new rfl 36 (.tmp 8) (.tmp 43) rfl cs HSC.out HC1.out (by rw [HCL.out]; kernel_rfl) ?_ ?_ ?_; go_simp; go_simp; intro W hr2 hb2 hz2; have RX := Lib.hid hr2; have BW := Lib.hid hb2; clear hr2 hb2 hz2)))
        have S1 := Lib.hid (ST.out.below BW.out)
        rw [← hbx] at RX ⊢
        clear CA BW ST hbx
        obtain ⟨ck, kx, c33, c34⟩ := HSS.out W bx RX.out
        have KX := Lib.hid kx
        clear kx
        go_upto_block 2 with fail
        obtain ⟨rk, hrk⟩ : ∃ y, y = kd % 4 := ⟨_, rfl⟩
        have hr4 : rk = 0 ∨ rk = 1 ∨ rk = 2 ∨ rk = 3 := by omega
        rw [← hrk]
        clear hrk c33 c34 ck KX
        go_cut [5, 6, 9, 10] (fun s5 s6 _ _ wx => ∃ (ob omb qb : Nat) (v u : Value) (ts us : List LTab), s5 = .pointer (some ⟨ob, 0, none⟩) ∧ s6 = .pointer (some ⟨qb, 0, none⟩) ∧ PSt w wx rb mb ob omb pb qb v u ts us (k + 1) ∧ Row wx bx 36 cs)
        case first =>
          rcases hr4 with rfl | rfl | rfl | rfl
          · obtain ⟨ck, kx, c33, c34⟩ := HSS.out W bx RX.out
            go_wp2_with fail
            clear ck kx c33 c34
            refine (twinKeys KA kn kc x.keys W w.heap.size (HKI.out W S1.out.b).1 S1.out.b.size (by omega)).mono ?_
            rintro e wt ⟨tb, rfl, htl, htr, hbt⟩
            have RT := Lib.hid htr
            have TL := Lib.hid htl
            have BT := Lib.hid hbt
            clear htl htr hbt
            obtain ⟨hn, hnk, hreg⟩ := S1.out.r
            have RG := Lib.hid hreg
            clear hreg
            go_wp2_with fail
            have BD : Hid (Below wt.heap.size wt wt.drew) := Lib.hid ⟨rfl, rfl, rfl, Nat.le_refl _, fun _ _ => rfl⟩
            have BTD := Lib.hid (BT.out.trans (BD.out.mono BT.out.size))
            have RTD := Lib.hid (RT.out.below BD.out RT.out.lt)
            have RXD := Lib.hid (RX.out.below BTD.out RX.out.lt)
            have HSW : Hid (∀ (V : World), Row V bx 36 cs → (∀ j u, (bv x.tab)[j]? = some u → V.cell? ((⟨bx, 1, none⟩ : Addr).add j) = some u) ∧ V.cell? ⟨bx, 33, none⟩ = some (.slice KA kn kc)) := Lib.hid fun V h => ⟨(HSS.out V bx h).2.1, (HSS.out V bx h).2.2.1⟩
            have T0 := Lib.hid (HSW.out _ RXD.out)
            refine wp_region_held_drew (S := fun V => (∀ j u, (bv x.tab)[j]? = some u → V.cell? ((⟨bx, 1, none⟩ : Addr).add j) = some u) ∧ V.cell? ⟨bx, 33, none⟩ = some (.slice KA kn kc)) (by kernel_rfl) T0.out (fun _ => ?_)
            clear BT RT BD
            generalize wt.drew = V0 at *
            have HP := Lib.hid (putReg2 rb mb _ hn ts x.tab (some ⟨tb, 0, none⟩) kn (kn + 3) V0.heap.size x.keys V0 (RG.out.below BTD.out) HOX.out.tab (keys_row (ys := keyRow 3 mk0) RTD.out HKN.out.1 HOX.out.keys RTD.out.lt) (Nat.le_refl _) (by omega) (by unfold maxLen; omega))
            have HMID : Hid (∀ e w1, PutTDone2 V0 rb mb W.heap.size hn ts x.tab x.keys e w1 → PMid w W w1 rb mb ob omb pb qb tb v u ts (putT ts x.tab x.keys) us k (bv x.keys.flatten ++ keyRow 3 mk0)) := Lib.hid fun e w1 hd => S1.out.mid BTD.out hnk (RG.out.below BTD.out) RTD.out TL.out hd
            refine takeL (i := 0) (v := ?_) rfl (by kernel_rfl) (by kernel_rfl) (by kernel_rfl) (fun _ _ _ h => h) (Or.inl ⟨by rfl, ?_⟩) T0.out ?_
            rotate_left
            · intro w hw
              try dsimp only at hw
              go_simp
              try with_reducible rfl
            try simp only [Act.put, List.setIfInBounds_toArray, List.set_cons_zero, List.set_cons_succ]
            refine takeL (i := 1) (v := ?_) rfl (by kernel_rfl) (by kernel_rfl) (by kernel_rfl) (fun _ _ _ h => h) (Or.inl ⟨by rfl, ?_⟩) T0.out ?_
            rotate_left
            · intro w hw
              try dsimp only at hw
              go_simp
              try with_reducible rfl
            try simp only [Act.put, List.setIfInBounds_toArray, List.set_cons_zero, List.set_cons_succ]
            refine takeL (i := 2) (v := .agg (bv x.tab).toArray) rfl (by kernel_rfl) (by kernel_rfl) (by kernel_rfl) (fun _ _ _ h => h) (Or.inl ⟨by rfl, fun wz hwz => exec_load_at wz 32 (.tmp 54) rfl ⟨bx, 1, none⟩ (bv x.tab) _ Try.underlying32 rfl HSX.out hwz.1 (by go_simp)⟩) T0.out ?_
            try simp only [Act.put, List.setIfInBounds_toArray, List.set_cons_zero, List.set_cons_succ]
            refine takeL (i := 3) (v := ?_) rfl (by kernel_rfl) (by kernel_rfl) (by kernel_rfl) (fun _ _ _ h => h) (Or.inl ⟨by rfl, ?_⟩) T0.out ?_
            rotate_left
            · intro w hw
              try dsimp only at hw
              go_simp
              try with_reducible rfl
            try simp only [Act.put, List.setIfInBounds_toArray, List.set_cons_zero, List.set_cons_succ]
            refine takeL (i := 5) (v := ?_) rfl (by kernel_rfl) (by kernel_rfl) (by kernel_rfl) (fun _ _ _ h => h) (Or.inl ⟨by rfl, ?_⟩) T0.out ?_
            rotate_left
            · intro w hw
              try dsimp only at hw
              go_simp
              try with_reducible rfl
            try simp only [Act.put, List.setIfInBounds_toArray, List.set_cons_zero, List.set_cons_succ]
            refine takeL (i := 6) (v := ?_) rfl (by kernel_rfl) (by kernel_rfl) (by kernel_rfl) (fun _ _ _ h => h) (Or.inl ⟨by rfl, ?_⟩) T0.out ?_
            rotate_left
            · intro w hw
              try dsimp only at hw
              go_simp
              try with_reducible rfl
            try simp only [Act.put, List.setIfInBounds_toArray, List.set_cons_zero, List.set_cons_succ]
            refine takeL (i := 7) (v := .agg (bv x.tab).toArray) rfl (by kernel_rfl) (by kernel_rfl) (by kernel_rfl) (fun _ _ _ h => h) (Or.inl ⟨by rfl, fun wz hwz => exec_load_at wz 32 (.tmp 59) rfl ⟨bx, 1, none⟩ (bv x.tab) _ Try.underlying32 rfl HSX.out hwz.1 (by go_simp)⟩) T0.out ?_
            try simp only [Act.put, List.setIfInBounds_toArray, List.set_cons_zero, List.set_cons_succ]
            refine takeL (i := 8) (v := ?_) rfl (by kernel_rfl) (by kernel_rfl) (by kernel_rfl) (fun _ _ _ h => h) (Or.inl ⟨by rfl, ?_⟩) T0.out ?_
            rotate_left
            · intro w hw
              try dsimp only at hw
              go_simp
              try with_reducible rfl
            try simp only [Act.put, List.setIfInBounds_toArray, List.set_cons_zero, List.set_cons_succ]
            refine takeL (i := 9) (v := ?_) rfl (by kernel_rfl) (by kernel_rfl) (by kernel_rfl) (fun _ _ _ h => h) (Or.inl ⟨by rfl, ?_⟩) T0.out ?_
            rotate_left
            · intro w hw
              try dsimp only at hw
              obtain ⟨q0, q1⟩ := hw
              go_simp
              try with_reducible rfl
            try simp only [Act.put, List.setIfInBounds_toArray, List.set_cons_zero, List.set_cons_succ]
            refine readyL (i := 4) rfl (by kernel_rfl) (by kernel_rfl) fun K hK => ?_
            go_simp
            refine HP.out.mono ?_
            intro e1 w4 hd
            have he := hd.1.1
            have MID := Lib.hid (HMID.out _ _ hd)
            have RX1 := Lib.hid (RXD.out.grown hd.1.2.2 (fun e => by
              obtain ⟨es, cl, hm⟩ := (RG.out.below BTD.out).is_map
              exact row_ne_map RXD.out hm (Option.some.inj e)))
            clear hd
            subst he
            have T1 := Lib.hid (HSW.out _ RX1.out)
            refine hK.out _ _ T1.out ?_
            clear hK K
            try simp only [Act.put, List.setIfInBounds_toArray, List.set_cons_zero, List.set_cons_succ]
            refine readyL (i := 10) rfl (by kernel_rfl) (by kernel_rfl) fun K hK => ?_
            go_simp
            refine (refPut pb w.heap.size v ts _ x.tab KA kn kc w.heap.size x.keys w4 MID.out.m HOX.out.tab (HKI.out w4 MID.out.b).1 MID.out.b.size (by have := S1.out.len.1; omega) (by unfold maxLen; omega) MID.out.b.size).mono ?_
            intro e2 w5 hd
            have he := hd.1
            obtain ⟨v2, hend, hpk⟩ := MID.out.end_ S1.out hd
            have END := Lib.hid hend
            have RX2 := Lib.hid (hpk.row MID.out.m RX1.out (by decide) (by decide))
            clear hend hpk hd
            subst he
            have T2 := Lib.hid (HSW.out _ RX2.out)
            refine hK.out _ _ T2.out ?_
            clear hK K
            try simp only [Act.put, List.setIfInBounds_toArray, List.set_cons_zero, List.set_cons_succ]
            generalize mayPut ts x.tab x.keys = mp at *
            refine takeL (i := 11) (v := .bool false) rfl (by kernel_rfl) (by kernel_rfl) (by kernel_rfl) (fun _ _ _ h => h) (Or.inl ⟨by rfl, fun wz _ => by go_simp⟩) T2.out ?_
            try simp only [Act.put, List.setIfInBounds_toArray, List.set_cons_zero, List.set_cons_succ]
            refine takeL (i := 12) (v := ?_) rfl (by kernel_rfl) (by kernel_rfl) (by kernel_rfl) (fun _ _ _ h => h) (Or.inl ⟨by rfl, ?_⟩) T2.out ?_
            rotate_left
            · intro w hw
              try dsimp only at hw
              go_simp
              try with_reducible rfl
            try simp only [Act.put, List.setIfInBounds_toArray, List.set_cons_zero, List.set_cons_succ]
            refine takeL (i := 13) (v := ?_) rfl (by kernel_rfl) (by kernel_rfl) (by kernel_rfl) (fun _ _ _ h => h) (Or.inl ⟨by rfl, ?_⟩) T2.out ?_
            rotate_left
            · intro w hw
              try dsimp only at hw
              go_simp
              try with_reducible rfl
            try simp only [Act.put, List.setIfInBounds_toArray, List.set_cons_zero, List.set_cons_succ]
            refine takeL (i := 14) (v := ?_) rfl (by kernel_rfl) (by kernel_rfl) (by kernel_rfl) (fun _ _ _ h => h) (Or.inl ⟨by rfl, ?_⟩) T2.out ?_
            rotate_left
            · intro w hw
              try dsimp only at hw
              go_simp
              try with_reducible rfl
            try simp only [Act.put, List.setIfInBounds_toArray, List.set_cons_zero, List.set_cons_succ]
            refine takeL (i := 15) (v := ?_) rfl (by kernel_rfl) (by kernel_rfl) (by kernel_rfl) (fun _ _ _ h => h) (Or.inl ⟨by rfl, ?_⟩) T2.out ?_
            rotate_left
            · intro w hw
              try dsimp only at hw
              obtain ⟨q0, q1⟩ := hw
              go_simp
              try with_reducible rfl
            try simp only [Act.put, List.setIfInBounds_toArray, List.set_cons_zero, List.set_cons_succ]
            refine readyL (i := 16) rfl (by kernel_rfl) (by kernel_rfl) fun K hK => ?_
            go_simp
            refine (leftKeys tb KA kn kc x.keys w5 w.heap.size END.out.t (HKI.out w5 END.out.b).1 END.out.b.size (by omega)).mono ?_
            rintro e6 w6 ⟨rfl, hb6⟩
            have B6 := Lib.hid hb6
            have RX3 := Lib.hid (RX2.out.below hb6 RX2.out.lt)
            have T3 := Lib.hid (HSW.out _ RX3.out)
            have RT6 := Lib.hid (END.out.t.below hb6 END.out.t.lt)
            clear hb6
            refine hK.out _ _ T3.out ?_
            clear hK K
            try simp only [Act.put, List.setIfInBounds_toArray, List.set_cons_zero, List.set_cons_succ]
            refine takeL (i := 17) (v := ?_) rfl (by kernel_rfl) (by kernel_rfl) (by kernel_rfl) (fun _ _ _ h => h) (Or.inl ⟨by rfl, ?_⟩) T3.out ?_
            rotate_left
            · intro w hw
              try dsimp only at hw
              go_simp
              try with_reducible rfl
            try simp only [Act.put, List.setIfInBounds_toArray, List.set_cons_zero, List.set_cons_succ]
            refine takeL (i := 18) (v := ?_) rfl (by kernel_rfl) (by kernel_rfl) (by kernel_rfl) (fun _ _ _ h => h) (Or.inl ⟨by rfl, ?_⟩) T3.out ?_
            rotate_left
            · intro w hw
              try dsimp only at hw
              go_simp
              try with_reducible rfl
            try simp only [Act.put, List.setIfInBounds_toArray, List.set_cons_zero, List.set_cons_succ]
            refine wpAnyH_done (by kernel_rfl) ?_ _
            go_upto_region 18 with fail
            have BW0 : Hid (Below w6.heap.size w6 (w6.alloc (.cells #[.slice none 0 0] 43))) := Lib.hid ((Below.refl _ _).alloc (Nat.le_refl _) _)
            have HK0 := Lib.hid (Bk.new w6)
            have RT0 := Lib.hid (RT6.out.below BW0.out RT6.out.lt)
            generalize w6.alloc (.cells #[.slice none 0 0] 43) = W0 at *
            go_wp2_with fail
            refine (bkKeys w6.heap.size w6.heap.size [] ⟨some tb, kn, kn + 3⟩ W0 W0 HK0.out (by simp)).mono ?_
            rintro e w9 ⟨rfl, hb9⟩
            have HK9 := Lib.hid hb9
            clear hb9 HK0
            go_wp2_with fail
            refine (apartTo w6.heap.size w6.heap.size _ W0 w9 HK9.out ?_ ?_ ?_).mono ?_
            · intro y hy
              obtain rfl : y = _ := List.mem_singleton.1 hy
              refine ⟨by show kn ≤ kn + 3; omega, by show kn + 3 ≤ _; omega, _, RT0.out, ?_, fun h => absurd h (by show ¬ (32 : Nat) = 64; omega)⟩
              show (kn + 3) * 32 ≤ _
              rw [List.length_append, bv_length, flatten_len _ HOX.out.keys, HKN.out.1, keyRow_len 3 (by rfl)]
              omega
            · exact (pair_one _).imp fun h => Nat.ne_of_lt h
            · intro g hg
              have e := blocks_one _ g hg
              cases e
              have := RT6.out.lt
              omega
            rintro e w10 ⟨rfl, hot⟩
            have HGR := Lib.hid (grown_book (tb := tb) B6.out BW0.out HK9.out.one hot (fun g hg => by have e := blocks_one _ g hg; cases e; rfl))
            clear hot
            have PD := Lib.hid (END.out.done HGR.out S1.out.b.size)
            have RXE := Lib.hid (RX2.out.grown HGR.out (fun e => row_ne RX2.out END.out.t (by decide) (Option.some.inj e)))
            go_wp2_with fail
            go_meet
            exact ⟨ob, omb, qb, v2, u, _, us, rfl, rfl, PD.out, RXE.out⟩
          · obtain ⟨ck, kx, c33, c34⟩ := HSS.out W bx RX.out
            go_wp2_with fail
            clear ck kx c33 c34
            refine (twinKeys KA kn kc x.keys W w.heap.size (HKI.out W S1.out.b).1 S1.out.b.size (by omega)).mono ?_
            rintro e wt ⟨tb, rfl, htl, htr, hbt⟩
            have RT := Lib.hid htr
            have TL := Lib.hid htl
            have BT := Lib.hid hbt
            clear htl htr hbt
            obtain ⟨hn, hnk, hreg⟩ := S1.out.r
            have RG := Lib.hid hreg
            clear hreg
            go_wp2_with fail
            have BD : Hid (Below wt.heap.size wt wt.drew) := Lib.hid ⟨rfl, rfl, rfl, Nat.le_refl _, fun _ _ => rfl⟩
            have BTD := Lib.hid (BT.out.trans (BD.out.mono BT.out.size))
            have RTD := Lib.hid (RT.out.below BD.out RT.out.lt)
            have RXD := Lib.hid (RX.out.below BTD.out RX.out.lt)
            have HSW : Hid (∀ (V : World), Row V bx 36 cs → (∀ j u, (bv x.tab)[j]? = some u → V.cell? ((⟨bx, 1, none⟩ : Addr).add j) = some u) ∧ V.cell? ⟨bx, 33, none⟩ = some (.slice KA kn kc)) := Lib.hid fun V h => ⟨(HSS.out V bx h).2.1, (HSS.out V bx h).2.2.1⟩
            have T0 := Lib.hid (HSW.out _ RXD.out)
            refine wp_region_held_drew (S := fun V => (∀ j u, (bv x.tab)[j]? = some u → V.cell? ((⟨bx, 1, none⟩ : Addr).add j) = some u) ∧ V.cell? ⟨bx, 33, none⟩ = some (.slice KA kn kc)) (by kernel_rfl) T0.out (fun _ => ?_)
            clear BT RT BD
            generalize wt.drew = V0 at *
            have HP := Lib.hid (putReg2 rb mb _ hn ts x.tab (some ⟨tb, 0, none⟩) kn (kn + 3) V0.heap.size x.keys V0 (RG.out.below BTD.out) HOX.out.tab (keys_row (ys := keyRow 3 mk0) RTD.out HKN.out.1 HOX.out.keys RTD.out.lt) (Nat.le_refl _) (by omega) (by unfold maxLen; omega))
            have HMID : Hid (∀ e w1, PutTDone2 V0 rb mb W.heap.size hn ts x.tab x.keys e w1 → PMid w W w1 rb mb ob omb pb qb tb v u ts (putT ts x.tab x.keys) us k (bv x.keys.flatten ++ keyRow 3 mk0)) := Lib.hid fun e w1 hd => S1.out.mid BTD.out hnk (RG.out.below BTD.out) RTD.out TL.out hd
            refine takeL (i := 0) (v := ?_) rfl (by kernel_rfl) (by kernel_rfl) (by kernel_rfl) (fun _ _ _ h => h) (Or.inl ⟨by rfl, ?_⟩) T0.out ?_
            rotate_left
            · intro w hw
              try dsimp only at hw
              go_simp
              try with_reducible rfl
            try simp only [Act.put, List.setIfInBounds_toArray, List.set_cons_zero, List.set_cons_succ]
            refine takeL (i := 1) (v := ?_) rfl (by kernel_rfl) (by kernel_rfl) (by kernel_rfl) (fun _ _ _ h => h) (Or.inl ⟨by rfl, ?_⟩) T0.out ?_
            rotate_left
            · intro w hw
              try dsimp only at hw
              go_simp
              try with_reducible rfl
            try simp only [Act.put, List.setIfInBounds_toArray, List.set_cons_zero, List.set_cons_succ]
            refine takeL (i := 2) (v := .agg (bv x.tab).toArray) rfl (by kernel_rfl) (by kernel_rfl) (by kernel_rfl) (fun _ _ _ h => h) (Or.inl ⟨by rfl, fun wz hwz => exec_load_at wz 32 (.tmp 54) rfl ⟨bx, 1, none⟩ (bv x.tab) _ Try.underlying32 rfl HSX.out hwz.1 (by go_simp)⟩) T0.out ?_
            try simp only [Act.put, List.setIfInBounds_toArray, List.set_cons_zero, List.set_cons_succ]
            refine takeL (i := 3) (v := ?_) rfl (by kernel_rfl) (by kernel_rfl) (by kernel_rfl) (fun _ _ _ h => h) (Or.inl ⟨by rfl, ?_⟩) T0.out ?_
            rotate_left
            · intro w hw
              try dsimp only at hw
              go_simp
              try with_reducible rfl
            try simp only [Act.put, List.setIfInBounds_toArray, List.set_cons_zero, List.set_cons_succ]
            refine takeL (i := 5) (v := ?_) rfl (by kernel_rfl) (by kernel_rfl) (by kernel_rfl) (fun _ _ _ h => h) (Or.inl ⟨by rfl, ?_⟩) T0.out ?_
            rotate_left
            · intro w hw
              try dsimp only at hw
              go_simp
              try with_reducible rfl
            try simp only [Act.put, List.setIfInBounds_toArray, List.set_cons_zero, List.set_cons_succ]
            refine takeL (i := 6) (v := ?_) rfl (by kernel_rfl) (by kernel_rfl) (by kernel_rfl) (fun _ _ _ h => h) (Or.inl ⟨by rfl, ?_⟩) T0.out ?_
            rotate_left
            · intro w hw
              try dsimp only at hw
              go_simp
              try with_reducible rfl
            try simp only [Act.put, List.setIfInBounds_toArray, List.set_cons_zero, List.set_cons_succ]
            refine takeL (i := 7) (v := .agg (bv x.tab).toArray) rfl (by kernel_rfl) (by kernel_rfl) (by kernel_rfl) (fun _ _ _ h => h) (Or.inl ⟨by rfl, fun wz hwz => exec_load_at wz 32 (.tmp 59) rfl ⟨bx, 1, none⟩ (bv x.tab) _ Try.underlying32 rfl HSX.out hwz.1 (by go_simp)⟩) T0.out ?_
            try simp only [Act.put, List.setIfInBounds_toArray, List.set_cons_zero, List.set_cons_succ]
            refine takeL (i := 8) (v := ?_) rfl (by kernel_rfl) (by kernel_rfl) (by kernel_rfl) (fun _ _ _ h => h) (Or.inl ⟨by rfl, ?_⟩) T0.out ?_
            rotate_left
            · intro w hw
              try dsimp only at hw
              go_simp
              try with_reducible rfl
            try simp only [Act.put, List.setIfInBounds_toArray, List.set_cons_zero, List.set_cons_succ]
            refine takeL (i := 9) (v := ?_) rfl (by kernel_rfl) (by kernel_rfl) (by kernel_rfl) (fun _ _ _ h => h) (Or.inl ⟨by rfl, ?_⟩) T0.out ?_
            rotate_left
            · intro w hw
              try dsimp only at hw
              obtain ⟨q0, q1⟩ := hw
              go_simp
              try with_reducible rfl
            try simp only [Act.put, List.setIfInBounds_toArray, List.set_cons_zero, List.set_cons_succ]
            refine readyL (i := 4) rfl (by kernel_rfl) (by kernel_rfl) fun K hK => ?_
            go_simp
            refine HP.out.mono ?_
            intro e1 w4 hd
            have he := hd.1.1
            have MID := Lib.hid (HMID.out _ _ hd)
            have RX1 := Lib.hid (RXD.out.grown hd.1.2.2 (fun e => by
              obtain ⟨es, cl, hm⟩ := (RG.out.below BTD.out).is_map
              exact row_ne_map RXD.out hm (Option.some.inj e)))
            clear hd
            subst he
            have T1 := Lib.hid (HSW.out _ RX1.out)
            refine hK.out _ _ T1.out ?_
            clear hK K
            try simp only [Act.put, List.setIfInBounds_toArray, List.set_cons_zero, List.set_cons_succ]
            refine readyL (i := 10) rfl (by kernel_rfl) (by kernel_rfl) fun K hK => ?_
            go_simp
            refine (refPut pb w.heap.size v ts _ x.tab KA kn kc w.heap.size x.keys w4 MID.out.m HOX.out.tab (HKI.out w4 MID.out.b).1 MID.out.b.size (by have := S1.out.len.1; omega) (by unfold maxLen; omega) MID.out.b.size).mono ?_
            intro e2 w5 hd
            have he := hd.1
            obtain ⟨v2, hend, hpk⟩ := MID.out.end_ S1.out hd
            have END := Lib.hid hend
            have RX2 := Lib.hid (hpk.row MID.out.m RX1.out (by decide) (by decide))
            clear hend hpk hd
            subst he
            have T2 := Lib.hid (HSW.out _ RX2.out)
            refine hK.out _ _ T2.out ?_
            clear hK K
            try simp only [Act.put, List.setIfInBounds_toArray, List.set_cons_zero, List.set_cons_succ]
            generalize mayPut ts x.tab x.keys = mp at *
            refine takeL (i := 11) (v := .bool false) rfl (by kernel_rfl) (by kernel_rfl) (by kernel_rfl) (fun _ _ _ h => h) (Or.inl ⟨by rfl, fun wz _ => by go_simp⟩) T2.out ?_
            try simp only [Act.put, List.setIfInBounds_toArray, List.set_cons_zero, List.set_cons_succ]
            refine takeL (i := 12) (v := ?_) rfl (by kernel_rfl) (by kernel_rfl) (by kernel_rfl) (fun _ _ _ h => h) (Or.inl ⟨by rfl, ?_⟩) T2.out ?_
            rotate_left
            · intro w hw
              try dsimp only at hw
              go_simp
              try with_reducible rfl
            try simp only [Act.put, List.setIfInBounds_toArray, List.set_cons_zero, List.set_cons_succ]
            refine takeL (i := 13) (v := ?_) rfl (by kernel_rfl) (by kernel_rfl) (by kernel_rfl) (fun _ _ _ h => h) (Or.inl ⟨by rfl, ?_⟩) T2.out ?_
            rotate_left
            · intro w hw
              try dsimp only at hw
              go_simp
              try with_reducible rfl
            try simp only [Act.put, List.setIfInBounds_toArray, List.set_cons_zero, List.set_cons_succ]
            refine takeL (i := 14) (v := ?_) rfl (by kernel_rfl) (by kernel_rfl) (by kernel_rfl) (fun _ _ _ h => h) (Or.inl ⟨by rfl, ?_⟩) T2.out ?_
            rotate_left
            · intro w hw
              try dsimp only at hw
              go_simp
              try with_reducible rfl
            try simp only [Act.put, List.setIfInBounds_toArray, List.set_cons_zero, List.set_cons_succ]
            refine takeL (i := 15) (v := ?_) rfl (by kernel_rfl) (by kernel_rfl) (by kernel_rfl) (fun _ _ _ h => h) (Or.inl ⟨by rfl, ?_⟩) T2.out ?_
            rotate_left
            · intro w hw
              try dsimp only at hw
              obtain ⟨q0, q1⟩ := hw
              go_simp
              try with_reducible rfl
            try simp only [Act.put, List.setIfInBounds_toArray, List.set_cons_zero, List.set_cons_succ]
            refine readyL (i := 16) rfl (by kernel_rfl) (by kernel_rfl) fun K hK => ?_
            go_simp
            refine (leftKeys tb KA kn kc x.keys w5 w.heap.size END.out.t (HKI.out w5 END.out.b).1 END.out.b.size (by omega)).mono ?_
            rintro e6 w6 ⟨rfl, hb6⟩
            have B6 := Lib.hid hb6
            have RX3 := Lib.hid (RX2.out.below hb6 RX2.out.lt)
            have T3 := Lib.hid (HSW.out _ RX3.out)
            have RT6 := Lib.hid (END.out.t.below hb6 END.out.t.lt)
            clear hb6
            refine hK.out _ _ T3.out ?_
            clear hK K
            try simp only [Act.put, List.setIfInBounds_toArray, List.set_cons_zero, List.set_cons_succ]
            refine takeL (i := 17) (v := ?_) rfl (by kernel_rfl) (by kernel_rfl) (by kernel_rfl) (fun _ _ _ h => h) (Or.inl ⟨by rfl, ?_⟩) T3.out ?_
            rotate_left
            · intro w hw
              try dsimp only at hw
              go_simp
              try with_reducible rfl
            try simp only [Act.put, List.setIfInBounds_toArray, List.set_cons_zero, List.set_cons_succ]
            refine takeL (i := 18) (v := ?_) rfl (by kernel_rfl) (by kernel_rfl) (by kernel_rfl) (fun _ _ _ h => h) (Or.inl ⟨by rfl, ?_⟩) T3.out ?_
            rotate_left
            · intro w hw
              try dsimp only at hw
              go_simp
              try with_reducible rfl
            try simp only [Act.put, List.setIfInBounds_toArray, List.set_cons_zero, List.set_cons_succ]
            refine wpAnyH_done (by kernel_rfl) ?_ _
            go_upto_region 18 with fail
            have BW0 : Hid (Below w6.heap.size w6 (w6.alloc (.cells #[.slice none 0 0] 43))) := Lib.hid ((Below.refl _ _).alloc (Nat.le_refl _) _)
            have HK0 := Lib.hid (Bk.new w6)
            have RT0 := Lib.hid (RT6.out.below BW0.out RT6.out.lt)
            generalize w6.alloc (.cells #[.slice none 0 0] 43) = W0 at *
            go_wp2_with fail
            refine (bkKeys w6.heap.size w6.heap.size [] ⟨some tb, kn, kn + 3⟩ W0 W0 HK0.out (by simp)).mono ?_
            rintro e w9 ⟨rfl, hb9⟩
            have HK9 := Lib.hid hb9
            clear hb9 HK0
            go_wp2_with fail
            refine (apartTo w6.heap.size w6.heap.size _ W0 w9 HK9.out ?_ ?_ ?_).mono ?_
            · intro y hy
              obtain rfl : y = _ := List.mem_singleton.1 hy
              refine ⟨by show kn ≤ kn + 3; omega, by show kn + 3 ≤ _; omega, _, RT0.out, ?_, fun h => absurd h (by show ¬ (32 : Nat) = 64; omega)⟩
              show (kn + 3) * 32 ≤ _
              rw [List.length_append, bv_length, flatten_len _ HOX.out.keys, HKN.out.1, keyRow_len 3 (by rfl)]
              omega
            · exact (pair_one _).imp fun h => Nat.ne_of_lt h
            · intro g hg
              have e := blocks_one _ g hg
              cases e
              have := RT6.out.lt
              omega
            rintro e w10 ⟨rfl, hot⟩
            have HGR := Lib.hid (grown_book (tb := tb) B6.out BW0.out HK9.out.one hot (fun g hg => by have e := blocks_one _ g hg; cases e; rfl))
            clear hot
            have PD := Lib.hid (END.out.done HGR.out S1.out.b.size)
            have RXE := Lib.hid (RX2.out.grown HGR.out (fun e => row_ne RX2.out END.out.t (by decide) (Option.some.inj e)))
            go_wp2_with fail
            go_meet
            exact ⟨ob, omb, qb, v2, u, _, us, rfl, rfl, PD.out, RXE.out⟩
          · go_wp2_with fail
            obtain ⟨hn, hnk, hreg⟩ := S1.out.r
            refine (copyReg rb mb _ hn ts W hreg).mono ?_
            rintro e w4 ⟨rfl, hro, hb4⟩
            obtain ⟨MA, mc, css, rfl, hse, hel, hc1, hc2⟩ := (S1.out.m.below hb4).open_
            obtain ⟨nts, hnts⟩ : ∃ y, y = ts.length := ⟨_, rfl⟩
            have HNT := Lib.hid hnts
            have cm : w4.cell? ⟨pb, 0, none⟩ = some (.slice MA nts mc) := by rw [hnts]; exact (S1.out.m.below hb4).row.cell 0
            rw [← hnts] at hse hc1
            have SE := Lib.hid hse
            have EL := Lib.hid hel
            have ONE := Lib.hid hel.one
            have B4 := Lib.hid hb4
            have RO := Lib.hid hro
            have HLE : Hid (nts ≤ 80) := Lib.hid (by rw [hnts]; have := S1.out.len.1; omega)
            have RX4 := Lib.hid (RX.out.below hb4 RX.out.lt)
            have MM := Lib.hid (S1.out.m.below hb4)
            clear hreg hro hb4 hse hel hc1 hnts
            have HZ4 : Hid (w.heap.size ≤ w4.heap.size) := Lib.hid (Nat.le_trans S1.out.b.size B4.out.size)
            go_wp2_with ((with_reducible show wpList _ _ _ ({ dst := some 85, op := _, type := _, pos := _, after := _, guard := _ } :: _) _ _); go_must (refine wpList_appendN rfl (.const (.slice none 0 0)) (.tmp 84) 28 67 _ 33 56 rfl Try.underlying28 info_tab zsz_tab (by omega) (.slice none 0 0) 0 [] w4.heap.size w4.heap.size MA nts mc css.flatten rfl (own_nilN _ _ _ _) ?_ SE.out ONE.out (by unfold maxLen; have := HLE.out; omega) (by have := HLE.out; omega) (Nat.le_refl _) ?_; go_simp; intro v5 w5 ho5 hg5; rw [Nat.zero_add, List.nil_append] at ho5; obtain ⟨A5, c5, rfl, _, _, _, hlo5⟩ := own_form2 ho5; have O5 := Lib.hid ho5; have G5 := Lib.hid hg5; have LO5 := Lib.hid hlo5; clear ho5 hg5 hlo5))
            have B5 := Lib.hid ((Below.refl w4.heap.size w4).grown G5.out.grown (Nat.le_refl _) (fun k hk => by cases hk))
            have BA : Hid (Below w5.heap.size w5 (w5.alloc (.cells #[.slice A5 nts c5] 30))) := Lib.hid ((Below.refl _ _).alloc (Nat.le_refl _) _)
            have B46 := Lib.hid (B5.out.trans (BA.out.mono B5.out.size))
            have FR := Lib.hid (MM.out.fresh EL.out B5.out (by rw [← HNT.out]; exact own_low O5.out HZ4.out))
            have PC2 := Lib.hid (S1.out.copy (B4.out.trans (B46.out.mono B4.out.size)) hnk ((RO.out.below B46.out).more B46.out.size (Nat.le_refl _)) (Nat.le_refl _) FR.out (by have := B4.out.size; have := B5.out.size; omega) (fun g e => Nat.le_trans B4.out.size (LO5.out g e).1))
            have RXC := Lib.hid (RX4.out.below B46.out RX4.out.lt)
            go_meet
            exact ⟨_, _, _, _, _, ts, ts, rfl, rfl, PC2.out.up, RXC.out⟩
          · go_wp2_with fail
            go_meet
            exact ⟨ob, omb, qb, v, u, ts, us, rfl, rfl, S1.out.up, RX.out⟩
        case rest =>
          obtain ⟨ob1, omb1, qb1, v1, u1, ts1, us1, rfl, rfl, hst, hrow⟩ := hcut
          have ST := Lib.hid hst
          have RC := Lib.hid hrow
          have HLT := Lib.hid hst.len
          clear hst hrow S1 RX hr4
          obtain ⟨VC, rfl⟩ : ∃ V : World, V = wc := ⟨_, rfl⟩
          have BB0 : Hid (Below VC.heap.size VC VC) := Lib.hid (Below.refl _ _)
          have RX0 := Lib.hid RC.out
          obtain ⟨ck, kx, c33, c34⟩ := HSS.out VC bx RX0.out
          have KX := Lib.hid kx
          clear kx
          go_wp2_with ((with_reducible show wpList _ _ _ ({ dst := some 91, op := Op.load _ _, type := _, pos := _, after := _, guard := _ } :: _) _ _); go_must (refine wpList_load_at rfl 32 (.tmp 90) rfl ⟨bx, 1, none⟩ (bv x.tab) _ Try.underlying32 rfl HSX.out KX.out ?_ ?_; go_simp))
          obtain ⟨fn0, _, freg0⟩ := (ST.out.below BB0.out).r
          refine (findReg rb mb _ fn0 ts1 x.tab VC freg0 HOX.out.tab).mono ?_
          rintro e wf1 ⟨S0, rfl, hS, hb⟩
          have BB1 := Lib.hid (BB0.out.trans (hb.mono BB0.out.size))
          have RX1 := Lib.hid (RX0.out.below hb RX0.out.lt)
          have LZ0 : Hid (VC.heap.size ≤ wf1.heap.size) := Lib.hid hb.size
          have K0 := Lib.hid hS
          have K0_z : Hid (wf1.heap.size ≤ wf1.heap.size) := Lib.hid (Nat.le_refl _)
          have L0 : Hid (VC.heap.size ≤ wf1.heap.size) := Lib.hid hb.size
          clear hS hb freg0 ck c33 c34 KX
          obtain ⟨A0, n0, c0⟩ := S0
          unfold Sl.val
          dsimp only
          obtain ⟨ck, kx, c33, c34⟩ := HSS.out wf1 bx RX1.out
          have KX := Lib.hid kx
          clear kx
          go_wp2_with ((with_reducible show wpList _ _ _ ({ dst := some 98, op := Op.load _ _, type := _, pos := _, after := _, guard := _ } :: _) _ _); go_must (refine wpList_load_at rfl 32 (.tmp 97) rfl ⟨bx, 1, none⟩ (bv x.tab) _ Try.underlying32 rfl HSX.out KX.out ?_ ?_; go_simp))
          refine (refFind pb w.heap.size v1 ts1 _ x.tab wf1 (ST.out.below BB1.out).m HOX.out.tab (by have := HLT.out; omega)).mono ?_
          rintro e wf2 ⟨A1, n1, c1, rfl, hS, _, hb, _⟩
          have BB2 := Lib.hid (BB1.out.trans (hb.mono BB1.out.size))
          have RX2 := Lib.hid (RX1.out.below hb RX1.out.lt)
          have LZ1 : Hid (wf1.heap.size ≤ wf2.heap.size) := Lib.hid hb.size
          have K0' := Lib.hid (K0.out.below (hb.mono K0_z.out))
          have K0_z' : Hid (wf1.heap.size ≤ wf2.heap.size) := Lib.hid (Nat.le_trans K0_z.out hb.size)
          clear K0 K0_z
          have K0 := K0'
          have K0_z := K0_z'
          clear K0' K0_z'
          have K1 := Lib.hid hS
          have K1_z : Hid (wf2.heap.size ≤ wf2.heap.size) := Lib.hid (Nat.le_refl _)
          clear hS hb ck c33 c34 KX
          obtain ⟨ck, kx, c33, c34⟩ := HSS.out wf2 bx RX2.out
          have KX := Lib.hid kx
          clear kx
          go_wp2_with ((with_reducible show wpList _ _ _ ({ dst := some 105, op := Op.load _ _, type := _, pos := _, after := _, guard := _ } :: _) _ _); go_must (refine wpList_load_at rfl 32 (.tmp 104) rfl ⟨bx, 1, none⟩ (bv x.tab) _ Try.underlying32 rfl HSX.out KX.out ?_ ?_; go_simp))
          obtain ⟨fn2, _, freg2⟩ := (ST.out.below BB2.out).o
          refine (findReg ob1 omb1 _ fn2 us1 x.tab wf2 freg2 HOX.out.tab).mono ?_
          rintro e wf3 ⟨S2, rfl, hS, hb⟩
          have BB3 := Lib.hid (BB2.out.trans (hb.mono BB2.out.size))
          have RX3 := Lib.hid (RX2.out.below hb RX2.out.lt)
          have LZ2 : Hid (wf2.heap.size ≤ wf3.heap.size) := Lib.hid hb.size
          have K0' := Lib.hid (K0.out.below (hb.mono K0_z.out))
          have K0_z' : Hid (wf1.heap.size ≤ wf3.heap.size) := Lib.hid (Nat.le_trans K0_z.out hb.size)
          clear K0 K0_z
          have K0 := K0'
          have K0_z := K0_z'
          clear K0' K0_z'
          have K1' := Lib.hid (K1.out.below (hb.mono K1_z.out))
          have K1_z' : Hid (wf2.heap.size ≤ wf3.heap.size) := Lib.hid (Nat.le_trans K1_z.out hb.size)
          clear K1 K1_z
          have K1 := K1'
          have K1_z := K1_z'
          clear K1' K1_z'
          have K2 := Lib.hid hS
          have K2_z : Hid (wf3.heap.size ≤ wf3.heap.size) := Lib.hid (Nat.le_refl _)
          have L2 : Hid (wf2.heap.size ≤ wf3.heap.size) := Lib.hid hb.size
          clear hS hb freg2 ck c33 c34 KX
          obtain ⟨A2, n2, c2⟩ := S2
          unfold Sl.val
          dsimp only
          obtain ⟨ck, kx, c33, c34⟩ := HSS.out wf3 bx RX3.out
          have KX := Lib.hid kx
          clear kx
          go_wp2_with ((with_reducible show wpList _ _ _ ({ dst := some 112, op := Op.load _ _, type := _, pos := _, after := _, guard := _ } :: _) _ _); go_must (refine wpList_load_at rfl 32 (.tmp 111) rfl ⟨bx, 1, none⟩ (bv x.tab) _ Try.underlying32 rfl HSX.out KX.out ?_ ?_; go_simp))
          refine (refFind qb1 w.heap.size u1 us1 _ x.tab wf3 (ST.out.below BB3.out).p HOX.out.tab (by have := HLT.out; omega)).mono ?_
          rintro e wf4 ⟨A3, n3, c3, rfl, hS, _, hb, _⟩
          have BB4 := Lib.hid (BB3.out.trans (hb.mono BB3.out.size))
          have RX4 := Lib.hid (RX3.out.below hb RX3.out.lt)
          have LZ3 : Hid (wf3.heap.size ≤ wf4.heap.size) := Lib.hid hb.size
          have K0' := Lib.hid (K0.out.below (hb.mono K0_z.out))
          have K0_z' : Hid (wf1.heap.size ≤ wf4.heap.size) := Lib.hid (Nat.le_trans K0_z.out hb.size)
          clear K0 K0_z
          have K0 := K0'
          have K0_z := K0_z'
          clear K0' K0_z'
          have K1' := Lib.hid (K1.out.below (hb.mono K1_z.out))
          have K1_z' : Hid (wf2.heap.size ≤ wf4.heap.size) := Lib.hid (Nat.le_trans K1_z.out hb.size)
          clear K1 K1_z
          have K1 := K1'
          have K1_z := K1_z'
          clear K1' K1_z'
          have K2' := Lib.hid (K2.out.below (hb.mono K2_z.out))
          have K2_z' : Hid (wf3.heap.size ≤ wf4.heap.size) := Lib.hid (Nat.le_trans K2_z.out hb.size)
          clear K2 K2_z
          have K2 := K2'
          have K2_z := K2_z'
          clear K2' K2_z'
          have K3 := Lib.hid hS
          have K3_z : Hid (wf4.heap.size ≤ wf4.heap.size) := Lib.hid (Nat.le_refl _)
          clear hS hb ck c33 c34 KX
          obtain rfl : n0 = n1 := K0.out.keys.len.symm.trans K1.out.len
          obtain rfl : n2 = n3 := K2.out.keys.len.symm.trans K3.out.len
          generalize fErr ts1 x.tab = fe1 at *
          generalize fErr us1 x.tab = fe2 at *
          go_wp2_with fail
          refine (sameKeys _ _ n0 c0 c1 _ wf4 _ _ K0.out.keys K1.out (Nat.le_trans K0.out.cap.1 K0.out.cap.2)).mono ?_
          rintro e wf5 ⟨rfl, k5, hw5⟩
          have hb : Below wf4.heap.size wf4 wf5 := by rw [hw5]; exact below_drewN (Below.refl _ _) k5
          have BB5 := Lib.hid (BB4.out.trans (hb.mono BB4.out.size))
          have RX5 := Lib.hid (RX4.out.below hb RX4.out.lt)
          have LZ4 : Hid (wf4.heap.size ≤ wf5.heap.size) := Lib.hid hb.size
          have K0' := Lib.hid (K0.out.below (hb.mono K0_z.out))
          have K0_z' : Hid (wf1.heap.size ≤ wf5.heap.size) := Lib.hid (Nat.le_trans K0_z.out hb.size)
          clear K0 K0_z
          have K0 := K0'
          have K0_z := K0_z'
          clear K0' K0_z'
          have K1' := Lib.hid (K1.out.below (hb.mono K1_z.out))
          have K1_z' : Hid (wf2.heap.size ≤ wf5.heap.size) := Lib.hid (Nat.le_trans K1_z.out hb.size)
          clear K1 K1_z
          have K1 := K1'
          have K1_z := K1_z'
          clear K1' K1_z'
          have K2' := Lib.hid (K2.out.below (hb.mono K2_z.out))
          have K2_z' : Hid (wf3.heap.size ≤ wf5.heap.size) := Lib.hid (Nat.le_trans K2_z.out hb.size)
          clear K2 K2_z
          have K2 := K2'
          have K2_z := K2_z'
          clear K2' K2_z'
          have K3' := Lib.hid (K3.out.below (hb.mono K3_z.out))
          have K3_z' : Hid (wf4.heap.size ≤ wf5.heap.size) := Lib.hid (Nat.le_trans K3_z.out hb.size)
          clear K3 K3_z
          have K3 := K3'
          have K3_z := K3_z'
          clear K3' K3_z'
          clear hb hw5
          go_wp2_with fail
          refine (sameKeys _ _ n2 c2 c3 _ wf5 _ _ K2.out.keys K3.out (Nat.le_trans K2.out.cap.1 K2.out.cap.2)).mono ?_
          rintro e wf6 ⟨rfl, k5, hw5⟩
          have hb : Below wf5.heap.size wf5 wf6 := by rw [hw5]; exact below_drewN (Below.refl _ _) k5
          have BB6 := Lib.hid (BB5.out.trans (hb.mono BB5.out.size))
          have RX6 := Lib.hid (RX5.out.below hb RX5.out.lt)
          have LZ5 : Hid (wf5.heap.size ≤ wf6.heap.size) := Lib.hid hb.size
          have K0' := Lib.hid (K0.out.below (hb.mono K0_z.out))
          have K0_z' : Hid (wf1.heap.size ≤ wf6.heap.size) := Lib.hid (Nat.le_trans K0_z.out hb.size)
          clear K0 K0_z
          have K0 := K0'
          have K0_z := K0_z'
          clear K0' K0_z'
          have K1' := Lib.hid (K1.out.below (hb.mono K1_z.out))
          have K1_z' : Hid (wf2.heap.size ≤ wf6.heap.size) := Lib.hid (Nat.le_trans K1_z.out hb.size)
          clear K1 K1_z
          have K1 := K1'
          have K1_z := K1_z'
          clear K1' K1_z'
          have K2' := Lib.hid (K2.out.below (hb.mono K2_z.out))
          have K2_z' : Hid (wf3.heap.size ≤ wf6.heap.size) := Lib.hid (Nat.le_trans K2_z.out hb.size)
          clear K2 K2_z
          have K2 := K2'
          have K2_z := K2_z'
          clear K2' K2_z'
          have K3' := Lib.hid (K3.out.below (hb.mono K3_z.out))
          have K3_z' : Hid (wf4.heap.size ≤ wf6.heap.size) := Lib.hid (Nat.le_trans K3_z.out hb.size)
          clear K3 K3_z
          have K3 := K3'
          have K3_z := K3_z'
          clear K3' K3_z'
          clear hb hw5
          clear K1 K1_z K3 K3_z
          obtain ⟨ck, kx, c33, c34⟩ := HSS.out wf6 bx RX6.out
          have KX := Lib.hid kx
          clear kx
          go_wp2_with fail
          obtain ⟨fn6, _, freg6⟩ := (ST.out.below BB6.out).r
          refine (resolveReg rb mb _ fn6 ts1 LA ln lc w.heap.size x.looks wf6 freg6 (HKI.out wf6 (ST.out.below BB6.out).b).2 (ST.out.below BB6.out).b.size HOX.out.looks (by omega) (by have := HSM.out.2.2; omega)).mono ?_
          rintro e wf7 ⟨S4, S5, rfl, hS, hS', ⟨hd, hc4, hc5⟩, hb⟩
          have BB7 := Lib.hid (BB6.out.trans (hb.mono BB6.out.size))
          have RX7 := Lib.hid (RX6.out.below hb RX6.out.lt)
          have LZ6 : Hid (wf6.heap.size ≤ wf7.heap.size) := Lib.hid hb.size
          have K0' := Lib.hid (K0.out.below (hb.mono K0_z.out))
          have K0_z' : Hid (wf1.heap.size ≤ wf7.heap.size) := Lib.hid (Nat.le_trans K0_z.out hb.size)
          clear K0 K0_z
          have K0 := K0'
          have K0_z := K0_z'
          clear K0' K0_z'
          have K2' := Lib.hid (K2.out.below (hb.mono K2_z.out))
          have K2_z' : Hid (wf3.heap.size ≤ wf7.heap.size) := Lib.hid (Nat.le_trans K2_z.out hb.size)
          clear K2 K2_z
          have K2 := K2'
          have K2_z := K2_z'
          clear K2' K2_z'
          have HD := Lib.hid hd
          have K4 := Lib.hid hS
          have K5 := Lib.hid hS'
          have K4_z : Hid (wf7.heap.size ≤ wf7.heap.size) := Lib.hid (Nat.le_refl _)
          have K5_z := K4_z
          have L6 : Hid (wf4.heap.size ≤ wf6.heap.size ∧ wf6.heap.size ≤ wf7.heap.size) := Lib.hid ⟨Nat.le_trans LZ4.out LZ5.out, hb.size⟩
          clear hS hS' hd hb freg6 ck c33 c34 KX
          obtain ⟨A4, n4, c4⟩ := S4
          obtain ⟨A5, n5, c5⟩ := S5
          obtain rfl : c4 = n4 := hc4
          obtain rfl : c5 = n5 := hc5
          unfold Sl.val
          dsimp only
          obtain ⟨ck, kx, c33, c34⟩ := HSS.out wf7 bx RX7.out
          have KX := Lib.hid kx
          clear kx
          go_wp2_with fail
          refine (refResolve pb w.heap.size v1 ts1 _ LA ln lc w.heap.size x.looks wf7 (ST.out.below BB7.out).m (HKI.out wf7 (ST.out.below BB7.out).b).2 (ST.out.below BB7.out).b.size HOX.out.looks (by omega) (by have := HSM.out.2.2; omega) (by have := HLT.out; omega)).mono ?_
          rintro e wf8 ⟨A6, n6, c6, A7, n7, c7, rfl, hS, hS', hb⟩
          have BB8 := Lib.hid (BB7.out.trans (hb.mono BB7.out.size))
          have RX8 := Lib.hid (RX7.out.below hb RX7.out.lt)
          have LZ7 : Hid (wf7.heap.size ≤ wf8.heap.size) := Lib.hid hb.size
          have K0' := Lib.hid (K0.out.below (hb.mono K0_z.out))
          have K0_z' : Hid (wf1.heap.size ≤ wf8.heap.size) := Lib.hid (Nat.le_trans K0_z.out hb.size)
          clear K0 K0_z
          have K0 := K0'
          have K0_z := K0_z'
          clear K0' K0_z'
          have K2' := Lib.hid (K2.out.below (hb.mono K2_z.out))
          have K2_z' : Hid (wf3.heap.size ≤ wf8.heap.size) := Lib.hid (Nat.le_trans K2_z.out hb.size)
          clear K2 K2_z
          have K2 := K2'
          have K2_z := K2_z'
          clear K2' K2_z'
          have K4' := Lib.hid (K4.out.below (hb.mono K4_z.out))
          have K4_z' : Hid (wf7.heap.size ≤ wf8.heap.size) := Lib.hid (Nat.le_trans K4_z.out hb.size)
          clear K4 K4_z
          have K4 := K4'
          have K4_z := K4_z'
          clear K4' K4_z'
          have K5' := Lib.hid (K5.out.below (hb.mono K5_z.out))
          have K5_z' : Hid (wf7.heap.size ≤ wf8.heap.size) := Lib.hid (Nat.le_trans K5_z.out hb.size)
          clear K5 K5_z
          have K5 := K5'
          have K5_z := K5_z'
          clear K5' K5_z'
          have K6 := Lib.hid hS
          have K7 := Lib.hid hS'
          have K6_z : Hid (wf8.heap.size ≤ wf8.heap.size) := Lib.hid (Nat.le_refl _)
          have K7_z := K6_z
          clear hS hS' hb ck c33 c34 KX
          obtain rfl : c4 = n6 := K4.out.keys.len.symm.trans K6.out.len
          obtain rfl : c5 = n7 := K5.out.keys.len.symm.trans K7.out.len
          generalize resErr ts1 x.looks = re at *
          go_wp2_with fail
          refine (sameKeys _ _ c4 c4 c6 _ wf8 _ _ K4.out.keys K6.out (Nat.le_trans K4.out.cap.1 K4.out.cap.2)).mono ?_
          rintro e wf9 ⟨rfl, k5, hw5⟩
          have hb : Below wf8.heap.size wf8 wf9 := by rw [hw5]; exact below_drewN (Below.refl _ _) k5
          have BB9 := Lib.hid (BB8.out.trans (hb.mono BB8.out.size))
          have RX9 := Lib.hid (RX8.out.below hb RX8.out.lt)
          have LZ8 : Hid (wf8.heap.size ≤ wf9.heap.size) := Lib.hid hb.size
          have K0' := Lib.hid (K0.out.below (hb.mono K0_z.out))
          have K0_z' : Hid (wf1.heap.size ≤ wf9.heap.size) := Lib.hid (Nat.le_trans K0_z.out hb.size)
          clear K0 K0_z
          have K0 := K0'
          have K0_z := K0_z'
          clear K0' K0_z'
          have K2' := Lib.hid (K2.out.below (hb.mono K2_z.out))
          have K2_z' : Hid (wf3.heap.size ≤ wf9.heap.size) := Lib.hid (Nat.le_trans K2_z.out hb.size)
          clear K2 K2_z
          have K2 := K2'
          have K2_z := K2_z'
          clear K2' K2_z'
          have K4' := Lib.hid (K4.out.below (hb.mono K4_z.out))
          have K4_z' : Hid (wf7.heap.size ≤ wf9.heap.size) := Lib.hid (Nat.le_trans K4_z.out hb.size)
          clear K4 K4_z
          have K4 := K4'
          have K4_z := K4_z'
          clear K4' K4_z'
          have K5' := Lib.hid (K5.out.below (hb.mono K5_z.out))
          have K5_z' : Hid (wf7.heap.size ≤ wf9.heap.size) := Lib.hid (Nat.le_trans K5_z.out hb.size)
          clear K5 K5_z
          have K5 := K5'
          have K5_z := K5_z'
          clear K5' K5_z'
          have K6' := Lib.hid (K6.out.below (hb.mono K6_z.out))
          have K6_z' : Hid (wf8.heap.size ≤ wf9.heap.size) := Lib.hid (Nat.le_trans K6_z.out hb.size)
          clear K6 K6_z
          have K6 := K6'
          have K6_z := K6_z'
          clear K6' K6_z'
          have K7' := Lib.hid (K7.out.below (hb.mono K7_z.out))
          have K7_z' : Hid (wf8.heap.size ≤ wf9.heap.size) := Lib.hid (Nat.le_trans K7_z.out hb.size)
          clear K7 K7_z
          have K7 := K7'
          have K7_z := K7_z'
          clear K7' K7_z'
          clear hb hw5
          go_wp2_with fail
          refine (sameKeys _ _ c5 c5 c7 _ wf9 _ _ K5.out.keys K7.out (Nat.le_trans K5.out.cap.1 K5.out.cap.2)).mono ?_
          rintro e wf10 ⟨rfl, k5, hw5⟩
          have hb : Below wf9.heap.size wf9 wf10 := by rw [hw5]; exact below_drewN (Below.refl _ _) k5
          have BB10 := Lib.hid (BB9.out.trans (hb.mono BB9.out.size))
          have RX10 := Lib.hid (RX9.out.below hb RX9.out.lt)
          have LZ9 : Hid (wf9.heap.size ≤ wf10.heap.size) := Lib.hid hb.size
          have K0' := Lib.hid (K0.out.below (hb.mono K0_z.out))
          have K0_z' : Hid (wf1.heap.size ≤ wf10.heap.size) := Lib.hid (Nat.le_trans K0_z.out hb.size)
          clear K0 K0_z
          have K0 := K0'
          have K0_z := K0_z'
          clear K0' K0_z'
          have K2' := Lib.hid (K2.out.below (hb.mono K2_z.out))
          have K2_z' : Hid (wf3.heap.size ≤ wf10.heap.size) := Lib.hid (Nat.le_trans K2_z.out hb.size)
          clear K2 K2_z
          have K2 := K2'
          have K2_z := K2_z'
          clear K2' K2_z'
          have K4' := Lib.hid (K4.out.below (hb.mono K4_z.out))
          have K4_z' : Hid (wf7.heap.size ≤ wf10.heap.size) := Lib.hid (Nat.le_trans K4_z.out hb.size)
          clear K4 K4_z
          have K4 := K4'
          have K4_z := K4_z'
          clear K4' K4_z'
          have K5' := Lib.hid (K5.out.below (hb.mono K5_z.out))
          have K5_z' : Hid (wf7.heap.size ≤ wf10.heap.size) := Lib.hid (Nat.le_trans K5_z.out hb.size)
          clear K5 K5_z
          have K5 := K5'
          have K5_z := K5_z'
          clear K5' K5_z'
          have K6' := Lib.hid (K6.out.below (hb.mono K6_z.out))
          have K6_z' : Hid (wf8.heap.size ≤ wf10.heap.size) := Lib.hid (Nat.le_trans K6_z.out hb.size)
          clear K6 K6_z
          have K6 := K6'
          have K6_z := K6_z'
          clear K6' K6_z'
          have K7' := Lib.hid (K7.out.below (hb.mono K7_z.out))
          have K7_z' : Hid (wf8.heap.size ≤ wf10.heap.size) := Lib.hid (Nat.le_trans K7_z.out hb.size)
          clear K7 K7_z
          have K7 := K7'
          have K7_z := K7_z'
          clear K7' K7_z'
          clear hb hw5
          clear K6 K6_z K7 K7_z
          go_upto_region 35 with fail
          have BW0 : Hid (Below wf10.heap.size wf10 (wf10.alloc (.cells #[.slice none 0 0] 43))) := Lib.hid ((Below.refl _ _).alloc (Nat.le_refl _) _)
          have HK0 := Lib.hid (Bk.new wf10)
          have Z0 : Hid (wf1.heap.size ≤ wf10.heap.size ∧ wf3.heap.size ≤ wf10.heap.size ∧ wf7.heap.size ≤ wf10.heap.size) := Lib.hid ⟨K0_z.out, K2_z.out, K4_z.out⟩
          generalize wf10.alloc (.cells #[.slice none 0 0] 43) = W0 at *
          have K0' := Lib.hid (K0.out.below (BW0.out.mono K0_z.out))
          have K0_z' : Hid (wf1.heap.size ≤ W0.heap.size) := Lib.hid (Nat.le_trans K0_z.out BW0.out.size)
          clear K0 K0_z
          have K0 := K0'
          have K0_z := K0_z'
          clear K0' K0_z'
          have K2' := Lib.hid (K2.out.below (BW0.out.mono K2_z.out))
          have K2_z' : Hid (wf3.heap.size ≤ W0.heap.size) := Lib.hid (Nat.le_trans K2_z.out BW0.out.size)
          clear K2 K2_z
          have K2 := K2'
          have K2_z := K2_z'
          clear K2' K2_z'
          have K4' := Lib.hid (K4.out.below (BW0.out.mono K4_z.out))
          have K4_z' : Hid (wf7.heap.size ≤ W0.heap.size) := Lib.hid (Nat.le_trans K4_z.out BW0.out.size)
          clear K4 K4_z
          have K4 := K4'
          have K4_z := K4_z'
          clear K4' K4_z'
          have K5' := Lib.hid (K5.out.below (BW0.out.mono K5_z.out))
          have K5_z' : Hid (wf7.heap.size ≤ W0.heap.size) := Lib.hid (Nat.le_trans K5_z.out BW0.out.size)
          clear K5 K5_z
          have K5 := K5'
          have K5_z := K5_z'
          clear K5' K5_z'
          go_wp2_with fail
          refine (bkKeys wf10.heap.size wf10.heap.size _ ⟨A0, n0, c0⟩ W0 W0 HK0.out (by simp)).mono ?_
          rintro e wb1 ⟨rfl, hb9⟩
          have HK1 := Lib.hid hb9
          clear hb9 HK0
          go_wp2_with fail
          refine (bkKeys wf10.heap.size wf10.heap.size _ ⟨A2, n2, c2⟩ W0 wb1 HK1.out (by simp)).mono ?_
          rintro e wb2 ⟨rfl, hb9⟩
          have HK2 := Lib.hid hb9
          clear hb9 HK1
          go_wp2_with fail
          refine (bkKeys wf10.heap.size wf10.heap.size _ ⟨A4, c4, c4⟩ W0 wb2 HK2.out (by simp)).mono ?_
          rintro e wb3 ⟨rfl, hb9⟩
          have HK3 := Lib.hid hb9
          clear hb9 HK2
          go_wp2_with fail
          refine (bkKeys wf10.heap.size wf10.heap.size _ ⟨A5, c5, c5⟩ W0 wb3 HK3.out (by simp)).mono ?_
          rintro e wb4 ⟨rfl, hb9⟩
          have HK4 := Lib.hid hb9
          clear hb9 HK3
          go_wp2_with fail
          have FA := Lib.hid (four_apart (S0 := ⟨A0, n0, c0⟩) (S1 := ⟨A2, n2, c2⟩) (S2 := ⟨A4, c4, c4⟩) (S3 := ⟨A5, c5, c5⟩) K0.out.low K2.out.low K4.out.low K5.out.low LZ1.out (Nat.le_trans LZ3.out L6.out.1) ⟨by have := L0.out; have := LZ1.out; omega, L2.out, L6.out.2⟩ HD.out)
          refine (apartNe wf10.heap.size wf10.heap.size VC.heap.size _ W0 wb4 HK4.out ?_ FA.out.1 ?_ ?_).mono ?_
          · intro y hy
            simp only [List.nil_append, List.append_assoc, List.mem_append, List.mem_singleton] at hy
            rcases hy with rfl | rfl | rfl | rfl
            · exact K0.out.fit
            · exact K2.out.fit
            · exact K4.out.fit
            · exact K5.out.fit
          · intro g hg
            have h1 := FA.out.2 g hg
            have h2 := Z0.out
            omega
          · have h1 := HK4.out.one.size
            have h2 := BW0.out.size
            have h3 := BB10.out.size
            omega
          rintro e wend ⟨rfl, hbe⟩
          have BE := Lib.hid (BB10.out.trans (below_book BW0.out HK4.out.one hbe BB10.out.size))
          clear hbe
          go_wp2_with fail
          go_roundw
          case rel => exact ⟨k + 1, ob1, omb1, qb1, v1, u1, ts1, us1, by omega, rfl, rfl, by go_num, ST.out.below BE.out⟩
          case measure => simp [intOf]; omega

      · clear hk
        go_wp2_with fail
        refine (lives6 _).mono ?_
        rintro e w' ⟨rfl, hb⟩
        have HBB := Lib.hid (ST.out.b.trans (hb.mono ST.out.b.size))
        clear hb
        go_wp2_with fail
        go_ret
        exact ⟨rfl, HBB.out⟩
end Go.Proofs.Ytdbcbjjomhbhpaa
