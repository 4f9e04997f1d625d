import Derived.Test.YtdgbodljmdcagaaGreatDoorQ13
set_option maxRecDepth 100000
set_option maxHeartbeats 16000000
set_option linter.unusedSimpArgs false
set_option linter.unusedVariables false
namespace Go.Proofs.YtdgbodljmdcagaaGreatDoor
open Go.RowKit
theorem Xfk{l:List Int}(h:AllBytes l):Bytes l:=fun i=>by
 rcases Nat.lt_or_ge i l.length with hi | hi
 ·rw[List.getD_eq_getElem?_getD,List.getElem?_eq_getElem hi];exact h _ (List.getElem_mem hi)
 ·rw[List.getD_eq_getElem?_getD,List.getElem?_eq_none hi];exact⟨Int.le_refl _,by decide⟩
theorem Xd1:(Tryz.prog.info? 5).map (·.size)=some 1:=by kernel_rfl
theorem Xg3(x:Int)(b:Bool):(Tryz.prog.info? 127).map (·.size)=some ([.int .u64 x,.bool b]:List Value).length:=by kernel_rfl
theorem Xex(x:Int)(b:Bool):Tryz.prog.built 127 [(0,.int .u64 x),(1,.bool b)]=some ([.int .u64 x,.bool b]:List Value).toArray:=by kernel_rfl
theorem Xhd(x:Int)(b:Bool):∀u ∈ ([.int .u64 x,.bool b]:List Value),u.oneCell'=true:=by
 intro u hu;simp only[List.mem_cons,List.not_mem_nil,or_false]at hu;rcases hu with rfl | rfl <;> rfl
theorem units_(s:BS)(g:Nat)(w:World)(hr:Row w g 129 (wcells s))(ho:s.o≤100000) :
 Calls Tryz.prog 71 #[.pointer (some ⟨g,0,none⟩),.int .u64 s.o] w fun e w'=>e=.returned (.int .u64 (units8 s))∧w=w':=by
 have c4:w.cell? ⟨g,4,none⟩=some (.int .u64 (s.u.getD 0)):=hr.cell 4;have c5:w.cell? ⟨g,5,none⟩=some (.bool s.u.isSome):=hr.cell 5;obtain⟨u,p,o,bad⟩:=s;clear hr;dsimp only at *
 have hw:IntKind.u64.wrap ((o:Int)*200000)=(o:Int)*200000:=u64_in _ (by omega) (by omega);cases u with
 | none =>
  simp only[Option.getD_none,Option.isSome_none]at c4 c5;rcases(show 1400000<(o:Int)*200000∨(o:Int)*200000≤1400000 by omega)with h | h
  ·have HU:Hid (units8 ⟨none,p,o,bad⟩=1400000):=Hd (by unfold units8;show(if (1400000:Int)<(o:Int)*200000 then(1400000:Int)else(o:Int)*200000)=1400000;rw[if_pos h]);go_enter Tryz.func71,Tryz.ntmps71
   go_wp2;go_ret;exact⟨by rw[HU.out];first | rfl | (show Ending.returned (.int .u64 (min ((o:Int)*200000) 1400000))=_;rw[Int.min_eq_right (by omega)]),rfl⟩
  ·have HU:Hid (units8 ⟨none,p,o,bad⟩=(o:Int)*200000):=Hd (by unfold units8;show(if (1400000:Int)<(o:Int)*200000 then(1400000:Int)else(o:Int)*200000)=(o:Int)*200000;rw[if_neg (by omega)]);go_enter Tryz.func71,Tryz.ntmps71
   go_wp2;go_ret;exact⟨by rw[HU.out];first | rfl | (show Ending.returned (.int .u64 (min ((o:Int)*200000) 1400000))=_;rw[Int.min_eq_left (by omega)]),rfl⟩
 | some v =>
  simp only[Option.getD_some,Option.isSome_some]at c4 c5;rcases(show 1400000<v∨v≤1400000 by omega)with h | h
  ·have HU:Hid (units8 ⟨some v,p,o,bad⟩=1400000):=Hd (by unfold units8;show(if (1400000:Int)<v then(1400000:Int)else v)=1400000;rw[if_pos h]);go_enter Tryz.func71,Tryz.ntmps71
   go_wp2;go_ret;exact⟨by rw[HU.out];first | rfl | (show Ending.returned (.int .u64 (min (v) 1400000))=_;rw[Int.min_eq_right (by omega)]),rfl⟩
  ·have HU:Hid (units8 ⟨some v,p,o,bad⟩=v):=Hd (by unfold units8;show(if (1400000:Int)<v then(1400000:Int)else v)=v;rw[if_neg (by omega)]);go_enter Tryz.func71,Tryz.ntmps71
   go_wp2;go_ret;exact⟨by rw[HU.out];first | rfl | (show Ending.returned (.int .u64 (min (v) 1400000))=_;rw[Int.min_eq_left (by omega)]),rfl⟩
def TakeDone(w:World)(g:Nat)(d:List Int)(s:BS)(e:Ending)(w':World):Prop:=
 e=.returned (.bool (tell d s).isSome)∧Row w' g 129 (wcells ((tell d s).getD s))∧Below g w w'
theorem take_(s:BS)(d:List Int)(A:Option Addr)(n c B g:Nat)(w:World)(hr:Row w g 129 (wcells s))(hs:Sees w B A n (bv d))(hd:AllBytes d)(hn:n≤c∧c≤maxLen)(hl:LenAt w) :
 Calls Tryz.prog 70 #[.pointer (some ⟨g,0,none⟩),.slice A n c] w (TakeDone w g d s):=by
 unfold TakeDone;have hdl:d.length=n:=by have:=hs.len;rwa [bL]at this
 have HR:=Hd hr;have HL:Hid (LenAt w.drew):=Hd (hl.keep fun _ _=>rfl);clear hr hl;cases d with
 | nil =>
  obtain rfl:n=0:=hdl.symm;have HT:Hid (tell [] s=none):=Hd (by unfold tell;rw[if_neg (fun h=>absurd h.1 (by decide)),if_neg (fun h=>absurd h.1 (by decide))]);clear hs hd hdl hn;go_enter Tryz.func70,Tryz.ntmps70
  go_wp2;go_ret;exact⟨by rw[HT.out];rfl,by rw[HT.out];exact HR.out,Br g w⟩
 | cons z r =>
  obtain⟨N,hN1⟩:∃N,n=N+1:=⟨r.length,by rw[←hdl];rfl⟩;have HN1:Hid (n - 1=N):=Hd (by omega);have HRL:Hid (r.length=N):=Hd (by rw[List.length_cons]at hdl;omega);have HBR:=Hd (Xfk (fun y hy=>hd y (List.mem_cons_of_mem _ hy)));have HTS:Hid (Sees w B (tailAt A c 1) N (bv r)):=Hd (by have h:=hs.tail (k:=1) (by omega) hn.1;rw[HN1.out]at h;exact h);obtain⟨hz0,hz1⟩:=hd z (List.mem_cons_self ..);obtain⟨a,rfl,hab,hc⟩:=hs.byte (k:=0) (by omega);have ea:a.add 0=a:=by simp[Addr.add]
  have c0:w.cell? a=some (.int .u8 z):=by rw[ea]at hc;exact hc
  have HNC:=Hd hn.1;have HCM:=Hd hn.2;have HNM:Hid (N+1≤maxLen):=Hd (hN1 ▸ Lq hn.1 hn.2);have C0:=Hd (show w.drew.cell? a=some (.int .u8 z)from c0);have en:((n:Int)==0)=false:=by simp only[beq_eq_false_iff_ne];omega
  have en2:(n==0)=false:=by simp only[beq_eq_false_iff_ne];omega
  have hnp:0<n:=by omega
  have HN2:=Hd hN1;clear hs hd hdl hn hab ea hN1;by_cases h4:4≤z
  ·have HT:Hid (tell (z::r) s=none):=Hd (by
    unfold tell;rw[if_neg (fun h=>by have h2:z=2:=h.2.1;omega),if_neg (fun h=>by have h2:z=3:=h.2.1;omega)])
   have h4':decide (4≤z)=true:=decide_eq_true h4;clear HTS;go_enter Tryz.func70,Tryz.ntmps70
   go_wp2;go_ret;exact⟨by rw[HT.out];rfl,by rw[HT.out];exact HR.out,Br g w⟩
  ·rcases(show z=0∨z=1∨z=2∨z=3 by omega)with rfl | rfl | rfl | rfl
   ·clear h4 hz0 hz1;have L8:w.drew.cell? ⟨0,0,none⟩=some (.int .i64 0):=HL.out.c0;have ci:w.drew.cell? ⟨g,1,none⟩=some (.bool false):=HR.out.drew.cell 1;have HT:Hid (tell (0::r) s=none):=Hd (by unfold tell;rw[if_neg (fun h=>absurd (show(0:Int)=2 from h.2.1) (by decide)),if_neg (fun h=>absurd (show(0:Int)=3 from h.2.1) (by decide))]);by_cases hN:N=0
    ·subst hN;have HG:Hid (Calls Tryz.prog 120 #[.slice (tailAt (some a) c 1) 0 (c - 1),.int .i64 0] w.drew fun e w'=>e=.returned (.tuple #[.int .u64 0,.int .i64 1])∧w.drew=w'):=Hd (Xjs _ 0 _ r 0 _ _ HTS.out.drew (Lq (by omega) HNM.out) HBR.out);clear HTS;go_enter Tryz.func70,Tryz.ntmps70
     go_upto_region 3 with fail
     refine wp_region_held_drew (S:=(fun V=>V.cell? a=some (.int .u8 0)∧True)) (by kernel_rfl) ⟨C0.out,trivial⟩ (fun _=>?_);refine Tk 0 rfl ?_ ⟨C0.out,trivial⟩ ?_ ⟨?_,rfl⟩
     ·intro w hw;(try dsimp only at hw);obtain⟨q0,q1⟩:=hw;go_simp;try with_reducible rfl
     try simp only[nm]
     refine Tk 1 rfl ?_ ⟨C0.out,trivial⟩ ?_ ⟨?_,rfl⟩
     ·intro w hw;(try dsimp only at hw);obtain⟨q0,q1⟩:=hw;go_simp;try with_reducible rfl
     try simp only[nm]
     refine Tk 2 rfl ?_ ⟨C0.out,trivial⟩ ?_ ⟨?_,rfl⟩
     ·intro w hw;(try dsimp only at hw);obtain⟨q0,q1⟩:=hw;go_simp;try with_reducible rfl
     try simp only[nm]
     refine Tk 3 rfl ?_ ⟨C0.out,trivial⟩ ?_ ⟨?_,rfl⟩
     ·intro w hw;(try dsimp only at hw);obtain⟨q0,q1⟩:=hw;go_simp;try with_reducible rfl
     try simp only[nm]
     refine Tl 4 (v:=.slice (tailAt (some a) c 1) (n - 1) (c - 1)) rfl (Or.inl ⟨by rfl,fun wz hwz=>Xbp 22 5 (.tmp 21) (.const (.int .i64 1)) rfl Tryz.underlying22 Xd1 (some a) n c 1 (by go_simp) (by go_simp) (by have:=HN2.out;omega) HNC.out HCM.out⟩) ⟨C0.out,trivial⟩ ?_;try simp only[nm]
     simp only[HN1.out];refine Tk 5 rfl ?_ ⟨C0.out,trivial⟩ ?_ ⟨?_,rfl⟩
     ·intro w hw;(try dsimp only at hw);obtain⟨q0,q1⟩:=hw;go_simp;try with_reducible rfl
     try simp only[nm]
     refine Tk 6 rfl ?_ ⟨C0.out,trivial⟩ ?_ ⟨?_,rfl⟩
     ·intro w hw;(try dsimp only at hw);obtain⟨q0,q1⟩:=hw;go_simp;try with_reducible rfl
     try simp only[nm]
     refine wpAnyH_done (by kernel_rfl) ?_ _;go_wp2_with fail;refine HG.out.mono ?_;rintro e w1 ⟨rfl,rfl⟩;go_wp2_with (first
      | ((with_reducible show wpList _ _ _ (⟨some 50,_,_,_,_,_⟩::_) _ _);go_must(refine wpList_plain rfl fun K hK=>Xav _ _ _ rfl (by simp only[List.map_toArray,List.map_cons,List.map_nil];exact Xex 0 false) (hK _ _ ?_)))
      | ((with_reducible show wpList _ _ _ (⟨none,Op.store 127 _ _,_,_,_,_⟩::_) _ _);go_must(refine Xa9 rfl 127 (.tmp 52) (.tmp 50) rfl g 129 0 _ [.int .u64 0,.bool false] HR.out.drew (Xg3 _ _) (by show 0+2≤8;omega) (Xhd _ _) ?_ ?_ ?_;go_simp;go_simp;intro w2 hr2 ht2;have HR2:=Hd hr2;have HT2:=Hd ht2;have cn:w2.cell? ⟨g,1,none⟩=some (.bool false):=hr2.cell 1;clear hr2 ht2)))
     go_ret;exact⟨by rw[HT.out];rfl,by rw[HT.out];exact HR2.out,(Br g w).drew.trans (HT2.out.below (Lr g))⟩
    ·have eN:¬(N:Int)=0:=by omega
     clear HTS;go_enter Tryz.func70,Tryz.ntmps70
     go_upto_region 3 with fail
     refine wp_region_held_drew (S:=(fun V=>V.cell? a=some (.int .u8 0)∧True)) (by kernel_rfl) ⟨C0.out,trivial⟩ (fun _=>?_);refine Tk 0 rfl ?_ ⟨C0.out,trivial⟩ ?_ ⟨?_,rfl⟩
     ·intro w hw;(try dsimp only at hw);obtain⟨q0,q1⟩:=hw;go_simp;try with_reducible rfl
     try simp only[nm]
     refine Tk 1 rfl ?_ ⟨C0.out,trivial⟩ ?_ ⟨?_,rfl⟩
     ·intro w hw;(try dsimp only at hw);obtain⟨q0,q1⟩:=hw;go_simp;try with_reducible rfl
     try simp only[nm]
     refine Tk 2 rfl ?_ ⟨C0.out,trivial⟩ ?_ ⟨?_,rfl⟩
     ·intro w hw;(try dsimp only at hw);obtain⟨q0,q1⟩:=hw;go_simp;try with_reducible rfl
     try simp only[nm]
     refine Tk 3 rfl ?_ ⟨C0.out,trivial⟩ ?_ ⟨?_,rfl⟩
     ·intro w hw;(try dsimp only at hw);obtain⟨q0,q1⟩:=hw;go_simp;try with_reducible rfl
     try simp only[nm]
     refine Tl 4 (v:=.slice (tailAt (some a) c 1) (n - 1) (c - 1)) rfl (Or.inl ⟨by rfl,fun wz hwz=>Xbp 22 5 (.tmp 21) (.const (.int .i64 1)) rfl Tryz.underlying22 Xd1 (some a) n c 1 (by go_simp) (by go_simp) (by have:=HN2.out;omega) HNC.out HCM.out⟩) ⟨C0.out,trivial⟩ ?_;try simp only[nm]
     simp only[HN1.out];refine Tk 5 rfl ?_ ⟨C0.out,trivial⟩ ?_ ⟨?_,rfl⟩
     ·intro w hw;(try dsimp only at hw);obtain⟨q0,q1⟩:=hw;go_simp;try with_reducible rfl
     try simp only[nm]
     refine Tk 6 rfl ?_ ⟨C0.out,trivial⟩ ?_ ⟨?_,rfl⟩
     ·intro w hw;(try dsimp only at hw);obtain⟨q0,q1⟩:=hw;go_simp;try with_reducible rfl
     try simp only[nm]
     refine wpAnyH_done (by kernel_rfl) ?_ _;go_wp2_with fail;go_ret;exact⟨by rw[HT.out];rfl,by rw[HT.out];exact HR.out.drew,(Br g w).drew⟩
   ·clear h4 hz0 hz1;have L8:w.drew.cell? ⟨0,1,none⟩=some (.int .i64 0):=HL.out.c1;have ci:w.drew.cell? ⟨g,3,none⟩=some (.bool false):=HR.out.drew.cell 3;have HT:Hid (tell (1::r) s=none):=Hd (by unfold tell;rw[if_neg (fun h=>absurd (show(1:Int)=2 from h.2.1) (by decide)),if_neg (fun h=>absurd (show(1:Int)=3 from h.2.1) (by decide))]);by_cases hN:N=0
    ·subst hN;have HG:Hid (Calls Tryz.prog 120 #[.slice (tailAt (some a) c 1) 0 (c - 1),.int .i64 0] w.drew fun e w'=>e=.returned (.tuple #[.int .u64 0,.int .i64 1])∧w.drew=w'):=Hd (Xjs _ 0 _ r 0 _ _ HTS.out.drew (Lq (by omega) HNM.out) HBR.out);clear HTS;go_enter Tryz.func70,Tryz.ntmps70
     go_upto_region 3 with fail
     refine wp_region_held_drew (S:=(fun V=>V.cell? a=some (.int .u8 1)∧True)) (by kernel_rfl) ⟨C0.out,trivial⟩ (fun _=>?_);refine Tk 0 rfl ?_ ⟨C0.out,trivial⟩ ?_ ⟨?_,rfl⟩
     ·intro w hw;(try dsimp only at hw);obtain⟨q0,q1⟩:=hw;go_simp;try with_reducible rfl
     try simp only[nm]
     refine Tk 1 rfl ?_ ⟨C0.out,trivial⟩ ?_ ⟨?_,rfl⟩
     ·intro w hw;(try dsimp only at hw);obtain⟨q0,q1⟩:=hw;go_simp;try with_reducible rfl
     try simp only[nm]
     refine Tk 2 rfl ?_ ⟨C0.out,trivial⟩ ?_ ⟨?_,rfl⟩
     ·intro w hw;(try dsimp only at hw);obtain⟨q0,q1⟩:=hw;go_simp;try with_reducible rfl
     try simp only[nm]
     refine Tk 3 rfl ?_ ⟨C0.out,trivial⟩ ?_ ⟨?_,rfl⟩
     ·intro w hw;(try dsimp only at hw);obtain⟨q0,q1⟩:=hw;go_simp;try with_reducible rfl
     try simp only[nm]
     refine Tl 4 (v:=.slice (tailAt (some a) c 1) (n - 1) (c - 1)) rfl (Or.inl ⟨by rfl,fun wz hwz=>Xbp 22 5 (.tmp 21) (.const (.int .i64 1)) rfl Tryz.underlying22 Xd1 (some a) n c 1 (by go_simp) (by go_simp) (by have:=HN2.out;omega) HNC.out HCM.out⟩) ⟨C0.out,trivial⟩ ?_;try simp only[nm]
     simp only[HN1.out];refine Tk 5 rfl ?_ ⟨C0.out,trivial⟩ ?_ ⟨?_,rfl⟩
     ·intro w hw;(try dsimp only at hw);obtain⟨q0,q1⟩:=hw;go_simp;try with_reducible rfl
     try simp only[nm]
     refine Tk 6 rfl ?_ ⟨C0.out,trivial⟩ ?_ ⟨?_,rfl⟩
     ·intro w hw;(try dsimp only at hw);obtain⟨q0,q1⟩:=hw;go_simp;try with_reducible rfl
     try simp only[nm]
     refine wpAnyH_done (by kernel_rfl) ?_ _;go_wp2_with fail;refine HG.out.mono ?_;rintro e w1 ⟨rfl,rfl⟩;go_wp2_with (first
      | ((with_reducible show wpList _ _ _ (⟨some 50,_,_,_,_,_⟩::_) _ _);go_must(refine wpList_plain rfl fun K hK=>Xav _ _ _ rfl (by simp only[List.map_toArray,List.map_cons,List.map_nil];exact Xex 0 false) (hK _ _ ?_)))
      | ((with_reducible show wpList _ _ _ (⟨none,Op.store 127 _ _,_,_,_,_⟩::_) _ _);go_must(refine Xa9 rfl 127 (.tmp 52) (.tmp 50) rfl g 129 2 _ [.int .u64 0,.bool false] HR.out.drew (Xg3 _ _) (by show 2+2≤8;omega) (Xhd _ _) ?_ ?_ ?_;go_simp;go_simp;intro w2 hr2 ht2;have HR2:=Hd hr2;have HT2:=Hd ht2;have cn:w2.cell? ⟨g,3,none⟩=some (.bool false):=hr2.cell 3;clear hr2 ht2)))
     go_ret;exact⟨by rw[HT.out];rfl,by rw[HT.out];exact HR2.out,(Br g w).drew.trans (HT2.out.below (Lr g))⟩
    ·have eN:¬(N:Int)=0:=by omega
     clear HTS;go_enter Tryz.func70,Tryz.ntmps70
     go_upto_region 3 with fail
     refine wp_region_held_drew (S:=(fun V=>V.cell? a=some (.int .u8 1)∧True)) (by kernel_rfl) ⟨C0.out,trivial⟩ (fun _=>?_);refine Tk 0 rfl ?_ ⟨C0.out,trivial⟩ ?_ ⟨?_,rfl⟩
     ·intro w hw;(try dsimp only at hw);obtain⟨q0,q1⟩:=hw;go_simp;try with_reducible rfl
     try simp only[nm]
     refine Tk 1 rfl ?_ ⟨C0.out,trivial⟩ ?_ ⟨?_,rfl⟩
     ·intro w hw;(try dsimp only at hw);obtain⟨q0,q1⟩:=hw;go_simp;try with_reducible rfl
     try simp only[nm]
     refine Tk 2 rfl ?_ ⟨C0.out,trivial⟩ ?_ ⟨?_,rfl⟩
     ·intro w hw;(try dsimp only at hw);obtain⟨q0,q1⟩:=hw;go_simp;try with_reducible rfl
     try simp only[nm]
     refine Tk 3 rfl ?_ ⟨C0.out,trivial⟩ ?_ ⟨?_,rfl⟩
     ·intro w hw;(try dsimp only at hw);obtain⟨q0,q1⟩:=hw;go_simp;try with_reducible rfl
     try simp only[nm]
     refine Tl 4 (v:=.slice (tailAt (some a) c 1) (n - 1) (c - 1)) rfl (Or.inl ⟨by rfl,fun wz hwz=>Xbp 22 5 (.tmp 21) (.const (.int .i64 1)) rfl Tryz.underlying22 Xd1 (some a) n c 1 (by go_simp) (by go_simp) (by have:=HN2.out;omega) HNC.out HCM.out⟩) ⟨C0.out,trivial⟩ ?_;try simp only[nm]
     simp only[HN1.out];refine Tk 5 rfl ?_ ⟨C0.out,trivial⟩ ?_ ⟨?_,rfl⟩
     ·intro w hw;(try dsimp only at hw);obtain⟨q0,q1⟩:=hw;go_simp;try with_reducible rfl
     try simp only[nm]
     refine Tk 6 rfl ?_ ⟨C0.out,trivial⟩ ?_ ⟨?_,rfl⟩
     ·intro w hw;(try dsimp only at hw);obtain⟨q0,q1⟩:=hw;go_simp;try with_reducible rfl
     try simp only[nm]
     refine wpAnyH_done (by kernel_rfl) ?_ _;go_wp2_with fail;go_ret;exact⟨by rw[HT.out];rfl,by rw[HT.out];exact HR.out.drew,(Br g w).drew⟩
   ·clear h4 hz0 hz1;have L8:w.drew.cell? ⟨0,2,none⟩=some (.int .i64 4):=HL.out.c2;have ci:w.drew.cell? ⟨g,5,none⟩=some (.bool s.u.isSome):=HR.out.drew.cell 5;by_cases hN:N=4
    ·subst hN;cases hu:s.u with
     | some v =>
      have HT:Hid (tell (2::r) s=none):=Hd (by unfold tell;rw[if_neg (fun h=>by rw[hu]at h;exact absurd h.2.2 (by simp)),if_neg (fun h=>absurd (show(2:Int)=3 from h.2.1) (by decide))]);have cb:w.drew.cell? ⟨g,5,none⟩=some (.bool true):=by rw[ci,hu];rfl
      clear ci HTS hu;go_enter Tryz.func70,Tryz.ntmps70
      go_upto_region 3 with fail
      refine wp_region_held_drew (S:=(fun V=>V.cell? a=some (.int .u8 2)∧True)) (by kernel_rfl) ⟨C0.out,trivial⟩ (fun _=>?_);refine Tk 0 rfl ?_ ⟨C0.out,trivial⟩ ?_ ⟨?_,rfl⟩
      ·intro w hw;(try dsimp only at hw);obtain⟨q0,q1⟩:=hw;go_simp;try with_reducible rfl
      try simp only[nm]
      refine Tk 1 rfl ?_ ⟨C0.out,trivial⟩ ?_ ⟨?_,rfl⟩
      ·intro w hw;(try dsimp only at hw);obtain⟨q0,q1⟩:=hw;go_simp;try with_reducible rfl
      try simp only[nm]
      refine Tk 2 rfl ?_ ⟨C0.out,trivial⟩ ?_ ⟨?_,rfl⟩
      ·intro w hw;(try dsimp only at hw);obtain⟨q0,q1⟩:=hw;go_simp;try with_reducible rfl
      try simp only[nm]
      refine Tk 3 rfl ?_ ⟨C0.out,trivial⟩ ?_ ⟨?_,rfl⟩
      ·intro w hw;(try dsimp only at hw);obtain⟨q0,q1⟩:=hw;go_simp;try with_reducible rfl
      try simp only[nm]
      refine Tl 4 (v:=.slice (tailAt (some a) c 1) (n - 1) (c - 1)) rfl (Or.inl ⟨by rfl,fun wz hwz=>Xbp 22 5 (.tmp 21) (.const (.int .i64 1)) rfl Tryz.underlying22 Xd1 (some a) n c 1 (by go_simp) (by go_simp) (by have:=HN2.out;omega) HNC.out HCM.out⟩) ⟨C0.out,trivial⟩ ?_;try simp only[nm]
      simp only[HN1.out];refine Tk 5 rfl ?_ ⟨C0.out,trivial⟩ ?_ ⟨?_,rfl⟩
      ·intro w hw;(try dsimp only at hw);obtain⟨q0,q1⟩:=hw;go_simp;try with_reducible rfl
      try simp only[nm]
      refine Tk 6 rfl ?_ ⟨C0.out,trivial⟩ ?_ ⟨?_,rfl⟩
      ·intro w hw;(try dsimp only at hw);obtain⟨q0,q1⟩:=hw;go_simp;try with_reducible rfl
      try simp only[nm]
      refine wpAnyH_done (by kernel_rfl) ?_ _;go_wp2_with fail;go_ret;exact⟨by rw[HT.out];rfl,by rw[HT.out];exact HR.out.drew,(Br g w).drew⟩
     | none =>
      have HU:=Hd hu;have HT:Hid (tell (2::r) s=some ⟨some (num r 4),s.p,s.o,s.bad⟩):=Hd (by unfold tell;rw[if_pos ⟨by rw[List.length_cons,HRL.out],rfl,HU.out⟩];rfl);have cb:w.drew.cell? ⟨g,5,none⟩=some (.bool false):=by rw[ci,hu];rfl
      have HG:Hid (Calls Tryz.prog 120 #[.slice (tailAt (some a) c 1) 4 (c - 1),.int .i64 4] w.drew fun e w'=>e=.returned (.tuple #[.int .u64 (num r 4),.int .i64 0])∧w.drew=w'):=Hd (by
       have h:=Xjs (tailAt (some a) c 1) 4 (c - 1) r 4 w.drew B HTS.out.drew (Lq (by omega) HNM.out) HBR.out;have e:getN r 4=(num r 4,0):=by unfold getN;rw[if_neg (by omega),if_neg (by rw[HRL.out];omega)];rfl
       rw[e]at h;exact h)
      clear ci HTS hu;go_enter Tryz.func70,Tryz.ntmps70
      go_upto_region 3 with fail
      refine wp_region_held_drew (S:=(fun V=>V.cell? a=some (.int .u8 2)∧True)) (by kernel_rfl) ⟨C0.out,trivial⟩ (fun _=>?_);refine Tk 0 rfl ?_ ⟨C0.out,trivial⟩ ?_ ⟨?_,rfl⟩
      ·intro w hw;(try dsimp only at hw);obtain⟨q0,q1⟩:=hw;go_simp;try with_reducible rfl
      try simp only[nm]
      refine Tk 1 rfl ?_ ⟨C0.out,trivial⟩ ?_ ⟨?_,rfl⟩
      ·intro w hw;(try dsimp only at hw);obtain⟨q0,q1⟩:=hw;go_simp;try with_reducible rfl
      try simp only[nm]
      refine Tk 2 rfl ?_ ⟨C0.out,trivial⟩ ?_ ⟨?_,rfl⟩
      ·intro w hw;(try dsimp only at hw);obtain⟨q0,q1⟩:=hw;go_simp;try with_reducible rfl
      try simp only[nm]
      refine Tk 3 rfl ?_ ⟨C0.out,trivial⟩ ?_ ⟨?_,rfl⟩
      ·intro w hw;(try dsimp only at hw);obtain⟨q0,q1⟩:=hw;go_simp;try with_reducible rfl
      try simp only[nm]
      refine Tl 4 (v:=.slice (tailAt (some a) c 1) (n - 1) (c - 1)) rfl (Or.inl ⟨by rfl,fun wz hwz=>Xbp 22 5 (.tmp 21) (.const (.int .i64 1)) rfl Tryz.underlying22 Xd1 (some a) n c 1 (by go_simp) (by go_simp) (by have:=HN2.out;omega) HNC.out HCM.out⟩) ⟨C0.out,trivial⟩ ?_;try simp only[nm]
      simp only[HN1.out];refine Tk 5 rfl ?_ ⟨C0.out,trivial⟩ ?_ ⟨?_,rfl⟩
      ·intro w hw;(try dsimp only at hw);obtain⟨q0,q1⟩:=hw;go_simp;try with_reducible rfl
      try simp only[nm]
      refine Tk 6 rfl ?_ ⟨C0.out,trivial⟩ ?_ ⟨?_,rfl⟩
      ·intro w hw;(try dsimp only at hw);obtain⟨q0,q1⟩:=hw;go_simp;try with_reducible rfl
      try simp only[nm]
      refine wpAnyH_done (by kernel_rfl) ?_ _;go_wp2_with fail;refine HG.out.mono ?_;rintro e w1 ⟨rfl,rfl⟩;go_wp2_with (first
       | ((with_reducible show wpList _ _ _ (⟨some 50,_,_,_,_,_⟩::_) _ _);go_must(refine wpList_plain rfl fun K hK=>Xav _ _ _ rfl (by simp only[List.map_toArray,List.map_cons,List.map_nil];exact Xex (num r 4) true) (hK _ _ ?_)))
       | ((with_reducible show wpList _ _ _ (⟨none,Op.store 127 _ _,_,_,_,_⟩::_) _ _);go_must(refine Xa9 rfl 127 (.tmp 52) (.tmp 50) rfl g 129 4 _ [.int .u64 (num r 4),.bool true] HR.out.drew (Xg3 _ _) (by show 4+2≤8;omega) (Xhd _ _) ?_ ?_ ?_;go_simp;go_simp;intro w2 hr2 ht2;have HR2:=Hd hr2;have HT2:=Hd ht2;have cn:w2.cell? ⟨g,5,none⟩=some (.bool true):=hr2.cell 5;clear hr2 ht2)))
      go_ret;exact⟨by rw[HT.out];rfl,by rw[HT.out];exact HR2.out,(Br g w).drew.trans (HT2.out.below (Lr g))⟩
    ·have eN:¬(N:Int)=4:=by omega
     have HT:Hid (tell (2::r) s=none):=Hd (by unfold tell;rw[if_neg (fun h=>by have:=h.1;rw[List.length_cons,HRL.out]at this;omega),if_neg (fun h=>absurd (show(2:Int)=3 from h.2.1) (by decide))]);clear HTS hN;go_enter Tryz.func70,Tryz.ntmps70
     go_upto_region 3 with fail
     refine wp_region_held_drew (S:=(fun V=>V.cell? a=some (.int .u8 2)∧True)) (by kernel_rfl) ⟨C0.out,trivial⟩ (fun _=>?_);refine Tk 0 rfl ?_ ⟨C0.out,trivial⟩ ?_ ⟨?_,rfl⟩
     ·intro w hw;(try dsimp only at hw);obtain⟨q0,q1⟩:=hw;go_simp;try with_reducible rfl
     try simp only[nm]
     refine Tk 1 rfl ?_ ⟨C0.out,trivial⟩ ?_ ⟨?_,rfl⟩
     ·intro w hw;(try dsimp only at hw);obtain⟨q0,q1⟩:=hw;go_simp;try with_reducible rfl
     try simp only[nm]
     refine Tk 2 rfl ?_ ⟨C0.out,trivial⟩ ?_ ⟨?_,rfl⟩
     ·intro w hw;(try dsimp only at hw);obtain⟨q0,q1⟩:=hw;go_simp;try with_reducible rfl
     try simp only[nm]
     refine Tk 3 rfl ?_ ⟨C0.out,trivial⟩ ?_ ⟨?_,rfl⟩
     ·intro w hw;(try dsimp only at hw);obtain⟨q0,q1⟩:=hw;go_simp;try with_reducible rfl
     try simp only[nm]
     refine Tl 4 (v:=.slice (tailAt (some a) c 1) (n - 1) (c - 1)) rfl (Or.inl ⟨by rfl,fun wz hwz=>Xbp 22 5 (.tmp 21) (.const (.int .i64 1)) rfl Tryz.underlying22 Xd1 (some a) n c 1 (by go_simp) (by go_simp) (by have:=HN2.out;omega) HNC.out HCM.out⟩) ⟨C0.out,trivial⟩ ?_;try simp only[nm]
     simp only[HN1.out];refine Tk 5 rfl ?_ ⟨C0.out,trivial⟩ ?_ ⟨?_,rfl⟩
     ·intro w hw;(try dsimp only at hw);obtain⟨q0,q1⟩:=hw;go_simp;try with_reducible rfl
     try simp only[nm]
     refine Tk 6 rfl ?_ ⟨C0.out,trivial⟩ ?_ ⟨?_,rfl⟩
     ·intro w hw;(try dsimp only at hw);obtain⟨q0,q1⟩:=hw;go_simp;try with_reducible rfl
     try simp only[nm]
     refine wpAnyH_done (by kernel_rfl) ?_ _;go_wp2_with fail;go_ret;exact⟨by rw[HT.out];rfl,by rw[HT.out];exact HR.out.drew,(Br g w).drew⟩
   ·clear h4 hz0 hz1;have L8:w.drew.cell? ⟨0,3,none⟩=some (.int .i64 8):=HL.out.c3;have ci:w.drew.cell? ⟨g,7,none⟩=some (.bool s.p.isSome):=HR.out.drew.cell 7;by_cases hN:N=8
    ·subst hN;cases hu:s.p with
     | some v =>
      have HT:Hid (tell (3::r) s=none):=Hd (by unfold tell;rw[if_neg (fun h=>absurd (show(3:Int)=2 from h.2.1) (by decide)),if_neg (fun h=>by rw[hu]at h;exact absurd h.2.2 (by simp))]);have cb:w.drew.cell? ⟨g,7,none⟩=some (.bool true):=by rw[ci,hu];rfl
      clear ci HTS hu;go_enter Tryz.func70,Tryz.ntmps70
      go_upto_region 3 with fail
      refine wp_region_held_drew (S:=(fun V=>V.cell? a=some (.int .u8 3)∧True)) (by kernel_rfl) ⟨C0.out,trivial⟩ (fun _=>?_);refine Tk 0 rfl ?_ ⟨C0.out,trivial⟩ ?_ ⟨?_,rfl⟩
      ·intro w hw;(try dsimp only at hw);obtain⟨q0,q1⟩:=hw;go_simp;try with_reducible rfl
      try simp only[nm]
      refine Tk 1 rfl ?_ ⟨C0.out,trivial⟩ ?_ ⟨?_,rfl⟩
      ·intro w hw;(try dsimp only at hw);obtain⟨q0,q1⟩:=hw;go_simp;try with_reducible rfl
      try simp only[nm]
      refine Tk 2 rfl ?_ ⟨C0.out,trivial⟩ ?_ ⟨?_,rfl⟩
      ·intro w hw;(try dsimp only at hw);obtain⟨q0,q1⟩:=hw;go_simp;try with_reducible rfl
      try simp only[nm]
      refine Tk 3 rfl ?_ ⟨C0.out,trivial⟩ ?_ ⟨?_,rfl⟩
      ·intro w hw;(try dsimp only at hw);obtain⟨q0,q1⟩:=hw;go_simp;try with_reducible rfl
      try simp only[nm]
      refine Tl 4 (v:=.slice (tailAt (some a) c 1) (n - 1) (c - 1)) rfl (Or.inl ⟨by rfl,fun wz hwz=>Xbp 22 5 (.tmp 21) (.const (.int .i64 1)) rfl Tryz.underlying22 Xd1 (some a) n c 1 (by go_simp) (by go_simp) (by have:=HN2.out;omega) HNC.out HCM.out⟩) ⟨C0.out,trivial⟩ ?_;try simp only[nm]
      simp only[HN1.out];refine Tk 5 rfl ?_ ⟨C0.out,trivial⟩ ?_ ⟨?_,rfl⟩
      ·intro w hw;(try dsimp only at hw);obtain⟨q0,q1⟩:=hw;go_simp;try with_reducible rfl
      try simp only[nm]
      refine Tk 6 rfl ?_ ⟨C0.out,trivial⟩ ?_ ⟨?_,rfl⟩
      ·intro w hw;(try dsimp only at hw);obtain⟨q0,q1⟩:=hw;go_simp;try with_reducible rfl
      try simp only[nm]
      refine wpAnyH_done (by kernel_rfl) ?_ _;go_wp2_with fail;go_ret;exact⟨by rw[HT.out];rfl,by rw[HT.out];exact HR.out.drew,(Br g w).drew⟩
     | none =>
      have HU:=Hd hu;have HT:Hid (tell (3::r) s=some ⟨s.u,some (num r 8),s.o,s.bad⟩):=Hd (by unfold tell;rw[if_neg (fun h=>absurd (show(3:Int)=2 from h.2.1) (by decide)),if_pos ⟨by rw[List.length_cons,HRL.out],rfl,HU.out⟩];rfl);have cb:w.drew.cell? ⟨g,7,none⟩=some (.bool false):=by rw[ci,hu];rfl
      have HG:Hid (Calls Tryz.prog 120 #[.slice (tailAt (some a) c 1) 8 (c - 1),.int .i64 8] w.drew fun e w'=>e=.returned (.tuple #[.int .u64 (num r 8),.int .i64 0])∧w.drew=w'):=Hd (by
       have h:=Xjs (tailAt (some a) c 1) 8 (c - 1) r 8 w.drew B HTS.out.drew (Lq (by omega) HNM.out) HBR.out;have e:getN r 8=(num r 8,0):=by unfold getN;rw[if_neg (by omega),if_neg (by rw[HRL.out];omega)];rfl
       rw[e]at h;exact h)
      clear ci HTS hu;go_enter Tryz.func70,Tryz.ntmps70
      go_upto_region 3 with fail
      refine wp_region_held_drew (S:=(fun V=>V.cell? a=some (.int .u8 3)∧True)) (by kernel_rfl) ⟨C0.out,trivial⟩ (fun _=>?_);refine Tk 0 rfl ?_ ⟨C0.out,trivial⟩ ?_ ⟨?_,rfl⟩
      ·intro w hw;(try dsimp only at hw);obtain⟨q0,q1⟩:=hw;go_simp;try with_reducible rfl
      try simp only[nm]
      refine Tk 1 rfl ?_ ⟨C0.out,trivial⟩ ?_ ⟨?_,rfl⟩
      ·intro w hw;(try dsimp only at hw);obtain⟨q0,q1⟩:=hw;go_simp;try with_reducible rfl
      try simp only[nm]
      refine Tk 2 rfl ?_ ⟨C0.out,trivial⟩ ?_ ⟨?_,rfl⟩
      ·intro w hw;(try dsimp only at hw);obtain⟨q0,q1⟩:=hw;go_simp;try with_reducible rfl
      try simp only[nm]
      refine Tk 3 rfl ?_ ⟨C0.out,trivial⟩ ?_ ⟨?_,rfl⟩
      ·intro w hw;(try dsimp only at hw);obtain⟨q0,q1⟩:=hw;go_simp;try with_reducible rfl
      try simp only[nm]
      refine Tl 4 (v:=.slice (tailAt (some a) c 1) (n - 1) (c - 1)) rfl (Or.inl ⟨by rfl,fun wz hwz=>Xbp 22 5 (.tmp 21) (.const (.int .i64 1)) rfl Tryz.underlying22 Xd1 (some a) n c 1 (by go_simp) (by go_simp) (by have:=HN2.out;omega) HNC.out HCM.out⟩) ⟨C0.out,trivial⟩ ?_;try simp only[nm]
      simp only[HN1.out];refine Tk 5 rfl ?_ ⟨C0.out,trivial⟩ ?_ ⟨?_,rfl⟩
      ·intro w hw;(try dsimp only at hw);obtain⟨q0,q1⟩:=hw;go_simp;try with_reducible rfl
      try simp only[nm]
      refine Tk 6 rfl ?_ ⟨C0.out,trivial⟩ ?_ ⟨?_,rfl⟩
      ·intro w hw;(try dsimp only at hw);obtain⟨q0,q1⟩:=hw;go_simp;try with_reducible rfl
      try simp only[nm]
      refine wpAnyH_done (by kernel_rfl) ?_ _;go_wp2_with fail;refine HG.out.mono ?_;rintro e w1 ⟨rfl,rfl⟩;go_wp2_with (first
       | ((with_reducible show wpList _ _ _ (⟨some 50,_,_,_,_,_⟩::_) _ _);go_must(refine wpList_plain rfl fun K hK=>Xav _ _ _ rfl (by simp only[List.map_toArray,List.map_cons,List.map_nil];exact Xex (num r 8) true) (hK _ _ ?_)))
       | ((with_reducible show wpList _ _ _ (⟨none,Op.store 127 _ _,_,_,_,_⟩::_) _ _);go_must(refine Xa9 rfl 127 (.tmp 52) (.tmp 50) rfl g 129 6 _ [.int .u64 (num r 8),.bool true] HR.out.drew (Xg3 _ _) (by show 6+2≤8;omega) (Xhd _ _) ?_ ?_ ?_;go_simp;go_simp;intro w2 hr2 ht2;have HR2:=Hd hr2;have HT2:=Hd ht2;have cn:w2.cell? ⟨g,7,none⟩=some (.bool true):=hr2.cell 7;clear hr2 ht2)))
      go_ret;exact⟨by rw[HT.out];rfl,by rw[HT.out];exact HR2.out,(Br g w).drew.trans (HT2.out.below (Lr g))⟩
    ·have eN:¬(N:Int)=8:=by omega
     have HT:Hid (tell (3::r) s=none):=Hd (by unfold tell;rw[if_neg (fun h=>absurd (show(3:Int)=2 from h.2.1) (by decide)),if_neg (fun h=>by have:=h.1;rw[List.length_cons,HRL.out]at this;omega)]);clear HTS hN;go_enter Tryz.func70,Tryz.ntmps70
     go_upto_region 3 with fail
     refine wp_region_held_drew (S:=(fun V=>V.cell? a=some (.int .u8 3)∧True)) (by kernel_rfl) ⟨C0.out,trivial⟩ (fun _=>?_);refine Tk 0 rfl ?_ ⟨C0.out,trivial⟩ ?_ ⟨?_,rfl⟩
     ·intro w hw;(try dsimp only at hw);obtain⟨q0,q1⟩:=hw;go_simp;try with_reducible rfl
     try simp only[nm]
     refine Tk 1 rfl ?_ ⟨C0.out,trivial⟩ ?_ ⟨?_,rfl⟩
     ·intro w hw;(try dsimp only at hw);obtain⟨q0,q1⟩:=hw;go_simp;try with_reducible rfl
     try simp only[nm]
     refine Tk 2 rfl ?_ ⟨C0.out,trivial⟩ ?_ ⟨?_,rfl⟩
     ·intro w hw;(try dsimp only at hw);obtain⟨q0,q1⟩:=hw;go_simp;try with_reducible rfl
     try simp only[nm]
     refine Tk 3 rfl ?_ ⟨C0.out,trivial⟩ ?_ ⟨?_,rfl⟩
     ·intro w hw;(try dsimp only at hw);obtain⟨q0,q1⟩:=hw;go_simp;try with_reducible rfl
     try simp only[nm]
     refine Tl 4 (v:=.slice (tailAt (some a) c 1) (n - 1) (c - 1)) rfl (Or.inl ⟨by rfl,fun wz hwz=>Xbp 22 5 (.tmp 21) (.const (.int .i64 1)) rfl Tryz.underlying22 Xd1 (some a) n c 1 (by go_simp) (by go_simp) (by have:=HN2.out;omega) HNC.out HCM.out⟩) ⟨C0.out,trivial⟩ ?_;try simp only[nm]
     simp only[HN1.out];refine Tk 5 rfl ?_ ⟨C0.out,trivial⟩ ?_ ⟨?_,rfl⟩
     ·intro w hw;(try dsimp only at hw);obtain⟨q0,q1⟩:=hw;go_simp;try with_reducible rfl
     try simp only[nm]
     refine Tk 6 rfl ?_ ⟨C0.out,trivial⟩ ?_ ⟨?_,rfl⟩
     ·intro w hw;(try dsimp only at hw);obtain⟨q0,q1⟩:=hw;go_simp;try with_reducible rfl
     try simp only[nm]
     refine wpAnyH_done (by kernel_rfl) ?_ _;go_wp2_with fail;go_ret;exact⟨by rw[HT.out];rfl,by rw[HT.out];exact HR.out.drew,(Br g w).drew⟩
theorem Xix(w:World):Calls Tryz.prog 87 #[] w fun e w'=>e=.returned (.agg (bv k3).toArray)∧Below w.heap.size w w':=by
 go_enter Tryz.func87,Tryz.ntmps87
 go_wp2_with (first
  | ((with_reducible show wpList _ _ _ (⟨some 1,_,_,_,_,_⟩::_) _ _);go_must(refine wpList_plain rfl fun K hK=>Xav _ _ _ rfl (by simp only[List.map_toArray,List.map_cons,List.map_nil];exact Xkf) (hK _ _ ?_)))
  | ((with_reducible show wpList _ _ _ (⟨none,Op.store 78 _ _,_,_,_,_⟩::_) _ _);go_must(refine Xa1 rfl 78 (.tmp 0) (.tmp 1) rfl (bv k3) Xab (Xae _) rfl ?_ ?_ ?_;go_simp;go_simp;intro w1 hr1 hb1 hz1;have HR1:=Hd hr1;have HB1:=Hd hb1;clear hr1 hb1)))
 refine bodyPost_ret (results_cell_row (h:=rfl) _ w1 w.heap.size 78 _ (0,0) _ (by rfl) HR1.out.is Tryz.underlying78 rfl Xab) rfl ?_;exact⟨rfl,HB1.out⟩
theorem Xvt{keys:List (List Int)}{p:Int}(h:¬p<keys.length):isW keys p=false:=by unfold isW;rw[decide_eq_false h];rfl
theorem Xvj{keys:List (List Int)}{q:Nat}{y:List Int}(h:keys[q]?=some y):isW keys (q:Int)=decide (y=k3):=by
 unfold isW;have hq:=(List.getElem?_eq_some_iff.1 h).1;rw[decide_eq_true (by omega),Bool.true_and,Int.toNat_natCast,List.getD_eq_getElem?_getD,h];rfl
theorem Xs5(KA:Option Addr)(kn kc:Nat)(keys:List (List Int))(va vd:Value)(p:Int)(B:Nat)(w:World)(hk:KeysIn w B KA kn keys)(hkn:kn≤kc∧kc≤maxLen)(hB:B≤w.heap.size)(hp:IsByte p) :
 Calls Tryz.prog 69 #[.slice KA kn kc,.agg (inCells p va vd).toArray] w fun e w'=>e=.returned (.bool (isW keys p))∧Below w.heap.size w w':=by
 obtain⟨W,hW0⟩:∃V,V=w.alloc (.cells (inCells p va vd).toArray 131):=⟨_,rfl⟩;have hb0:Below w.heap.size w W:=hW0 ▸ (Br w.heap.size w).alloc (Lr _) _;have hri:Row W (w.heap.size) 131 (inCells p va vd):=by rw[hW0];exact Row.new w 131 (inCells p va vd)
 have HM0:Hid True:=Hd trivial;have HC0:Hid (W.drew.cell? ⟨w.heap.size,0,none⟩=some (.int .u8 p)):=Hd (hri.drew.cell 0);have HIB:Hid (w.heap.size<W.drew.heap.size):=Hd hri.drew.lt;have hk0:=hk.below (hb0.mono hB);have HB0:=Hd hb0;have HWW:=Hd hW0.symm;have hkl:=hk.len;clear hri hb0 hk hW0;obtain⟨h0,h1⟩:=hp;obtain⟨q,rfl⟩:=Int.eq_ofNat_of_zero_le h0;obtain⟨hkn,hkc⟩:=hkn;unfold maxLen at hkc;have hwq:IntKind.i64.wrap (q:Int)=(q:Int):=IntWalk.i64_in _ (by omega);have HBB:=Hd hB;generalize inCells (q:Int) va vd=IC at *;rcases Nat.lt_or_ge q kn with hq | hq
 ·obtain⟨a,y,rfl,hab,hx,hat⟩:=hk0.get hq;have HAB:Hid (a.block<W.heap.size):=Hd (Nat.lt_of_lt_of_le hab (Lq HBB.out HB0.out.size));have HCA:=Hd hat.cells;have HSY:=Hd (show(Tryz.prog.info? 78).map (·.size)=some (bv y).length by rw[Xab,bL,hat.len]);have N3:=fun w=>Xej hat.len Xn8 w
  have HK:=Hd (Xvj hx);have hlt:decide ((q:Int)<(kn:Int))=true:=decide_eq_true (by omega);clear hat hk0 hx hab;cases hyy:decide (y=k3)with
  | true =>
   have HQ:Hid (isW keys q=true):=Hd (by rw[HK.out,hyy]);rw[hyy]at N3;clear hyy HK;go_enter Tryz.func69,Tryz.ntmps69
   go_upto_region 1 with fail
   rw[HWW.out];clear HWW;go_wp2_with fail;refine wp_region_held_drew (S:=(fun V=>V.cell? ⟨w.heap.size,0,none⟩=some (.int .u8 q)∧True∧Below W.heap.size W V)) (by kernel_rfl) ⟨HC0.out,HM0.out,(Br W.heap.size W).drew⟩ (fun _=>?_);refine Tk 0 rfl ?_ ⟨HC0.out,HM0.out,(Br W.heap.size W).drew⟩ ?_ ⟨?_,rfl⟩
   ·intro w hw;(try dsimp only at hw);obtain⟨q0,q1,q2⟩:=hw;go_simp;try with_reducible rfl
   try simp only[nm]
   refine Tk 1 rfl ?_ ⟨HC0.out,HM0.out,(Br W.heap.size W).drew⟩ ?_ ⟨?_,rfl⟩
   ·intro w hw;(try dsimp only at hw);obtain⟨q0,q1,q2⟩:=hw;go_simp;try with_reducible rfl
   try simp only[nm]
   refine Tk 2 rfl ?_ ⟨HC0.out,HM0.out,(Br W.heap.size W).drew⟩ ?_ ⟨?_,rfl⟩
   ·intro w hw;(try dsimp only at hw);obtain⟨q0,q1,q2⟩:=hw;go_simp;try with_reducible rfl
   try simp only[nm]
   refine Tk 3 rfl ?_ ⟨HC0.out,HM0.out,(Br W.heap.size W).drew⟩ ?_ ⟨?_,rfl⟩
   ·intro w hw;(try dsimp only at hw);obtain⟨q0,q1,q2⟩:=hw;go_simp;try with_reducible rfl
   try simp only[nm]
   refine Tk 4 rfl ?_ ⟨HC0.out,HM0.out,(Br W.heap.size W).drew⟩ ?_ ⟨?_,rfl⟩
   ·intro w hw;(try dsimp only at hw);obtain⟨q0,q1,q2⟩:=hw;go_simp;try with_reducible rfl
   try simp only[nm]
   refine Tk 5 rfl ?_ ⟨HC0.out,HM0.out,(Br W.heap.size W).drew⟩ ?_ ⟨?_,rfl⟩
   ·intro w hw;(try dsimp only at hw);obtain⟨q0,q1,q2⟩:=hw;go_simp;try with_reducible rfl
   try simp only[nm]
   refine Tk 6 rfl ?_ ⟨HC0.out,HM0.out,(Br W.heap.size W).drew⟩ ?_ ⟨?_,rfl⟩
   ·intro w hw;(try dsimp only at hw);obtain⟨q0,q1,q2⟩:=hw;go_simp;try with_reducible rfl
   try simp only[nm]
   refine Tk 7 rfl ?_ ⟨HC0.out,HM0.out,(Br W.heap.size W).drew⟩ ?_ ⟨?_,rfl⟩
   ·intro w hw;(try dsimp only at hw);obtain⟨q0,q1,q2⟩:=hw;go_simp;try with_reducible rfl
   try simp only[nm]
   refine Tk 8 rfl ?_ ⟨HC0.out,HM0.out,(Br W.heap.size W).drew⟩ ?_ ⟨?_,rfl⟩
   ·intro w hw;(try dsimp only at hw);obtain⟨q0,q1,q2⟩:=hw;go_simp;try with_reducible rfl
   try simp only[nm]
   refine Tk 9 rfl ?_ ⟨HC0.out,HM0.out,(Br W.heap.size W).drew⟩ ?_ ⟨?_,rfl⟩
   ·intro w hw;(try dsimp only at hw);obtain⟨q0,q1,q2⟩:=hw;go_simp;try with_reducible rfl
   try simp only[nm]
   refine Tk 10 rfl ?_ ⟨HC0.out,HM0.out,(Br W.heap.size W).drew⟩ ?_ ⟨?_,rfl⟩
   ·intro w hw;(try dsimp only at hw);obtain⟨q0,q1,q2⟩:=hw;go_simp;try with_reducible rfl
   try simp only[nm]
   refine Tl 11 (v:=.agg (bv y).toArray) rfl (Or.inl ⟨by rfl,fun wz hwz=>Xa8 wz 78 (.tmp 15) rfl (a.add (q*32)) (bv y) _ Tryz.underlying78 rfl HSY.out (fun j u hu=>(hwz.2.2.cell (by rw[Xa7,Xa7];exact HAB.out)).trans (HCA.out j u hu)) (by go_simp)⟩) ⟨HC0.out,HM0.out,(Br W.heap.size W).drew⟩ ?_;try simp only[nm]
   refine Rl 12 rfl fun K hK=>?_
   go_simp;refine(Xkj W.drew).mono ?_;rintro e w1 ⟨rfl,hb1⟩;have B1:=Hd (show Below W.heap.size W w1 from((Br W.heap.size W).drew).trans hb1);have HC1:Hid (w1.cell? ⟨w.heap.size,0,none⟩=some (.int .u8 q)):=Hd ((hb1.cell (p:=⟨w.heap.size,0,none⟩) HIB.out).trans HC0.out);have HM1:Hid True:=HM0;clear hb1;refine hK.out _ _ ⟨HC1.out,HM1.out,B1.out⟩ ?_;clear hK K;try simp only[nm]
   refine Tk 13 rfl ?_ ⟨HC1.out,HM1.out,B1.out⟩ ?_ ⟨?_,rfl⟩
   ·intro w hw;(try dsimp only at hw);obtain⟨q0,q1,q2⟩:=hw;go_simp;try with_reducible rfl
   try simp only[nm]
   refine Tk 14 rfl ?_ ⟨HC1.out,HM1.out,B1.out⟩ ?_ ⟨?_,rfl⟩
   ·intro w hw;(try dsimp only at hw);obtain⟨q0,q1,q2⟩:=hw;go_simp;try with_reducible rfl
   try simp only[nm]
   refine Tk 15 rfl ?_ ⟨HC1.out,HM1.out,B1.out⟩ ?_ ⟨?_,rfl⟩
   ·intro w hw;(try dsimp only at hw);obtain⟨q0,q1,q2⟩:=hw;go_simp;try with_reducible rfl
   try simp only[nm]
   refine wpAnyH_done (by kernel_rfl) ?_ _;go_wp2_with fail;go_ret;exact⟨Xad HQ.out.symm,HB0.out.trans (B1.out.mono HB0.out.size)⟩
  | false =>
   have HQ:Hid (isW keys q=false):=Hd (by rw[HK.out,hyy]);rw[hyy]at N3;clear hyy HK;go_enter Tryz.func69,Tryz.ntmps69
   go_upto_region 1 with fail
   rw[HWW.out];clear HWW;go_wp2_with fail;refine wp_region_held_drew (S:=(fun V=>V.cell? ⟨w.heap.size,0,none⟩=some (.int .u8 q)∧True∧Below W.heap.size W V)) (by kernel_rfl) ⟨HC0.out,HM0.out,(Br W.heap.size W).drew⟩ (fun _=>?_);refine Tk 0 rfl ?_ ⟨HC0.out,HM0.out,(Br W.heap.size W).drew⟩ ?_ ⟨?_,rfl⟩
   ·intro w hw;(try dsimp only at hw);obtain⟨q0,q1,q2⟩:=hw;go_simp;try with_reducible rfl
   try simp only[nm]
   refine Tk 1 rfl ?_ ⟨HC0.out,HM0.out,(Br W.heap.size W).drew⟩ ?_ ⟨?_,rfl⟩
   ·intro w hw;(try dsimp only at hw);obtain⟨q0,q1,q2⟩:=hw;go_simp;try with_reducible rfl
   try simp only[nm]
   refine Tk 2 rfl ?_ ⟨HC0.out,HM0.out,(Br W.heap.size W).drew⟩ ?_ ⟨?_,rfl⟩
   ·intro w hw;(try dsimp only at hw);obtain⟨q0,q1,q2⟩:=hw;go_simp;try with_reducible rfl
   try simp only[nm]
   refine Tk 3 rfl ?_ ⟨HC0.out,HM0.out,(Br W.heap.size W).drew⟩ ?_ ⟨?_,rfl⟩
   ·intro w hw;(try dsimp only at hw);obtain⟨q0,q1,q2⟩:=hw;go_simp;try with_reducible rfl
   try simp only[nm]
   refine Tk 4 rfl ?_ ⟨HC0.out,HM0.out,(Br W.heap.size W).drew⟩ ?_ ⟨?_,rfl⟩
   ·intro w hw;(try dsimp only at hw);obtain⟨q0,q1,q2⟩:=hw;go_simp;try with_reducible rfl
   try simp only[nm]
   refine Tk 5 rfl ?_ ⟨HC0.out,HM0.out,(Br W.heap.size W).drew⟩ ?_ ⟨?_,rfl⟩
   ·intro w hw;(try dsimp only at hw);obtain⟨q0,q1,q2⟩:=hw;go_simp;try with_reducible rfl
   try simp only[nm]
   refine Tk 6 rfl ?_ ⟨HC0.out,HM0.out,(Br W.heap.size W).drew⟩ ?_ ⟨?_,rfl⟩
   ·intro w hw;(try dsimp only at hw);obtain⟨q0,q1,q2⟩:=hw;go_simp;try with_reducible rfl
   try simp only[nm]
   refine Tk 7 rfl ?_ ⟨HC0.out,HM0.out,(Br W.heap.size W).drew⟩ ?_ ⟨?_,rfl⟩
   ·intro w hw;(try dsimp only at hw);obtain⟨q0,q1,q2⟩:=hw;go_simp;try with_reducible rfl
   try simp only[nm]
   refine Tk 8 rfl ?_ ⟨HC0.out,HM0.out,(Br W.heap.size W).drew⟩ ?_ ⟨?_,rfl⟩
   ·intro w hw;(try dsimp only at hw);obtain⟨q0,q1,q2⟩:=hw;go_simp;try with_reducible rfl
   try simp only[nm]
   refine Tk 9 rfl ?_ ⟨HC0.out,HM0.out,(Br W.heap.size W).drew⟩ ?_ ⟨?_,rfl⟩
   ·intro w hw;(try dsimp only at hw);obtain⟨q0,q1,q2⟩:=hw;go_simp;try with_reducible rfl
   try simp only[nm]
   refine Tk 10 rfl ?_ ⟨HC0.out,HM0.out,(Br W.heap.size W).drew⟩ ?_ ⟨?_,rfl⟩
   ·intro w hw;(try dsimp only at hw);obtain⟨q0,q1,q2⟩:=hw;go_simp;try with_reducible rfl
   try simp only[nm]
   refine Tl 11 (v:=.agg (bv y).toArray) rfl (Or.inl ⟨by rfl,fun wz hwz=>Xa8 wz 78 (.tmp 15) rfl (a.add (q*32)) (bv y) _ Tryz.underlying78 rfl HSY.out (fun j u hu=>(hwz.2.2.cell (by rw[Xa7,Xa7];exact HAB.out)).trans (HCA.out j u hu)) (by go_simp)⟩) ⟨HC0.out,HM0.out,(Br W.heap.size W).drew⟩ ?_;try simp only[nm]
   refine Rl 12 rfl fun K hK=>?_
   go_simp;refine(Xkj W.drew).mono ?_;rintro e w1 ⟨rfl,hb1⟩;have B1:=Hd (show Below W.heap.size W w1 from((Br W.heap.size W).drew).trans hb1);have HC1:Hid (w1.cell? ⟨w.heap.size,0,none⟩=some (.int .u8 q)):=Hd ((hb1.cell (p:=⟨w.heap.size,0,none⟩) HIB.out).trans HC0.out);have HM1:Hid True:=HM0;clear hb1;refine hK.out _ _ ⟨HC1.out,HM1.out,B1.out⟩ ?_;clear hK K;try simp only[nm]
   refine Tk 13 rfl ?_ ⟨HC1.out,HM1.out,B1.out⟩ ?_ ⟨?_,rfl⟩
   ·intro w hw;(try dsimp only at hw);obtain⟨q0,q1,q2⟩:=hw;go_simp;try with_reducible rfl
   try simp only[nm]
   refine Tk 14 rfl ?_ ⟨HC1.out,HM1.out,B1.out⟩ ?_ ⟨?_,rfl⟩
   ·intro w hw;(try dsimp only at hw);obtain⟨q0,q1,q2⟩:=hw;go_simp;try with_reducible rfl
   try simp only[nm]
   refine Tk 15 rfl ?_ ⟨HC1.out,HM1.out,B1.out⟩ ?_ ⟨?_,rfl⟩
   ·intro w hw;(try dsimp only at hw);obtain⟨q0,q1,q2⟩:=hw;go_simp;try with_reducible rfl
   try simp only[nm]
   refine wpAnyH_done (by kernel_rfl) ?_ _;go_wp2_with fail;go_ret;exact⟨Xad HQ.out.symm,HB0.out.trans (B1.out.mono HB0.out.size)⟩
 ·have HQ:Hid (isW keys q=false):=Hd (Xvt (by rw[hkl];omega));have hlt:decide ((q:Int)<(kn:Int))=false:=decide_eq_false (by omega);have hlt2:decide (q<kn)=false:=decide_eq_false (by omega);have hlt3:¬(q:Int)<(kn:Int):=by omega
  clear hk0;go_enter Tryz.func69,Tryz.ntmps69
  go_upto_region 1 with fail
  rw[HWW.out];clear HWW;go_wp2_with fail;refine wp_region_held_drew (S:=(fun V=>V.cell? ⟨w.heap.size,0,none⟩=some (.int .u8 q)∧True∧Below W.heap.size W V)) (by kernel_rfl) ⟨HC0.out,HM0.out,(Br W.heap.size W).drew⟩ (fun _=>?_);refine Tk 0 rfl ?_ ⟨HC0.out,HM0.out,(Br W.heap.size W).drew⟩ ?_ ⟨?_,rfl⟩
  ·intro w hw;(try dsimp only at hw);obtain⟨q0,q1,q2⟩:=hw;go_simp;try with_reducible rfl
  try simp only[nm]
  refine Tk 1 rfl ?_ ⟨HC0.out,HM0.out,(Br W.heap.size W).drew⟩ ?_ ⟨?_,rfl⟩
  ·intro w hw;(try dsimp only at hw);obtain⟨q0,q1,q2⟩:=hw;go_simp;try with_reducible rfl
  try simp only[nm]
  refine Tk 2 rfl ?_ ⟨HC0.out,HM0.out,(Br W.heap.size W).drew⟩ ?_ ⟨?_,rfl⟩
  ·intro w hw;(try dsimp only at hw);obtain⟨q0,q1,q2⟩:=hw;go_simp;try with_reducible rfl
  try simp only[nm]
  refine Tk 3 rfl ?_ ⟨HC0.out,HM0.out,(Br W.heap.size W).drew⟩ ?_ ⟨?_,rfl⟩
  ·intro w hw;(try dsimp only at hw);obtain⟨q0,q1,q2⟩:=hw;go_simp;try with_reducible rfl
  try simp only[nm]
  refine Tk 4 rfl ?_ ⟨HC0.out,HM0.out,(Br W.heap.size W).drew⟩ ?_ ⟨?_,rfl⟩
  ·intro w hw;(try dsimp only at hw);obtain⟨q0,q1,q2⟩:=hw;go_simp;try with_reducible rfl
  try simp only[nm]
  refine Tk 5 rfl ?_ ⟨HC0.out,HM0.out,(Br W.heap.size W).drew⟩ ?_ ⟨?_,rfl⟩
  ·intro w hw;(try dsimp only at hw);obtain⟨q0,q1,q2⟩:=hw;go_simp;try with_reducible rfl
  try simp only[nm]
  refine Tk 6 rfl ?_ ⟨HC0.out,HM0.out,(Br W.heap.size W).drew⟩ ?_ ⟨?_,rfl⟩
  ·intro w hw;(try dsimp only at hw);obtain⟨q0,q1,q2⟩:=hw;go_simp;try with_reducible rfl
  try simp only[nm]
  refine Tl 7 (v:=undef) rfl (Or.inr ⟨by rfl,rfl⟩) ⟨HC0.out,HM0.out,(Br W.heap.size W).drew⟩ ?_;try simp only[nm]
  refine Tl 8 (v:=undef) rfl (Or.inr ⟨by rfl,rfl⟩) ⟨HC0.out,HM0.out,(Br W.heap.size W).drew⟩ ?_;try simp only[nm]
  refine Tl 9 (v:=undef) rfl (Or.inr ⟨by rfl,rfl⟩) ⟨HC0.out,HM0.out,(Br W.heap.size W).drew⟩ ?_;try simp only[nm]
  refine Tl 10 (v:=undef) rfl (Or.inr ⟨by rfl,rfl⟩) ⟨HC0.out,HM0.out,(Br W.heap.size W).drew⟩ ?_;try simp only[nm]
  refine Tl 11 (v:=undef) rfl (Or.inr ⟨by rfl,rfl⟩) ⟨HC0.out,HM0.out,(Br W.heap.size W).drew⟩ ?_;try simp only[nm]
  refine Tl 12 (v:=undef) rfl (Or.inr ⟨by rfl,rfl⟩) ⟨HC0.out,HM0.out,(Br W.heap.size W).drew⟩ ?_;try simp only[nm]
  refine Tl 13 (v:=undef) rfl (Or.inr ⟨by rfl,rfl⟩) ⟨HC0.out,HM0.out,(Br W.heap.size W).drew⟩ ?_;try simp only[nm]
  refine Tk 14 rfl ?_ ⟨HC0.out,HM0.out,(Br W.heap.size W).drew⟩ ?_ ⟨?_,rfl⟩
  ·intro w hw;(try dsimp only at hw);obtain⟨q0,q1,q2⟩:=hw;go_simp;try with_reducible rfl
  try simp only[nm]
  refine Tk 15 rfl ?_ ⟨HC0.out,HM0.out,(Br W.heap.size W).drew⟩ ?_ ⟨?_,rfl⟩
  ·intro w hw;(try dsimp only at hw);obtain⟨q0,q1,q2⟩:=hw;go_simp;try with_reducible rfl
  try simp only[nm]
  refine wpAnyH_done (by kernel_rfl) ?_ _;go_wp2_with fail;go_ret;exact⟨Xad HQ.out.symm,HB0.out.drew⟩
theorem Xu7(r:Raw)(m:LMsg)(va vd:Value)(p:Int)(B:Nat)(w:World)(hm:MsgIn w B r m)(hB:B≤w.heap.size)(hp:IsByte p) :
 Calls Tryz.prog 88 #[.agg (r.cells m).toArray,.agg (inCells p va vd).toArray] w fun e w'=>e=.returned (.bool (isW m.keys p))∧Below w.heap.size w w':=by
 have hk:=hm.keys;obtain⟨KA,kn,kc,IA,n,ic,LA,ln,lc⟩:=r;have hkn:=hm.kn;dsimp only at hk hkn
 have hc4:(Raw.cells ⟨KA,kn,kc,IA,n,ic,LA,ln,lc⟩ m)[4]?=some (.slice KA kn kc):=rfl;clear hm;generalize Raw.cells ⟨KA,kn,kc,IA,n,ic,LA,ln,lc⟩ m=MC at *;generalize m.keys=keys at *;obtain⟨W,hW0⟩:∃V,V=(w.alloc (.cells MC.toArray 40)).alloc (.cells (inCells p va vd).toArray 131):=⟨_,rfl⟩;have hb0:Below w.heap.size w W:=hW0 ▸ ((Br w.heap.size w).alloc (Lr _) (.cells MC.toArray 40)).alloc (by simp) _;have hri:Row W (w.heap.size+1) 131 (inCells p va vd):=by rw[hW0];exact Row.new' (w.alloc (.cells MC.toArray 40)) 131 (inCells p va vd) (show(w.alloc (.cells MC.toArray 40)).heap.size=w.heap.size+1 by simp)
 have hmi:Row W w.heap.size 40 MC:=by rw[hW0];exact(Row.new w 40 MC).alloc _
 have HM0:Hid (W.drew.cell? ⟨w.heap.size,4,none⟩=some (.slice KA kn kc)):=Hd ((hmi.drew.cell 4).trans hc4);have HMB:Hid (w.heap.size<W.drew.heap.size):=Hd hmi.drew.lt;have HC0:Hid (W.drew.cell? ⟨w.heap.size+1,0,none⟩=some (.int .u8 p)):=Hd (hri.drew.cell 0);have HIB:Hid (w.heap.size+1<W.drew.heap.size):=Hd hri.drew.lt;have hk0:=hk.below (hb0.mono hB);have HB0:=Hd hb0;have HWW:=Hd hW0.symm;have hkl:=hk.len;clear hri hb0 hk hW0 hmi;obtain⟨h0,h1⟩:=hp;obtain⟨q,rfl⟩:=Int.eq_ofNat_of_zero_le h0;obtain⟨hkn,hkc⟩:=hkn;unfold maxLen at hkc;have hwq:IntKind.i64.wrap (q:Int)=(q:Int):=IntWalk.i64_in _ (by omega);have HBB:=Hd hB;generalize inCells (q:Int) va vd=IC at *;rcases Nat.lt_or_ge q kn with hq | hq
 ·obtain⟨a,y,rfl,hab,hx,hat⟩:=hk0.get hq;have HAB:Hid (a.block<W.heap.size):=Hd (Nat.lt_of_lt_of_le hab (Lq HBB.out HB0.out.size));have HCA:=Hd hat.cells;have HSY:=Hd (show(Tryz.prog.info? 78).map (·.size)=some (bv y).length by rw[Xab,bL,hat.len]);have N3:=fun w=>Xej hat.len Xn8 w
  have HK:=Hd (Xvj hx);have hlt:decide ((q:Int)<(kn:Int))=true:=decide_eq_true (by omega);clear hat hk0 hx hab;cases hyy:decide (y=k3)with
  | true =>
   have HQ:Hid (isW keys q=true):=Hd (by rw[HK.out,hyy]);rw[hyy]at N3;clear hyy HK;go_enter Tryz.func88,Tryz.ntmps88
   go_upto_region 1 with fail
   rw[HWW.out];clear HWW;go_wp2_with fail;refine wp_region_held_drew (S:=(fun V=>V.cell? ⟨w.heap.size+1,0,none⟩=some (.int .u8 q)∧V.cell? ⟨w.heap.size,4,none⟩=some (.slice (some a) kn kc)∧Below W.heap.size W V)) (by kernel_rfl) ⟨HC0.out,HM0.out,(Br W.heap.size W).drew⟩ (fun _=>?_);refine Tk 0 rfl ?_ ⟨HC0.out,HM0.out,(Br W.heap.size W).drew⟩ ?_ ⟨?_,rfl⟩
   ·intro w hw;(try dsimp only at hw);obtain⟨q0,q1,q2⟩:=hw;go_simp;try with_reducible rfl
   try simp only[nm]
   refine Tk 1 rfl ?_ ⟨HC0.out,HM0.out,(Br W.heap.size W).drew⟩ ?_ ⟨?_,rfl⟩
   ·intro w hw;(try dsimp only at hw);obtain⟨q0,q1,q2⟩:=hw;go_simp;try with_reducible rfl
   try simp only[nm]
   refine Tk 2 rfl ?_ ⟨HC0.out,HM0.out,(Br W.heap.size W).drew⟩ ?_ ⟨?_,rfl⟩
   ·intro w hw;(try dsimp only at hw);obtain⟨q0,q1,q2⟩:=hw;go_simp;try with_reducible rfl
   try simp only[nm]
   refine Tk 3 rfl ?_ ⟨HC0.out,HM0.out,(Br W.heap.size W).drew⟩ ?_ ⟨?_,rfl⟩
   ·intro w hw;(try dsimp only at hw);obtain⟨q0,q1,q2⟩:=hw;go_simp;try with_reducible rfl
   try simp only[nm]
   refine Tk 4 rfl ?_ ⟨HC0.out,HM0.out,(Br W.heap.size W).drew⟩ ?_ ⟨?_,rfl⟩
   ·intro w hw;(try dsimp only at hw);obtain⟨q0,q1,q2⟩:=hw;go_simp;try with_reducible rfl
   try simp only[nm]
   refine Tk 5 rfl ?_ ⟨HC0.out,HM0.out,(Br W.heap.size W).drew⟩ ?_ ⟨?_,rfl⟩
   ·intro w hw;(try dsimp only at hw);obtain⟨q0,q1,q2⟩:=hw;go_simp;try with_reducible rfl
   try simp only[nm]
   refine Tk 6 rfl ?_ ⟨HC0.out,HM0.out,(Br W.heap.size W).drew⟩ ?_ ⟨?_,rfl⟩
   ·intro w hw;(try dsimp only at hw);obtain⟨q0,q1,q2⟩:=hw;go_simp;try with_reducible rfl
   try simp only[nm]
   refine Tk 7 rfl ?_ ⟨HC0.out,HM0.out,(Br W.heap.size W).drew⟩ ?_ ⟨?_,rfl⟩
   ·intro w hw;(try dsimp only at hw);obtain⟨q0,q1,q2⟩:=hw;go_simp;try with_reducible rfl
   try simp only[nm]
   refine Tk 8 rfl ?_ ⟨HC0.out,HM0.out,(Br W.heap.size W).drew⟩ ?_ ⟨?_,rfl⟩
   ·intro w hw;(try dsimp only at hw);obtain⟨q0,q1,q2⟩:=hw;go_simp;try with_reducible rfl
   try simp only[nm]
   refine Tk 9 rfl ?_ ⟨HC0.out,HM0.out,(Br W.heap.size W).drew⟩ ?_ ⟨?_,rfl⟩
   ·intro w hw;(try dsimp only at hw);obtain⟨q0,q1,q2⟩:=hw;go_simp;try with_reducible rfl
   try simp only[nm]
   refine Tk 10 rfl ?_ ⟨HC0.out,HM0.out,(Br W.heap.size W).drew⟩ ?_ ⟨?_,rfl⟩
   ·intro w hw;(try dsimp only at hw);obtain⟨q0,q1,q2⟩:=hw;go_simp;try with_reducible rfl
   try simp only[nm]
   refine Tk 11 rfl ?_ ⟨HC0.out,HM0.out,(Br W.heap.size W).drew⟩ ?_ ⟨?_,rfl⟩
   ·intro w hw;(try dsimp only at hw);obtain⟨q0,q1,q2⟩:=hw;go_simp;try with_reducible rfl
   try simp only[nm]
   refine Tk 12 rfl ?_ ⟨HC0.out,HM0.out,(Br W.heap.size W).drew⟩ ?_ ⟨?_,rfl⟩
   ·intro w hw;(try dsimp only at hw);obtain⟨q0,q1,q2⟩:=hw;go_simp;try with_reducible rfl
   try simp only[nm]
   refine Tl 13 (v:=.agg (bv y).toArray) rfl (Or.inl ⟨by rfl,fun wz hwz=>Xa8 wz 78 (.tmp 17) rfl (a.add (q*32)) (bv y) _ Tryz.underlying78 rfl HSY.out (fun j u hu=>(hwz.2.2.cell (by rw[Xa7,Xa7];exact HAB.out)).trans (HCA.out j u hu)) (by go_simp)⟩) ⟨HC0.out,HM0.out,(Br W.heap.size W).drew⟩ ?_;try simp only[nm]
   refine Rl 14 rfl fun K hK=>?_
   go_simp;refine(Xix W.drew).mono ?_;rintro e w1 ⟨rfl,hb1⟩;have B1:=Hd (show Below W.heap.size W w1 from((Br W.heap.size W).drew).trans hb1);have HC1:Hid (w1.cell? ⟨w.heap.size+1,0,none⟩=some (.int .u8 q)):=Hd ((hb1.cell (p:=⟨w.heap.size+1,0,none⟩) HIB.out).trans HC0.out);have HM1:Hid (w1.cell? ⟨w.heap.size,4,none⟩=some (.slice (some a) kn kc)):=Hd ((hb1.cell (p:=⟨w.heap.size,4,none⟩) HMB.out).trans HM0.out);clear hb1;refine hK.out _ _ ⟨HC1.out,HM1.out,B1.out⟩ ?_;clear hK K;try simp only[nm]
   refine Tk 15 rfl ?_ ⟨HC1.out,HM1.out,B1.out⟩ ?_ ⟨?_,rfl⟩
   ·intro w hw;(try dsimp only at hw);obtain⟨q0,q1,q2⟩:=hw;go_simp;try with_reducible rfl
   try simp only[nm]
   refine Tk 16 rfl ?_ ⟨HC1.out,HM1.out,B1.out⟩ ?_ ⟨?_,rfl⟩
   ·intro w hw;(try dsimp only at hw);obtain⟨q0,q1,q2⟩:=hw;go_simp;try with_reducible rfl
   try simp only[nm]
   refine Tk 17 rfl ?_ ⟨HC1.out,HM1.out,B1.out⟩ ?_ ⟨?_,rfl⟩
   ·intro w hw;(try dsimp only at hw);obtain⟨q0,q1,q2⟩:=hw;go_simp;try with_reducible rfl
   try simp only[nm]
   refine wpAnyH_done (by kernel_rfl) ?_ _;go_wp2_with fail;go_ret;exact⟨Xad HQ.out.symm,HB0.out.trans (B1.out.mono HB0.out.size)⟩
  | false =>
   have HQ:Hid (isW keys q=false):=Hd (by rw[HK.out,hyy]);rw[hyy]at N3;clear hyy HK;go_enter Tryz.func88,Tryz.ntmps88
   go_upto_region 1 with fail
   rw[HWW.out];clear HWW;go_wp2_with fail;refine wp_region_held_drew (S:=(fun V=>V.cell? ⟨w.heap.size+1,0,none⟩=some (.int .u8 q)∧V.cell? ⟨w.heap.size,4,none⟩=some (.slice (some a) kn kc)∧Below W.heap.size W V)) (by kernel_rfl) ⟨HC0.out,HM0.out,(Br W.heap.size W).drew⟩ (fun _=>?_);refine Tk 0 rfl ?_ ⟨HC0.out,HM0.out,(Br W.heap.size W).drew⟩ ?_ ⟨?_,rfl⟩
   ·intro w hw;(try dsimp only at hw);obtain⟨q0,q1,q2⟩:=hw;go_simp;try with_reducible rfl
   try simp only[nm]
   refine Tk 1 rfl ?_ ⟨HC0.out,HM0.out,(Br W.heap.size W).drew⟩ ?_ ⟨?_,rfl⟩
   ·intro w hw;(try dsimp only at hw);obtain⟨q0,q1,q2⟩:=hw;go_simp;try with_reducible rfl
   try simp only[nm]
   refine Tk 2 rfl ?_ ⟨HC0.out,HM0.out,(Br W.heap.size W).drew⟩ ?_ ⟨?_,rfl⟩
   ·intro w hw;(try dsimp only at hw);obtain⟨q0,q1,q2⟩:=hw;go_simp;try with_reducible rfl
   try simp only[nm]
   refine Tk 3 rfl ?_ ⟨HC0.out,HM0.out,(Br W.heap.size W).drew⟩ ?_ ⟨?_,rfl⟩
   ·intro w hw;(try dsimp only at hw);obtain⟨q0,q1,q2⟩:=hw;go_simp;try with_reducible rfl
   try simp only[nm]
   refine Tk 4 rfl ?_ ⟨HC0.out,HM0.out,(Br W.heap.size W).drew⟩ ?_ ⟨?_,rfl⟩
   ·intro w hw;(try dsimp only at hw);obtain⟨q0,q1,q2⟩:=hw;go_simp;try with_reducible rfl
   try simp only[nm]
   refine Tk 5 rfl ?_ ⟨HC0.out,HM0.out,(Br W.heap.size W).drew⟩ ?_ ⟨?_,rfl⟩
   ·intro w hw;(try dsimp only at hw);obtain⟨q0,q1,q2⟩:=hw;go_simp;try with_reducible rfl
   try simp only[nm]
   refine Tk 6 rfl ?_ ⟨HC0.out,HM0.out,(Br W.heap.size W).drew⟩ ?_ ⟨?_,rfl⟩
   ·intro w hw;(try dsimp only at hw);obtain⟨q0,q1,q2⟩:=hw;go_simp;try with_reducible rfl
   try simp only[nm]
   refine Tk 7 rfl ?_ ⟨HC0.out,HM0.out,(Br W.heap.size W).drew⟩ ?_ ⟨?_,rfl⟩
   ·intro w hw;(try dsimp only at hw);obtain⟨q0,q1,q2⟩:=hw;go_simp;try with_reducible rfl
   try simp only[nm]
   refine Tk 8 rfl ?_ ⟨HC0.out,HM0.out,(Br W.heap.size W).drew⟩ ?_ ⟨?_,rfl⟩
   ·intro w hw;(try dsimp only at hw);obtain⟨q0,q1,q2⟩:=hw;go_simp;try with_reducible rfl
   try simp only[nm]
   refine Tk 9 rfl ?_ ⟨HC0.out,HM0.out,(Br W.heap.size W).drew⟩ ?_ ⟨?_,rfl⟩
   ·intro w hw;(try dsimp only at hw);obtain⟨q0,q1,q2⟩:=hw;go_simp;try with_reducible rfl
   try simp only[nm]
   refine Tk 10 rfl ?_ ⟨HC0.out,HM0.out,(Br W.heap.size W).drew⟩ ?_ ⟨?_,rfl⟩
   ·intro w hw;(try dsimp only at hw);obtain⟨q0,q1,q2⟩:=hw;go_simp;try with_reducible rfl
   try simp only[nm]
   refine Tk 11 rfl ?_ ⟨HC0.out,HM0.out,(Br W.heap.size W).drew⟩ ?_ ⟨?_,rfl⟩
   ·intro w hw;(try dsimp only at hw);obtain⟨q0,q1,q2⟩:=hw;go_simp;try with_reducible rfl
   try simp only[nm]
   refine Tk 12 rfl ?_ ⟨HC0.out,HM0.out,(Br W.heap.size W).drew⟩ ?_ ⟨?_,rfl⟩
   ·intro w hw;(try dsimp only at hw);obtain⟨q0,q1,q2⟩:=hw;go_simp;try with_reducible rfl
   try simp only[nm]
   refine Tl 13 (v:=.agg (bv y).toArray) rfl (Or.inl ⟨by rfl,fun wz hwz=>Xa8 wz 78 (.tmp 17) rfl (a.add (q*32)) (bv y) _ Tryz.underlying78 rfl HSY.out (fun j u hu=>(hwz.2.2.cell (by rw[Xa7,Xa7];exact HAB.out)).trans (HCA.out j u hu)) (by go_simp)⟩) ⟨HC0.out,HM0.out,(Br W.heap.size W).drew⟩ ?_;try simp only[nm]
   refine Rl 14 rfl fun K hK=>?_
   go_simp;refine(Xix W.drew).mono ?_;rintro e w1 ⟨rfl,hb1⟩;have B1:=Hd (show Below W.heap.size W w1 from((Br W.heap.size W).drew).trans hb1);have HC1:Hid (w1.cell? ⟨w.heap.size+1,0,none⟩=some (.int .u8 q)):=Hd ((hb1.cell (p:=⟨w.heap.size+1,0,none⟩) HIB.out).trans HC0.out);have HM1:Hid (w1.cell? ⟨w.heap.size,4,none⟩=some (.slice (some a) kn kc)):=Hd ((hb1.cell (p:=⟨w.heap.size,4,none⟩) HMB.out).trans HM0.out);clear hb1;refine hK.out _ _ ⟨HC1.out,HM1.out,B1.out⟩ ?_;clear hK K;try simp only[nm]
   refine Tk 15 rfl ?_ ⟨HC1.out,HM1.out,B1.out⟩ ?_ ⟨?_,rfl⟩
   ·intro w hw;(try dsimp only at hw);obtain⟨q0,q1,q2⟩:=hw;go_simp;try with_reducible rfl
   try simp only[nm]
   refine Tk 16 rfl ?_ ⟨HC1.out,HM1.out,B1.out⟩ ?_ ⟨?_,rfl⟩
   ·intro w hw;(try dsimp only at hw);obtain⟨q0,q1,q2⟩:=hw;go_simp;try with_reducible rfl
   try simp only[nm]
   refine Tk 17 rfl ?_ ⟨HC1.out,HM1.out,B1.out⟩ ?_ ⟨?_,rfl⟩
   ·intro w hw;(try dsimp only at hw);obtain⟨q0,q1,q2⟩:=hw;go_simp;try with_reducible rfl
   try simp only[nm]
   refine wpAnyH_done (by kernel_rfl) ?_ _;go_wp2_with fail;go_ret;exact⟨Xad HQ.out.symm,HB0.out.trans (B1.out.mono HB0.out.size)⟩
 ·have HQ:Hid (isW keys q=false):=Hd (Xvt (by rw[hkl];omega));have hlt:decide ((q:Int)<(kn:Int))=false:=decide_eq_false (by omega);have hlt2:decide (q<kn)=false:=decide_eq_false (by omega);have hlt3:¬(q:Int)<(kn:Int):=by omega
  clear hk0;go_enter Tryz.func88,Tryz.ntmps88
  go_upto_region 1 with fail
  rw[HWW.out];clear HWW;go_wp2_with fail;refine wp_region_held_drew (S:=(fun V=>V.cell? ⟨w.heap.size+1,0,none⟩=some (.int .u8 q)∧V.cell? ⟨w.heap.size,4,none⟩=some (.slice KA kn kc)∧Below W.heap.size W V)) (by kernel_rfl) ⟨HC0.out,HM0.out,(Br W.heap.size W).drew⟩ (fun _=>?_);refine Tk 0 rfl ?_ ⟨HC0.out,HM0.out,(Br W.heap.size W).drew⟩ ?_ ⟨?_,rfl⟩
  ·intro w hw;(try dsimp only at hw);obtain⟨q0,q1,q2⟩:=hw;go_simp;try with_reducible rfl
  try simp only[nm]
  refine Tk 1 rfl ?_ ⟨HC0.out,HM0.out,(Br W.heap.size W).drew⟩ ?_ ⟨?_,rfl⟩
  ·intro w hw;(try dsimp only at hw);obtain⟨q0,q1,q2⟩:=hw;go_simp;try with_reducible rfl
  try simp only[nm]
  refine Tk 2 rfl ?_ ⟨HC0.out,HM0.out,(Br W.heap.size W).drew⟩ ?_ ⟨?_,rfl⟩
  ·intro w hw;(try dsimp only at hw);obtain⟨q0,q1,q2⟩:=hw;go_simp;try with_reducible rfl
  try simp only[nm]
  refine Tk 3 rfl ?_ ⟨HC0.out,HM0.out,(Br W.heap.size W).drew⟩ ?_ ⟨?_,rfl⟩
  ·intro w hw;(try dsimp only at hw);obtain⟨q0,q1,q2⟩:=hw;go_simp;try with_reducible rfl
  try simp only[nm]
  refine Tk 4 rfl ?_ ⟨HC0.out,HM0.out,(Br W.heap.size W).drew⟩ ?_ ⟨?_,rfl⟩
  ·intro w hw;(try dsimp only at hw);obtain⟨q0,q1,q2⟩:=hw;go_simp;try with_reducible rfl
  try simp only[nm]
  refine Tk 5 rfl ?_ ⟨HC0.out,HM0.out,(Br W.heap.size W).drew⟩ ?_ ⟨?_,rfl⟩
  ·intro w hw;(try dsimp only at hw);obtain⟨q0,q1,q2⟩:=hw;go_simp;try with_reducible rfl
  try simp only[nm]
  refine Tk 6 rfl ?_ ⟨HC0.out,HM0.out,(Br W.heap.size W).drew⟩ ?_ ⟨?_,rfl⟩
  ·intro w hw;(try dsimp only at hw);obtain⟨q0,q1,q2⟩:=hw;go_simp;try with_reducible rfl
  try simp only[nm]
  refine Tk 7 rfl ?_ ⟨HC0.out,HM0.out,(Br W.heap.size W).drew⟩ ?_ ⟨?_,rfl⟩
  ·intro w hw;(try dsimp only at hw);obtain⟨q0,q1,q2⟩:=hw;go_simp;try with_reducible rfl
  try simp only[nm]
  refine Tl 8 (v:=undef) rfl (Or.inr ⟨by rfl,rfl⟩) ⟨HC0.out,HM0.out,(Br W.heap.size W).drew⟩ ?_;try simp only[nm]
  refine Tl 9 (v:=undef) rfl (Or.inr ⟨by rfl,rfl⟩) ⟨HC0.out,HM0.out,(Br W.heap.size W).drew⟩ ?_;try simp only[nm]
  refine Tl 10 (v:=undef) rfl (Or.inr ⟨by rfl,rfl⟩) ⟨HC0.out,HM0.out,(Br W.heap.size W).drew⟩ ?_;try simp only[nm]
  refine Tl 11 (v:=undef) rfl (Or.inr ⟨by rfl,rfl⟩) ⟨HC0.out,HM0.out,(Br W.heap.size W).drew⟩ ?_;try simp only[nm]
  refine Tl 12 (v:=undef) rfl (Or.inr ⟨by rfl,rfl⟩) ⟨HC0.out,HM0.out,(Br W.heap.size W).drew⟩ ?_;try simp only[nm]
  refine Tl 13 (v:=undef) rfl (Or.inr ⟨by rfl,rfl⟩) ⟨HC0.out,HM0.out,(Br W.heap.size W).drew⟩ ?_;try simp only[nm]
  refine Tl 14 (v:=undef) rfl (Or.inr ⟨by rfl,rfl⟩) ⟨HC0.out,HM0.out,(Br W.heap.size W).drew⟩ ?_;try simp only[nm]
  refine Tl 15 (v:=undef) rfl (Or.inr ⟨by rfl,rfl⟩) ⟨HC0.out,HM0.out,(Br W.heap.size W).drew⟩ ?_;try simp only[nm]
  refine Tk 16 rfl ?_ ⟨HC0.out,HM0.out,(Br W.heap.size W).drew⟩ ?_ ⟨?_,rfl⟩
  ·intro w hw;(try dsimp only at hw);obtain⟨q0,q1,q2⟩:=hw;go_simp;try with_reducible rfl
  try simp only[nm]
  refine Tk 17 rfl ?_ ⟨HC0.out,HM0.out,(Br W.heap.size W).drew⟩ ?_ ⟨?_,rfl⟩
  ·intro w hw;(try dsimp only at hw);obtain⟨q0,q1,q2⟩:=hw;go_simp;try with_reducible rfl
  try simp only[nm]
  refine wpAnyH_done (by kernel_rfl) ?_ _;go_wp2_with fail;go_ret;exact⟨Xad HQ.out.symm,HB0.out.drew⟩
end Go.Proofs.YtdgbodljmdcagaaGreatDoor
