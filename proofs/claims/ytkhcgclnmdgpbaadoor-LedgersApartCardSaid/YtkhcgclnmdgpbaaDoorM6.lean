import Derived.Test.YtkhcgclnmdgpbaaDoorM5
import Derived.Maps.OwnOps
set_option maxRecDepth 100000
set_option maxHeartbeats 16000000
set_option linter.unusedSimpArgs false
set_option linter.unusedVariables false
namespace Go.Proofs.YtkhcgclnmdgpbaaDoor
open Go.RowKit
def wrkC(x:LAsk)(pa pb:Value):List Value:=askC x++[pa,pb]
theorem Xbr{x:LAsk}(h:x.owner.length=32)(pa pb:Value):(wrkC x pa pb).length=37:=by simp[wrkC,Xaq h]
theorem wrk_a{x:LAsk}(h:x.owner.length=32)(pa pb:Value):(wrkC x pa pb)[35]?=some pa:=by
 unfold wrkC;rw[List.getElem?_append_right (by rw[Xaq h];omega),Xaq h];rfl
theorem wrk_b{x:LAsk}(h:x.owner.length=32)(pa pb:Value):(wrkC x pa pb)[36]?=some pb:=by
 unfold wrkC;rw[List.getElem?_append_right (by rw[Xaq h];omega),Xaq h];rfl
theorem wrk_o{x:LAsk}(h:x.owner.length=32)(pa pb:Value){j:Nat}{u:Value}(hu:(bv x.owner)[j]?=some u):(wrkC x pa pb)[3+j]?=some u:=by
 have hj:=(List.getElem?_eq_some_iff.1 hu).1;rw[bL,h]at hj;unfold wrkC;rw[List.getElem?_append_left (by rw[Xaq h];omega),Nat.add_comm];exact hu
structure DS(V0 V:World)(base g h cap n:Nat)(rest:List Value)(x:LAsk)(pa pb:Value)(out:List LAcc):Prop where
 b:But g V0 V
 o:OutAt V base g cap n rest out
 rh:Row V h 174 (wrkC x pa pb)
 ne:h≠g
 xo:x.owner.length=32
section
variable{V0 V V':World}{base g h cap n k:Nat}{rest:List Value}{x:LAsk}{pa pb:Value}{out:List LAcc}
theorem DS.below(d:DS V0 V base g h cap n rest x pa pb out)(hb:Below V.heap.size V V'):DS V0 V' base g h cap n rest x pa pb out:=
 ⟨d.b.trans (.of_below hb g),d.o.below hb,d.rh.below hb d.rh.lt,d.ne,d.xo⟩
theorem DS.drewN(d:DS V0 V base g h cap n rest x pa pb out)(q:Nat):DS V0 (V.drewN q) base g h cap n rest x pa pb out:=
 ⟨d.b.trans ⟨rfl,rfl,rfl,Lr _,fun _ _ _=>rfl⟩,⟨d.o.row.drewN q,d.o.lo,d.o.len,d.o.room,d.o.all,d.o.ok⟩,d.rh.drewN q,d.ne,d.xo⟩
theorem DS.drew(d:DS V0 V base g h cap n rest x pa pb out):DS V0 V.drew base g h cap n rest x pa pb out:=
 ⟨d.b.trans ⟨rfl,rfl,rfl,Lr _,fun _ _ _=>rfl⟩,⟨d.o.row.drew,d.o.lo,d.o.len,d.o.room,d.o.all,d.o.ok⟩,d.rh.drew,d.ne,d.xo⟩
theorem DS.part(d:DS V0 V base g h cap n rest x pa pb out)(hk:k<n){o:Nat}{cs:List Value}{y:LAcc}(hy:AccOk y)(hc:(getA out k).cells.take o++cs++(getA out k).cells.drop (o+cs.length)=y.cells)(ho:o+cs.length≤34)
 (hr:Row V' g 72 ((accsC out++rest).take (k*34+o)++cs++(accsC out++rest).drop (k*34+o+cs.length))) (ht:Turned V V' g):DS V0 V' base g h cap n rest x pa pb (out.set k y):=
 ⟨d.b.trans (.of_turned ht),d.o.part hk hy hc ho hr,ht.row d.rh d.ne,d.ne,d.xo⟩
theorem DS.one(d:DS V0 V base g h cap n rest x pa pb out)(hk:k<n){o:Nat}{u:Value}{y:LAcc}(hy:AccOk y)(ho:o<34)(hc:(getA out k).cells.set o u=y.cells):DS V0 (V.setCell ⟨g,k*34+o,none⟩ u) base g h cap n rest x pa pb (out.set k y):=
 ⟨d.b.trans (.of_turned (Xa0 V ⟨g,k*34+o,none⟩ u)),d.o.one hk hy ho hc,(Xa0 V ⟨g,k*34+o,none⟩ u).row d.rh d.ne,d.ne,d.xo⟩
theorem DS.c(d:DS V0 V base g h cap n rest x pa pb out)(hk:k<n):V.cell? ⟨g,k*34,none⟩=some (.int .u64 (getA out k).c):=d.o.cell hk (acc_c _)
theorem DS.s(d:DS V0 V base g h cap n rest x pa pb out)(hk:k<n):V.cell? ⟨g,k*34+33,none⟩=some (.int .u64 (getA out k).s):=d.o.cell hk (acc_s (Xaf d.o.ok k).o.1)
theorem DS.own(d:DS V0 V base g h cap n rest x pa pb out)(hk:k<n):∀j u,(bv (getA out k).o)[j]?=some u→V.cell? ((⟨g,k*34+1,none⟩:Addr).add j)=some u:=fun j u hu=>by
 rw[Xac,Nat.add_assoc];exact d.o.cell hk (acc_o hu)
theorem DS.all(d:DS V0 V base g h cap n rest x pa pb out)(hk:k<n):∀j u,(getA out k).cells[j]?=some u→V.cell? ((⟨g,k*34,none⟩:Addr).add j)=some u:=fun j u hu=>by
 rw[Xac];exact d.o.cell hk hu
theorem DS.x1(d:DS V0 V base g h cap n rest x pa pb out):V.cell? ⟨h,1,none⟩=some (.int .u64 x.coins):=d.rh.cell 1
theorem DS.x2(d:DS V0 V base g h cap n rest x pa pb out):V.cell? ⟨h,2,none⟩=some (.int .u64 x.space):=d.rh.cell 2
theorem DS.ptrA(d:DS V0 V base g h cap n rest x pa pb out):V.cell? ⟨h,35,none⟩=some pa:=(d.rh.cell 35).trans (wrk_a d.xo _ _)
theorem DS.ptrB(d:DS V0 V base g h cap n rest x pa pb out):V.cell? ⟨h,36,none⟩=some pb:=(d.rh.cell 36).trans (wrk_b d.xo _ _)
theorem DS.fz(d:DS V0 V base g h cap n rest x pa pb out)(i:Nat):V.frozen? ⟨g,i,none⟩=false:=d.o.row.frozen i
theorem DS.room(d:DS V0 V base g h cap n rest x pa pb out)(hk:k<n):k*34+34≤(accsC out++rest).length:=by
 rw[d.o.all];have:=Nat.mul_le_mul_right 34 (show k+1≤cap from Lq hk d.o.room.1);omega
end
theorem Xka{V:World}{h:Nat}{x:LAsk}{pa pb:Value}(hr:Row V h 174 (wrkC x pa pb))(hx:x.owner.length=32):∀j u,(bv x.owner)[j]?=some u→V.cell? ((⟨h,3,none⟩:Addr).add j)=some u:=fun j u hu=>by
 rw[Xac,hr.cell];have:=wrk_o hx pa pb hu;simpa [Nat.add_comm]using this
def DeedDone(V0:World)(base g h cap n:Nat)(rest:List Value)(x:LAsk)(pa pb:Value)(R:Res14)(e:Ending)(V':World):Prop:=
 e=.returned (.int .i64 R.e)∧∃out',DS V0 V' base g h cap n rest x pa pb out'∧(R.e=0→out'=R.l)
theorem Xbq{V0 V':World}{base g h cap n:Nat}{rest:List Value}{x:LAsk}{pa pb:Value}{R:Res14}{out:List LAcc}{v:Int}(hR:R=bad14 v)(hv:v≠0)(d:DS V0 V' base g h cap n rest x pa pb out):DeedDone V0 base g h cap n rest x pa pb R (.returned (.int .i64 v)) V':=by
 subst hR;exact⟨rfl,out,d,fun e=>absurd e hv⟩
theorem Xda{V0 V':World}{base g h cap n:Nat}{rest:List Value}{x:LAsk}{pa pb:Value}{R:Res14}{out:List LAcc}{k:Int}(hR:R=⟨0,out,k⟩)(d:DS V0 V' base g h cap n rest x pa pb out):DeedDone V0 base g h cap n rest x pa pb R (.returned (.int .i64 0)) V':=by
 subst hR;exact⟨rfl,out,d,fun _=>rfl⟩
theorem Xcp:Tryd.prog.built 72 [(1,.agg (bv k0).toArray)]=some blank13.cells.toArray:=by kernel_rfl
theorem Xlg{l:List LAcc}{x:LAsk}{a b:Nat}(hl:∀a ∈ l,AccOk a)(hx:AskOk x)(ha:a<l.length)(h1:plain14 (getA l a))(h2:¬(getA l a).c<x.coins)(h3:18446744073709551615 - x.coins<(getA (l.set a ⟨(getA l a).c - x.coins,(getA l a).o,(getA l a).s⟩) b).c):move14 l x a b=bad14 18:=by
 have oa:=(Xaf hl a).c;have xc:=hx.c;rw[Xci ha]at h3;have hne:¬a=b:=fun e=>by
  rw[if_pos e.symm]at h3;dsimp only at h3
  omega
 have q:¬b=a:=fun e=>hne e.symm
 rw[if_neg q]at h3;unfold move14;rw[if_neg (not_not_intro h1),if_neg h2,if_neg hne,if_pos h3]
theorem Xl9{l:List LAcc}{x:LAsk}{a b:Nat}(hl:∀a ∈ l,AccOk a)(hx:AskOk x)(ha:a<l.length)(h1:plain14 (getA l a))(h2:¬(getA l a).c<x.coins)(h3:¬18446744073709551615 - x.coins<(getA (l.set a ⟨(getA l a).c - x.coins,(getA l a).o,(getA l a).s⟩) b).c) :
 move14 l x a b=⟨0,(l.set a ⟨(getA l a).c - x.coins,(getA l a).o,(getA l a).s⟩).set b ⟨(getA (l.set a ⟨(getA l a).c - x.coins,(getA l a).o,(getA l a).s⟩) b).c+x.coins,(getA (l.set a ⟨(getA l a).c - x.coins,(getA l a).o,(getA l a).s⟩) b).o,(getA (l.set a ⟨(getA l a).c - x.coins,(getA l a).o,(getA l a).s⟩) b).s⟩,0⟩:=by
 rw[Xci ha]at h3 ⊢;unfold move14;by_cases hab:a=b
 ·subst hab;rw[if_neg (not_not_intro h1),if_neg h2,if_pos rfl,if_pos rfl];congr 1
  rw[List.set_set];dsimp only
  have e:(⟨(getA l a).c - x.coins+x.coins,(getA l a).o,(getA l a).s⟩:LAcc)=getA l a:=by
   rw[Int.sub_add_cancel]
  rw[e];apply List.ext_getElem?
  intro i;rw[List.getElem?_set];by_cases hi:a=i
  ·subst hi;rw[if_pos rfl,if_pos ha,Xpo ha]
  ·rw[if_neg hi]
 ·have q:¬b=a:=fun e=>hab e.symm
  rw[if_neg q]at h3 ⊢;rw[if_neg (not_not_intro h1),if_neg h2,if_neg hab,if_neg h3]
theorem Xna(base g h cap n:Nat)(rest:List Value)(x:LAsk)(hx:AskOk x)(a b:Nat)(pa pb:Value)(l:List LAcc)(V:World)(hd:DS V V base g h cap n rest x pa pb l)(ha:a<n)(hpa:pa=.pointer (some ⟨g,a*34,none⟩))(hb:b<n)(hpb:pb=.pointer (some ⟨g,b*34,none⟩))(h1:getA l b≠blank13) :
 Calls Tryd.prog 73 #[.pointer (some ⟨h,0,none⟩)] V (DeedDone V base g h cap n rest x pa pb (make14 l x a b)):=by
 have HX:=Hd hx;have HA:=Hd ha;have P:=Hd hd;have HD:Hid (make14 l x a b=bad14 12):=Hd (by
  unfold make14;rw[if_pos h1])
 have HB:=Hd hb;subst hpb;clear hb;subst hpa;clear hd hx ha;have NE:=Hd (fun w=>Xfr (Xaf P.out.o.ok b).o.1 (show blank13.o.length=32 from rfl) w);rw[decide_eq_false h1]at NE;clear h1;go_enter Tryd.func73,Tryd.ntmps73
 go_upto_region 1 with fail
 refine wp_region_held_drew (S:=(fun V2=>DS V V2 base g h cap n rest x (.pointer (some ⟨g,a*34,none⟩)) (.pointer (some ⟨g,b*34,none⟩)) l)) (by kernel_rfl) P.out.drew (fun _=>?_);refine Tk 0 rfl ?_ P.out.drew ?_ ⟨?_,rfl⟩
 ·intro w hw;(try dsimp only at hw);go_simp;try with_reducible rfl
 try simp only[nm]
 refine Tk 1 rfl ?_ P.out.drew ?_ ⟨?_,rfl⟩
 ·intro w hw;(try dsimp only at hw);go_simp;try with_reducible rfl
 try simp only[nm]
 refine Tk 2 rfl ?_ P.out.drew ?_ ⟨?_,rfl⟩
 ·intro w hw;(try dsimp only at hw);go_simp;try with_reducible rfl
 try simp only[nm]
 refine Tk 3 rfl ?_ P.out.drew ?_ ⟨?_,rfl⟩
 ·intro w hw;try dsimp only at hw
  have c36:=hw.ptrB;go_simp;try with_reducible rfl
 try simp only[nm]
 refine Tk 4 rfl ?_ P.out.drew ?_ ⟨?_,rfl⟩
 ·intro w hw;(try dsimp only at hw);go_simp;try with_reducible rfl
 try simp only[nm]
 refine Tl 5 (v:=.agg (getA l b).cells.toArray) rfl (Or.inl ⟨by rfl,fun wz hwz=>Xa4 wz 72 (.tmp 8) rfl ⟨g,b*34,none⟩ (getA l b).cells _ Tryd.underlying72 rfl (Xay (Xaf P.out.o.ok _).o.1) (hwz.all HB.out) (by go_simp)⟩) P.out.drew ?_;try simp only[nm]
 refine Rl 6 rfl fun K hK=>?_
 go_simp;refine(Xbw _).mono ?_;rintro e w1 ⟨rfl,hb1⟩;have P1:=Hd (P.out.drew.below hb1);clear hb1;have ne1:=NE.out;refine hK.out _ _ P1.out ?_;clear hK K P;try simp only[nm]
 refine Tl 7 (v:=.agg blank13.cells.toArray) rfl (Or.inl ⟨by rfl,fun wz hwz=>Xao wz _ _ _ rfl (by simp only[List.map_toArray,List.map_cons,List.map_nil];exact Xcp)⟩) P1.out ?_;try simp only[nm]
 refine Tk 8 rfl ?_ P1.out ?_ ⟨?_,rfl⟩
 ·intro w hw;(try dsimp only at hw);go_simp;try with_reducible rfl
 try simp only[nm]
 refine Tk 9 rfl ?_ P1.out ?_ ⟨?_,rfl⟩
 ·intro w hw;(try dsimp only at hw);go_simp;try with_reducible rfl
 try simp only[nm]
 refine wpAnyH_done (by kernel_rfl) ?_ _;go_wp2_with fail;go_ret;exact Xbq HD.out (by decide) P1.out
theorem Xnj(base g h cap n:Nat)(rest:List Value)(x:LAsk)(hx:AskOk x)(a b:Nat)(pa pb:Value)(l:List LAcc)(V:World)(hd:DS V V base g h cap n rest x pa pb l)(ha:a<n)(hpa:pa=.pointer (some ⟨g,a*34,none⟩))(hb:b<n)(hpb:pb=.pointer (some ⟨g,b*34,none⟩))(h1:getA l b=blank13)(h2:¬plain14 (getA l a)) :
 Calls Tryd.prog 73 #[.pointer (some ⟨h,0,none⟩)] V (DeedDone V base g h cap n rest x pa pb (make14 l x a b)):=by
 have HX:=Hd hx;have HA:=Hd ha;have P:=Hd hd;have HD:Hid (make14 l x a b=bad14 16):=Hd (by
  unfold make14;rw[if_neg (by simpa using h1),if_pos h2])
 have HB:=Hd hb;subst hpb;clear hb;subst hpa;clear hd hx ha;have NE:=Hd (fun w=>Xfr (Xaf P.out.o.ok b).o.1 (show blank13.o.length=32 from rfl) w);rw[decide_eq_true h1]at NE;clear h1;go_enter Tryd.func73,Tryd.ntmps73
 go_upto_region 1 with fail
 refine wp_region_held_drew (S:=(fun V2=>DS V V2 base g h cap n rest x (.pointer (some ⟨g,a*34,none⟩)) (.pointer (some ⟨g,b*34,none⟩)) l)) (by kernel_rfl) P.out.drew (fun _=>?_);refine Tk 0 rfl ?_ P.out.drew ?_ ⟨?_,rfl⟩
 ·intro w hw;(try dsimp only at hw);go_simp;try with_reducible rfl
 try simp only[nm]
 refine Tk 1 rfl ?_ P.out.drew ?_ ⟨?_,rfl⟩
 ·intro w hw;(try dsimp only at hw);go_simp;try with_reducible rfl
 try simp only[nm]
 refine Tk 2 rfl ?_ P.out.drew ?_ ⟨?_,rfl⟩
 ·intro w hw;(try dsimp only at hw);go_simp;try with_reducible rfl
 try simp only[nm]
 refine Tk 3 rfl ?_ P.out.drew ?_ ⟨?_,rfl⟩
 ·intro w hw;try dsimp only at hw
  have c36:=hw.ptrB;go_simp;try with_reducible rfl
 try simp only[nm]
 refine Tk 4 rfl ?_ P.out.drew ?_ ⟨?_,rfl⟩
 ·intro w hw;(try dsimp only at hw);go_simp;try with_reducible rfl
 try simp only[nm]
 refine Tl 5 (v:=.agg (getA l b).cells.toArray) rfl (Or.inl ⟨by rfl,fun wz hwz=>Xa4 wz 72 (.tmp 8) rfl ⟨g,b*34,none⟩ (getA l b).cells _ Tryd.underlying72 rfl (Xay (Xaf P.out.o.ok _).o.1) (hwz.all HB.out) (by go_simp)⟩) P.out.drew ?_;try simp only[nm]
 refine Rl 6 rfl fun K hK=>?_
 go_simp;refine(Xbw _).mono ?_;rintro e w1 ⟨rfl,hb1⟩;have P1:=Hd (P.out.drew.below hb1);clear hb1;have ne1:=NE.out;refine hK.out _ _ P1.out ?_;clear hK K P;try simp only[nm]
 refine Tl 7 (v:=.agg blank13.cells.toArray) rfl (Or.inl ⟨by rfl,fun wz hwz=>Xao wz _ _ _ rfl (by simp only[List.map_toArray,List.map_cons,List.map_nil];exact Xcp)⟩) P1.out ?_;try simp only[nm]
 refine Tk 8 rfl ?_ P1.out ?_ ⟨?_,rfl⟩
 ·intro w hw;(try dsimp only at hw);go_simp;try with_reducible rfl
 try simp only[nm]
 refine Tk 9 rfl ?_ P1.out ?_ ⟨?_,rfl⟩
 ·intro w hw;(try dsimp only at hw);go_simp;try with_reducible rfl
 try simp only[nm]
 refine wpAnyH_done (by kernel_rfl) ?_ _;have HPL:=Hd (fun V=>Xc2 (getA l a) V (Xaf P1.out.o.ok a));rw[decide_eq_false h2]at HPL;clear h2;have c35:=P1.out.ptrA;go_wp2_with (first
  | ((with_reducible show wpList _ _ _ (⟨some 19,_,_,_,_,_⟩::_) _ _);go_must(refine Xa9 rfl 72 (.tmp 18) rfl ⟨g,a*34,none⟩ (getA l a).cells _ Tryd.underlying72 rfl (Xay (Xaf P1.out.o.ok _).o.1) (P1.out.all HA.out) ?_ ?_;go_simp)))
 refine(HPL.out _).mono ?_;rintro e w2 ⟨rfl,hb5⟩;have P2:=Hd (P1.out.below hb5);clear hb5 HPL P1 c35;go_wp2_with fail;go_ret;exact Xbq HD.out (by decide) P2.out
theorem Xmn(base g h cap n:Nat)(rest:List Value)(x:LAsk)(hx:AskOk x)(a b:Nat)(pa pb:Value)(l:List LAcc)(V:World)(hd:DS V V base g h cap n rest x pa pb l)(ha:a<n)(hpa:pa=.pointer (some ⟨g,a*34,none⟩))(hb:b<n)(hpb:pb=.pointer (some ⟨g,b*34,none⟩))(h1:getA l b=blank13)(h2:plain14 (getA l a))(h3:1048576<x.space) :
 Calls Tryd.prog 73 #[.pointer (some ⟨h,0,none⟩)] V (DeedDone V base g h cap n rest x pa pb (make14 l x a b)):=by
 have HX:=Hd hx;have HA:=Hd ha;have P:=Hd hd;have HD:Hid (make14 l x a b=bad14 3):=Hd (by
  unfold make14;rw[if_neg (by simpa using h1),if_neg (by simpa using h2),if_pos h3])
 have HB:=Hd hb;subst hpb;clear hb;subst hpa;clear hd hx ha;have NE:=Hd (fun w=>Xfr (Xaf P.out.o.ok b).o.1 (show blank13.o.length=32 from rfl) w);rw[decide_eq_true h1]at NE;clear h1;go_enter Tryd.func73,Tryd.ntmps73
 go_upto_region 1 with fail
 refine wp_region_held_drew (S:=(fun V2=>DS V V2 base g h cap n rest x (.pointer (some ⟨g,a*34,none⟩)) (.pointer (some ⟨g,b*34,none⟩)) l)) (by kernel_rfl) P.out.drew (fun _=>?_);refine Tk 0 rfl ?_ P.out.drew ?_ ⟨?_,rfl⟩
 ·intro w hw;(try dsimp only at hw);go_simp;try with_reducible rfl
 try simp only[nm]
 refine Tk 1 rfl ?_ P.out.drew ?_ ⟨?_,rfl⟩
 ·intro w hw;(try dsimp only at hw);go_simp;try with_reducible rfl
 try simp only[nm]
 refine Tk 2 rfl ?_ P.out.drew ?_ ⟨?_,rfl⟩
 ·intro w hw;(try dsimp only at hw);go_simp;try with_reducible rfl
 try simp only[nm]
 refine Tk 3 rfl ?_ P.out.drew ?_ ⟨?_,rfl⟩
 ·intro w hw;try dsimp only at hw
  have c36:=hw.ptrB;go_simp;try with_reducible rfl
 try simp only[nm]
 refine Tk 4 rfl ?_ P.out.drew ?_ ⟨?_,rfl⟩
 ·intro w hw;(try dsimp only at hw);go_simp;try with_reducible rfl
 try simp only[nm]
 refine Tl 5 (v:=.agg (getA l b).cells.toArray) rfl (Or.inl ⟨by rfl,fun wz hwz=>Xa4 wz 72 (.tmp 8) rfl ⟨g,b*34,none⟩ (getA l b).cells _ Tryd.underlying72 rfl (Xay (Xaf P.out.o.ok _).o.1) (hwz.all HB.out) (by go_simp)⟩) P.out.drew ?_;try simp only[nm]
 refine Rl 6 rfl fun K hK=>?_
 go_simp;refine(Xbw _).mono ?_;rintro e w1 ⟨rfl,hb1⟩;have P1:=Hd (P.out.drew.below hb1);clear hb1;have ne1:=NE.out;refine hK.out _ _ P1.out ?_;clear hK K P;try simp only[nm]
 refine Tl 7 (v:=.agg blank13.cells.toArray) rfl (Or.inl ⟨by rfl,fun wz hwz=>Xao wz _ _ _ rfl (by simp only[List.map_toArray,List.map_cons,List.map_nil];exact Xcp)⟩) P1.out ?_;try simp only[nm]
 refine Tk 8 rfl ?_ P1.out ?_ ⟨?_,rfl⟩
 ·intro w hw;(try dsimp only at hw);go_simp;try with_reducible rfl
 try simp only[nm]
 refine Tk 9 rfl ?_ P1.out ?_ ⟨?_,rfl⟩
 ·intro w hw;(try dsimp only at hw);go_simp;try with_reducible rfl
 try simp only[nm]
 refine wpAnyH_done (by kernel_rfl) ?_ _;have HPL:=Hd (fun V=>Xc2 (getA l a) V (Xaf P1.out.o.ok a));rw[decide_eq_true h2]at HPL;clear h2;have c35:=P1.out.ptrA;go_wp2_with (first
  | ((with_reducible show wpList _ _ _ (⟨some 19,_,_,_,_,_⟩::_) _ _);go_must(refine Xa9 rfl 72 (.tmp 18) rfl ⟨g,a*34,none⟩ (getA l a).cells _ Tryd.underlying72 rfl (Xay (Xaf P1.out.o.ok _).o.1) (P1.out.all HA.out) ?_ ?_;go_simp)))
 refine(HPL.out _).mono ?_;rintro e w2 ⟨rfl,hb5⟩;have P2:=Hd (P1.out.below hb5);clear hb5 HPL P1 c35;have c2:=P2.out.x2;go_wp2_with fail;go_ret;exact Xbq HD.out (by decide) P2.out
theorem Xnq(base g h cap n:Nat)(rest:List Value)(x:LAsk)(hx:AskOk x)(a b:Nat)(pa pb:Value)(l:List LAcc)(V:World)(hd:DS V V base g h cap n rest x pa pb l)(ha:a<n)(hpa:pa=.pointer (some ⟨g,a*34,none⟩))(hb:b<n)(hpb:pb=.pointer (some ⟨g,b*34,none⟩))(h1:getA l b=blank13)(h2:plain14 (getA l a))(h3:¬1048576<x.space)(h4:(getA l a).c<x.coins) :
 Calls Tryd.prog 73 #[.pointer (some ⟨h,0,none⟩)] V (DeedDone V base g h cap n rest x pa pb (make14 l x a b)):=by
 have HX:=Hd hx;have HA:=Hd ha;have P:=Hd hd;have HD:Hid (make14 l x a b=bad14 17):=Hd (by
  unfold make14;rw[if_neg (by simpa using h1),if_neg (by simpa using h2),if_neg h3,if_pos h4])
 have HB:=Hd hb;subst hpb;clear hb;subst hpa;clear hd hx ha;have NE:=Hd (fun w=>Xfr (Xaf P.out.o.ok b).o.1 (show blank13.o.length=32 from rfl) w);rw[decide_eq_true h1]at NE;clear h1;go_enter Tryd.func73,Tryd.ntmps73
 go_upto_region 1 with fail
 refine wp_region_held_drew (S:=(fun V2=>DS V V2 base g h cap n rest x (.pointer (some ⟨g,a*34,none⟩)) (.pointer (some ⟨g,b*34,none⟩)) l)) (by kernel_rfl) P.out.drew (fun _=>?_);refine Tk 0 rfl ?_ P.out.drew ?_ ⟨?_,rfl⟩
 ·intro w hw;(try dsimp only at hw);go_simp;try with_reducible rfl
 try simp only[nm]
 refine Tk 1 rfl ?_ P.out.drew ?_ ⟨?_,rfl⟩
 ·intro w hw;(try dsimp only at hw);go_simp;try with_reducible rfl
 try simp only[nm]
 refine Tk 2 rfl ?_ P.out.drew ?_ ⟨?_,rfl⟩
 ·intro w hw;(try dsimp only at hw);go_simp;try with_reducible rfl
 try simp only[nm]
 refine Tk 3 rfl ?_ P.out.drew ?_ ⟨?_,rfl⟩
 ·intro w hw;try dsimp only at hw
  have c36:=hw.ptrB;go_simp;try with_reducible rfl
 try simp only[nm]
 refine Tk 4 rfl ?_ P.out.drew ?_ ⟨?_,rfl⟩
 ·intro w hw;(try dsimp only at hw);go_simp;try with_reducible rfl
 try simp only[nm]
 refine Tl 5 (v:=.agg (getA l b).cells.toArray) rfl (Or.inl ⟨by rfl,fun wz hwz=>Xa4 wz 72 (.tmp 8) rfl ⟨g,b*34,none⟩ (getA l b).cells _ Tryd.underlying72 rfl (Xay (Xaf P.out.o.ok _).o.1) (hwz.all HB.out) (by go_simp)⟩) P.out.drew ?_;try simp only[nm]
 refine Rl 6 rfl fun K hK=>?_
 go_simp;refine(Xbw _).mono ?_;rintro e w1 ⟨rfl,hb1⟩;have P1:=Hd (P.out.drew.below hb1);clear hb1;have ne1:=NE.out;refine hK.out _ _ P1.out ?_;clear hK K P;try simp only[nm]
 refine Tl 7 (v:=.agg blank13.cells.toArray) rfl (Or.inl ⟨by rfl,fun wz hwz=>Xao wz _ _ _ rfl (by simp only[List.map_toArray,List.map_cons,List.map_nil];exact Xcp)⟩) P1.out ?_;try simp only[nm]
 refine Tk 8 rfl ?_ P1.out ?_ ⟨?_,rfl⟩
 ·intro w hw;(try dsimp only at hw);go_simp;try with_reducible rfl
 try simp only[nm]
 refine Tk 9 rfl ?_ P1.out ?_ ⟨?_,rfl⟩
 ·intro w hw;(try dsimp only at hw);go_simp;try with_reducible rfl
 try simp only[nm]
 refine wpAnyH_done (by kernel_rfl) ?_ _;have HPL:=Hd (fun V=>Xc2 (getA l a) V (Xaf P1.out.o.ok a));rw[decide_eq_true h2]at HPL;clear h2;have c35:=P1.out.ptrA;go_wp2_with (first
  | ((with_reducible show wpList _ _ _ (⟨some 19,_,_,_,_,_⟩::_) _ _);go_must(refine Xa9 rfl 72 (.tmp 18) rfl ⟨g,a*34,none⟩ (getA l a).cells _ Tryd.underlying72 rfl (Xay (Xaf P1.out.o.ok _).o.1) (P1.out.all HA.out) ?_ ?_;go_simp)))
 refine(HPL.out _).mono ?_;rintro e w2 ⟨rfl,hb5⟩;have P2:=Hd (P1.out.below hb5);clear hb5 HPL P1 c35;have c2:=P2.out.x2;have c1:=P2.out.x1;have c35:=P2.out.ptrA;have cac:=P2.out.c HA.out;go_upto_region 7 with fail
 clear c2;go_quiet (fail)
 go_wp2_with fail;go_ret;exact Xbq HD.out (by decide) (P2.out.drewN nq)
theorem Xp7(base g h cap n:Nat)(rest:List Value)(x:LAsk)(hx:AskOk x)(a b:Nat)(pa pb:Value)(l:List LAcc)(V:World)(hd:DS V V base g h cap n rest x pa pb l)(ha:a<n)(hpa:pa=.pointer (some ⟨g,a*34,none⟩))(hb:b<n)(hpb:pb=.pointer (some ⟨g,b*34,none⟩))(h1:getA l b=blank13)(h2:plain14 (getA l a))(h3:¬1048576<x.space)(h4:¬(getA l a).c<x.coins) :
 Calls Tryd.prog 73 #[.pointer (some ⟨h,0,none⟩)] V (DeedDone V base g h cap n rest x pa pb (make14 l x a b)):=by
 have HX:=Hd hx;have HA:=Hd ha;have P:=Hd hd;have HD:Hid (make14 l x a b=⟨0,(l.set a ⟨(getA l a).c - x.coins,(getA l a).o,(getA l a).s⟩).set b ⟨x.coins,x.owner,x.space⟩,x.space⟩):=Hd (by
  unfold make14;rw[if_neg (by simpa using h1),if_neg (by simpa using h2),if_neg h3,if_neg h4])
 have HB:=Hd hb;subst hpb;clear hb;subst hpa;clear hd hx ha;have NE:=Hd (fun w=>Xfr (Xaf P.out.o.ok b).o.1 (show blank13.o.length=32 from rfl) w);rw[decide_eq_true h1]at NE;clear h1;go_enter Tryd.func73,Tryd.ntmps73
 go_upto_region 1 with fail
 refine wp_region_held_drew (S:=(fun V2=>DS V V2 base g h cap n rest x (.pointer (some ⟨g,a*34,none⟩)) (.pointer (some ⟨g,b*34,none⟩)) l)) (by kernel_rfl) P.out.drew (fun _=>?_);refine Tk 0 rfl ?_ P.out.drew ?_ ⟨?_,rfl⟩
 ·intro w hw;(try dsimp only at hw);go_simp;try with_reducible rfl
 try simp only[nm]
 refine Tk 1 rfl ?_ P.out.drew ?_ ⟨?_,rfl⟩
 ·intro w hw;(try dsimp only at hw);go_simp;try with_reducible rfl
 try simp only[nm]
 refine Tk 2 rfl ?_ P.out.drew ?_ ⟨?_,rfl⟩
 ·intro w hw;(try dsimp only at hw);go_simp;try with_reducible rfl
 try simp only[nm]
 refine Tk 3 rfl ?_ P.out.drew ?_ ⟨?_,rfl⟩
 ·intro w hw;try dsimp only at hw
  have c36:=hw.ptrB;go_simp;try with_reducible rfl
 try simp only[nm]
 refine Tk 4 rfl ?_ P.out.drew ?_ ⟨?_,rfl⟩
 ·intro w hw;(try dsimp only at hw);go_simp;try with_reducible rfl
 try simp only[nm]
 refine Tl 5 (v:=.agg (getA l b).cells.toArray) rfl (Or.inl ⟨by rfl,fun wz hwz=>Xa4 wz 72 (.tmp 8) rfl ⟨g,b*34,none⟩ (getA l b).cells _ Tryd.underlying72 rfl (Xay (Xaf P.out.o.ok _).o.1) (hwz.all HB.out) (by go_simp)⟩) P.out.drew ?_;try simp only[nm]
 refine Rl 6 rfl fun K hK=>?_
 go_simp;refine(Xbw _).mono ?_;rintro e w1 ⟨rfl,hb1⟩;have P1:=Hd (P.out.drew.below hb1);clear hb1;have ne1:=NE.out;refine hK.out _ _ P1.out ?_;clear hK K P;try simp only[nm]
 refine Tl 7 (v:=.agg blank13.cells.toArray) rfl (Or.inl ⟨by rfl,fun wz hwz=>Xao wz _ _ _ rfl (by simp only[List.map_toArray,List.map_cons,List.map_nil];exact Xcp)⟩) P1.out ?_;try simp only[nm]
 refine Tk 8 rfl ?_ P1.out ?_ ⟨?_,rfl⟩
 ·intro w hw;(try dsimp only at hw);go_simp;try with_reducible rfl
 try simp only[nm]
 refine Tk 9 rfl ?_ P1.out ?_ ⟨?_,rfl⟩
 ·intro w hw;(try dsimp only at hw);go_simp;try with_reducible rfl
 try simp only[nm]
 refine wpAnyH_done (by kernel_rfl) ?_ _;have HPL:=Hd (fun V=>Xc2 (getA l a) V (Xaf P1.out.o.ok a));rw[decide_eq_true h2]at HPL;clear h2;have c35:=P1.out.ptrA;go_wp2_with (first
  | ((with_reducible show wpList _ _ _ (⟨some 19,_,_,_,_,_⟩::_) _ _);go_must(refine Xa9 rfl 72 (.tmp 18) rfl ⟨g,a*34,none⟩ (getA l a).cells _ Tryd.underlying72 rfl (Xay (Xaf P1.out.o.ok _).o.1) (P1.out.all HA.out) ?_ ?_;go_simp)))
 refine(HPL.out _).mono ?_;rintro e w2 ⟨rfl,hb5⟩;have P2:=Hd (P1.out.below hb5);clear hb5 HPL P1 c35;have c2:=P2.out.x2;have c1:=P2.out.x1;have c35:=P2.out.ptrA;have cac:=P2.out.c HA.out;go_upto_region 7 with fail
 clear c2;go_quiet (fail)
 go_upto_region 9 with fail
 have fac:=P2.out.fz (a*34);go_region
 have E1:IntKind.u64.wrap ((getA l a).c - x.coins)=(getA l a).c - x.coins:=by rw[IntKind.wrap_u64];have:=(Xaf P2.out.o.ok a).c;have:=HX.out.c;omega
 have P5:=Hd (show DS V ((w2.drewN (nq+1)).setCell ⟨g,a*34,none⟩ (.int .u64 ((getA l a).c - x.coins))) base g h cap n rest x (.pointer (some ⟨g,a*34,none⟩)) (.pointer (some ⟨g,b*34,none⟩)) (l.set a ⟨(getA l a).c - x.coins,(getA l a).o,(getA l a).s⟩)from(P2.out.drewN (nq+1)).one HA.out (o:=0) (y:=⟨(getA l a).c - x.coins,(getA l a).o,(getA l a).s⟩) ⟨by have:=(Xaf P2.out.o.ok a).c;have:=HX.out.c;constructor <;> dsimp only <;> omega,(Xaf P2.out.o.ok a).o,(Xaf P2.out.o.ok a).s⟩ (by decide) (Xel _ _));rw[E1];clear E1 P2 c1 c35 cac fac;obtain⟨out,hout⟩:∃out,out=l.set a ⟨(getA l a).c - x.coins,(getA l a).o,(getA l a).s⟩:=⟨_,rfl⟩;rw[←hout]at P5 HD;generalize hW6:(w2.drewN (nq+1)).setCell ⟨g,a*34,none⟩ (.int .u64 ((getA l a).c - x.coins))=w6 at *;clear hW6 hout;have HBU:=Hd (Xkg x.coins x.space HX.out.o.1);have HS:=Hd P5.out.rh.drew;go_upto_region 10 with fail
 refine wp_region_held_drew (S:=(fun V2=>Row V2 h 174 (wrkC x (.pointer (some ⟨g,a*34,none⟩)) (.pointer (some ⟨g,b*34,none⟩))))) (by kernel_rfl) HS.out (fun _=>?_);refine Tk 0 rfl ?_ HS.out ?_ ⟨?_,rfl⟩
 ·intro w hw;(try dsimp only at hw);go_simp;try with_reducible rfl
 try simp only[nm]
 refine Tk 1 rfl ?_ HS.out ?_ ⟨?_,rfl⟩
 ·intro w hw;(try dsimp only at hw);go_simp;try with_reducible rfl
 try simp only[nm]
 refine Tk 2 rfl ?_ HS.out ?_ ⟨?_,rfl⟩
 ·intro w hw;(try dsimp only at hw);go_simp;try with_reducible rfl
 try simp only[nm]
 refine Tk 3 rfl ?_ HS.out ?_ ⟨?_,rfl⟩
 ·intro w hw;try dsimp only at hw
  have c36:=(hw.cell 36).trans (wrk_b HX.out.o.1 _ _);go_simp;try with_reducible rfl
 try simp only[nm]
 refine Tk 4 rfl ?_ HS.out ?_ ⟨?_,rfl⟩
 ·intro w hw;(try dsimp only at hw);go_simp;try with_reducible rfl
 try simp only[nm]
 refine Tk 5 rfl ?_ HS.out ?_ ⟨?_,rfl⟩
 ·intro w hw;(try dsimp only at hw);go_simp;try with_reducible rfl
 try simp only[nm]
 refine Tk 6 rfl ?_ HS.out ?_ ⟨?_,rfl⟩
 ·intro w hw;(try dsimp only at hw);go_simp;try with_reducible rfl
 try simp only[nm]
 refine Tk 7 rfl ?_ HS.out ?_ ⟨?_,rfl⟩
 ·intro w hw;(try dsimp only at hw);go_simp;try with_reducible rfl
 try simp only[nm]
 refine Tk 8 rfl ?_ HS.out ?_ ⟨?_,rfl⟩
 ·intro w hw;try dsimp only at hw
  have c1:w.cell? ⟨h,1,none⟩=some (.int .u64 x.coins):=hw.cell 1;go_simp;try with_reducible rfl
 try simp only[nm]
 refine Tk 9 rfl ?_ HS.out ?_ ⟨?_,rfl⟩
 ·intro w hw;(try dsimp only at hw);go_simp;try with_reducible rfl
 try simp only[nm]
 refine Tk 10 rfl ?_ HS.out ?_ ⟨?_,rfl⟩
 ·intro w hw;(try dsimp only at hw);go_simp;try with_reducible rfl
 try simp only[nm]
 refine Tk 11 rfl ?_ HS.out ?_ ⟨?_,rfl⟩
 ·intro w hw;(try dsimp only at hw);go_simp;try with_reducible rfl
 try simp only[nm]
 refine Tk 12 rfl ?_ HS.out ?_ ⟨?_,rfl⟩
 ·intro w hw;(try dsimp only at hw);go_simp;try with_reducible rfl
 try simp only[nm]
 refine Tl 13 (v:=.agg (bv x.owner).toArray) rfl (Or.inl ⟨by rfl,fun wz hwz=>Xa4 wz 68 (.tmp 70) rfl ⟨h,3,none⟩ (bv x.owner) _ Tryd.underlying68 rfl (Xbf HX.out.o.1) (Xka hwz HX.out.o.1) (by go_simp)⟩) HS.out ?_;try simp only[nm]
 refine Tk 14 rfl ?_ HS.out ?_ ⟨?_,rfl⟩
 ·intro w hw;(try dsimp only at hw);go_simp;try with_reducible rfl
 try simp only[nm]
 refine Tk 15 rfl ?_ HS.out ?_ ⟨?_,rfl⟩
 ·intro w hw;(try dsimp only at hw);go_simp;try with_reducible rfl
 try simp only[nm]
 refine Tk 16 rfl ?_ HS.out ?_ ⟨?_,rfl⟩
 ·intro w hw;(try dsimp only at hw);go_simp;try with_reducible rfl
 try simp only[nm]
 refine Tk 17 rfl ?_ HS.out ?_ ⟨?_,rfl⟩
 ·intro w hw;(try dsimp only at hw);go_simp;try with_reducible rfl
 try simp only[nm]
 refine Tk 18 rfl ?_ HS.out ?_ ⟨?_,rfl⟩
 ·intro w hw;try dsimp only at hw
  have c2:w.cell? ⟨h,2,none⟩=some (.int .u64 x.space):=hw.cell 2;go_simp;try with_reducible rfl
 try simp only[nm]
 refine Tl 19 (v:=.agg (LAcc.mk x.coins x.owner x.space).cells.toArray) rfl (Or.inl ⟨by rfl,fun wz hwz=>Xao wz _ _ _ rfl (by simp only[List.map_toArray,List.map_cons,List.map_nil];exact HBU.out)⟩) HS.out ?_;try simp only[nm]
 refine Tk 20 rfl ?_ HS.out ?_ ⟨?_,rfl⟩
 ·intro w hw;(try dsimp only at hw);go_simp;try with_reducible rfl
 try simp only[nm]
 refine Rl 21 rfl fun K hK=>?_
 refine Xal 72 (.tmp 78) (.tmp 77) rfl g 72 (b*34+0) (accsC out++rest) (LAcc.mk x.coins x.owner x.space).cells P5.out.o.row.drew (Xay HX.out.o.1) (by rw[Xbs HX.out.o.1];exact P5.out.room HB.out) (Xe3 _) (by go_simp) (by go_simp) (fun w7 hr7 ht7=>?_);have P7:=Hd (P5.out.drew.part HB.out (o:=0) (y:=⟨x.coins,x.owner,x.space⟩) ⟨HX.out.c,HX.out.o,HX.out.s⟩ (Xg6 (Xaf P5.out.o.ok b).o.1 HX.out.o.1) (by rw[Xbs HX.out.o.1];decide) hr7 ht7);clear hr7 ht7 P5;refine hK.out _ _ P7.out.rh ?_;clear hK K;try simp only[Act.put]
 refine wpAnyH_done (by kernel_rfl) ?_ _;go_wp2_with fail;go_ret;exact Xda HD.out P7.out
theorem Xnk(base g h cap n:Nat)(rest:List Value)(x:LAsk)(hx:AskOk x)(a b:Nat)(pa pb:Value)(l:List LAcc)(V:World)(hd:DS V V base g h cap n rest x pa pb l)(ha:a<n)(hpa:pa=.pointer (some ⟨g,a*34,none⟩))(h1:(getA l a).o≠k0) :
 Calls Tryd.prog 74 #[.pointer (some ⟨h,0,none⟩)] V (DeedDone V base g h cap n rest x pa pb (assign14 l x a)):=by
 have HX:=Hd hx;have HA:=Hd ha;have P:=Hd hd;have HD:Hid (assign14 l x a=bad14 16):=Hd (by
  unfold assign14;rw[if_pos (show(getA l a).o≠key0 from h1)])
 subst hpa;clear hd hx ha;have NE:=Hd (fun w=>Xl0 (Xaf P.out.o.ok a).o.1 (show k0.length=32 from rfl) w);rw[decide_eq_false h1]at NE;clear h1;go_enter Tryd.func74,Tryd.ntmps74
 go_upto_region 1 with fail
 refine wp_region_held_drew (S:=(fun V2=>DS V V2 base g h cap n rest x (.pointer (some ⟨g,a*34,none⟩)) pb l)) (by kernel_rfl) P.out.drew (fun _=>?_);refine Tk 0 rfl ?_ P.out.drew ?_ ⟨?_,rfl⟩
 ·intro w hw;(try dsimp only at hw);go_simp;try with_reducible rfl
 try simp only[nm]
 refine Tk 1 rfl ?_ P.out.drew ?_ ⟨?_,rfl⟩
 ·intro w hw;(try dsimp only at hw);go_simp;try with_reducible rfl
 try simp only[nm]
 refine Tk 2 rfl ?_ P.out.drew ?_ ⟨?_,rfl⟩
 ·intro w hw;(try dsimp only at hw);go_simp;try with_reducible rfl
 try simp only[nm]
 refine Tk 3 rfl ?_ P.out.drew ?_ ⟨?_,rfl⟩
 ·intro w hw;try dsimp only at hw
  have c35:=hw.ptrA;go_simp;try with_reducible rfl
 try simp only[nm]
 refine Tk 4 rfl ?_ P.out.drew ?_ ⟨?_,rfl⟩
 ·intro w hw;(try dsimp only at hw);go_simp;try with_reducible rfl
 try simp only[nm]
 refine Tk 5 rfl ?_ P.out.drew ?_ ⟨?_,rfl⟩
 ·intro w hw;(try dsimp only at hw);go_simp;try with_reducible rfl
 try simp only[nm]
 refine Tl 6 (v:=.agg (bv (getA l a).o).toArray) rfl (Or.inl ⟨by rfl,fun wz hwz=>Xa4 wz 68 (.tmp 8) rfl ⟨g,a*34+1,none⟩ (bv (getA l a).o) _ Tryd.underlying68 rfl (Xbf (Xaf P.out.o.ok _).o.1) (hwz.own HA.out) (by go_simp)⟩) P.out.drew ?_;try simp only[nm]
 refine Rl 7 rfl fun K hK=>?_
 go_simp;refine(Xbw _).mono ?_;rintro e w1 ⟨rfl,hb1⟩;have P1:=Hd (P.out.drew.below hb1);clear hb1;have ne1:=NE.out;refine hK.out _ _ P1.out ?_;clear hK K P;try simp only[nm]
 refine Tk 8 rfl ?_ P1.out ?_ ⟨?_,rfl⟩
 ·intro w hw;(try dsimp only at hw);go_simp;try with_reducible rfl
 try simp only[nm]
 refine wpAnyH_done (by kernel_rfl) ?_ _;go_wp2_with fail;go_ret;exact Xbq HD.out (by decide) P1.out
theorem Xpg(base g h cap n:Nat)(rest:List Value)(x:LAsk)(hx:AskOk x)(a b:Nat)(pa pb:Value)(l:List LAcc)(V:World)(hd:DS V V base g h cap n rest x pa pb l)(ha:a<n)(hpa:pa=.pointer (some ⟨g,a*34,none⟩))(h1:(getA l a).o=k0) :
 Calls Tryd.prog 74 #[.pointer (some ⟨h,0,none⟩)] V (DeedDone V base g h cap n rest x pa pb (assign14 l x a)):=by
 have HX:=Hd hx;have HA:=Hd ha;have P:=Hd hd;have HD:Hid (assign14 l x a=⟨0,l.set a ⟨(getA l a).c,x.owner,(getA l a).s⟩,0⟩):=Hd (by
  unfold assign14;rw[if_neg (show ¬(getA l a).o≠key0 from fun hne=>hne h1)])
 subst hpa;clear hd hx ha;have NE:=Hd (fun w=>Xl0 (Xaf P.out.o.ok a).o.1 (show k0.length=32 from rfl) w);rw[decide_eq_true h1]at NE;clear h1;go_enter Tryd.func74,Tryd.ntmps74
 go_upto_region 1 with fail
 refine wp_region_held_drew (S:=(fun V2=>DS V V2 base g h cap n rest x (.pointer (some ⟨g,a*34,none⟩)) pb l)) (by kernel_rfl) P.out.drew (fun _=>?_);refine Tk 0 rfl ?_ P.out.drew ?_ ⟨?_,rfl⟩
 ·intro w hw;(try dsimp only at hw);go_simp;try with_reducible rfl
 try simp only[nm]
 refine Tk 1 rfl ?_ P.out.drew ?_ ⟨?_,rfl⟩
 ·intro w hw;(try dsimp only at hw);go_simp;try with_reducible rfl
 try simp only[nm]
 refine Tk 2 rfl ?_ P.out.drew ?_ ⟨?_,rfl⟩
 ·intro w hw;(try dsimp only at hw);go_simp;try with_reducible rfl
 try simp only[nm]
 refine Tk 3 rfl ?_ P.out.drew ?_ ⟨?_,rfl⟩
 ·intro w hw;try dsimp only at hw
  have c35:=hw.ptrA;go_simp;try with_reducible rfl
 try simp only[nm]
 refine Tk 4 rfl ?_ P.out.drew ?_ ⟨?_,rfl⟩
 ·intro w hw;(try dsimp only at hw);go_simp;try with_reducible rfl
 try simp only[nm]
 refine Tk 5 rfl ?_ P.out.drew ?_ ⟨?_,rfl⟩
 ·intro w hw;(try dsimp only at hw);go_simp;try with_reducible rfl
 try simp only[nm]
 refine Tl 6 (v:=.agg (bv (getA l a).o).toArray) rfl (Or.inl ⟨by rfl,fun wz hwz=>Xa4 wz 68 (.tmp 8) rfl ⟨g,a*34+1,none⟩ (bv (getA l a).o) _ Tryd.underlying68 rfl (Xbf (Xaf P.out.o.ok _).o.1) (hwz.own HA.out) (by go_simp)⟩) P.out.drew ?_;try simp only[nm]
 refine Rl 7 rfl fun K hK=>?_
 go_simp;refine(Xbw _).mono ?_;rintro e w1 ⟨rfl,hb1⟩;have P1:=Hd (P.out.drew.below hb1);clear hb1;have ne1:=NE.out;refine hK.out _ _ P1.out ?_;clear hK K P;try simp only[nm]
 refine Tk 8 rfl ?_ P1.out ?_ ⟨?_,rfl⟩
 ·intro w hw;(try dsimp only at hw);go_simp;try with_reducible rfl
 try simp only[nm]
 refine wpAnyH_done (by kernel_rfl) ?_ _;have HS:=Hd P1.out.rh.drew;go_upto_region 3 with fail
 refine wp_region_held_drew (S:=(fun V2=>Row V2 h 174 (wrkC x (.pointer (some ⟨g,a*34,none⟩)) pb))) (by kernel_rfl) HS.out (fun _=>?_);refine Tk 0 rfl ?_ HS.out ?_ ⟨?_,rfl⟩
 ·intro w hw;(try dsimp only at hw);go_simp;try with_reducible rfl
 try simp only[nm]
 refine Tk 1 rfl ?_ HS.out ?_ ⟨?_,rfl⟩
 ·intro w hw;(try dsimp only at hw);go_simp;try with_reducible rfl
 try simp only[nm]
 refine Tk 2 rfl ?_ HS.out ?_ ⟨?_,rfl⟩
 ·intro w hw;(try dsimp only at hw);go_simp;try with_reducible rfl
 try simp only[nm]
 refine Tk 3 rfl ?_ HS.out ?_ ⟨?_,rfl⟩
 ·intro w hw;try dsimp only at hw
  have c35:=(hw.cell 35).trans (wrk_a HX.out.o.1 _ _);go_simp;try with_reducible rfl
 try simp only[nm]
 refine Tk 4 rfl ?_ HS.out ?_ ⟨?_,rfl⟩
 ·intro w hw;(try dsimp only at hw);go_simp;try with_reducible rfl
 try simp only[nm]
 refine Tk 5 rfl ?_ HS.out ?_ ⟨?_,rfl⟩
 ·intro w hw;(try dsimp only at hw);go_simp;try with_reducible rfl
 try simp only[nm]
 refine Tk 6 rfl ?_ HS.out ?_ ⟨?_,rfl⟩
 ·intro w hw;(try dsimp only at hw);go_simp;try with_reducible rfl
 try simp only[nm]
 refine Tk 7 rfl ?_ HS.out ?_ ⟨?_,rfl⟩
 ·intro w hw;(try dsimp only at hw);go_simp;try with_reducible rfl
 try simp only[nm]
 refine Tl 8 (v:=.agg (bv x.owner).toArray) rfl (Or.inl ⟨by rfl,fun wz hwz=>Xa4 wz 68 (.tmp 19) rfl ⟨h,3,none⟩ (bv x.owner) _ Tryd.underlying68 rfl (Xbf HX.out.o.1) (Xka hwz HX.out.o.1) (by go_simp)⟩) HS.out ?_;try simp only[nm]
 refine Tk 9 rfl ?_ HS.out ?_ ⟨?_,rfl⟩
 ·intro w hw;(try dsimp only at hw);go_simp;try with_reducible rfl
 try simp only[nm]
 refine Tk 10 rfl ?_ HS.out ?_ ⟨?_,rfl⟩
 ·intro w hw;(try dsimp only at hw);go_simp;try with_reducible rfl
 try simp only[nm]
 refine Rl 11 rfl fun K hK=>?_
 refine Xal 68 (.tmp 22) (.tmp 20) rfl g 72 (a*34+1) (accsC l++rest) (bv x.owner) P1.out.o.row.drew (Xbf HX.out.o.1) (by have:=P1.out.room HA.out;rw[bL,HX.out.o.1];omega) (Xcd _) (by go_simp) (by go_simp) (fun w7 hr7 ht7=>?_);have P7:=Hd (P1.out.drew.part HA.out (o:=1) (y:=⟨(getA l a).c,x.owner,(getA l a).s⟩) ⟨(Xaf P1.out.o.ok a).c,HX.out.o,(Xaf P1.out.o.ok a).s⟩ (Xmq (Xaf P1.out.o.ok a).o.1 HX.out.o.1) (by rw[bL,HX.out.o.1];decide) hr7 ht7);clear hr7 ht7 P1;refine hK.out _ _ P7.out.rh ?_;clear hK K;try simp only[Act.put]
 refine wpAnyH_done (by kernel_rfl) ?_ _;go_wp2_with fail;go_ret;exact Xda HD.out P7.out
theorem Xmy(base g h cap n:Nat)(rest:List Value)(x:LAsk)(hx:AskOk x)(a b:Nat)(pa pb:Value)(l:List LAcc)(V:World)(hd:DS V V base g h cap n rest x pa pb l)(ha:a<n)(hpa:pa=.pointer (some ⟨g,a*34,none⟩))(h2:¬plain14 (getA l a)) :
 Calls Tryd.prog 76 #[.pointer (some ⟨h,0,none⟩)] V (DeedDone V base g h cap n rest x pa pb (space14 l x a)):=by
 have HX:=Hd hx;have HA:=Hd ha;have P:=Hd hd;have HD:Hid (space14 l x a=bad14 12):=Hd (by
  unfold space14;rw[if_pos h2])
 subst hpa;clear hd hx ha;go_enter Tryd.func76,Tryd.ntmps76
 have HPL:=Hd (fun V=>Xc2 (getA l a) V (Xaf P.out.o.ok a));rw[decide_eq_false h2]at HPL;clear h2;have c35:=P.out.ptrA;go_wp2_with (first
  | ((with_reducible show wpList _ _ _ (⟨some 9,_,_,_,_,_⟩::_) _ _);go_must(refine Xa9 rfl 72 (.tmp 8) rfl ⟨g,a*34,none⟩ (getA l a).cells _ Tryd.underlying72 rfl (Xay (Xaf P.out.o.ok _).o.1) (P.out.all HA.out) ?_ ?_;go_simp)))
 refine(HPL.out _).mono ?_;rintro e w2 ⟨rfl,hb5⟩;have P2:=Hd (P.out.below hb5);clear hb5 HPL P c35;go_wp2_with fail;go_ret;exact Xbq HD.out (by decide) P2.out
theorem Xnr(base g h cap n:Nat)(rest:List Value)(x:LAsk)(hx:AskOk x)(a b:Nat)(pa pb:Value)(l:List LAcc)(V:World)(hd:DS V V base g h cap n rest x pa pb l)(ha:a<n)(hpa:pa=.pointer (some ⟨g,a*34,none⟩))(h2:plain14 (getA l a))(h3:1048576<x.space) :
 Calls Tryd.prog 76 #[.pointer (some ⟨h,0,none⟩)] V (DeedDone V base g h cap n rest x pa pb (space14 l x a)):=by
 have HX:=Hd hx;have HA:=Hd ha;have P:=Hd hd;have HD:Hid (space14 l x a=bad14 3):=Hd (by
  unfold space14;rw[if_neg (by simpa using h2),if_pos h3])
 subst hpa;clear hd hx ha;go_enter Tryd.func76,Tryd.ntmps76
 have HPL:=Hd (fun V=>Xc2 (getA l a) V (Xaf P.out.o.ok a));rw[decide_eq_true h2]at HPL;clear h2;have c35:=P.out.ptrA;go_wp2_with (first
  | ((with_reducible show wpList _ _ _ (⟨some 9,_,_,_,_,_⟩::_) _ _);go_must(refine Xa9 rfl 72 (.tmp 8) rfl ⟨g,a*34,none⟩ (getA l a).cells _ Tryd.underlying72 rfl (Xay (Xaf P.out.o.ok _).o.1) (P.out.all HA.out) ?_ ?_;go_simp)))
 refine(HPL.out _).mono ?_;rintro e w2 ⟨rfl,hb5⟩;have P2:=Hd (P.out.below hb5);clear hb5 HPL P c35;have c2:=P2.out.x2;go_wp2_with fail;go_ret;exact Xbq HD.out (by decide) P2.out
theorem Xqs(base g h cap n:Nat)(rest:List Value)(x:LAsk)(hx:AskOk x)(a b:Nat)(pa pb:Value)(l:List LAcc)(V:World)(hd:DS V V base g h cap n rest x pa pb l)(ha:a<n)(hpa:pa=.pointer (some ⟨g,a*34,none⟩))(h2:plain14 (getA l a))(h3:¬1048576<x.space) :
 Calls Tryd.prog 76 #[.pointer (some ⟨h,0,none⟩)] V (DeedDone V base g h cap n rest x pa pb (space14 l x a)):=by
 have HX:=Hd hx;have HA:=Hd ha;have P:=Hd hd;have HD:Hid (space14 l x a=⟨0,l.set a ⟨(getA l a).c,(getA l a).o,x.space⟩,x.space⟩):=Hd (by
  unfold space14;rw[if_neg (by simpa using h2),if_neg h3])
 subst hpa;clear hd hx ha;go_enter Tryd.func76,Tryd.ntmps76
 have HPL:=Hd (fun V=>Xc2 (getA l a) V (Xaf P.out.o.ok a));rw[decide_eq_true h2]at HPL;clear h2;have c35:=P.out.ptrA;go_wp2_with (first
  | ((with_reducible show wpList _ _ _ (⟨some 9,_,_,_,_,_⟩::_) _ _);go_must(refine Xa9 rfl 72 (.tmp 8) rfl ⟨g,a*34,none⟩ (getA l a).cells _ Tryd.underlying72 rfl (Xay (Xaf P.out.o.ok _).o.1) (P.out.all HA.out) ?_ ?_;go_simp)))
 refine(HPL.out _).mono ?_;rintro e w2 ⟨rfl,hb5⟩;have P2:=Hd (P.out.below hb5);clear hb5 HPL P c35;have c2:=P2.out.x2;have c35:=P2.out.ptrA;have cas:=P2.out.s HA.out;have fas:=P2.out.fz (a*34+33);go_upto_region 5 with fail
 go_region
 have P5:=Hd (P2.out.drew.one HA.out (o:=33) (u:=.int .u64 x.space) (y:=⟨(getA l a).c,(getA l a).o,x.space⟩) ⟨(Xaf P2.out.o.ok a).c,(Xaf P2.out.o.ok a).o,HX.out.s⟩ (by decide) (Xns (Xaf P2.out.o.ok a).o.1 _));clear c2 c35 cas fas P2;go_wp2_with fail;go_ret;exact Xda HD.out P5.out
theorem Xms(base g h cap n:Nat)(rest:List Value)(x:LAsk)(hx:AskOk x)(a b:Nat)(pa pb:Value)(l:List LAcc)(V:World)(hd:DS V V base g h cap n rest x pa pb l)(ha:a<n)(hpa:pa=.pointer (some ⟨g,a*34,none⟩))(hb:b<n)(hpb:pb=.pointer (some ⟨g,b*34,none⟩))(h2:¬plain14 (getA l a)) :
 Calls Tryd.prog 75 #[.pointer (some ⟨h,0,none⟩)] V (DeedDone V base g h cap n rest x pa pb (move14 l x a b)):=by
 have HX:=Hd hx;have HA:=Hd ha;have P:=Hd hd;have HD:Hid (move14 l x a b=bad14 16):=Hd (by unfold move14;rw[if_pos h2]);have HB:=Hd hb;subst hpb;clear hb;subst hpa;clear hd hx ha;go_enter Tryd.func75,Tryd.ntmps75
 have HPL:=Hd (fun V=>Xc2 (getA l a) V (Xaf P.out.o.ok a));rw[decide_eq_false h2]at HPL;clear h2;have c35:=P.out.ptrA;go_wp2_with (first
  | ((with_reducible show wpList _ _ _ (⟨some 9,_,_,_,_,_⟩::_) _ _);go_must(refine Xa9 rfl 72 (.tmp 8) rfl ⟨g,a*34,none⟩ (getA l a).cells _ Tryd.underlying72 rfl (Xay (Xaf P.out.o.ok _).o.1) (P.out.all HA.out) ?_ ?_;go_simp)))
 refine(HPL.out _).mono ?_;rintro e w2 ⟨rfl,hb5⟩;have P2:=Hd (P.out.below hb5);clear hb5 HPL P c35;go_wp2_with fail;go_ret;exact Xbq HD.out (by decide) P2.out
theorem Xmt(base g h cap n:Nat)(rest:List Value)(x:LAsk)(hx:AskOk x)(a b:Nat)(pa pb:Value)(l:List LAcc)(V:World)(hd:DS V V base g h cap n rest x pa pb l)(ha:a<n)(hpa:pa=.pointer (some ⟨g,a*34,none⟩))(hb:b<n)(hpb:pb=.pointer (some ⟨g,b*34,none⟩))(h2:plain14 (getA l a))(h4:(getA l a).c<x.coins) :
 Calls Tryd.prog 75 #[.pointer (some ⟨h,0,none⟩)] V (DeedDone V base g h cap n rest x pa pb (move14 l x a b)):=by
 have HX:=Hd hx;have HA:=Hd ha;have P:=Hd hd;have HD:Hid (move14 l x a b=bad14 17):=Hd (by unfold move14;rw[if_neg (by simpa using h2),if_pos h4]);have HB:=Hd hb;subst hpb;clear hb;subst hpa;clear hd hx ha;go_enter Tryd.func75,Tryd.ntmps75
 have HPL:=Hd (fun V=>Xc2 (getA l a) V (Xaf P.out.o.ok a));rw[decide_eq_true h2]at HPL;clear h2;have c35:=P.out.ptrA;go_wp2_with (first
  | ((with_reducible show wpList _ _ _ (⟨some 9,_,_,_,_,_⟩::_) _ _);go_must(refine Xa9 rfl 72 (.tmp 8) rfl ⟨g,a*34,none⟩ (getA l a).cells _ Tryd.underlying72 rfl (Xay (Xaf P.out.o.ok _).o.1) (P.out.all HA.out) ?_ ?_;go_simp)))
 refine(HPL.out _).mono ?_;rintro e w2 ⟨rfl,hb5⟩;have P2:=Hd (P.out.below hb5);clear hb5 HPL P c35;have c1:=P2.out.x1;have c35:=P2.out.ptrA;have cac:=P2.out.c HA.out;go_upto_region 3 with fail
 go_quiet (fail)
 go_wp2_with fail;go_ret;exact Xbq HD.out (by decide) (P2.out.drewN nq)
theorem Xpq(base g h cap n:Nat)(rest:List Value)(x:LAsk)(hx:AskOk x)(a b:Nat)(pa pb:Value)(l:List LAcc)(V:World)(hd:DS V V base g h cap n rest x pa pb l)(ha:a<n)(hpa:pa=.pointer (some ⟨g,a*34,none⟩))(hb:b<n)(hpb:pb=.pointer (some ⟨g,b*34,none⟩))(h2:plain14 (getA l a))(h4:¬(getA l a).c<x.coins)(h3:18446744073709551615 - x.coins<(getA (l.set a ⟨(getA l a).c - x.coins,(getA l a).o,(getA l a).s⟩) b).c) :
 Calls Tryd.prog 75 #[.pointer (some ⟨h,0,none⟩)] V (DeedDone V base g h cap n rest x pa pb (move14 l x a b)):=by
 have HX:=Hd hx;have HA:=Hd ha;have P:=Hd hd;have HD:Hid (move14 l x a b=bad14 18):=Hd (Xlg hd.o.ok hx (by rw[hd.o.len];exact ha) h2 h4 h3);have HB:=Hd hb;subst hpb;clear hb;subst hpa;clear hd hx ha;go_enter Tryd.func75,Tryd.ntmps75
 have HPL:=Hd (fun V=>Xc2 (getA l a) V (Xaf P.out.o.ok a));rw[decide_eq_true h2]at HPL;clear h2;have c35:=P.out.ptrA;go_wp2_with (first
  | ((with_reducible show wpList _ _ _ (⟨some 9,_,_,_,_,_⟩::_) _ _);go_must(refine Xa9 rfl 72 (.tmp 8) rfl ⟨g,a*34,none⟩ (getA l a).cells _ Tryd.underlying72 rfl (Xay (Xaf P.out.o.ok _).o.1) (P.out.all HA.out) ?_ ?_;go_simp)))
 refine(HPL.out _).mono ?_;rintro e w2 ⟨rfl,hb5⟩;have P2:=Hd (P.out.below hb5);clear hb5 HPL P c35;have c1:=P2.out.x1;have c35:=P2.out.ptrA;have cac:=P2.out.c HA.out;go_upto_region 3 with fail
 go_quiet (fail)
 go_upto_region 5 with fail
 have fac:=P2.out.fz (a*34);go_region
 have E1:IntKind.u64.wrap ((getA l a).c - x.coins)=(getA l a).c - x.coins:=by rw[IntKind.wrap_u64];have:=(Xaf P2.out.o.ok a).c;have:=HX.out.c;omega
 have P5:=Hd (show DS V ((w2.drewN (nq+1)).setCell ⟨g,a*34,none⟩ (.int .u64 ((getA l a).c - x.coins))) base g h cap n rest x (.pointer (some ⟨g,a*34,none⟩)) (.pointer (some ⟨g,b*34,none⟩)) (l.set a ⟨(getA l a).c - x.coins,(getA l a).o,(getA l a).s⟩)from(P2.out.drewN (nq+1)).one HA.out (o:=0) (y:=⟨(getA l a).c - x.coins,(getA l a).o,(getA l a).s⟩) ⟨by have:=(Xaf P2.out.o.ok a).c;have:=HX.out.c;constructor <;> dsimp only <;> omega,(Xaf P2.out.o.ok a).o,(Xaf P2.out.o.ok a).s⟩ (by decide) (Xel _ _));rw[E1];clear E1 P2 c1 c35 cac fac;obtain⟨out,hout⟩:∃out,out=l.set a ⟨(getA l a).c - x.coins,(getA l a).o,(getA l a).s⟩:=⟨_,rfl⟩;rw[←hout]at P5 h3;generalize hW6:(w2.drewN (nq+1)).setCell ⟨g,a*34,none⟩ (.int .u64 ((getA l a).c - x.coins))=w6 at *;clear hW6 hout;have c1:=P5.out.x1;have c36:=P5.out.ptrB;have cbc:=P5.out.c HB.out;have hw:IntKind.u64.wrap (18446744073709551615 - x.coins)=18446744073709551615 - x.coins:=by rw[IntKind.wrap_u64];have:=HX.out.c;omega
 go_upto_region 6 with fail
 rename Nat=>nr
 go_quiet (fail)
 go_wp2_with fail;go_ret;exact Xbq HD.out (by decide) (P5.out.drewN nq)
theorem Xqb(base g h cap n:Nat)(rest:List Value)(x:LAsk)(hx:AskOk x)(a b:Nat)(pa pb:Value)(l:List LAcc)(V:World)(hd:DS V V base g h cap n rest x pa pb l)(ha:a<n)(hpa:pa=.pointer (some ⟨g,a*34,none⟩))(hb:b<n)(hpb:pb=.pointer (some ⟨g,b*34,none⟩))(h2:plain14 (getA l a))(h4:¬(getA l a).c<x.coins)(h3:¬18446744073709551615 - x.coins<(getA (l.set a ⟨(getA l a).c - x.coins,(getA l a).o,(getA l a).s⟩) b).c) :
 Calls Tryd.prog 75 #[.pointer (some ⟨h,0,none⟩)] V (DeedDone V base g h cap n rest x pa pb (move14 l x a b)):=by
 have HX:=Hd hx;have HA:=Hd ha;have P:=Hd hd;have HD:Hid (move14 l x a b=_):=Hd (Xl9 hd.o.ok hx (by rw[hd.o.len];exact ha) h2 h4 h3);have HB:=Hd hb;subst hpb;clear hb;subst hpa;clear hd hx ha;go_enter Tryd.func75,Tryd.ntmps75
 have HPL:=Hd (fun V=>Xc2 (getA l a) V (Xaf P.out.o.ok a));rw[decide_eq_true h2]at HPL;clear h2;have c35:=P.out.ptrA;go_wp2_with (first
  | ((with_reducible show wpList _ _ _ (⟨some 9,_,_,_,_,_⟩::_) _ _);go_must(refine Xa9 rfl 72 (.tmp 8) rfl ⟨g,a*34,none⟩ (getA l a).cells _ Tryd.underlying72 rfl (Xay (Xaf P.out.o.ok _).o.1) (P.out.all HA.out) ?_ ?_;go_simp)))
 refine(HPL.out _).mono ?_;rintro e w2 ⟨rfl,hb5⟩;have P2:=Hd (P.out.below hb5);clear hb5 HPL P c35;have c1:=P2.out.x1;have c35:=P2.out.ptrA;have cac:=P2.out.c HA.out;go_upto_region 3 with fail
 go_quiet (fail)
 go_upto_region 5 with fail
 have fac:=P2.out.fz (a*34);go_region
 have E1:IntKind.u64.wrap ((getA l a).c - x.coins)=(getA l a).c - x.coins:=by rw[IntKind.wrap_u64];have:=(Xaf P2.out.o.ok a).c;have:=HX.out.c;omega
 have P5:=Hd (show DS V ((w2.drewN (nq+1)).setCell ⟨g,a*34,none⟩ (.int .u64 ((getA l a).c - x.coins))) base g h cap n rest x (.pointer (some ⟨g,a*34,none⟩)) (.pointer (some ⟨g,b*34,none⟩)) (l.set a ⟨(getA l a).c - x.coins,(getA l a).o,(getA l a).s⟩)from(P2.out.drewN (nq+1)).one HA.out (o:=0) (y:=⟨(getA l a).c - x.coins,(getA l a).o,(getA l a).s⟩) ⟨by have:=(Xaf P2.out.o.ok a).c;have:=HX.out.c;constructor <;> dsimp only <;> omega,(Xaf P2.out.o.ok a).o,(Xaf P2.out.o.ok a).s⟩ (by decide) (Xel _ _));rw[E1];clear E1 P2 c1 c35 cac fac;obtain⟨out,hout⟩:∃out,out=l.set a ⟨(getA l a).c - x.coins,(getA l a).o,(getA l a).s⟩:=⟨_,rfl⟩;rw[←hout]at P5 HD h3;generalize hW6:(w2.drewN (nq+1)).setCell ⟨g,a*34,none⟩ (.int .u64 ((getA l a).c - x.coins))=w6 at *;clear hW6 hout;have c1:=P5.out.x1;have c36:=P5.out.ptrB;have cbc:=P5.out.c HB.out;have hw:IntKind.u64.wrap (18446744073709551615 - x.coins)=18446744073709551615 - x.coins:=by rw[IntKind.wrap_u64];have:=HX.out.c;omega
 go_upto_region 6 with fail
 rename Nat=>nr
 go_quiet (fail)
 go_upto_region 8 with fail
 have fbc:=P5.out.fz (b*34);go_region
 have E2:IntKind.u64.wrap ((getA out b).c+x.coins)=(getA out b).c+x.coins:=by rw[IntKind.wrap_u64];have:=(Xaf P5.out.o.ok b).c;have:=HX.out.c;omega
 rw[E2];have P8:=Hd (show DS V ((w6.drewN (nq+1)).setCell ⟨g,b*34,none⟩ (.int .u64 ((getA out b).c+x.coins))) base g h cap n rest x (.pointer (some ⟨g,a*34,none⟩)) (.pointer (some ⟨g,b*34,none⟩)) (out.set b ⟨(getA out b).c+x.coins,(getA out b).o,(getA out b).s⟩)from(P5.out.drewN (nq+1)).one HB.out (o:=0) (y:=⟨(getA out b).c+x.coins,(getA out b).o,(getA out b).s⟩) ⟨by have:=(Xaf P5.out.o.ok b).c;have:=HX.out.c;constructor <;> dsimp only <;> omega,(Xaf P5.out.o.ok b).o,(Xaf P5.out.o.ok b).s⟩ (by decide) (Xel _ _));clear E2 P5 c1 c36 cbc fbc;go_wp2_with fail;go_ret;exact Xda HD.out P8.out
open Go.RowKit Go.Maps
theorem Xmd(A:Option Addr)(n c:Nat)(w:World)(hnc:n≤c)(hc:c≤maxLen) :
 Calls Tryd.prog 66 #[.slice A n c] w fun e w'=>e=.returned (.slice A n n)∧w=w':=by
 unfold maxLen at hc;go_enter Tryd.func66,Tryd.ntmps66
 go_wp2;go_ret;exact⟨rfl,rfl⟩
theorem Xlf(w:World)(t:TypeId)(size:Nat):(w.alloc (.cells #[] t)).ownsRow w.heap.size t size (.slice (some ⟨w.heap.size,0,none⟩) 0 0) 0 []:=by
 refine⟨?_,.inr ⟨w.heap.size,0,#[],rfl,Lr _,?_,?_⟩⟩
 ·simp
 ·exact heap_alloc_new w _
 ·simp
theorem Xip(ad:Addr)(n c B:Nat)(l:List LAcc)(w:World)(hl:AccsIn w B (some ad) n l)(hB:B≤w.heap.size)(hn:n≤100000)(h0:0<n) :
 Calls Tryd.prog 67 #[.slice (some ad) n c] w fun e w'=>∃g cap rest,e=.returned (.slice (some ⟨g,0,none⟩) n cap)∧OutAt w' w.heap.size g cap n rest l∧Below w.heap.size w w':=by
 have hb0:=(Br w.heap.size w).alloc (Lr _) (.cells #[] 72);have HB0:=Hd hb0;have HLS:=Hd (hl.below (hb0.mono hB)).sees;have HE:=Hd (Xlf w 72 34);have HO:=Hd hl.ok;have HLN:=Hd hl.len;have ne1:∀w,(binOp .eql 49 (.slice (some ad) n c) (.slice none 0 0)).run Tryd.prog w=.ok (.bool false) w:=fun w=>by first | rfl | kernel_rfl
 clear hl hb0;go_enter Tryd.func67,Tryd.ntmps67
 go_wp2_with (first
  | ((with_reducible show wpList _ _ _ (⟨some 7,_,_,_,_,_⟩::_) _ _);go_must(refine Xc8 rfl (.tmp 5) (.tmp 6) 49 72 _ 34 48 rfl Tryd.underlying49 Xm2 Xtg (by omega) (.slice (some ⟨w.heap.size,0,none⟩) 0 0) 0 [] w.heap.size B (some ad) n c (accsC l) ?_ HE.out ?_ HLS.out (Xq9 _) (by unfold maxLen;omega) (by omega) (by simp) ?_;go_simp;go_simp;intro v4 w4 ho4 hg4)))
 rw[Nat.zero_add,List.nil_append]at ho4;obtain⟨g,cap,rest,rfl,hO⟩:=Xjy ho4 HLN.out h0 HO.out;go_ret;exact⟨g,cap,rest,rfl,hO,HB0.out.trans (hg4.below HE.out (by simp))⟩
open Classical in
noncomputable def fnE (v:Value):Option (DataW Unit × List MemPlace):=if h:∃f:Nat,v=.func (.func f) #[] #[]then some (.lit (.int .i64 h.choose),[])else if v=.nilFunc then some (.lit (.int .i64 (-1)),[])else none
theorem Xbx(f:Nat):fnE (.func (.func f) #[] #[])=some (.lit (.int .i64 f),[]):=by
 have h:∃k:Nat,Value.func (.func f) #[] #[]=.func (.func k) #[] #[]:=⟨f,rfl⟩;unfold fnE;rw[dif_pos h];have h1:=h.choose_spec;injection h1 with h1
 injection h1 with h1
 rw[←h1]
theorem Xqi:fnE .nilFunc=some (.lit (.int .i64 (-1)),[]):=by
 unfold fnE;rw[dif_neg (by rintro⟨f,h⟩;cases h),if_pos rfl]
theorem Xkp{v:Value}{f:Nat}{ps:List MemPlace}(h:fnE v=some (.lit (.int .i64 f),ps)):v=.func (.func f) #[] #[]:=by
 unfold fnE at h;split at h
 ·rename_i hx
  have h1:=hx.choose_spec;injection h with h
  injection h with h _
  injection h with h
  injection h with _ h
  have h2:hx.choose=f:=by exact_mod_cast h
  rw[h1,h2]
 ·split at h
  ·injection h with h
   injection h with h _
   injection h with h
   injection h with _ h
   omega
  ·cases h
theorem Xgy:Keyed Tryd.prog 44:=int_keyed Tryd.underlying44
theorem Xbo{H:Type}{P:Program}(w:World){ops:Array Oper}{rest:List Oper}{o:Oper}{a:Act}{Q:Exit→Act→World→Prop}
 (hg:o.guard=none) (m x v:Operand) (t:TypeId) (hop:o.op=Op.insert t m x v)
 (k e:TypeId) (K:Keyed P k) (ht:P.underlying t=some (.map k e)) (R:Value→Option (DataW H × List MemPlace)) (b n:Nat) (D:DataW H)
 (hm:a.eval m=.map (some b)) (hown:w.ownsMap P k R b n D) (hn:n<maxLen) (key val:Value) (kl:Lit) (hx:a.eval x=key) (hv:a.eval v=val) (hkey:Go.keyOf P k key=some kl)
 (d:DataW H) (ps:List MemPlace) (hval:R val=some (d,ps))
 (hK:∀w',w'.ownsMap P k R b (n+1) (D.put kl d)→w.grownBy w' (some b)→wpList P ops Q rest (a.put o.dst undef) w') :
 wpList P ops Q (o::rest) a w:=by
 refine wpList_plain hg fun K' hK'=>?_
 obtain⟨w',hrun,r1,r2⟩:=hown.update K ht hn hkey hval;unfold Oper.wp;simp[execOp,hop,hm,hx,hv,hrun,Result.andThen];exact hK' _ _ (hK w' r1 r2)
def KeyD14(k:Int):Lit:=.int .u64 k
def FnD14(f:Nat):DataW Unit:=.lit (.int .i64 f)
def DD14:DataW Unit:=((((DataW.map []).put (KeyD14 0) (FnD14 73)).put (KeyD14 1) (FnD14 74)).put (KeyD14 2) (FnD14 75)).put (KeyD14 8) (FnD14 76)
theorem Xh2(k:Int)(h0:0≤k)(h1:k<18446744073709551616):Go.keyOf Tryd.prog 44 (.int .u64 k)=some (KeyD14 k):=keyOf_int_mk Tryd.underlying44 (show(decide ((0:Int)≤k)&&decide (k≤18446744073709551615))=true by rw[Bool.and_eq_true,decide_eq_true_iff,decide_eq_true_iff];omega)
def deedF(t:Int):Nat:=if t=0 then 73 else if t=1 then 74 else if t=2 then 75 else 76
theorem Xte{t:Int}(h:t=0∨t=1∨t=2∨t=8)(z:DataW Unit):DD14.atKey (KeyD14 t) z=FnD14 (deedF t):=by
 rcases h with rfl | rfl | rfl | rfl <;> rfl
theorem Xdb{w:World}{b n:Nat}(hown:w.ownsMap Tryd.prog 44 fnE b n DD14){t:Int}(h:t=0∨t=1∨t=2∨t=8):(Instr.lookup 176 (.map (some b)) (.int .u64 t) false).run Tryd.prog w=.ok (.func (.func (deedF t)) #[] #[]) w:=by
 obtain⟨v,ps,hrun,hv⟩:=hown.lookup Xgy Tryd.underlying176 (show(zeroValue 175).run Tryd.prog w=.ok .nilFunc w by kernel_rfl) Xqi (Xh2 t (by omega) (by omega));rw[Xte h]at hv;rw[hrun,Xkp hv]
theorem Xi2(w:World):Calls Tryd.prog 68 #[] w fun e w'=>e=.returned (.map (some w.heap.size))∧w'.ownsMap Tryd.prog 44 fnE w.heap.size 4 DD14∧Below w.heap.size w w':=by
 have HM:=Hd (World.ownsMap_made w Tryd.prog 44 fnE);have HB:=Hd ((Br w.heap.size w).alloc (Lr _) (.map #[] 0));have hmm:∀w,(Instr.makeMap 176 none).run Tryd.prog w=.ok (.map (some w.heap.size)) (w.alloc (.map #[] 0)):=fun w=>by first | rfl | kernel_rfl
 go_enter Tryd.func68,Tryd.ntmps68
 go_upto_region 1 with fail
 go_wp2_with (first
  | ((with_reducible show wpList _ _ _ (⟨none,Op.insert _ _ (.const (.int .u64 0)) _,_,_,_,_⟩::_) _ _);go_must(refine Xbo _ rfl (.tmp 1) (.const (.int .u64 0)) (.func 73) 176 rfl 44 175 Xgy Tryd.underlying176 fnE w.heap.size 0 _ ?_ HM.out (by decide) (.int .u64 0) (.func (.func 73) #[] #[]) (KeyD14 0) rfl rfl (Xh2 0 (by decide) (by decide)) (FnD14 73) [] (Xbx _) ?_;go_simp;intro w1 ho1 hg1;have H1:=Hd ho1;have B1:=Hd (HB.out.grown hg1 HB.out.size (fun k hk=>by cases hk;exact Lr _));clear ho1 hg1))
  | ((with_reducible show wpList _ _ _ (⟨none,Op.insert _ _ (.const (.int .u64 1)) _,_,_,_,_⟩::_) _ _);go_must(refine Xbo _ rfl (.tmp 1) (.const (.int .u64 1)) (.func 74) 176 rfl 44 175 Xgy Tryd.underlying176 fnE w.heap.size 1 _ ?_ H1.out (by decide) (.int .u64 1) (.func (.func 74) #[] #[]) (KeyD14 1) rfl rfl (Xh2 1 (by decide) (by decide)) (FnD14 74) [] (Xbx _) ?_;go_simp;intro w2 ho2 hg2;have H2:=Hd ho2;have B2:=Hd (B1.out.grown hg2 B1.out.size (fun k hk=>by cases hk;exact Lr _));clear ho2 hg2))
  | ((with_reducible show wpList _ _ _ (⟨none,Op.insert _ _ (.const (.int .u64 2)) _,_,_,_,_⟩::_) _ _);go_must(refine Xbo _ rfl (.tmp 1) (.const (.int .u64 2)) (.func 75) 176 rfl 44 175 Xgy Tryd.underlying176 fnE w.heap.size 2 _ ?_ H2.out (by decide) (.int .u64 2) (.func (.func 75) #[] #[]) (KeyD14 2) rfl rfl (Xh2 2 (by decide) (by decide)) (FnD14 75) [] (Xbx _) ?_;go_simp;intro w3 ho3 hg3;have H3:=Hd ho3;have B3:=Hd (B2.out.grown hg3 B2.out.size (fun k hk=>by cases hk;exact Lr _));clear ho3 hg3))
  | ((with_reducible show wpList _ _ _ (⟨none,Op.insert _ _ (.const (.int .u64 8)) _,_,_,_,_⟩::_) _ _);go_must(refine Xbo _ rfl (.tmp 1) (.const (.int .u64 8)) (.func 76) 176 rfl 44 175 Xgy Tryd.underlying176 fnE w.heap.size 3 _ ?_ H3.out (by decide) (.int .u64 8) (.func (.func 76) #[] #[]) (KeyD14 8) rfl rfl (Xh2 8 (by decide) (by decide)) (FnD14 76) [] (Xbx _) ?_;go_simp;intro w4 ho4 hg4;have H4:=Hd ho4;have B4:=Hd (B3.out.grown hg4 B3.out.size (fun k hk=>by cases hk;exact Lr _));clear ho4 hg4)))
 go_ret;exact⟨rfl,H4.out,B4.out⟩
end Go.Proofs.YtkhcgclnmdgpbaaDoor
