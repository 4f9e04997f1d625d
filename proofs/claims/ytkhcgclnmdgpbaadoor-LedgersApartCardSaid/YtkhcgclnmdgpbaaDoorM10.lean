import Derived.Test.YtkhcgclnmdgpbaaDoorM9
import Derived.LaidEql
import Derived.Stop.Asserts
import Derived.RowKitTokens
set_option maxRecDepth 100000
set_option maxHeartbeats 16000000
set_option linter.unusedSimpArgs false
set_option linter.unusedVariables false
namespace Go.Proofs.YtkhcgclnmdgpbaaDoor
open Go.RowKit
def wkC(RA:Option Addr)(rn rc:Nat)(va:Value)(left space:Int):List Value:=[.slice RA rn rc,va,.int .u64 left,.int .u64 space]
def AV15(w:World)(h:Nat)(va:Value)(l:List LAcc):Prop:=(∃LA lc,va=.slice LA l.length lc∧AccsIn w h LA l.length l∧l.length≤lc∧lc≤maxLen)∨OA14 w (h+1) va l
theorem AV15.but{w w':World}{h:Nat}{va:Value}{l:List LAcc}(a:AV15 w h va l)(hb:But h w w')(hh:h<w.heap.size):AV15 w' h va l:=by
 rcases a with⟨LA,lc,e,ha,hc⟩ | ho
 ·exact .inl ⟨LA,lc,e,ha.below (hb.below (Lr _) (Nat.le_of_lt hh)),hc⟩
 ·exact .inr (ho.keep fun g hg=>hb.block g (ho.lt g hg).2 (by have:=(ho.lt g hg).1;omega))
theorem AV15.below{w w':World}{h:Nat}{va:Value}{l:List LAcc}(a:AV15 w h va l)(hb:Below w.heap.size w w')(hh:h<w.heap.size):AV15 w' h va l:=a.but (.of_below hb h) hh
theorem AV15.form{w:World}{h:Nat}{va:Value}{l:List LAcc}(a:AV15 w h va l)(hh:h<w.heap.size):∃LA lc,va=.slice LA l.length lc∧AccsIn w w.heap.size LA l.length l∧l.length≤lc∧lc≤maxLen:=by
 rcases a with⟨LA,lc,e,ha,hc⟩ | ho
 ·exact⟨LA,lc,e,ha.more (Nat.le_of_lt hh),hc⟩
 ·obtain⟨A,c,rfl,h1,h2⟩:=ho.form;exact⟨A,c,rfl,ho.accs rfl,h1,h2⟩
theorem AV15.ok{w:World}{h:Nat}{va:Value}{l:List LAcc}(a:AV15 w h va l):∀x ∈ l,AccOk x:=by
 rcases a with⟨LA,lc,e,ha,hc⟩ | ho
 ·exact ha.ok
 ·exact ho.ok
theorem Xq7(RA:Option Addr)(rn rc:Nat)(va:Value)(left space:Int):(Tryd.prog.info? 94).map (·.size)=some (wkC RA rn rc va left space).length:=by kernel_rfl
def SysDone15(w:World)(h:Nat)(RA:Option Addr)(rn rc:Nat)(va:Value)(left space:Int)(R:Res14)(e:Ending)(w':World):Prop:=
 But h w w'∧((R.e≠0∧e=.returned (.iface 50 (.int .i64 R.e))∧Row w' h 94 (wkC RA rn rc va left space))∨(R.e=0∧e=.returned .nilIface∧∃v,OA14 w' w.heap.size v R.l∧Row w' h 94 (wkC RA rn rc v left (space+R.n))))
theorem Xr2(h:Nat)(RA:Option Addr)(rn rc:Nat)(rs:List LRole)(va:Value)(l:List LAcc)(left space p:Int)(IA:Option Addr)(n c:Nat)(D:Option Addr)(dn dc:Nat)(acc dat:List Int)(B:Nat)(w:World)
 (hw:Row w h 94 (wkC RA rn rc va left space)) (ha:AV15 w h va l) (hr:RolesIn w B RA rn rs) (hi:InsAt14 w B p IA n c D dn dc acc dat) (hB:B≤h) (hn:n≤100000) (hl:l.length≤100000) (hrn:rn≤100000) (hsp:0≤space∧space+1048576<18446744073709551616) :
 Calls Tryd.prog 55 #[.pointer (some ⟨h,0,none⟩),.agg (insC p IA n c D dn dc).toArray] w (SysDone15 w h RA rn rc va left space (do14 l rs acc dat)):=by
 have hlt:=hw.lt;have HLT:=Hd hlt;have HOK:=Hd ha.ok;have HBB:=Hd (And.intro hi.ab hi.db);have HHB:=Hd hB;have HSP:=Hd hsp;have hb0:=(Br w.heap.size w).alloc (Lr _) (.cells (insC p IA n c D dn dc).toArray 108);obtain⟨LA,lc,rfl,hac,hlc⟩:=ha.form hlt;have HDO:=Hd (fun(V:World) (hv:Below (w.heap.size+1) (w.alloc (.cells (insC p IA n c D dn dc).toArray 108)) V)=>Xty l rs p IA n c D dn dc acc dat LA l.length lc RA rn rc w.heap.size V
  ((hac.below hb0).below (hv.mono (by omega))) hlc.1 ((hr.below (hb0.mono (by omega))).below (hv.mono (by omega)) |>.more (by omega)) ((hi.below (hb0.mono (by omega))).below (hv.mono (by omega)) |> fun z=>Xos z (by omega)) (by have:=hv.size;simp at this;omega) hn hl hrn)
 have RH:=Hd (hw.alloc (.cells (insC p IA n c D dn dc).toArray 108));have RI:=Hd (Row.new w 108 (insC p IA n c D dn dc));have HB0:=Hd hb0;have HSZ:Hid ((w.alloc (.cells (insC p IA n c D dn dc).toArray 108)).heap.size=w.heap.size+1):=Hd (by simp);obtain⟨gi,hgi⟩:∃g,g=w.heap.size:=⟨_,rfl⟩;have HGI:Hid (w.heap.size=gi):=Hd hgi.symm;rw[←hgi]at RI;clear hlt hw ha hr hi hB hac hb0 hgi hsp;generalize hW:w.alloc (.cells (insC p IA n c D dn dc).toArray 108)=W at *;have HW:=Hd hW;clear hW;go_enter Tryd.func55,Tryd.ntmps55
 go_upto_region 1 with fail
 try rw[HGI.out]
 rw[HW.out];clear HGI HW;have S0:=Hd (show Row W h 94 (wkC RA rn rc (.slice LA l.length lc) left space)∧Row W gi 108 (insC p IA n c D dn dc)∧Below (w.heap.size+1) W W from⟨RH.out,RI.out,Br _ _⟩);have HGL:Hid (gi<w.heap.size+1):=Hd (by have:=RI.out.lt;rw[HSZ.out]at this;exact this);refine wp_region_held_drew (S:=fun V=>Row V h 94 (wkC RA rn rc (.slice LA l.length lc) left space)∧Row V gi 108 (insC p IA n c D dn dc)∧Below (w.heap.size+1) W V) (by kernel_rfl) ⟨S0.out.1.drew,S0.out.2.1.drew,S0.out.2.2.drew⟩ (fun _=>?_);try dsimp only[List.append]
 have SD:=Hd (show Row W.drew h 94 (wkC RA rn rc (.slice LA l.length lc) left space)∧Row W.drew gi 108 (insC p IA n c D dn dc)∧Below (w.heap.size+1) W W.drew from⟨S0.out.1.drew,S0.out.2.1.drew,S0.out.2.2.drew⟩);generalize W.drew=wd at *;refine Tk 0 rfl ?_ SD.out ?_ ⟨?_,rfl⟩
 ·intro w hw;(try dsimp only at hw);go_simp;try with_reducible rfl
 try simp only[nm]
 refine Tk 1 rfl ?_ SD.out ?_ ⟨?_,rfl⟩
 ·intro w hw;(try dsimp only at hw);go_simp;try with_reducible rfl
 try simp only[nm]
 refine Tk 2 rfl ?_ SD.out ?_ ⟨?_,rfl⟩
 ·intro w hw;(try dsimp only at hw);go_simp;try with_reducible rfl
 try simp only[nm]
 refine Tk 3 rfl ?_ SD.out ?_ ⟨?_,rfl⟩
 ·intro w hw;try dsimp only at hw
  have c1:w.cell? ⟨h,1,none⟩=some (.slice LA l.length lc):=hw.1.cell 1;go_simp;try with_reducible rfl
 try simp only[nm]
 refine Tk 4 rfl ?_ SD.out ?_ ⟨?_,rfl⟩
 ·intro w hw;(try dsimp only at hw);go_simp;try with_reducible rfl
 try simp only[nm]
 refine Tk 5 rfl ?_ SD.out ?_ ⟨?_,rfl⟩
 ·intro w hw;(try dsimp only at hw);go_simp;try with_reducible rfl
 try simp only[nm]
 refine Tk 6 rfl ?_ SD.out ?_ ⟨?_,rfl⟩
 ·intro w hw;(try dsimp only at hw);go_simp;try with_reducible rfl
 try simp only[nm]
 refine Tk 7 rfl ?_ SD.out ?_ ⟨?_,rfl⟩
 ·intro w hw;try dsimp only at hw
  have c0:w.cell? ⟨h,0,none⟩=some (.slice RA rn rc):=hw.1.cell 0;go_simp;try with_reducible rfl
 try simp only[nm]
 refine Tl 8 (v:=.agg (insC p IA n c D dn dc).toArray) rfl (Or.inl ⟨by rfl,fun wz hwz=>Xa4 wz 108 (.tmp 3) rfl ⟨gi,0,none⟩ (insC p IA n c D dn dc) _ Tryd.underlying108 rfl (by kernel_rfl) (fun j u hu=>by rw[Xac,Nat.zero_add,hwz.2.1.cell];exact hu) (by go_simp)⟩) SD.out ?_;try simp only[nm]
 refine Rl 9 rfl fun K hK=>?_
 go_simp;refine(HDO.out wd SD.out.2.2).mono ?_;rintro e y9 ⟨v9,rfl,ho,hb⟩;have S9:=Hd (show Row y9 h 94 (wkC RA rn rc (.slice LA l.length lc) left space)∧Row y9 gi 108 (insC p IA n c D dn dc)∧Below (w.heap.size+1) W y9 from⟨SD.out.1.below hb SD.out.1.lt,SD.out.2.1.below hb SD.out.2.1.lt,SD.out.2.2.trans (hb.mono (by have:=SD.out.2.2.size;rw[HSZ.out]at this;exact this))⟩);have B9:Hid (Below w.heap.size w y9):=Hd (HB0.out.trans (S9.out.2.2.mono (by omega)));have O9:Hid (OA14 y9 w.heap.size v9 (do14 l rs acc dat).l):=Hd (Xme ho (by have:=SD.out.2.2.size;rw[HSZ.out]at this;omega));clear ho hb;refine hK.out _ _ S9.out ?_;clear hK K;try simp only[nm]
 refine Tk 10 rfl ?_ S9.out ?_ ⟨?_,rfl⟩
 ·intro w hw;(try dsimp only at hw);go_simp;try with_reducible rfl
 try simp only[nm]
 refine Tk 11 rfl ?_ S9.out ?_ ⟨?_,rfl⟩
 ·intro w hw;(try dsimp only at hw);go_simp;try with_reducible rfl
 try simp only[nm]
 refine Tk 12 rfl ?_ S9.out ?_ ⟨?_,rfl⟩
 ·intro w hw;(try dsimp only at hw);go_simp;try with_reducible rfl
 try simp only[nm]
 refine Tk 13 rfl ?_ S9.out ?_ ⟨?_,rfl⟩
 ·intro w hw;(try dsimp only at hw);go_simp;try with_reducible rfl
 try simp only[nm]
 refine Tk 14 rfl ?_ S9.out ?_ ⟨?_,rfl⟩
 ·intro w hw;(try dsimp only at hw);go_simp;try with_reducible rfl
 try simp only[nm]
 refine Tk 15 rfl ?_ S9.out ?_ ⟨?_,rfl⟩
 ·intro w hw;(try dsimp only at hw);go_simp;try with_reducible rfl
 try simp only[nm]
 refine Tk 16 rfl ?_ S9.out ?_ ⟨?_,rfl⟩
 ·intro w hw;(try dsimp only at hw);go_simp;try with_reducible rfl
 try simp only[nm]
 refine wpAnyH_done (by kernel_rfl) ?_ _;try dsimp only[List.append]
 have HNN:Hid ((do14 l rs acc dat).e=0→0≤(do14 l rs acc dat).n∧(do14 l rs acc dat).n≤1048576):=Hd fun he=>by
  obtain⟨pa,pb,hwt⟩:=Xi9 HOK.out HBB.out.2 HBB.out.1 he;exact hwt.d.lim
 have hs0:=HSP.out.1;have hs1:=HSP.out.2;by_cases he:(do14 l rs acc dat).e=0
 ·have HEE:=Hd he;have HNL:Hid (0≤(do14 l rs acc dat).n∧(do14 l rs acc dat).n≤1048576):=Hd (HNN.out he);have hn0:=HNL.out.1;have hn1:=HNL.out.2;have c3:y9.cell? ⟨h,3,none⟩=some (.int .u64 space):=S9.out.1.cell 3;have hwr:IntKind.u64.wrap (space+(do14 l rs acc dat).n)=space+(do14 l rs acc dat).n:=IntWalk.u64_in _ (by omega);obtain⟨A9,c9,hv9,_,_⟩:=O9.out.form;obtain⟨v8,hv8⟩:∃v,v=Value.slice A9 (do14 l rs acc dat).l.length c9:=⟨_,rfl⟩;have O8:Hid (OA14 y9 w.heap.size v8 (do14 l rs acc dat).l):=Hd (by rw[hv8,←hv9];exact O9.out);subst hv9;have HV8:=Hd hv8;clear hv8;have c1:y9.cell? ⟨h,1,none⟩=some (.slice LA l.length lc):=S9.out.1.cell 1;have f1:=S9.out.1.frozen 1;have f3:=S9.out.1.frozen 3;go_wp2_with fail;go_ret;rw[←HV8.out];have t1:=Xa0 y9 ⟨h,1,none⟩ v8;have t2:=Xa0 (y9.setCell ⟨h,1,none⟩ v8) ⟨h,3,none⟩ (.int .u64 (space+(do14 l rs acc dat).n));refine⟨((But.of_below B9.out h).trans (.of_turned t1)).trans (.of_turned t2),.inr ⟨HEE.out,rfl,v8,?_,(S9.out.1.set_ 1 v8).set_ 3 (.int .u64 (space+(do14 l rs acc dat).n))⟩⟩;refine O8.out.keep fun g hg=>?_
  have:=(O8.out.lt g hg).1;have h3:=HLT.out;exact(t2.block g (by show g≠h;omega)).trans (t1.block g (by show g≠h;omega))
 ·have HEE:=Hd he;clear HNN;go_wp2_with fail;go_ret;exact⟨.of_below B9.out h,.inl ⟨HEE.out,rfl,S9.out.1⟩⟩
def OneDone15(w:World)(h:Nat)(RA:Option Addr)(rn rc:Nat)(x:LReady)(E:Int)(S':S15)(e:Ending)(w':World):Prop:=
 But h w w'∧((E≠0∧e=.returned (.iface 50 (.int .i64 E))∧∃va sp,Row w' h 94 (wkC RA rn rc va (x.u - S'.units) sp))∨(E=0∧e=.returned .nilIface∧∃v,AV15 w' h v S'.now∧Row w' h 94 (wkC RA rn rc v (x.u - S'.units) S'.space)))
theorem Xgn{x:LReady}{a:LIn}{y:LRole}{k:Nat}(h:x.roles[k]?=some y)(hk:a.p=(k:Int)):prog15 x a=y.key:=by
 unfold prog15 rol14;rw[hk,Int.toNat_natCast,List.getD_eq_getElem?_getD,h];rfl
theorem Xke(h mb:Nat)(RA:Option Addr)(rn rc:Nat)(x:LReady)(k:Nat)(a:LIn)(S:S15)(va:Value)(IA:Option Addr)(n c:Nat)(D:Option Addr)(dn dc:Nat)(B:Nat)(bad:Bool)(w:World)
 (hw:Row w h 94 (wkC RA rn rc va (x.u - S.units) S.space)) (ha:AV15 w h va S.now) (hm:PM15 w mb) (hr:RolesIn w B RA rn x.roles) (hi:InsAt14 w B a.p IA n c D dn dc a.acc a.dat) (hB:B≤h) (hn:n≤100000) (hl:S.now.length≤100000) (hrn:rn≤100000) (hsp:0≤S.space∧S.space+1048576<18446744073709551616)
 (hu:0≤S.units∧S.units≤x.u∧x.u<18446744073709551616) (hbad:bad=decide ((k:Int)=x.bad)) (hp:0≤a.p∧a.p<rn) (hcase:x.u<150∨x.u - 150<S.units) :
 Calls Tryd.prog 46 #[.pointer (some ⟨h,0,none⟩),.map (some mb),.agg (insC a.p IA n c D dn dc).toArray,.bool bad] w (OneDone15 w h RA rn rc x (step15 x k a S).1 (step15 x k a S).2):=by
 have hlt:=hw.lt;have HLT:=Hd hlt;have HU:=Hd hu;have hb0:=(Br w.heap.size w).alloc (Lr _) (.cells (insC a.p IA n c D dn dc).toArray 108);have RH:=Hd (hw.alloc (.cells (insC a.p IA n c D dn dc).toArray 108));have RI:=Hd (Row.new w 108 (insC a.p IA n c D dn dc));have HB0:=Hd hb0;have HSZ:Hid ((w.alloc (.cells (insC a.p IA n c D dn dc).toArray 108)).heap.size=w.heap.size+1):=Hd (by simp);have AV0:=Hd (ha.below hb0 hlt);have PM0:=Hd (hm.below hb0);have RO0:=Hd (hr.below (hb0.mono (Lq hB (Nat.le_of_lt hlt))));have IN0:=Hd (hi.below (hb0.mono (Lq hB (Nat.le_of_lt hlt))));obtain⟨gi,hgi⟩:∃g,g=w.heap.size:=⟨_,rfl⟩;have HGI:Hid (w.heap.size=gi):=Hd hgi.symm;rw[←hgi]at RI;have HHB:=Hd hB;have HSP:=Hd hsp;have hu0:=hu.1;have hu1:=hu.2.1;have hu2:=hu.2.2;clear hw ha hm hr hi hb0 hgi hlt hB hsp hu;generalize hW:w.alloc (.cells (insC a.p IA n c D dn dc).toArray 108)=W at *;have HW:=Hd hW;clear hW;have c2:W.cell? ⟨h,2,none⟩=some (.int .u64 (x.u - S.units)):=RH.out.cell 2;have f2:=RH.out.frozen 2;have hlow:x.u - S.units<150:=by rcases hcase with h | h <;> omega
 have HST:=Hd (Xg9 (k:=k) (a:=a) hcase);rw[HST.out];have HOUT:Hid (∀w',But h w w'→Row w' h 94 (wkC RA rn rc va 0 S.space)→OneDone15 w h RA rn rc x (20:Int) ⟨S.now,x.u,S.space⟩ (.returned (.iface 50 (.int .i64 20))) w'):=Hd fun w' hb hr'=>⟨hb,.inl ⟨by decide,rfl,va,S.space,by show Row w' h 94 (wkC RA rn rc va (x.u - x.u) S.space);rw[Int.sub_self];exact hr'⟩⟩
 clear hcase HST;go_enter Tryd.func46,Tryd.ntmps46
 go_upto_region 1 with fail
 try rw[HGI.out]
 rw[HW.out];clear HGI HW;go_wp2_with fail;go_ret;exact HOUT.out _ ((But.of_below HB0.out h).trans (.of_turned (Xa0 W ⟨h,2,none⟩ (.int .u64 0)))) (RH.out.set_ 2 (.int .u64 0))
theorem Xqw(h mb:Nat)(RA:Option Addr)(rn rc:Nat)(x:LReady)(k:Nat)(a:LIn)(S:S15)(va:Value)(IA:Option Addr)(n c:Nat)(D:Option Addr)(dn dc:Nat)(B:Nat)(bad:Bool)(w:World)
 (hw:Row w h 94 (wkC RA rn rc va (x.u - S.units) S.space)) (ha:AV15 w h va S.now) (hm:PM15 w mb) (hr:RolesIn w B RA rn x.roles) (hi:InsAt14 w B a.p IA n c D dn dc a.acc a.dat) (hB:B≤h) (hn:n≤100000) (hl:S.now.length≤100000) (hrn:rn≤100000) (hsp:0≤S.space∧S.space+1048576<18446744073709551616)
 (hu:0≤S.units∧S.units≤x.u∧x.u<18446744073709551616) (hbad:bad=decide ((k:Int)=x.bad)) (hp:0≤a.p∧a.p<rn) (hcase:¬(x.u<150∨x.u - 150<S.units)) (hcase2:(k:Int)=x.bad) :
 Calls Tryd.prog 46 #[.pointer (some ⟨h,0,none⟩),.map (some mb),.agg (insC a.p IA n c D dn dc).toArray,.bool bad] w (OneDone15 w h RA rn rc x (step15 x k a S).1 (step15 x k a S).2):=by
 have hlt:=hw.lt;have HLT:=Hd hlt;have HU:=Hd hu;have hb0:=(Br w.heap.size w).alloc (Lr _) (.cells (insC a.p IA n c D dn dc).toArray 108);have RH:=Hd (hw.alloc (.cells (insC a.p IA n c D dn dc).toArray 108));have RI:=Hd (Row.new w 108 (insC a.p IA n c D dn dc));have HB0:=Hd hb0;have HSZ:Hid ((w.alloc (.cells (insC a.p IA n c D dn dc).toArray 108)).heap.size=w.heap.size+1):=Hd (by simp);have AV0:=Hd (ha.below hb0 hlt);have PM0:=Hd (hm.below hb0);have RO0:=Hd (hr.below (hb0.mono (Lq hB (Nat.le_of_lt hlt))));have IN0:=Hd (hi.below (hb0.mono (Lq hB (Nat.le_of_lt hlt))));obtain⟨gi,hgi⟩:∃g,g=w.heap.size:=⟨_,rfl⟩;have HGI:Hid (w.heap.size=gi):=Hd hgi.symm;rw[←hgi]at RI;have HHB:=Hd hB;have HSP:=Hd hsp;have hu0:=hu.1;have hu1:=hu.2.1;have hu2:=hu.2.2;clear hw ha hm hr hi hb0 hgi hlt hB hsp hu;generalize hW:w.alloc (.cells (insC a.p IA n c D dn dc).toArray 108)=W at *;have HW:=Hd hW;clear hW;have c2:W.cell? ⟨h,2,none⟩=some (.int .u64 (x.u - S.units)):=RH.out.cell 2;have f2:=RH.out.frozen 2;have hhi:¬x.u - S.units<150:=by omega
 have hge:150≤x.u - S.units:=by omega
 have hwr:IntKind.u64.wrap (x.u - S.units - 150)=x.u - S.units - 150:=IntWalk.u64_in _ (by omega);have HEQ:Hid (x.u - S.units - 150=x.u - (S.units+150)):=Hd (by omega);have HST:=Hd (Xho (k:=k) (a:=a) hcase hcase2);rw[HST.out];have HOUT:Hid (∀w',But h w w'→Row w' h 94 (wkC RA rn rc va (x.u - S.units - 150) S.space)→OneDone15 w h RA rn rc x (21:Int) ⟨S.now,S.units+150,S.space⟩ (.returned (.iface 50 (.int .i64 21))) w'):=Hd fun w' hb hr'=>⟨hb,.inl ⟨by decide,rfl,va,S.space,by show Row w' h 94 (wkC RA rn rc va (x.u - (S.units+150)) S.space);rw[←HEQ.out];exact hr'⟩⟩
 obtain rfl:bad=true:=by rw[hbad];exact decide_eq_true hcase2
 clear hcase HST hbad HEQ hcase2;generalize x.u - S.units=lf at *;go_enter Tryd.func46,Tryd.ntmps46
 go_upto_region 1 with fail
 try rw[HGI.out]
 rw[HW.out];clear HGI HW;go_wp2_with fail;go_ret;exact HOUT.out _ ((But.of_below HB0.out h).trans (.of_turned (Xa0 W ⟨h,2,none⟩ (.int .u64 (lf - 150))))) (RH.out.set_ 2 (.int .u64 (lf - 150)))
theorem Xcw{w w':World}{p:Addr}(h:w'.heap[p.block]?=w.heap[p.block]?):w'.cell? p=w.cell? p:=by
 unfold World.cell?;rw[h]
theorem Xpw(h mb:Nat)(RA:Option Addr)(rn rc:Nat)(x:LReady)(k:Nat)(a:LIn)(S:S15)(va:Value)(IA:Option Addr)(n c:Nat)(D:Option Addr)(dn dc:Nat)(B:Nat)(bad:Bool)(w:World)
 (hw:Row w h 94 (wkC RA rn rc va (x.u - S.units) S.space)) (ha:AV15 w h va S.now) (hm:PM15 w mb) (hr:RolesIn w B RA rn x.roles) (hi:InsAt14 w B a.p IA n c D dn dc a.acc a.dat) (hB:B≤h) (hn:n≤100000) (hl:S.now.length≤100000) (hrn:rn≤100000) (hsp:0≤S.space∧S.space+1048576<18446744073709551616)
 (hu:0≤S.units∧S.units≤x.u∧x.u<18446744073709551616) (hbad:bad=decide ((k:Int)=x.bad)) (hp:0≤a.p∧a.p<rn) (hcase:¬(x.u<150∨x.u - 150<S.units)) (hcase2:¬(k:Int)=x.bad) (hcase3:prog15 x a=k0) :
 Calls Tryd.prog 46 #[.pointer (some ⟨h,0,none⟩),.map (some mb),.agg (insC a.p IA n c D dn dc).toArray,.bool bad] w (OneDone15 w h RA rn rc x (step15 x k a S).1 (step15 x k a S).2):=by
 have hlt:=hw.lt;have HLT:=Hd hlt;have HU:=Hd hu;have hb0:=(Br w.heap.size w).alloc (Lr _) (.cells (insC a.p IA n c D dn dc).toArray 108);have RH:=Hd (hw.alloc (.cells (insC a.p IA n c D dn dc).toArray 108));have RI:=Hd (Row.new w 108 (insC a.p IA n c D dn dc));have HB0:=Hd hb0;have HSZ:Hid ((w.alloc (.cells (insC a.p IA n c D dn dc).toArray 108)).heap.size=w.heap.size+1):=Hd (by simp);have AV0:=Hd (ha.below hb0 hlt);have PM0:=Hd (hm.below hb0);have RO0:=Hd (hr.below (hb0.mono (Lq hB (Nat.le_of_lt hlt))));have IN0:=Hd (hi.below (hb0.mono (Lq hB (Nat.le_of_lt hlt))));obtain⟨gi,hgi⟩:∃g,g=w.heap.size:=⟨_,rfl⟩;have HGI:Hid (w.heap.size=gi):=Hd hgi.symm;rw[←hgi]at RI;have HHB:=Hd hB;have HSP:=Hd hsp;have hu0:=hu.1;have hu1:=hu.2.1;have hu2:=hu.2.2;clear hw ha hm hr hi hb0 hgi hlt hB hsp hu;generalize hW:w.alloc (.cells (insC a.p IA n c D dn dc).toArray 108)=W at *;have HW:=Hd hW;clear hW;have c2:W.cell? ⟨h,2,none⟩=some (.int .u64 (x.u - S.units)):=RH.out.cell 2;have f2:=RH.out.frozen 2;have hhi:¬x.u - S.units<150:=by omega
 have hge:150≤x.u - S.units:=by omega
 have hwr:IntKind.u64.wrap (x.u - S.units - 150)=x.u - S.units - 150:=IntWalk.u64_in _ (by omega);have HEQ:Hid (x.u - S.units - 150=x.u - (S.units+150)):=Hd (by omega);obtain rfl:bad=false:=by rw[hbad];exact decide_eq_false hcase2
 have HC2:=Hd hcase2;obtain⟨pn,hpn⟩:∃n:Nat,a.p=n:=⟨a.p.toNat,by have:=hp.1;omega⟩;have hpl:pn<rn:=by have:=hp.2;omega
 obtain⟨ra,y,rfl,hrb,hy,hyo,hyc⟩:=RO0.out.get hpl;have HRB:Hid (ra.block≠h∧ra.block<W.heap.size):=Hd (by have h1:=HHB.out;have h2:=RH.out.lt;omega);have HYC:=Hd hyc;have HYO:=Hd hyo;have HPR:=Hd (Xgn (x:=x) (a:=a) hy hpn);have HSK:Hid ((Tryd.prog.info? 68).map (·.size)=some (bv y.key).length):=Hd (by rw[bL,hyo.1];exact Xb7);have hpl':(pn:Int)<rn:=by omega
 have HPN:=Hd hpn;have CI0:W.cell? ⟨gi,0,none⟩=some (.int .u8 pn):=by rw[←hpn];exact RI.out.cell 0
 clear hpn;have TT:=Xa0 W ⟨h,2,none⟩ (.int .u64 (x.u - S.units - 150));have HGH:Hid (gi≠h):=Hd (by have h1:=HLT.out;have h2:=HGI.out;omega);have RV:=Hd (show Row (W.setCell ⟨h,2,none⟩ (.int .u64 (x.u - S.units - 150))) h 94 (wkC (some ra) rn rc va (x.u - S.units - 150) S.space)from RH.out.set_ 2 _);have RIV:=Hd (TT.row RI.out HGH.out);have PMV:=Hd (PM0.out.keep (TT.block mb fun e=>PM0.out.row_ne RH.out e.symm));have CYV:Hid (∀j u,y.cells[j]?=some u→(W.setCell ⟨h,2,none⟩ (.int .u64 (x.u - S.units - 150))).cell? ((ra.add (pn*34)).add j)=some u):=Hd fun j u hu=>(Xcw (TT.block _ (by rw[Xab,Xab];exact HRB.out.1))).trans (HYC.out j u hu)
 have BV:=Hd ((But.of_below HB0.out h).trans (.of_turned TT));have AVV:=Hd (AV0.out.but (.of_turned TT) RH.out.lt);have INV:=Hd (IN0.out.below (TT.below HHB.out));have ROV:=Hd (RO0.out.below (TT.below HHB.out));clear hcase2 hbad hrb hy hyo hyc RO0 IN0 AV0 PM0 TT;go_enter Tryd.func46,Tryd.ntmps46
 go_upto_region 1 with fail
 try rw[HGI.out]
 rw[HW.out];clear HGI HW;go_upto_region 7 with fail
 generalize hVV:W.setCell ⟨h,2,none⟩ (.int .u64 (x.u - S.units - 150))=V at *;clear hVV c2 f2 CI0;refine wp_region_held_drew (S:=fun U=>Row U h 94 (wkC (some ra) rn rc va (x.u - S.units - 150) S.space)∧Row U gi 108 (insC a.p IA n c D dn dc)∧PM15 U mb∧∀j u,y.cells[j]?=some u→U.cell? ((ra.add (pn*34)).add j)=some u) (by kernel_rfl) ⟨RV.out.drew,RIV.out.drew,PMV.out.keep rfl,CYV.out⟩ (fun _=>?_);try dsimp only[List.append]
 have SD:=Hd (show Row V.drew h 94 (wkC (some ra) rn rc va (x.u - S.units - 150) S.space)∧Row V.drew gi 108 (insC a.p IA n c D dn dc)∧PM15 V.drew mb∧∀j u,y.cells[j]?=some u→V.drew.cell? ((ra.add (pn*34)).add j)=some u from⟨RV.out.drew,RIV.out.drew,PMV.out.keep rfl,CYV.out⟩);have BD:=Hd BV.out.drew;have AVD:Hid (AV15 V.drew h va S.now):=Hd (AVV.out.but (But.refl h V).drew RV.out.lt);have IND:Hid (InsAt14 V.drew B a.p IA n c D dn dc a.acc a.dat):=Hd (INV.out.below (Br _ _).drew);have ROD:Hid (RolesIn V.drew B (some ra) rn x.roles):=Hd (ROV.out.below (Br _ _).drew);clear RV RIV PMV CYV BV AVV INV ROV;generalize V.drew=wd at *;refine Tk 0 rfl ?_ SD.out ?_ ⟨?_,rfl⟩
 ·intro w hw;(try dsimp only at hw);go_simp;try with_reducible rfl
 try simp only[nm]
 refine Tk 1 rfl ?_ SD.out ?_ ⟨?_,rfl⟩
 ·intro w hw;(try dsimp only at hw);go_simp;try with_reducible rfl
 try simp only[nm]
 refine Tk 2 rfl ?_ SD.out ?_ ⟨?_,rfl⟩
 ·intro w hw;(try dsimp only at hw);go_simp;try with_reducible rfl
 try simp only[nm]
 refine Tk 3 rfl ?_ SD.out ?_ ⟨?_,rfl⟩
 ·intro w hw;(try dsimp only at hw);go_simp;try with_reducible rfl
 try simp only[nm]
 refine Tk 4 rfl ?_ SD.out ?_ ⟨?_,rfl⟩
 ·intro w hw;try dsimp only at hw
  have c0:w.cell? ⟨h,0,none⟩=some (.slice (some ra) rn rc):=hw.1.cell 0;go_simp;try with_reducible rfl
 try simp only[nm]
 refine Tk 5 rfl ?_ SD.out ?_ ⟨?_,rfl⟩
 ·intro w hw;(try dsimp only at hw);go_simp;try with_reducible rfl
 try simp only[nm]
 refine Tk 6 rfl ?_ SD.out ?_ ⟨?_,rfl⟩
 ·intro w hw;try dsimp only at hw
  have c0:w.cell? ⟨gi,0,none⟩=some (.int .u8 pn):=by rw[←HPN.out];exact hw.2.1.cell 0
  go_simp;try with_reducible rfl
 try simp only[nm]
 refine Tk 7 rfl ?_ SD.out ?_ ⟨?_,rfl⟩
 ·intro w hw;(try dsimp only at hw);go_simp;try with_reducible rfl
 try simp only[nm]
 refine Tk 8 rfl ?_ SD.out ?_ ⟨?_,rfl⟩
 ·intro w hw;(try dsimp only at hw);go_simp;try with_reducible rfl
 try simp only[nm]
 refine Tl 9 (v:=.agg (bv y.key).toArray) rfl (Or.inl ⟨by rfl,fun wz hwz=>Xa4 wz 68 (.tmp 38) rfl (ra.add (pn*34)) (bv y.key) _ Tryd.underlying68 rfl HSK.out (fun j u hu=>hwz.2.2.2 j u (Xc9 hu)) (by go_simp)⟩) SD.out ?_;try simp only[nm]
 refine Tl 10 (v:=.tuple #[fnV15 y.key,.bool (decide (y.key=k0∨y.key=k3))]) rfl (Or.inl ⟨by rfl,fun wz hwz=>Xd8 wz (.tmp 30) (.tmp 39) rfl mb y.key _ (by go_simp) (by go_simp) (hwz.2.2.1.look ⟨HYO.out.1,HYO.out.2⟩)⟩) SD.out ?_;try simp only[nm]
 have e0:fnV15 y.key=.func (.func 55) #[] #[]:=by unfold fnV15;rw[←HPR.out,if_pos hcase3]
 have e1:decide (y.key=k0∨y.key=k3)=true:=decide_eq_true (.inl (by rw[←HPR.out];exact hcase3));rw[e0,e1];clear e0 e1;refine Tk 11 rfl ?_ SD.out ?_ ⟨?_,rfl⟩
 ·intro w hw;(try dsimp only at hw);go_simp;try with_reducible rfl
 try simp only[nm]
 refine Tk 12 rfl ?_ SD.out ?_ ⟨?_,rfl⟩
 ·intro w hw;(try dsimp only at hw);go_simp;try with_reducible rfl
 try simp only[nm]
 refine Tk 13 rfl ?_ SD.out ?_ ⟨?_,rfl⟩
 ·intro w hw;(try dsimp only at hw);go_simp;try with_reducible rfl
 try simp only[nm]
 refine Tk 14 rfl ?_ SD.out ?_ ⟨?_,rfl⟩
 ·intro w hw;(try dsimp only at hw);go_simp;try with_reducible rfl
 try simp only[nm]
 refine Tk 15 rfl ?_ SD.out ?_ ⟨?_,rfl⟩
 ·intro w hw;(try dsimp only at hw);go_simp;try with_reducible rfl
 try simp only[nm]
 refine wpAnyH_done (by kernel_rfl) ?_ _;try dsimp only[List.append]
 have HSY:=Hd (Xr2 h (some ra) rn rc x.roles va S.now (x.u - S.units - 150) S.space a.p IA n c D dn dc a.acc a.dat B wd SD.out.1 AVD.out ROD.out IND.out HHB.out hn hl hrn HSP.out);go_wp2_with (first
  | ((with_reducible show wpList _ _ _ (⟨some 48,_,_,_,_,_⟩::_) _ _);go_must(refine Xa3 rfl 108 (.tmp 6) rfl gi _ (insC a.p IA n c D dn dc) _ Tryd.underlying108 rfl (by kernel_rfl) SD.out.2.1 ?_ ?_;go_simp))
  | fail)
 refine HSY.out.mono ?_;rintro e w9 ⟨hb9,⟨hne,rfl,hrw⟩ | ⟨hee,rfl,v,ho,hrw⟩⟩
 ·go_wp2_with fail;go_ret;rw[Xfl hcase HC2.out hcase3 hne];exact⟨BD.out.trans hb9,.inl ⟨hne,rfl,va,S.space,by rw[←HEQ.out];exact hrw⟩⟩
 ·go_wp2_with fail;go_ret;rw[Xhu hcase HC2.out hcase3 hee];exact⟨BD.out.trans hb9,.inr ⟨rfl,rfl,v,.inr (Xme ho (Nat.succ_le_of_lt SD.out.1.lt)),by rw[←HEQ.out];exact hrw⟩⟩
theorem Xp6(h mb:Nat)(RA:Option Addr)(rn rc:Nat)(x:LReady)(k:Nat)(a:LIn)(S:S15)(va:Value)(IA:Option Addr)(n c:Nat)(D:Option Addr)(dn dc:Nat)(B:Nat)(bad:Bool)(w:World)
 (hw:Row w h 94 (wkC RA rn rc va (x.u - S.units) S.space)) (ha:AV15 w h va S.now) (hm:PM15 w mb) (hr:RolesIn w B RA rn x.roles) (hi:InsAt14 w B a.p IA n c D dn dc a.acc a.dat) (hB:B≤h) (hn:n≤100000) (hl:S.now.length≤100000) (hrn:rn≤100000) (hsp:0≤S.space∧S.space+1048576<18446744073709551616)
 (hu:0≤S.units∧S.units≤x.u∧x.u<18446744073709551616) (hbad:bad=decide ((k:Int)=x.bad)) (hp:0≤a.p∧a.p<rn) (hcase:¬(x.u<150∨x.u - 150<S.units)) (hcase2:¬(k:Int)=x.bad) (hcase3:¬prog15 x a=k0) (hcase4:prog15 x a=k3) :
 Calls Tryd.prog 46 #[.pointer (some ⟨h,0,none⟩),.map (some mb),.agg (insC a.p IA n c D dn dc).toArray,.bool bad] w (OneDone15 w h RA rn rc x (step15 x k a S).1 (step15 x k a S).2):=by
 have hlt:=hw.lt;have HLT:=Hd hlt;have HU:=Hd hu;have hb0:=(Br w.heap.size w).alloc (Lr _) (.cells (insC a.p IA n c D dn dc).toArray 108);have RH:=Hd (hw.alloc (.cells (insC a.p IA n c D dn dc).toArray 108));have RI:=Hd (Row.new w 108 (insC a.p IA n c D dn dc));have HB0:=Hd hb0;have HSZ:Hid ((w.alloc (.cells (insC a.p IA n c D dn dc).toArray 108)).heap.size=w.heap.size+1):=Hd (by simp);have AV0:=Hd (ha.below hb0 hlt);have PM0:=Hd (hm.below hb0);have RO0:=Hd (hr.below (hb0.mono (Lq hB (Nat.le_of_lt hlt))));have IN0:=Hd (hi.below (hb0.mono (Lq hB (Nat.le_of_lt hlt))));obtain⟨gi,hgi⟩:∃g,g=w.heap.size:=⟨_,rfl⟩;have HGI:Hid (w.heap.size=gi):=Hd hgi.symm;rw[←hgi]at RI;have HHB:=Hd hB;have HSP:=Hd hsp;have hu0:=hu.1;have hu1:=hu.2.1;have hu2:=hu.2.2;clear hw ha hm hr hi hb0 hgi hlt hB hsp hu;generalize hW:w.alloc (.cells (insC a.p IA n c D dn dc).toArray 108)=W at *;have HW:=Hd hW;clear hW;have c2:W.cell? ⟨h,2,none⟩=some (.int .u64 (x.u - S.units)):=RH.out.cell 2;have f2:=RH.out.frozen 2;have hhi:¬x.u - S.units<150:=by omega
 have hge:150≤x.u - S.units:=by omega
 have hwr:IntKind.u64.wrap (x.u - S.units - 150)=x.u - S.units - 150:=IntWalk.u64_in _ (by omega);have HEQ:Hid (x.u - S.units - 150=x.u - (S.units+150)):=Hd (by omega);obtain rfl:bad=false:=by rw[hbad];exact decide_eq_false hcase2
 have HC2:=Hd hcase2;obtain⟨pn,hpn⟩:∃n:Nat,a.p=n:=⟨a.p.toNat,by have:=hp.1;omega⟩;have hpl:pn<rn:=by have:=hp.2;omega
 obtain⟨ra,y,rfl,hrb,hy,hyo,hyc⟩:=RO0.out.get hpl;have HRB:Hid (ra.block≠h∧ra.block<W.heap.size):=Hd (by have h1:=HHB.out;have h2:=RH.out.lt;omega);have HYC:=Hd hyc;have HYO:=Hd hyo;have HPR:=Hd (Xgn (x:=x) (a:=a) hy hpn);have HSK:Hid ((Tryd.prog.info? 68).map (·.size)=some (bv y.key).length):=Hd (by rw[bL,hyo.1];exact Xb7);have hpl':(pn:Int)<rn:=by omega
 have HPN:=Hd hpn;have CI0:W.cell? ⟨gi,0,none⟩=some (.int .u8 pn):=by rw[←hpn];exact RI.out.cell 0
 clear hpn;have TT:=Xa0 W ⟨h,2,none⟩ (.int .u64 (x.u - S.units - 150));have HGH:Hid (gi≠h):=Hd (by have h1:=HLT.out;have h2:=HGI.out;omega);have RV:=Hd (show Row (W.setCell ⟨h,2,none⟩ (.int .u64 (x.u - S.units - 150))) h 94 (wkC (some ra) rn rc va (x.u - S.units - 150) S.space)from RH.out.set_ 2 _);have RIV:=Hd (TT.row RI.out HGH.out);have PMV:=Hd (PM0.out.keep (TT.block mb fun e=>PM0.out.row_ne RH.out e.symm));have CYV:Hid (∀j u,y.cells[j]?=some u→(W.setCell ⟨h,2,none⟩ (.int .u64 (x.u - S.units - 150))).cell? ((ra.add (pn*34)).add j)=some u):=Hd fun j u hu=>(Xcw (TT.block _ (by rw[Xab,Xab];exact HRB.out.1))).trans (HYC.out j u hu)
 have BV:=Hd ((But.of_below HB0.out h).trans (.of_turned TT));have AVV:=Hd (AV0.out.but (.of_turned TT) RH.out.lt);have INV:=Hd (IN0.out.below (TT.below HHB.out));have ROV:=Hd (RO0.out.below (TT.below HHB.out));clear hcase2 hbad hrb hy hyo hyc RO0 IN0 AV0 PM0 TT;go_enter Tryd.func46,Tryd.ntmps46
 go_upto_region 1 with fail
 try rw[HGI.out]
 rw[HW.out];clear HGI HW;go_upto_region 7 with fail
 generalize hVV:W.setCell ⟨h,2,none⟩ (.int .u64 (x.u - S.units - 150))=V at *;clear hVV c2 f2 CI0;refine wp_region_held_drew (S:=fun U=>Row U h 94 (wkC (some ra) rn rc va (x.u - S.units - 150) S.space)∧Row U gi 108 (insC a.p IA n c D dn dc)∧PM15 U mb∧∀j u,y.cells[j]?=some u→U.cell? ((ra.add (pn*34)).add j)=some u) (by kernel_rfl) ⟨RV.out.drew,RIV.out.drew,PMV.out.keep rfl,CYV.out⟩ (fun _=>?_);try dsimp only[List.append]
 have SD:=Hd (show Row V.drew h 94 (wkC (some ra) rn rc va (x.u - S.units - 150) S.space)∧Row V.drew gi 108 (insC a.p IA n c D dn dc)∧PM15 V.drew mb∧∀j u,y.cells[j]?=some u→V.drew.cell? ((ra.add (pn*34)).add j)=some u from⟨RV.out.drew,RIV.out.drew,PMV.out.keep rfl,CYV.out⟩);have BD:=Hd BV.out.drew;have AVD:Hid (AV15 V.drew h va S.now):=Hd (AVV.out.but (But.refl h V).drew RV.out.lt);have IND:Hid (InsAt14 V.drew B a.p IA n c D dn dc a.acc a.dat):=Hd (INV.out.below (Br _ _).drew);have ROD:Hid (RolesIn V.drew B (some ra) rn x.roles):=Hd (ROV.out.below (Br _ _).drew);clear RV RIV PMV CYV BV AVV INV ROV;generalize V.drew=wd at *;refine Tk 0 rfl ?_ SD.out ?_ ⟨?_,rfl⟩
 ·intro w hw;(try dsimp only at hw);go_simp;try with_reducible rfl
 try simp only[nm]
 refine Tk 1 rfl ?_ SD.out ?_ ⟨?_,rfl⟩
 ·intro w hw;(try dsimp only at hw);go_simp;try with_reducible rfl
 try simp only[nm]
 refine Tk 2 rfl ?_ SD.out ?_ ⟨?_,rfl⟩
 ·intro w hw;(try dsimp only at hw);go_simp;try with_reducible rfl
 try simp only[nm]
 refine Tk 3 rfl ?_ SD.out ?_ ⟨?_,rfl⟩
 ·intro w hw;(try dsimp only at hw);go_simp;try with_reducible rfl
 try simp only[nm]
 refine Tk 4 rfl ?_ SD.out ?_ ⟨?_,rfl⟩
 ·intro w hw;try dsimp only at hw
  have c0:w.cell? ⟨h,0,none⟩=some (.slice (some ra) rn rc):=hw.1.cell 0;go_simp;try with_reducible rfl
 try simp only[nm]
 refine Tk 5 rfl ?_ SD.out ?_ ⟨?_,rfl⟩
 ·intro w hw;(try dsimp only at hw);go_simp;try with_reducible rfl
 try simp only[nm]
 refine Tk 6 rfl ?_ SD.out ?_ ⟨?_,rfl⟩
 ·intro w hw;try dsimp only at hw
  have c0:w.cell? ⟨gi,0,none⟩=some (.int .u8 pn):=by rw[←HPN.out];exact hw.2.1.cell 0
  go_simp;try with_reducible rfl
 try simp only[nm]
 refine Tk 7 rfl ?_ SD.out ?_ ⟨?_,rfl⟩
 ·intro w hw;(try dsimp only at hw);go_simp;try with_reducible rfl
 try simp only[nm]
 refine Tk 8 rfl ?_ SD.out ?_ ⟨?_,rfl⟩
 ·intro w hw;(try dsimp only at hw);go_simp;try with_reducible rfl
 try simp only[nm]
 refine Tl 9 (v:=.agg (bv y.key).toArray) rfl (Or.inl ⟨by rfl,fun wz hwz=>Xa4 wz 68 (.tmp 38) rfl (ra.add (pn*34)) (bv y.key) _ Tryd.underlying68 rfl HSK.out (fun j u hu=>hwz.2.2.2 j u (Xc9 hu)) (by go_simp)⟩) SD.out ?_;try simp only[nm]
 refine Tl 10 (v:=.tuple #[fnV15 y.key,.bool (decide (y.key=k0∨y.key=k3))]) rfl (Or.inl ⟨by rfl,fun wz hwz=>Xd8 wz (.tmp 30) (.tmp 39) rfl mb y.key _ (by go_simp) (by go_simp) (hwz.2.2.1.look ⟨HYO.out.1,HYO.out.2⟩)⟩) SD.out ?_;try simp only[nm]
 have e0:fnV15 y.key=.func (.func 57) #[] #[]:=by unfold fnV15;rw[←HPR.out,if_neg hcase3,if_pos hcase4]
 have e1:decide (y.key=k0∨y.key=k3)=true:=decide_eq_true (.inr (by rw[←HPR.out];exact hcase4));rw[e0,e1];clear e0 e1;refine Tk 11 rfl ?_ SD.out ?_ ⟨?_,rfl⟩
 ·intro w hw;(try dsimp only at hw);go_simp;try with_reducible rfl
 try simp only[nm]
 refine Tk 12 rfl ?_ SD.out ?_ ⟨?_,rfl⟩
 ·intro w hw;(try dsimp only at hw);go_simp;try with_reducible rfl
 try simp only[nm]
 refine Tk 13 rfl ?_ SD.out ?_ ⟨?_,rfl⟩
 ·intro w hw;(try dsimp only at hw);go_simp;try with_reducible rfl
 try simp only[nm]
 refine Tk 14 rfl ?_ SD.out ?_ ⟨?_,rfl⟩
 ·intro w hw;(try dsimp only at hw);go_simp;try with_reducible rfl
 try simp only[nm]
 refine Tk 15 rfl ?_ SD.out ?_ ⟨?_,rfl⟩
 ·intro w hw;(try dsimp only at hw);go_simp;try with_reducible rfl
 try simp only[nm]
 refine wpAnyH_done (by kernel_rfl) ?_ _;try dsimp only[List.append]
 have HSY:=Hd (Xsc (.pointer (some ⟨h,0,none⟩)) (insC a.p IA n c D dn dc) wd);go_wp2_with (first
  | ((with_reducible show wpList _ _ _ (⟨some 48,_,_,_,_,_⟩::_) _ _);go_must(refine Xa3 rfl 108 (.tmp 6) rfl gi _ (insC a.p IA n c D dn dc) _ Tryd.underlying108 rfl (by kernel_rfl) SD.out.2.1 ?_ ?_;go_simp))
  | (go_at_call 57;refine HSY.out.mono ?_;rintro e w9 ⟨rfl,hd⟩;have HD9:=Hd hd;clear hd))
 go_ret;rw[Xi0 hcase HC2.out hcase3 hcase4];exact⟨BD.out.trans (.of_below HD9.out h),.inr ⟨rfl,rfl,va,AVD.out.below HD9.out SD.out.1.lt,by rw[←HEQ.out];exact SD.out.1.below HD9.out SD.out.1.lt⟩⟩
theorem Xmo(h mb:Nat)(RA:Option Addr)(rn rc:Nat)(x:LReady)(k:Nat)(a:LIn)(S:S15)(va:Value)(IA:Option Addr)(n c:Nat)(D:Option Addr)(dn dc:Nat)(B:Nat)(bad:Bool)(w:World)
 (hw:Row w h 94 (wkC RA rn rc va (x.u - S.units) S.space)) (ha:AV15 w h va S.now) (hm:PM15 w mb) (hr:RolesIn w B RA rn x.roles) (hi:InsAt14 w B a.p IA n c D dn dc a.acc a.dat) (hB:B≤h) (hn:n≤100000) (hl:S.now.length≤100000) (hrn:rn≤100000) (hsp:0≤S.space∧S.space+1048576<18446744073709551616)
 (hu:0≤S.units∧S.units≤x.u∧x.u<18446744073709551616) (hbad:bad=decide ((k:Int)=x.bad)) (hp:0≤a.p∧a.p<rn) (hcase:¬(x.u<150∨x.u - 150<S.units)) (hcase2:¬(k:Int)=x.bad) (hcase3:¬prog15 x a=k0) (hcase4:¬prog15 x a=k3) :
 Calls Tryd.prog 46 #[.pointer (some ⟨h,0,none⟩),.map (some mb),.agg (insC a.p IA n c D dn dc).toArray,.bool bad] w (OneDone15 w h RA rn rc x (step15 x k a S).1 (step15 x k a S).2):=by
 have hlt:=hw.lt;have HLT:=Hd hlt;have HU:=Hd hu;have hb0:=(Br w.heap.size w).alloc (Lr _) (.cells (insC a.p IA n c D dn dc).toArray 108);have RH:=Hd (hw.alloc (.cells (insC a.p IA n c D dn dc).toArray 108));have RI:=Hd (Row.new w 108 (insC a.p IA n c D dn dc));have HB0:=Hd hb0;have HSZ:Hid ((w.alloc (.cells (insC a.p IA n c D dn dc).toArray 108)).heap.size=w.heap.size+1):=Hd (by simp);have AV0:=Hd (ha.below hb0 hlt);have PM0:=Hd (hm.below hb0);have RO0:=Hd (hr.below (hb0.mono (Lq hB (Nat.le_of_lt hlt))));have IN0:=Hd (hi.below (hb0.mono (Lq hB (Nat.le_of_lt hlt))));obtain⟨gi,hgi⟩:∃g,g=w.heap.size:=⟨_,rfl⟩;have HGI:Hid (w.heap.size=gi):=Hd hgi.symm;rw[←hgi]at RI;have HHB:=Hd hB;have HSP:=Hd hsp;have hu0:=hu.1;have hu1:=hu.2.1;have hu2:=hu.2.2;clear hw ha hm hr hi hb0 hgi hlt hB hsp hu;generalize hW:w.alloc (.cells (insC a.p IA n c D dn dc).toArray 108)=W at *;have HW:=Hd hW;clear hW;have c2:W.cell? ⟨h,2,none⟩=some (.int .u64 (x.u - S.units)):=RH.out.cell 2;have f2:=RH.out.frozen 2;have hhi:¬x.u - S.units<150:=by omega
 have hge:150≤x.u - S.units:=by omega
 have hwr:IntKind.u64.wrap (x.u - S.units - 150)=x.u - S.units - 150:=IntWalk.u64_in _ (by omega);have HEQ:Hid (x.u - S.units - 150=x.u - (S.units+150)):=Hd (by omega);obtain rfl:bad=false:=by rw[hbad];exact decide_eq_false hcase2
 have HC2:=Hd hcase2;obtain⟨pn,hpn⟩:∃n:Nat,a.p=n:=⟨a.p.toNat,by have:=hp.1;omega⟩;have hpl:pn<rn:=by have:=hp.2;omega
 obtain⟨ra,y,rfl,hrb,hy,hyo,hyc⟩:=RO0.out.get hpl;have HRB:Hid (ra.block≠h∧ra.block<W.heap.size):=Hd (by have h1:=HHB.out;have h2:=RH.out.lt;omega);have HYC:=Hd hyc;have HYO:=Hd hyo;have HPR:=Hd (Xgn (x:=x) (a:=a) hy hpn);have HSK:Hid ((Tryd.prog.info? 68).map (·.size)=some (bv y.key).length):=Hd (by rw[bL,hyo.1];exact Xb7);have hpl':(pn:Int)<rn:=by omega
 have HPN:=Hd hpn;have CI0:W.cell? ⟨gi,0,none⟩=some (.int .u8 pn):=by rw[←hpn];exact RI.out.cell 0
 clear hpn;have TT:=Xa0 W ⟨h,2,none⟩ (.int .u64 (x.u - S.units - 150));have HGH:Hid (gi≠h):=Hd (by have h1:=HLT.out;have h2:=HGI.out;omega);have RV:=Hd (show Row (W.setCell ⟨h,2,none⟩ (.int .u64 (x.u - S.units - 150))) h 94 (wkC (some ra) rn rc va (x.u - S.units - 150) S.space)from RH.out.set_ 2 _);have RIV:=Hd (TT.row RI.out HGH.out);have PMV:=Hd (PM0.out.keep (TT.block mb fun e=>PM0.out.row_ne RH.out e.symm));have CYV:Hid (∀j u,y.cells[j]?=some u→(W.setCell ⟨h,2,none⟩ (.int .u64 (x.u - S.units - 150))).cell? ((ra.add (pn*34)).add j)=some u):=Hd fun j u hu=>(Xcw (TT.block _ (by rw[Xab,Xab];exact HRB.out.1))).trans (HYC.out j u hu)
 have BV:=Hd ((But.of_below HB0.out h).trans (.of_turned TT));have AVV:=Hd (AV0.out.but (.of_turned TT) RH.out.lt);have INV:=Hd (IN0.out.below (TT.below HHB.out));have ROV:=Hd (RO0.out.below (TT.below HHB.out));clear hcase2 hbad hrb hy hyo hyc RO0 IN0 AV0 PM0 TT;go_enter Tryd.func46,Tryd.ntmps46
 go_upto_region 1 with fail
 try rw[HGI.out]
 rw[HW.out];clear HGI HW;go_upto_region 7 with fail
 generalize hVV:W.setCell ⟨h,2,none⟩ (.int .u64 (x.u - S.units - 150))=V at *;clear hVV c2 f2 CI0;refine wp_region_held_drew (S:=fun U=>Row U h 94 (wkC (some ra) rn rc va (x.u - S.units - 150) S.space)∧Row U gi 108 (insC a.p IA n c D dn dc)∧PM15 U mb∧∀j u,y.cells[j]?=some u→U.cell? ((ra.add (pn*34)).add j)=some u) (by kernel_rfl) ⟨RV.out.drew,RIV.out.drew,PMV.out.keep rfl,CYV.out⟩ (fun _=>?_);try dsimp only[List.append]
 have SD:=Hd (show Row V.drew h 94 (wkC (some ra) rn rc va (x.u - S.units - 150) S.space)∧Row V.drew gi 108 (insC a.p IA n c D dn dc)∧PM15 V.drew mb∧∀j u,y.cells[j]?=some u→V.drew.cell? ((ra.add (pn*34)).add j)=some u from⟨RV.out.drew,RIV.out.drew,PMV.out.keep rfl,CYV.out⟩);have BD:=Hd BV.out.drew;have AVD:Hid (AV15 V.drew h va S.now):=Hd (AVV.out.but (But.refl h V).drew RV.out.lt);have IND:Hid (InsAt14 V.drew B a.p IA n c D dn dc a.acc a.dat):=Hd (INV.out.below (Br _ _).drew);have ROD:Hid (RolesIn V.drew B (some ra) rn x.roles):=Hd (ROV.out.below (Br _ _).drew);clear RV RIV PMV CYV BV AVV INV ROV;generalize V.drew=wd at *;refine Tk 0 rfl ?_ SD.out ?_ ⟨?_,rfl⟩
 ·intro w hw;(try dsimp only at hw);go_simp;try with_reducible rfl
 try simp only[nm]
 refine Tk 1 rfl ?_ SD.out ?_ ⟨?_,rfl⟩
 ·intro w hw;(try dsimp only at hw);go_simp;try with_reducible rfl
 try simp only[nm]
 refine Tk 2 rfl ?_ SD.out ?_ ⟨?_,rfl⟩
 ·intro w hw;(try dsimp only at hw);go_simp;try with_reducible rfl
 try simp only[nm]
 refine Tk 3 rfl ?_ SD.out ?_ ⟨?_,rfl⟩
 ·intro w hw;(try dsimp only at hw);go_simp;try with_reducible rfl
 try simp only[nm]
 refine Tk 4 rfl ?_ SD.out ?_ ⟨?_,rfl⟩
 ·intro w hw;try dsimp only at hw
  have c0:w.cell? ⟨h,0,none⟩=some (.slice (some ra) rn rc):=hw.1.cell 0;go_simp;try with_reducible rfl
 try simp only[nm]
 refine Tk 5 rfl ?_ SD.out ?_ ⟨?_,rfl⟩
 ·intro w hw;(try dsimp only at hw);go_simp;try with_reducible rfl
 try simp only[nm]
 refine Tk 6 rfl ?_ SD.out ?_ ⟨?_,rfl⟩
 ·intro w hw;try dsimp only at hw
  have c0:w.cell? ⟨gi,0,none⟩=some (.int .u8 pn):=by rw[←HPN.out];exact hw.2.1.cell 0
  go_simp;try with_reducible rfl
 try simp only[nm]
 refine Tk 7 rfl ?_ SD.out ?_ ⟨?_,rfl⟩
 ·intro w hw;(try dsimp only at hw);go_simp;try with_reducible rfl
 try simp only[nm]
 refine Tk 8 rfl ?_ SD.out ?_ ⟨?_,rfl⟩
 ·intro w hw;(try dsimp only at hw);go_simp;try with_reducible rfl
 try simp only[nm]
 refine Tl 9 (v:=.agg (bv y.key).toArray) rfl (Or.inl ⟨by rfl,fun wz hwz=>Xa4 wz 68 (.tmp 38) rfl (ra.add (pn*34)) (bv y.key) _ Tryd.underlying68 rfl HSK.out (fun j u hu=>hwz.2.2.2 j u (Xc9 hu)) (by go_simp)⟩) SD.out ?_;try simp only[nm]
 refine Tl 10 (v:=.tuple #[fnV15 y.key,.bool (decide (y.key=k0∨y.key=k3))]) rfl (Or.inl ⟨by rfl,fun wz hwz=>Xd8 wz (.tmp 30) (.tmp 39) rfl mb y.key _ (by go_simp) (by go_simp) (hwz.2.2.1.look ⟨HYO.out.1,HYO.out.2⟩)⟩) SD.out ?_;try simp only[nm]
 have e1:decide (y.key=k0∨y.key=k3)=false:=decide_eq_false (by rw[←HPR.out];rintro(h | h);exact hcase3 h;exact hcase4 h);rw[e1];clear e1;refine Tk 11 rfl ?_ SD.out ?_ ⟨?_,rfl⟩
 ·intro w hw;(try dsimp only at hw);go_simp;try with_reducible rfl
 try simp only[nm]
 refine Tk 12 rfl ?_ SD.out ?_ ⟨?_,rfl⟩
 ·intro w hw;(try dsimp only at hw);go_simp;try with_reducible rfl
 try simp only[nm]
 refine Tk 13 rfl ?_ SD.out ?_ ⟨?_,rfl⟩
 ·intro w hw;(try dsimp only at hw);go_simp;try with_reducible rfl
 try simp only[nm]
 refine Tk 14 rfl ?_ SD.out ?_ ⟨?_,rfl⟩
 ·intro w hw;(try dsimp only at hw);go_simp;try with_reducible rfl
 try simp only[nm]
 refine Tk 15 rfl ?_ SD.out ?_ ⟨?_,rfl⟩
 ·intro w hw;(try dsimp only at hw);go_simp;try with_reducible rfl
 try simp only[nm]
 refine wpAnyH_done (by kernel_rfl) ?_ _;try dsimp only[List.append]
 go_wp2_with fail;go_ret;rw[Xhe hcase HC2.out hcase3 hcase4];exact⟨BD.out,.inl ⟨(show(19:Int)≠0 by decide),rfl,va,S.space,by rw[←HEQ.out];exact SD.out.1⟩⟩
theorem one15(h mb:Nat)(RA:Option Addr)(rn rc:Nat)(x:LReady)(k:Nat)(a:LIn)(S:S15)(va:Value)(IA:Option Addr)(n c:Nat)(D:Option Addr)(dn dc:Nat)(B:Nat)(bad:Bool)(w:World)
 (hw:Row w h 94 (wkC RA rn rc va (x.u - S.units) S.space)) (ha:AV15 w h va S.now) (hm:PM15 w mb) (hr:RolesIn w B RA rn x.roles) (hi:InsAt14 w B a.p IA n c D dn dc a.acc a.dat) (hB:B≤h) (hn:n≤100000) (hl:S.now.length≤100000) (hrn:rn≤100000) (hsp:0≤S.space∧S.space+1048576<18446744073709551616)
 (hu:0≤S.units∧S.units≤x.u∧x.u<18446744073709551616) (hbad:bad=decide ((k:Int)=x.bad)) (hp:0≤a.p∧a.p<rn) :
 Calls Tryd.prog 46 #[.pointer (some ⟨h,0,none⟩),.map (some mb),.agg (insC a.p IA n c D dn dc).toArray,.bool bad] w (OneDone15 w h RA rn rc x (step15 x k a S).1 (step15 x k a S).2):=by
 by_cases hcase:x.u<150∨x.u - 150<S.units
 ·exact Xke h mb RA rn rc x k a S va IA n c D dn dc B bad w hw ha hm hr hi hB hn hl hrn hsp hu hbad hp hcase
 by_cases hcase2:(k:Int)=x.bad
 ·exact Xqw h mb RA rn rc x k a S va IA n c D dn dc B bad w hw ha hm hr hi hB hn hl hrn hsp hu hbad hp hcase hcase2
 by_cases hcase3:prog15 x a=k0
 ·exact Xpw h mb RA rn rc x k a S va IA n c D dn dc B bad w hw ha hm hr hi hB hn hl hrn hsp hu hbad hp hcase hcase2 hcase3
 by_cases hcase4:prog15 x a=k3
 ·exact Xp6 h mb RA rn rc x k a S va IA n c D dn dc B bad w hw ha hm hr hi hB hn hl hrn hsp hu hbad hp hcase hcase2 hcase3 hcase4
 exact Xmo h mb RA rn rc x k a S va IA n c D dn dc B bad w hw ha hm hr hi hB hn hl hrn hsp hu hbad hp hcase hcase2 hcase3 hcase4
section
variable{x:LReady}{l:List LAcc}{ln k:Nat}{S S':S15}{a:LIn}{e:Int}
theorem Go15.ends(h:Go15 x l ln k S)(ha:x.tx.m.ins[k]?=some a)(hs:step15 x k a S=(e,S'))(he:e≠0):go15 x x.tx.m.ins 0 ⟨l,0,0⟩=(e,(k:Int),S'):=by
 rw[←h.eq,Xgq ha];unfold go15;rw[hs,if_neg he]
theorem Go15.through(h:Go15 x l ln k S)(hk:x.tx.m.ins.length≤k):go15 x x.tx.m.ins 0 ⟨l,0,0⟩=(0,-1,S):=by
 rw[←h.eq,List.drop_of_length_le hk];rfl
end
theorem Xq6{x:LReady}{l:List LAcc}{ln k:Nat}{S:S15}{a:LIn}(h:Go15 x l ln k S)(ha:x.tx.m.ins[k]?=some a)(hs:(step15 x k a S).1=0)(hok:∀y ∈ S.now,AccOk y)(hb:AllBytes a.acc∧AllBytes a.dat):Go15 x l ln (k+1) (step15 x k a S).2:=by
 by_cases hcase:x.u<150∨x.u - 150<S.units
 ·rw[Xg9 hcase]at hs;cases hs
 by_cases hcase2:(k:Int)=x.bad
 ·rw[Xho hcase hcase2]at hs;cases hs
 have hu:0≤S.units+150∧S.units+150≤x.u:=⟨by have:=h.u.1;omega,by omega⟩;by_cases hcase3:prog15 x a=k0
 ·by_cases he:(do14 S.now x.roles a.acc a.dat).e=0
  ·obtain⟨pa,pb,hwt⟩:=Xi9 hok hb.2 hb.1 he;have hst:=Xhu (k:=k) hcase hcase2 hcase3 he;refine h.next ha (by rw[hst]) ?_ ?_ ?_
   ·rw[hst];exact hwt.d.len.trans h.len
   ·rw[hst];exact hu
   ·rw[hst];have h1:=hwt.d.lim;have h2:=h.s.1;exact⟨by show 0≤S.space+_;omega,by show S.space+_≤S.space+1048576;omega⟩
  ·rw[Xfl hcase hcase2 hcase3 he]at hs;exact absurd hs he
 by_cases hcase4:prog15 x a=k3
 ·have hst:=Xi0 (k:=k) hcase hcase2 hcase3 hcase4;refine h.next ha (by rw[hst]) ?_ ?_ ?_
  ·rw[hst];exact h.len
  ·rw[hst];exact hu
  ·rw[hst];have h2:=h.s.1;exact⟨h2,by show S.space≤S.space+1048576;omega⟩
 ·rw[Xhe hcase hcase2 hcase3 hcase4]at hs;cases hs
theorem Xby{q:YRaw}{x:LReady}(h:x.tx.m.recent.length=32):(Tryd.prog.info? 48).map (·.size)=some (q.cells x).length:=by
 rw[Xbv h];kernel_rfl
theorem Xjm(k:Int)(t:TypeId)(v:Value):Tryd.prog.built 103 [(0,.int .i64 k),(1,.iface t v)]=some ([.int .i64 k,.iface t v]:List Value).toArray:=by kernel_rfl
def AllDone15(w:World)(h:Nat)(RA:Option Addr)(rn rc:Nat)(x:LReady)(G:Int × Int × S15)(e:Ending)(w':World):Prop:=
 But h w w'∧((G.1≠0∧∃fb,e=.returned (.iface 98 (.pointer (some ⟨fb,0,none⟩)))∧Row w' fb 103 [.int .i64 G.2.1,.iface 50 (.int .i64 G.1)]∧w.heap.size≤fb∧∃va sp,Row w' h 94 (wkC RA rn rc va (x.u - G.2.2.units) sp))
  ∨ (G.1=0∧e=.returned .nilIface∧∃v,AV15 w' h v G.2.2.now∧Row w' h 94 (wkC RA rn rc v (x.u - G.2.2.units) G.2.2.space)))
structure AX15(w V:World)(h mb g3:Nat)(q:YRaw)(x:LReady)(v:Value)(S:S15):Prop where
 b:But h w V
 r3:Row V g3 48 (q.cells x)
 pm:PM15 V mb
 av:AV15 V h v S.now
 rh:Row V h 94 (wkC q.RA q.rn q.rc v (x.u - S.units) S.space)
theorem AX15.below{w V V':World}{h mb g3:Nat}{q:YRaw}{x:LReady}{v:Value}{S:S15}(a:AX15 w V h mb g3 q x v S)(hb:Below V.heap.size V V'):AX15 w V' h mb g3 q x v S:=
 ⟨a.b.trans (.of_below hb h),a.r3.below hb a.r3.lt,a.pm.below hb,a.av.below hb a.rh.lt,a.rh.below hb a.rh.lt⟩
theorem all15(h:Nat)(q:YRaw)(x:LReady)(B:Nat)(l:List LAcc)(va:Value)(w:World)(hw:Row w h 94 (wkC q.RA q.rn q.rc va x.u 0))(ha:AV15 w h va l)(hr:ReadyIn w B q x)(hB:B≤h)(hln:l.length≤100000)(hrn:q.rn≤100000)
 (hpb:∀a ∈ x.tx.m.ins,0≤a.p∧a.p<q.rn) (hab:∀a ∈ x.tx.m.ins,AllBytes a.acc∧AllBytes a.dat) (hu:0≤x.u∧x.u<18446744073709551616) (hsm:q.t.q.n≤65535∧∀a ∈ x.tx.m.ins,a.acc.length≤65535) :
 Calls Tryd.prog 31 #[.pointer (some ⟨h,0,none⟩),.agg (q.cells x).toArray] w (AllDone15 w h q.RA q.rn q.rc x (go15 x x.tx.m.ins 0 ⟨l,0,0⟩)):=by
 have hlt:=hw.lt;have HLT:=Hd hlt;have HB:=Hd hB;have H32:=Hd hr.tx.m.recent;have HNN:=Hd hr.tx.m.ins.len;have HRD:=Hd (fun(V:World) (hv:But h w V)=>hr.below (hv.below hB (Lq hB (Nat.le_of_lt hlt))));have HPB:=Hd hpb;have HAB:=Hd hab;have HU:=Hd hu;have HSM:=Hd hsm;have HNM:=Hd hr.tx.m.n;have hb0:=(Br w.heap.size w).alloc (Lr _) (.cells (q.cells x).toArray 48);have B0:=Hd hb0;have R0:=Hd (Row.new w 48 (q.cells x));have A0:=Hd (ha.below hb0 hlt);have W0':=Hd (hw.below hb0 hlt);have GO0:=Hd (Xn6 (x:=x) (l:=l) (ln:=l.length) rfl hu.1);obtain⟨g3,hg3⟩:∃g,g=w.heap.size:=⟨_,rfl⟩;have HG3:Hid (w.heap.size=g3):=Hd hg3.symm;have HGH:Hid (g3≠h):=Hd (by omega);rw[←hg3]at R0;clear hg3 hlt hw ha hr hB hpb hab hu hsm hb0;generalize hW:w.alloc (.cells (q.cells x).toArray 48)=W at *;have HW:=Hd hW;clear hW;go_enter Tryd.func31,Tryd.ntmps31
 go_upto_region 1 with fail
 try rw[HG3.out]
 rw[HW.out];clear HG3 HW;go_wp2_with fail;refine(Xnl W).mono ?_;rintro e wp ⟨mb,rfl,hpm,_,hbp⟩;have X0:Hid (AX15 w wp h mb g3 q x va ⟨l,0,0⟩):=Hd ⟨(But.of_below B0.out h).trans (.of_below hbp h),R0.out.below hbp R0.out.lt,hpm,A0.out.below hbp W0'.out.lt,by show Row wp h 94 (wkC q.RA q.rn q.rc va (x.u - 0) 0);rw[Int.sub_zero];exact W0'.out.below hbp W0'.out.lt⟩;clear hpm hbp R0 A0 W0' B0;have c39:wp.cell? ⟨g3,39,none⟩=some (.slice q.t.q.IA q.t.q.n q.t.q.ic):=(X0.out.r3.cell 39).trans (Xf7 H32.out);obtain⟨n,hnn⟩:∃n,n=q.t.q.n:=⟨_,rfl⟩;rw[←hnn]at c39;have HQN:=Hd hnn;clear hnn;go_wp2_with fail;clear c39;go_loopw [15] (fun i wr=>∃(k:Nat) (S:S15) (v:Value),k≤n∧i=.int .i64 k∧Go15 x l l.length k S∧AX15 w wr h mb g3 q x v S) (fun i _=>n - (intOf i).toNat)
 case atStart=>exact⟨0,_,va,Nat.zero_le _,rfl,GO0.out,X0.out⟩
 case round =>
  obtain⟨k,S,v,hk,rfl,hgo,hax⟩:=hrel;have GO:=Hd hgo;have X:=Hd hax;clear hgo hax X0 GO0;rename World=>wr
  have hn100:n≤65535:=by have:=HSM.out.1;have:=HQN.out;omega
  by_cases hlt:k<n
  ·have hlt':(k:Int)<n:=by omega
   obtain⟨ia,a,vaa,vdd,hia,hib,ha,hat⟩:=(HRD.out wr X.out.b).tx.m.ins.get (k:=k) (by rw[←HQN.out];exact hlt);obtain⟨AA,ac,rfl,ha1,ha2,ha3⟩:=hat.acc.is;obtain⟨DD,dc,rfl,hd1,hd2,hd3⟩:=hat.dat.is;have HCE:=Hd hat.cells;have hmm:=List.mem_of_getElem? ha;have IA0:Hid (InsAt14 wr B a.p AA a.acc.length ac DD a.dat.length dc a.acc a.dat):=Hd ⟨ha1,hd1,(HAB.out a hmm).1,(HAB.out a hmm).2,⟨ha2,ha3⟩,⟨hd2,hd3⟩⟩;have HA:=Hd ha;have HMM:=Hd hmm;have HIA:Hid (q.t.q.IA=some ia):=Hd hia;rw[hia];clear hib ha hat ha1 ha2 ha3 hd1 hd2 hd3 hmm;go_upto_region 5 with(first
    | ((with_reducible show wpList _ _ _ (⟨some 19,_,_,_,_,_⟩::_) _ _);go_must(refine Xa9 rfl 108 (.tmp 18) rfl (ia.add (k*3)) (insC a.p AA a.acc.length ac DD a.dat.length dc) _ Tryd.underlying108 rfl (by kernel_rfl) HCE.out ?_ ?_;go_simp))
    | ((with_reducible show wpList _ _ _ (⟨some 7,_,_,_,_,_⟩::_) _ _);go_must(refine Xa2 rfl 108 rfl (insC 0 none 0 0 none 0 0) Xn0 ?_))
    | ((with_reducible show wpList _ _ _ (⟨none,Op.store 108 _ _,_,_,_,_⟩::_) _ _);go_must(refine Xa6 rfl 108 (.tmp 7) (.tmp 19) rfl (insC a.p AA a.acc.length ac DD a.dat.length dc) (by kernel_rfl) Xj8 rfl ?_ ?_ ?_;go_simp;go_simp;intro w2 hr2 hb2 hz2)))
   have HI2:=Hd hr2;have X2:=Hd (X.out.below hb2);have I2:=Hd (IA0.out.below (hb2.mono (Lq HB.out (Nat.le_of_lt X.out.rh.lt))));have HRO:=Hd (HRD.out w2 X2.out.b).rs;clear hr2 hb2 hz2 IA0 HCE;obtain⟨g7,hg7⟩:∃g,g=wr.heap.size:=⟨_,rfl⟩;rw[←hg7]at HI2 ⊢;clear hg7 X;have c44:w2.cell? ⟨g3,44,none⟩=some (.int .i64 x.bad):=(X2.out.r3.cell 44).trans (Xaz H32.out 3);have HSP:Hid (0≤S.space∧S.space+1048576<18446744073709551616):=Hd (by have h1:=GO.out.s.1;have h2:=GO.out.s.2;omega);have C:=fun(bad:Bool) (hbad:bad=decide ((k:Int)=x.bad))=>one15 h mb q.RA q.rn q.rc x k a S v AA a.acc.length ac DD a.dat.length dc B bad w2 X2.out.rh X2.out.av X2.out.pm HRO.out I2.out HB.out (by have:=HSM.out.2 a HMM.out;omega) (by rw[GO.out.len];exact hln) hrn HSP.out ⟨GO.out.u.1,GO.out.u.2,HU.out.2⟩ hbad (HPB.out a HMM.out)
   have HC:=Hd (C ((k:Int)==x.bad) (by rw[Bool.eq_iff_iff];simp));clear C;go_wp2_with (first
    | ((with_reducible show wpList _ _ _ (⟨some 22,_,_,_,_,_⟩::_) _ _);go_must(refine Xa3 rfl 108 (.tmp 7) rfl g7 _ (insC a.p AA a.acc.length ac DD a.dat.length dc) _ Tryd.underlying108 rfl (by kernel_rfl) HI2.out ?_ ?_;go_simp))
    | fail)
   refine HC.out.mono ?_;clear c44;rintro e w9 ⟨hb9,⟨hne,rfl,va9,sp9,hrw⟩ | ⟨hee,rfl,v9,hav,hrw⟩⟩
   ·have HD:=Hd (X2.out.b.trans hb9);have HRW:=Hd hrw;have HG9:=Hd (GO.out.ends HA.out (Prod.ext rfl rfl:step15 x k a S=((step15 x k a S).1,(step15 x k a S).2)) hne);have HNE:=Hd hne;have HGS:Hid (w.heap.size≤w9.heap.size):=Hd HD.out.size;clear hb9 hrw hne HC X2 I2 HI2 HRO GO;generalize (step15 x k a S).1=E9 at *;generalize (step15 x k a S).2=S9 at *;go_wp2_with ((with_reducible show wpList _ _ _ (⟨some 33,_,_,_,_,_⟩::_) _ _);go_must(refine wpList_plain rfl fun K hK=>Xau _ _ _ rfl (by simp only[List.map_toArray,List.map_cons,List.map_nil];exact Xjm _ _ _) (hK _ _ ?_)))
    go_ret;rw[HG9.out];exact⟨HD.out.alloc _,.inl ⟨HNE.out,w9.heap.size,rfl,Row.new w9 103 [.int .i64 k,.iface 50 (.int .i64 E9)],HGS.out,va9,sp9,HRW.out.alloc _⟩⟩
   ·have HD:=Hd (X2.out.b.trans hb9);have GO1:=Hd (Xq6 GO.out HA.out hee X2.out.av.ok (HAB.out a HMM.out));have X9:Hid (AX15 w w9 h mb g3 q x v9 (step15 x k a S).2):=Hd ⟨HD.out,hb9.row X2.out.r3 (HGH.out),X2.out.pm.keep (hb9.block mb X2.out.pm.lt fun e=>X2.out.pm.row_ne X2.out.rh e.symm),hav,hrw⟩;clear hb9 hrw hee hav HC X2 I2 HI2 HRO GO;go_wp2_with fail;go_roundw
    case rel=>exact⟨k+1,_,v9,by omega,by go_num,GO1.out,X9.out⟩
    case measure=>simp[intOf];omega
  ·obtain rfl:k=n:=by omega
   have HT:=Hd (GO.out.through (by rw[HNN.out,←HQN.out];exact Lr _));go_wp2_with fail;go_ret;rw[HT.out];exact⟨X.out.b,.inr ⟨rfl,rfl,v,X.out.av,X.out.rh⟩⟩
open Go.RowKit Go.Extern.Stop Go.Stop Go.Extern
theorem rlm(z:Sem Value)(f:TypeId→Addr→Nat→Nat→Sem Value)(v:Value) :
 ReflectliteValue.method z f #[v]=(do match ←ReflectliteValue.parts v with | none=>z | some (t,a,fl)=>f t a fl (fl % 32)):=rfl
theorem rls(v x:Value):ReflectliteValue.set #[v,x]=(do
 let (some (dst,a,fl),some (src,b,_)):=(←ReflectliteValue.parts v,←ReflectliteValue.parts x)
  | unsupported (.noEntry "extern/(internal/reflectlite.Value).Set.zeroValue")
 if fl / ReflectliteValue.flagAddr % 2 == 0 then unsupported (.noEntry "extern/(internal/reflectlite.Value).Set.unaddressable")
 let val ←loadVar src b
 if ←Rtype.directlyAssignable dst src then storeVar dst a val
 else if ←Rtype.implements dst src then
  if (←Rtype.kind src)==20 then
   match val with
   | .nilIface => unsupported (.noEntry "extern/reflectlite: a nil value of one interface type handed on as a value of another")
   | _=>storeVar dst a val
  else storeVar dst a (.iface src val)
 else panicString ("reflectlite.Set: value of type " ++ (← Rtype.spelt src) ++ " is not assignable to type " ++ (← Rtype.spelt dst))
 pure (.tuple #[])):=rfl
theorem Xpe (h : Value) (w : World) : (Go.method 324 149 (.agg #[h]) "Kind").run Tryd.prog w = .ok (96, h) w := by kernel_rfl
theorem Xpt (h : Value) (w : World) : (Go.method 324 149 (.agg #[h]) "Elem").run Tryd.prog w = .ok (109, .agg #[h]) w := by kernel_rfl
theorem Xqu (h : Value) (w : World) : (Go.method 324 149 (.agg #[h]) "Implements").run Tryd.prog w = .ok (110, .agg #[h]) w := by kernel_rfl
theorem Xk6 (h : Value) (w : World) : (Go.method 324 149 (.agg #[h]) "AssignableTo").run Tryd.prog w = .ok (107, .agg #[h]) w := by kernel_rfl
theorem Xo2 (e : Addr) (w : World) : (Go.method 324 98 (.pointer (some e)) "Unwrap").run Tryd.prog w = .ok (102, .pointer (some e)) w := by kernel_rfl
theorem Xlb (w : World) : (ReflectliteType.relation "AssignableTo" ReflectliteType.assignableTo #[.agg #[.pointer (some ⟨1, 98, none⟩)], .iface 149 (.agg #[.pointer (some ⟨1, 50, none⟩)])]).run Tryd.prog w = .ok (.bool false) w := by kernel_rfl
theorem Xo1(v:Value)(w:World):(Instr.typeAssert (.iface 98 v) 96 154 true).run Tryd.prog w=.ok (.tuple #[.nilIface,.bool false]) w:=
 run_typeAssert_lacksB Tryd.underlying154 (by kernel_rfl) (by kernel_rfl) v _ w
theorem Xkn(v:Value)(w:World):(Instr.typeAssert (.iface 98 v) 96 157 true).run Tryd.prog w=.ok (.tuple #[.iface 98 v,.bool true]) w:=
 run_typeAssert_hasB Tryd.underlying157 (by kernel_rfl) v _ w
theorem Xrp(t:Value)(w:World):Calls Tryd.prog 32 #[.nilIface,t] w fun e w'=>e=.returned (.bool false)∧w'=w:=by
 go_enter Tryd.func32,Tryd.ntmps32
 go_wp2;go_ret;exact⟨rfl,rfl⟩
theorem Xoj(t:Addr)(w:World):(ReflectliteValue.unpack (.iface 100 (.pointer (some t)))).run Tryd.prog w
 = .ok (.agg #[.pointer (some ⟨1,100,none⟩),.pointer (some ⟨w.heap.size,0,none⟩),.int .u64 150]) (w.alloc (.cells #[.pointer (some t)] 100)):=by kernel_rfl
theorem typePf (a : Addr) (w : World) : (ReflectliteValue.methodAny (ReflectliteValue.valueError "reflectlite.Value.Type" 0) (fun t _ _ _ => ReflectliteType.toType t) #[.agg #[.pointer (some ⟨1, 100, none⟩), .pointer (some a), .int .u64 150]]).run Tryd.prog w
 = .ok (.iface 149 (.agg #[.pointer (some ⟨1,100,none⟩)])) w:=by kernel_rfl
theorem kindPf(w:World):((ReflectliteType.abiMethod fun t=>(fun a:Nat=>Value.int IntKind.u8 (a:Int)) <$> Rtype.kind t) #[.pointer (some ⟨1,100,none⟩)]).run Tryd.prog w=.ok (.int .u8 22) w:=by kernel_rfl
theorem kindEf(w:World):((ReflectliteType.abiMethod fun t=>(fun a:Nat=>Value.int IntKind.u8 (a:Int)) <$> Rtype.kind t) #[.pointer (some ⟨1,98,none⟩)]).run Tryd.prog w=.ok (.int .u8 22) w:=by kernel_rfl
theorem Xqg(a:Addr)(w:World):(ReflectliteValue.parts (.agg #[.pointer (some ⟨1,100,none⟩),.pointer (some a),.int .u64 150])).run Tryd.prog w=.ok (some (100,a,150)) w:=by kernel_rfl
theorem Xta(a p:Addr)(W:World)(ha:W.cell? a=some (.pointer (some p))) :
 (ReflectliteValue.method (ReflectliteValue.valueError "reflectlite.Value.IsNil" 0) ReflectliteValue.isNil #[.agg #[.pointer (some ⟨1, 100, none⟩), .pointer (some a), .int .u64 150]]).run Tryd.prog W = .ok (.bool false) W := by
 rw[rlm];simp only[Sem.run_bind,Xqg,Result.andThen];simp[ReflectliteValue.isNil,loadVar,isAgg,underlying,Tryd.underlying100,ha,Result.andThen]
theorem elemPf(w:World):(ReflectliteType.method ReflectliteType.elem #[.agg #[.pointer (some ⟨1,100,none⟩)]]).run Tryd.prog w=.ok (.iface 149 (.agg #[.pointer (some ⟨1,98,none⟩)])) w:=by kernel_rfl
theorem Xj6 (w : World) : (ReflectliteType.relation "Implements" ReflectliteType.implements_ #[.agg #[.pointer (some ⟨1, 98, none⟩)], .iface 149 (.agg #[.pointer (some ⟨1, 96, none⟩)])]).run Tryd.prog w = .ok (.bool true) w := by kernel_rfl
theorem Xlr(v:Value)(w:World):(ReflectliteType.typeOf #[.iface 98 v]).run Tryd.prog w=.ok (.iface 149 (.agg #[.pointer (some ⟨1,98,none⟩)])) w:=by kernel_rfl
theorem Xj0 (w : World) : (ReflectliteType.relation "AssignableTo" ReflectliteType.assignableTo #[.agg #[.pointer (some ⟨1, 98, none⟩)], .iface 149 (.agg #[.pointer (some ⟨1, 98, none⟩)])]).run Tryd.prog w = .ok (.bool true) w := by kernel_rfl
theorem Xq1(e:Addr)(w:World):(ReflectliteValue.unpack (.iface 98 (.pointer (some e)))).run Tryd.prog w
 = .ok (.agg #[.pointer (some ⟨1,98,none⟩),.pointer (some ⟨w.heap.size,0,none⟩),.int .u64 150]) (w.alloc (.cells #[.pointer (some e)] 98)):=by kernel_rfl
theorem Xsd(w:World):(Rtype.elem? 100).run Tryd.prog w=.ok (some 98) w:=by kernel_rfl
theorem mkEf(p:Addr)(w:World):(ReflectliteValue.mk 98 p ReflectliteValue.flagAddr).run Tryd.prog w=.ok (.agg #[.pointer (some ⟨1,98,none⟩),.pointer (some p),.int .u64 406]) w:=by kernel_rfl
theorem elemVf(a p:Addr)(W:World)(ha:W.cell? a=some (.pointer (some p))) :
 (ReflectliteValue.method (ReflectliteValue.valueError "reflectlite.Value.Elem" 0) ReflectliteValue.elem #[.agg #[.pointer (some ⟨1, 100, none⟩), .pointer (some a), .int .u64 150]]).run Tryd.prog W
   = .ok (.agg #[.pointer (some ⟨1,98,none⟩),.pointer (some p),.int .u64 406]) W:=by
 rw[rlm];simp only[Sem.run_bind,Xqg,Result.andThen];simp[ReflectliteValue.elem,loadVar,isAgg,underlying,Tryd.underlying100,ha,Result.andThen,Xsd,mkEf]
theorem Xs8(a:Addr)(w:World):(ReflectliteValue.parts (.agg #[.pointer (some ⟨1,98,none⟩),.pointer (some a),.int .u64 406])).run Tryd.prog w=.ok (some (98,a,406)) w:=by kernel_rfl
theorem Xu2(a:Addr)(w:World):(ReflectliteValue.parts (.agg #[.pointer (some ⟨1,98,none⟩),.pointer (some a),.int .u64 150])).run Tryd.prog w=.ok (some (98,a,150)) w:=by kernel_rfl
theorem Xrd(w:World):(Rtype.directlyAssignable 98 98).run Tryd.prog w=.ok true w:=by kernel_rfl
theorem setEf(ta b:Addr)(e:Addr)(old:Value)(W:World)(hb:W.cell? b=some (.pointer (some e)))(ht:W.cell? ta=some old)(hf:W.frozen? ta=false) :
 (ReflectliteValue.set #[.agg #[.pointer (some ⟨1,98,none⟩),.pointer (some ta),.int .u64 406],.agg #[.pointer (some ⟨1,98,none⟩),.pointer (some b),.int .u64 150]]).run Tryd.prog W
   = .ok (.tuple #[]) (W.setCell ta (.pointer (some e))):=by
 rw[rls];simp only[Sem.run_bind,Xs8,Xu2,Result.andThen];simp[ReflectliteValue.flagAddr,loadVar,isAgg,underlying,Tryd.underlying98,hb,Result.andThen,Xrd,storeVar,Value.cells,storeCells,Addr.add];rw[run_store Tryd.prog W ta _ _ (by rfl)];simp[ht,hf]
theorem Xqk(t:Addr)(w:World):(ReflectliteValue.unpack (.iface 101 (.pointer (some t)))).run Tryd.prog w
 = .ok (.agg #[.pointer (some ⟨1,101,none⟩),.pointer (some ⟨w.heap.size,0,none⟩),.int .u64 150]) (w.alloc (.cells #[.pointer (some t)] 101)):=by kernel_rfl
theorem typePn (a : Addr) (w : World) : (ReflectliteValue.methodAny (ReflectliteValue.valueError "reflectlite.Value.Type" 0) (fun t _ _ _ => ReflectliteType.toType t) #[.agg #[.pointer (some ⟨1, 101, none⟩), .pointer (some a), .int .u64 150]]).run Tryd.prog w
 = .ok (.iface 149 (.agg #[.pointer (some ⟨1,101,none⟩)])) w:=by kernel_rfl
theorem kindPn(w:World):((ReflectliteType.abiMethod fun t=>(fun a:Nat=>Value.int IntKind.u8 (a:Int)) <$> Rtype.kind t) #[.pointer (some ⟨1,101,none⟩)]).run Tryd.prog w=.ok (.int .u8 22) w:=by kernel_rfl
theorem kindEn(w:World):((ReflectliteType.abiMethod fun t=>(fun a:Nat=>Value.int IntKind.u8 (a:Int)) <$> Rtype.kind t) #[.pointer (some ⟨1,50,none⟩)]).run Tryd.prog w=.ok (.int .u8 2) w:=by kernel_rfl
theorem Xoa(a:Addr)(w:World):(ReflectliteValue.parts (.agg #[.pointer (some ⟨1,101,none⟩),.pointer (some a),.int .u64 150])).run Tryd.prog w=.ok (some (101,a,150)) w:=by kernel_rfl
theorem Xu6(a p:Addr)(W:World)(ha:W.cell? a=some (.pointer (some p))) :
 (ReflectliteValue.method (ReflectliteValue.valueError "reflectlite.Value.IsNil" 0) ReflectliteValue.isNil #[.agg #[.pointer (some ⟨1, 101, none⟩), .pointer (some a), .int .u64 150]]).run Tryd.prog W = .ok (.bool false) W := by
 rw[rlm];simp only[Sem.run_bind,Xoa,Result.andThen];simp[ReflectliteValue.isNil,loadVar,isAgg,underlying,Tryd.underlying101,ha,Result.andThen]
theorem elemPn(w:World):(ReflectliteType.method ReflectliteType.elem #[.agg #[.pointer (some ⟨1,101,none⟩)]]).run Tryd.prog w=.ok (.iface 149 (.agg #[.pointer (some ⟨1,50,none⟩)])) w:=by kernel_rfl
theorem Xjv (w : World) : (ReflectliteType.relation "Implements" ReflectliteType.implements_ #[.agg #[.pointer (some ⟨1, 50, none⟩)], .iface 149 (.agg #[.pointer (some ⟨1, 96, none⟩)])]).run Tryd.prog w = .ok (.bool true) w := by kernel_rfl
theorem Xsa(v:Value)(w:World):(ReflectliteType.typeOf #[.iface 50 v]).run Tryd.prog w=.ok (.iface 149 (.agg #[.pointer (some ⟨1,50,none⟩)])) w:=by kernel_rfl
theorem Xkb (w : World) : (ReflectliteType.relation "AssignableTo" ReflectliteType.assignableTo #[.agg #[.pointer (some ⟨1, 50, none⟩)], .iface 149 (.agg #[.pointer (some ⟨1, 50, none⟩)])]).run Tryd.prog w = .ok (.bool true) w := by kernel_rfl
theorem Xpc(e:Int)(w:World):(ReflectliteValue.unpack (.iface 50 (.int .i64 e))).run Tryd.prog w
 = .ok (.agg #[.pointer (some ⟨1,50,none⟩),.pointer (some ⟨w.heap.size,0,none⟩),.int .u64 130]) (w.alloc (.cells #[.int .i64 e] 50)):=by kernel_rfl
theorem Xs6(w:World):(Rtype.elem? 101).run Tryd.prog w=.ok (some 50) w:=by kernel_rfl
theorem mkEn(p:Addr)(w:World):(ReflectliteValue.mk 50 p ReflectliteValue.flagAddr).run Tryd.prog w=.ok (.agg #[.pointer (some ⟨1,50,none⟩),.pointer (some p),.int .u64 386]) w:=by kernel_rfl
theorem elemVn(a p:Addr)(W:World)(ha:W.cell? a=some (.pointer (some p))) :
 (ReflectliteValue.method (ReflectliteValue.valueError "reflectlite.Value.Elem" 0) ReflectliteValue.elem #[.agg #[.pointer (some ⟨1, 101, none⟩), .pointer (some a), .int .u64 150]]).run Tryd.prog W
   = .ok (.agg #[.pointer (some ⟨1,50,none⟩),.pointer (some p),.int .u64 386]) W:=by
 rw[rlm];simp only[Sem.run_bind,Xoa,Result.andThen];simp[ReflectliteValue.elem,loadVar,isAgg,underlying,Tryd.underlying101,ha,Result.andThen,Xs6,mkEn]
theorem Xr3(a:Addr)(w:World):(ReflectliteValue.parts (.agg #[.pointer (some ⟨1,50,none⟩),.pointer (some a),.int .u64 386])).run Tryd.prog w=.ok (some (50,a,386)) w:=by kernel_rfl
theorem Xtp(a:Addr)(w:World):(ReflectliteValue.parts (.agg #[.pointer (some ⟨1,50,none⟩),.pointer (some a),.int .u64 130])).run Tryd.prog w=.ok (some (50,a,130)) w:=by kernel_rfl
theorem Xr5(w:World):(Rtype.directlyAssignable 50 50).run Tryd.prog w=.ok true w:=by kernel_rfl
theorem setEn(ta b:Addr)(e:Int)(old:Value)(W:World)(hb:W.cell? b=some (.int .i64 e))(ht:W.cell? ta=some old)(hf:W.frozen? ta=false) :
 (ReflectliteValue.set #[.agg #[.pointer (some ⟨1,50,none⟩),.pointer (some ta),.int .u64 386],.agg #[.pointer (some ⟨1,50,none⟩),.pointer (some b),.int .u64 130]]).run Tryd.prog W
   = .ok (.tuple #[]) (W.setCell ta (.int .i64 e)):=by
 rw[rls];simp only[Sem.run_bind,Xr3,Xtp,Result.andThen];simp[ReflectliteValue.flagAddr,loadVar,isAgg,underlying,Tryd.underlying50,hb,Result.andThen,Xr5,storeVar,Value.cells,storeCells,Addr.add];rw[run_store Tryd.prog W ta _ _ (by rfl)];simp[ht,hf]
theorem Xth(e t a:Addr)(old tv:Value)(w:World)(ha:w.cell? a=some (.pointer (some t)))(ht:w.cell? t=some old)(hf:w.frozen? t=false) :
 Calls Tryd.prog 50 #[.iface 98 (.pointer (some e)),tv,.agg #[.pointer (some ⟨1,100,none⟩),.pointer (some a),.int .u64 150],.iface 149 (.agg #[.pointer (some ⟨1,98,none⟩)])] w fun ev w'=>ev=.returned (.bool true)∧w'=((w.alloc (.cells #[.pointer (some ⟨1,100,none⟩),.pointer (some a),.int .u64 150] 131)).alloc (.cells #[.pointer (some e)] 98)).setCell t (.pointer (some e)):=by
 have h6:=@run_callFunc_extern Tryd.prog 47 _ (fun args=>ReflectliteValue.unpack (args.getD 0 (.tuple #[]))) Tryd.func47 (by kernel_rfl) (by kernel_rfl) (by kernel_rfl) (by kernel_rfl);have h10:=@run_callFunc_extern Tryd.prog 58 _ (ReflectliteType.typeOf) Tryd.func58 (by kernel_rfl) (by kernel_rfl) (by kernel_rfl) (by kernel_rfl);have h35 := @run_callFunc_extern Tryd.prog 107 _ (ReflectliteType.relation "AssignableTo" ReflectliteType.assignableTo) Tryd.func107 (by kernel_rfl) (by kernel_rfl) (by kernel_rfl) (by kernel_rfl);have h11 := @run_callFunc_extern Tryd.prog 59 _ (ReflectliteValue.method (ReflectliteValue.valueError "reflectlite.Value.Elem" 0) ReflectliteValue.elem) Tryd.func59 (by kernel_rfl) (by kernel_rfl) (by kernel_rfl) (by kernel_rfl);have h12:=@run_callFunc_extern Tryd.prog 60 _ (ReflectliteValue.set) Tryd.func60 (by kernel_rfl) (by kernel_rfl) (by kernel_rfl) (by kernel_rfl);have hal:=block_lt_of_cell ha;have htl:=block_lt_of_cell ht;have mA:=Xk6;have tO:=Xlr;have aE:=Xj0;have vE:=Xq1;have el:=elemVf a t (w.alloc (.cells #[.pointer (some ⟨1,100,none⟩),.pointer (some a),.int .u64 150] 131)) (by rw[World.cell?_alloc_lt _ _ a hal];exact ha);have st:=setEf t ⟨w.heap.size+1,0,none⟩ e old ((w.alloc (.cells #[.pointer (some ⟨1,100,none⟩),.pointer (some a),.int .u64 150] 131)).alloc (.cells #[.pointer (some e)] 98)) (by rw[World.cell?_alloc_at _ _ _ _ (by simp)];rfl)
  (by rw[World.cell?_alloc_lt _ _ t (by simp;omega),World.cell?_alloc_lt _ _ t htl];exact ht)
  (by rw[World.frozen?_alloc_old _ _ t (by simp;omega),World.frozen?_alloc_old _ _ t (Nat.ne_of_lt htl)];exact hf)
 go_enter Tryd.func50,Tryd.ntmps50
 go_wp2;refine wp_loop_rounds 1 ?_;rw[rounds_succ];go_wp2;go_ret;exact⟨rfl,rfl⟩
theorem as_f15(e t:Addr)(old:Value)(w:World)(hg:TypAt w)(ht:w.cell? t=some old)(hf:w.frozen? t=false) :
 Calls Tryd.prog 32 #[.iface 98 (.pointer (some e)),.iface 100 (.pointer (some t))] w fun ev w'=>ev=.returned (.bool true)∧∃V,Below w.heap.size w V∧w'=V.setCell t (.pointer (some e)):=by
 have h6:=@run_callFunc_extern Tryd.prog 47 _ (fun args=>ReflectliteValue.unpack (args.getD 0 (.tuple #[]))) Tryd.func47 (by kernel_rfl) (by kernel_rfl) (by kernel_rfl) (by kernel_rfl);have h7 := @run_callFunc_extern Tryd.prog 48 _ (ReflectliteValue.methodAny (ReflectliteValue.valueError "reflectlite.Value.Type" 0) (fun t _ _ _ => ReflectliteType.toType t)) Tryd.func48 (by kernel_rfl) (by kernel_rfl) (by kernel_rfl) (by kernel_rfl);have h8 := @run_callFunc_extern Tryd.prog 49 _ (ReflectliteValue.method (ReflectliteValue.valueError "reflectlite.Value.IsNil" 0) ReflectliteValue.isNil) Tryd.func49 (by kernel_rfl) (by kernel_rfl) (by kernel_rfl) (by kernel_rfl);have h27:=@run_callFunc_extern Tryd.prog 96 _ (ReflectliteType.abiMethod fun t=>do pure (.int .u8 (←Rtype.kind t))) Tryd.func96 (by kernel_rfl) (by kernel_rfl) (by kernel_rfl) (by kernel_rfl);have h37:=@run_callFunc_extern Tryd.prog 109 _ (ReflectliteType.method ReflectliteType.elem) Tryd.func109 (by kernel_rfl) (by kernel_rfl) (by kernel_rfl) (by kernel_rfl);have h38 := @run_callFunc_extern Tryd.prog 110 _ (ReflectliteType.relation "Implements" ReflectliteType.implements_) Tryd.func110 (by kernel_rfl) (by kernel_rfl) (by kernel_rfl) (by kernel_rfl);have htl:=block_lt_of_cell ht;have hlt:=hg.pos;have f6:=Xoj;have f7:=typePf;have mK:=Xpe;have mE:=Xpt;have mI:=Xqu;have kP:=kindPf;have kE:=kindEf;have eP:=elemPf;have iE:=Xj6;have hb1:=(Br w.heap.size w).alloc (Lr _) (.cells #[.pointer (some t)] 100);have hb2:=hb1.alloc (by simp) (.cells #[.pointer (some ⟨1,100,none⟩),.pointer (some ⟨w.heap.size,0,none⟩),.int .u64 150] 131);have n8:=Xta ⟨w.heap.size,0,none⟩ t ((w.alloc (.cells #[.pointer (some t)] 100)).alloc (.cells #[.pointer (some ⟨1,100,none⟩),.pointer (some ⟨w.heap.size,0,none⟩),.int .u64 150] 131)) (by simp);have hg2:((w.alloc (.cells #[.pointer (some t)] 100)).alloc (.cells #[.pointer (some ⟨1,100,none⟩),.pointer (some ⟨w.heap.size,0,none⟩),.int .u64 150] 131)).cell? ⟨0,0,none⟩=some (.iface 149 (.agg #[.pointer (some ⟨1,96,none⟩)])):=(hg.below hb2 hlt).c;have ha2:((w.alloc (.cells #[.pointer (some t)] 100)).alloc (.cells #[.pointer (some ⟨1,100,none⟩),.pointer (some ⟨w.heap.size,0,none⟩),.int .u64 150] 131)).cell? ⟨w.heap.size,0,none⟩=some (.pointer (some t)):=by simp
 have ht2:((w.alloc (.cells #[.pointer (some t)] 100)).alloc (.cells #[.pointer (some ⟨1,100,none⟩),.pointer (some ⟨w.heap.size,0,none⟩),.int .u64 150] 131)).cell? t=some old:=(hb2.cell htl).trans ht;have hf2:((w.alloc (.cells #[.pointer (some t)] 100)).alloc (.cells #[.pointer (some ⟨1,100,none⟩),.pointer (some ⟨w.heap.size,0,none⟩),.int .u64 150] 131)).frozen? t=false:=(hb2.frozen htl).trans hf;have C:=Xth e t ⟨w.heap.size,0,none⟩ old (.iface 100 (.pointer (some t))) ((w.alloc (.cells #[.pointer (some t)] 100)).alloc (.cells #[.pointer (some ⟨1,100,none⟩),.pointer (some ⟨w.heap.size,0,none⟩),.int .u64 150] 131)) ha2 ht2 hf2;go_enter Tryd.func32,Tryd.ntmps32
 go_wp2_with (go_at_call 50;refine C.mono ?_;rintro e w' ⟨rfl,rfl⟩)
 go_ret;exact⟨rfl,_,(hb2.alloc (by simp;omega) _).alloc (by simp;omega) _,rfl⟩
theorem Xtm(e t a:Addr)(k:Int)(old tv:Value)(w:World)(ha:w.cell? a=some (.pointer (some t)))(ht:w.cell? t=some old)(hf:w.frozen? t=false)(hw:w.cell? ⟨e.block,e.off+1,none⟩=some (.iface 50 (.int .i64 k)))(hn:e.spot=none) :
 Calls Tryd.prog 50 #[.iface 98 (.pointer (some e)),tv,.agg #[.pointer (some ⟨1,101,none⟩),.pointer (some a),.int .u64 150],.iface 149 (.agg #[.pointer (some ⟨1,50,none⟩)])] w fun ev w'=>ev=.returned (.bool true)∧w'=((w.alloc (.cells #[.pointer (some ⟨1,101,none⟩),.pointer (some a),.int .u64 150] 131)).alloc (.cells #[.int .i64 k] 50)).setCell t (.int .i64 k):=by
 have h6:=@run_callFunc_extern Tryd.prog 47 _ (fun args=>ReflectliteValue.unpack (args.getD 0 (.tuple #[]))) Tryd.func47 (by kernel_rfl) (by kernel_rfl) (by kernel_rfl) (by kernel_rfl);have h10:=@run_callFunc_extern Tryd.prog 58 _ (ReflectliteType.typeOf) Tryd.func58 (by kernel_rfl) (by kernel_rfl) (by kernel_rfl) (by kernel_rfl);have h35 := @run_callFunc_extern Tryd.prog 107 _ (ReflectliteType.relation "AssignableTo" ReflectliteType.assignableTo) Tryd.func107 (by kernel_rfl) (by kernel_rfl) (by kernel_rfl) (by kernel_rfl);have h11 := @run_callFunc_extern Tryd.prog 59 _ (ReflectliteValue.method (ReflectliteValue.valueError "reflectlite.Value.Elem" 0) ReflectliteValue.elem) Tryd.func59 (by kernel_rfl) (by kernel_rfl) (by kernel_rfl) (by kernel_rfl);have h12:=@run_callFunc_extern Tryd.prog 60 _ (ReflectliteValue.set) Tryd.func60 (by kernel_rfl) (by kernel_rfl) (by kernel_rfl) (by kernel_rfl);have hal:=block_lt_of_cell ha;have htl:=block_lt_of_cell ht;have mA:=Xk6;have hel:=block_lt_of_cell hw;have tO:=Xlr;have tO2:=Xsa;have nA:=Xlb;have aE:=Xkb;have vE:=Xpc;have mU:=Xo2;have lA:=Xo1;have hU:=Xkn;have el:=elemVn a t (w.alloc (.cells #[.pointer (some ⟨1,101,none⟩),.pointer (some a),.int .u64 150] 131)) (by rw[World.cell?_alloc_lt _ _ a hal];exact ha);have st:=setEn t ⟨w.heap.size+1,0,none⟩ k old ((w.alloc (.cells #[.pointer (some ⟨1,101,none⟩),.pointer (some a),.int .u64 150] 131)).alloc (.cells #[.int .i64 k] 50)) (by rw[World.cell?_alloc_at _ _ _ _ (by simp)];rfl)
  (by rw[World.cell?_alloc_lt _ _ t (by simp;omega),World.cell?_alloc_lt _ _ t htl];exact ht)
  (by rw[World.frozen?_alloc_old _ _ t (by simp;omega),World.frozen?_alloc_old _ _ t (Nat.ne_of_lt htl)];exact hf)
 have hw1:(w.alloc (.cells #[.pointer (some ⟨1,101,none⟩),.pointer (some a),.int .u64 150] 131)).cell? ⟨e.block,e.off+1,none⟩=some (.iface 50 (.int .i64 k)):=by rw[World.cell?_alloc_lt _ _ ⟨e.block,e.off+1,none⟩ hel];exact hw
 obtain⟨eb,eo,es⟩:=e;obtain rfl:es=none:=hn;go_enter Tryd.func50,Tryd.ntmps50
 go_wp2;refine wp_loop_rounds 2 ?_;rw[rounds_succ];go_wp2;rw[rounds_succ];go_wp2;go_ret;exact⟨rfl,rfl⟩
theorem as_n15(e t:Addr)(k:Int)(old:Value)(w:World)(hg:TypAt w)(ht:w.cell? t=some old)(hf:w.frozen? t=false)(hw:w.cell? ⟨e.block,e.off+1,none⟩=some (.iface 50 (.int .i64 k)))(hn:e.spot=none) :
 Calls Tryd.prog 32 #[.iface 98 (.pointer (some e)),.iface 101 (.pointer (some t))] w fun ev w'=>ev=.returned (.bool true)∧∃V,Below w.heap.size w V∧w'=V.setCell t (.int .i64 k):=by
 have h6:=@run_callFunc_extern Tryd.prog 47 _ (fun args=>ReflectliteValue.unpack (args.getD 0 (.tuple #[]))) Tryd.func47 (by kernel_rfl) (by kernel_rfl) (by kernel_rfl) (by kernel_rfl);have h7 := @run_callFunc_extern Tryd.prog 48 _ (ReflectliteValue.methodAny (ReflectliteValue.valueError "reflectlite.Value.Type" 0) (fun t _ _ _ => ReflectliteType.toType t)) Tryd.func48 (by kernel_rfl) (by kernel_rfl) (by kernel_rfl) (by kernel_rfl);have h8 := @run_callFunc_extern Tryd.prog 49 _ (ReflectliteValue.method (ReflectliteValue.valueError "reflectlite.Value.IsNil" 0) ReflectliteValue.isNil) Tryd.func49 (by kernel_rfl) (by kernel_rfl) (by kernel_rfl) (by kernel_rfl);have h27:=@run_callFunc_extern Tryd.prog 96 _ (ReflectliteType.abiMethod fun t=>do pure (.int .u8 (←Rtype.kind t))) Tryd.func96 (by kernel_rfl) (by kernel_rfl) (by kernel_rfl) (by kernel_rfl);have h37:=@run_callFunc_extern Tryd.prog 109 _ (ReflectliteType.method ReflectliteType.elem) Tryd.func109 (by kernel_rfl) (by kernel_rfl) (by kernel_rfl) (by kernel_rfl);have h38 := @run_callFunc_extern Tryd.prog 110 _ (ReflectliteType.relation "Implements" ReflectliteType.implements_) Tryd.func110 (by kernel_rfl) (by kernel_rfl) (by kernel_rfl) (by kernel_rfl);have htl:=block_lt_of_cell ht;have hlt:=hg.pos;have f6:=Xqk;have f7:=typePn;have mK:=Xpe;have mE:=Xpt;have mI:=Xqu;have kP:=kindPn;have kE:=kindEn;have eP:=elemPn;have iE:=Xjv;have hb1:=(Br w.heap.size w).alloc (Lr _) (.cells #[.pointer (some t)] 101);have hb2:=hb1.alloc (by simp) (.cells #[.pointer (some ⟨1,101,none⟩),.pointer (some ⟨w.heap.size,0,none⟩),.int .u64 150] 131);have n8:=Xu6 ⟨w.heap.size,0,none⟩ t ((w.alloc (.cells #[.pointer (some t)] 101)).alloc (.cells #[.pointer (some ⟨1,101,none⟩),.pointer (some ⟨w.heap.size,0,none⟩),.int .u64 150] 131)) (by simp);have hg2:((w.alloc (.cells #[.pointer (some t)] 101)).alloc (.cells #[.pointer (some ⟨1,101,none⟩),.pointer (some ⟨w.heap.size,0,none⟩),.int .u64 150] 131)).cell? ⟨0,0,none⟩=some (.iface 149 (.agg #[.pointer (some ⟨1,96,none⟩)])):=(hg.below hb2 hlt).c;have ha2:((w.alloc (.cells #[.pointer (some t)] 101)).alloc (.cells #[.pointer (some ⟨1,101,none⟩),.pointer (some ⟨w.heap.size,0,none⟩),.int .u64 150] 131)).cell? ⟨w.heap.size,0,none⟩=some (.pointer (some t)):=by simp
 have ht2:((w.alloc (.cells #[.pointer (some t)] 101)).alloc (.cells #[.pointer (some ⟨1,101,none⟩),.pointer (some ⟨w.heap.size,0,none⟩),.int .u64 150] 131)).cell? t=some old:=(hb2.cell htl).trans ht;have hf2:((w.alloc (.cells #[.pointer (some t)] 101)).alloc (.cells #[.pointer (some ⟨1,101,none⟩),.pointer (some ⟨w.heap.size,0,none⟩),.int .u64 150] 131)).frozen? t=false:=(hb2.frozen htl).trans hf;have hw2:((w.alloc (.cells #[.pointer (some t)] 101)).alloc (.cells #[.pointer (some ⟨1,101,none⟩),.pointer (some ⟨w.heap.size,0,none⟩),.int .u64 150] 131)).cell? ⟨e.block,e.off+1,none⟩=some (.iface 50 (.int .i64 k)):=(hb2.cell (p:=⟨e.block,e.off+1,none⟩) (block_lt_of_cell hw)).trans hw;have C:=Xtm e t ⟨w.heap.size,0,none⟩ k old (.iface 101 (.pointer (some t))) ((w.alloc (.cells #[.pointer (some t)] 101)).alloc (.cells #[.pointer (some ⟨1,101,none⟩),.pointer (some ⟨w.heap.size,0,none⟩),.int .u64 150] 131)) ha2 ht2 hf2 hw2 hn;go_enter Tryd.func32,Tryd.ntmps32
 go_wp2_with (go_at_call 50;refine C.mono ?_;rintro e w' ⟨rfl,rfl⟩)
 go_ret;exact⟨rfl,_,(hb2.alloc (by simp;omega) _).alloc (by simp;omega) _,rfl⟩
end Go.Proofs.YtkhcgclnmdgpbaaDoor
