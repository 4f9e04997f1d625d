import Derived.Test.YtkhcgclnmdgpbaaDoorM10
import Derived.RangeFuncNested
import Derived.RangeFuncBound
import Derived.RangeFuncCalls
import Derived.RangeFuncLeaves
import Derived.Shelf.Abstract
import Derived.Shelf.RegionOpen
import Derived.OwnWalkIn
import Derived.TacticsInMore
import Derived.LoopNIn
import Derived.LoopIn
set_option maxRecDepth 100000
set_option maxHeartbeats 16000000
set_option linter.unusedSimpArgs false
set_option linter.unusedVariables false
namespace Go.Proofs.YtkhcgclnmdgpbaaDoor
open Go.RowKit
theorem Xsq(A:Option Addr)(n c:Nat)(w:World)(hnc:n≤c)(hc:c≤maxLen) :
 Calls Tryd.prog 51 #[.slice A n c] w fun e w'=>e=.returned (.slice A n n)∧w=w':=by
 unfold maxLen at hc;go_enter Tryd.func51,Tryd.ntmps51
 go_wp2;go_ret;exact⟨rfl,rfl⟩
theorem Xop{w:World}{v:Value}{base n size:Nat}{e:TypeId}{xs:List Value}(hown:w.ownsRow base e size v n xs){g:Nat}(hg:w.heap.size≤g):some g≠v.ownBlock:=fun e'=>by
 have:=(hown.lt g e'.symm).2;omega
def WrDone(w:World)(L:List LHold)(e:Ending)(w':World):Prop:=∃A c,e=.returned (.slice A L.length L.length)∧w'.ownsRow w.heap.size 78 66 (.slice A L.length c) L.length (holC L)∧Below w.heap.size w w'
theorem Xj3(RA:Option Addr)(rn rc' B:Nat)(rs:List LRole)(LA:Option Addr)(ln lc:Nat)(l:List LAcc)(w:World)(hr:RolesIn w B RA rn rs)(hl:AccsIn w B LA ln l)(hlc:ln≤lc)(hn:ln=rn)(hB:B≤w.heap.size)(hln:ln≤100000) :
 Calls Tryd.prog 33 #[.slice RA rn rc',.slice LA ln lc] w (WrDone w (chg15 rs l)):=by
 have HB:=Hd hB;have HRN:=Hd (fun(V:World) (hb:Below w.heap.size w V)=>hr.below (hb.mono hB));have HLN:=Hd (fun(V:World) (hb:Below w.heap.size w V)=>hl.below (hb.mono hB));have HLL:=Hd hl.len;have HRL0:=Hd hr.len;subst hn;clear hr hl hB;obtain⟨base,hbase⟩:∃b,b=w.heap.size:=⟨_,rfl⟩;go_enter Tryd.func33,Tryd.ntmps33
 go_wp2_with fail;go_loopw [10,5] (fun i o wr=>∃k:Nat,k≤ln∧i=.int .i64 k∧wr.ownsRow base 78 66 o (chg15 (rs.take k) (l.take k)).length (holC (chg15 (rs.take k) (l.take k)))∧Below w.heap.size w wr) (fun i _ _=>ln - (intOf i).toNat)
 case atStart=>exact⟨0,Nat.zero_le _,rfl,by rw[List.take_zero];exact Xcg _ _ _ _,Br _ _⟩
 case round =>
  obtain⟨k,hk,rfl,hown,hbw⟩:=hrel;have O:=Hd hown;have BW:=Hd hbw;clear hown hbw;rename World=>wr
  by_cases hlt:k<ln
  ·have hlt':(k:Int)<ln:=by omega
   have hk100:k<100000:=by omega
   obtain⟨ra,y,era,hrb,hy,hyo,hcr⟩:=(HRN.out wr BW.out).get (k:=k) hlt;obtain⟨la,z,ela,hlb,hz,hzo,hzc⟩:=(HLN.out wr BW.out).get hlt;have HSN:=Hd (Xhr hy hz);have HCR:=Hd hcr;have HZC:=Hd hzc;have HYO:=Hd hyo;have HZO:=Hd hzo;have HBL:Hid (la.block<base):=Hd (by rw[hbase];exact Nat.lt_of_lt_of_le hlb HB.out);have HWB:Hid (base≤wr.heap.size):=Hd (by rw[hbase];exact BW.out.size);have HSR:=Hd (Xfg hyo.1);have HRL:=Hd (Xe8 hyo.1);have HR1:=Hd (Xis y);have HWR:=Hd (Xhf hyo.1);have HRK:Hid (∀j u,(bv y.key)[j]?=some u→y.cells[j]?=some u):=Hd fun j u hu=>Xc9 hu
   subst ela era;clear hrb hy hyo hcr hlb hz hzo hzc;cases hw:y.wr with
   | false =>
    rw[hw]at HWR HSN;generalize y.cells=rc at *;go_wp2_with (first
     | ((with_reducible show wpList _ _ _ (⟨some 14,_,_,_,_,_⟩::_) _ _);go_must(refine Xa9 rfl 82 (.tmp 13) rfl (ra.add (k*34)) rc _ Tryd.underlying82 rfl HSR.out HCR.out ?_ ?_;go_simp))
     | ((with_reducible show wpList _ _ _ (⟨none,Op.store 82 _ _,_,_,_,_⟩::_) _ _);go_must(refine Xa6 rfl 82 (.tmp 7) (.tmp 14) rfl rc HSR.out HR1.out (by rw[HRL.out];rfl) ?_ ?_ ?_;go_simp;go_simp;intro w2 hr1 hb1 hz1;have R1:=Hd hr1;have B1:=Hd hb1;clear hr1 hb1 hz1;have d33:=(R1.out.cell 33).trans HWR.out)))
    go_roundw
    case rel=>exact⟨k+1,by omega,by go_num,by rw[HSN.out];simpa using Xaa O.out B1.out,BW.out.trans (B1.out.mono BW.out.size)⟩
    case measure=>simp[intOf];omega
   | true =>
    rw[hw]at HWR HSN;rw[if_pos rfl]at HSN;have HKK:Hid ((LHold.mk y.key z).cells.length=66):=Hd (Xch HYO.out.1 HZO.out.o.1);have HBU:=Hd (Xk1 (l:=bv y.key) (m:=z.cells) (by rw[bL,HYO.out.1]) (Xbs HZO.out.o.1));generalize y.cells=rc at *;go_upto_region 6 with(first
     | ((with_reducible show wpList _ _ _ (⟨some 14,_,_,_,_,_⟩::_) _ _);go_must(refine Xa9 rfl 82 (.tmp 13) rfl (ra.add (k*34)) rc _ Tryd.underlying82 rfl HSR.out HCR.out ?_ ?_;go_simp))
     | ((with_reducible show wpList _ _ _ (⟨none,Op.store 82 _ _,_,_,_,_⟩::_) _ _);go_must(refine Xa6 rfl 82 (.tmp 7) (.tmp 14) rfl rc HSR.out HR1.out (by rw[HRL.out];rfl) ?_ ?_ ?_;go_simp;go_simp;intro w2 hr1 hb1 hz1;have R1:=Hd hr1;have B1:=Hd hb1;clear hr1 hb1 hz1;have d33:=(R1.out.cell 33).trans HWR.out)))
    clear d33;have O1:=Hd (Xaa O.out B1.out);have HNE:=Hd (Xop O.out (Lr wr.heap.size));obtain⟨g,hg⟩:∃g,g=wr.heap.size:=⟨_,rfl⟩;rw[←hg]at R1 HNE ⊢;have B2:=Hd (BW.out.trans (B1.out.mono BW.out.size));have HZC2:Hid (∀j u,z.cells[j]?=some u→w2.cell? ((la.add (k*34)).add j)=some u):=Hd fun j u hu=>(B1.out.cell (by rw[Xab,Xab];exact Nat.lt_of_lt_of_le HBL.out HWB.out)).trans (HZC.out j u hu)
    have SZ2:Hid (base≤w2.heap.size):=Hd (by rw[hbase];exact B2.out.size);clear O HZC;refine wp_region_held_drew (S:=fun V=>Below base w2 V∧Row V g 82 rc) (by kernel_rfl) ⟨(Br base w2).drew,R1.out.drew⟩ (fun _=>?_);try dsimp only[List.append]
    have O:=Hd (show w2.drew.ownsRow base 78 66 u5 _ _ from O1.out);have BD:=Hd (show Below base w2 w2.drew∧Row w2.drew g 82 rc from⟨(Br base w2).drew,R1.out.drew⟩);have SZ:Hid (base≤w2.drew.heap.size):=Hd SZ2.out;clear O1;generalize w2.drew=wd at *;refine Tk 0 rfl ?_ BD.out ?_ ⟨?_,rfl⟩
    ·intro w hw;(try dsimp only at hw);go_simp;try with_reducible rfl
    try simp only[nm]
    refine Tk 1 rfl ?_ BD.out ?_ ⟨?_,rfl⟩
    ·intro w hw;(try dsimp only at hw);go_simp;try with_reducible rfl
    try simp only[nm]
    refine Tl 2 (v:=.agg (bv y.key).toArray) rfl (Or.inl ⟨by rfl,fun wz hwz=>Xa4 wz 68 (.tmp 18) rfl ⟨g,0,none⟩ (bv y.key) _ Tryd.underlying68 rfl (by rw[Xb7,bL,HYO.out.1]) (fun j u hu=>by rw[Xac,Nat.zero_add];exact(hwz.2.cell j).trans (HRK.out j u hu)) (by go_simp)⟩) BD.out ?_;try simp only[nm]
    refine Tk 3 rfl ?_ BD.out ?_ ⟨?_,rfl⟩
    ·intro w hw;(try dsimp only at hw);go_simp;try with_reducible rfl
    try simp only[nm]
    refine Tk 4 rfl ?_ BD.out ?_ ⟨?_,rfl⟩
    ·intro w hw;(try dsimp only at hw);go_simp;try with_reducible rfl
    try simp only[nm]
    refine Tk 5 rfl ?_ BD.out ?_ ⟨?_,rfl⟩
    ·intro w hw;(try dsimp only at hw);go_simp;try with_reducible rfl
    try simp only[nm]
    refine Tl 6 (v:=.agg z.cells.toArray) rfl (Or.inl ⟨by rfl,fun wz hwz=>Xa4 wz 72 (.tmp 22) rfl (la.add (k*34)) z.cells _ Tryd.underlying72 rfl (Xay HZO.out.o.1) (fun j u hu=>(hwz.1.cell (by rw[Xab,Xab];exact HBL.out)).trans (HZC2.out j u hu)) (by go_simp)⟩) BD.out ?_;try simp only[nm]
    refine Tl 7 (v:=.agg (LHold.mk y.key z).cells.toArray) rfl (Or.inl ⟨by rfl,fun wz hwz=>Xao wz _ _ _ rfl (by simp only[List.map_toArray,List.map_cons,List.map_nil];exact HBU.out)⟩) BD.out ?_;try simp only[nm]
    refine Rl 8 rfl fun K hK=>?_
    refine Xb2 22 78 (.tmp 24) rfl (LHold.mk y.key z).cells _ 66 80 Tryd.underlying22 Xg4 zszHo (by omega) (by omega) HKK.out (by go_simp) ?_;have BE:=Hd (show Below base w2 _∧Row _ g 82 rc from⟨BD.out.1.alloc SZ.out (.cells (LHold.mk y.key z).cells.toArray 78),BD.out.2.alloc (.cells (LHold.mk y.key z).cells.toArray 78)⟩);refine hK.out _ _ BE.out ?_;clear hK K;try simp only[nm]
    refine Rl 9 rfl fun K hK=>?_
    refine Xo5 (.tmp 17) (.tmp 25) 22 rfl base 78 _ 66 80 Tryd.underlying22 Xg4 zszHo (by omega) u5 _ _ (LHold.mk y.key z).cells 1 HKK.out (Xe9 _) rfl (by go_simp) O.out (by go_simp) SZ.out (by have:=Xh1 (rs.take k) (l.take k);have:=List.length_take_le k l;unfold maxLen;omega) (by have:=Xh1 (rs.take k) (l.take k);have:=List.length_take_le k l;omega) (fun v9 w9 ho9 hg9=>?_);have B9:=Hd (show Below base w2 w9∧Row w9 g 82 rc from⟨BD.out.1.trans (hg9.below O.out SZ.out),hg9.row BD.out.2 HNE.out⟩);have O9:=Hd ho9;clear ho9 hg9 BE;refine hK.out _ _ B9.out ?_;clear hK K;try simp only[nm]
    refine Tk 10 rfl ?_ B9.out ?_ ⟨?_,rfl⟩
    ·intro w hw;(try dsimp only at hw);go_simp;try with_reducible rfl
    try simp only[nm]
    refine wpAnyH_done (by kernel_rfl) ?_ _;go_wp2_with fail;go_roundw
    case rel=>exact⟨k+1,by omega,by go_num,by rw[HSN.out,Xoo,List.length_append];exact O9.out,B2.out.trans (by rw[←hbase];exact B9.out.1)⟩
    case measure=>simp[intOf];omega
  ·obtain rfl:k=ln:=by omega
   have e1:rs.take k=rs:=List.take_of_length_le (by rw[HRL0.out];exact Lr _);have e2:l.take k=l:=List.take_of_length_le (by rw[HLL.out];exact Lr _);have O2:=O.out;rw[e1,e2]at O2;clear e1 e2 O;obtain⟨A2,c2,he,_,hr1,hr2,_⟩:=Xan O2;subst he;have O3:=Hd O2;have HCL:=Hd (Xsq A2 (chg15 rs l).length c2 wr hr1 hr2);clear O2 hr1 hr2;go_wp2_with fail;refine HCL.out.mono ?_;rintro e w9 ⟨rfl,rfl⟩;go_wp2_with fail;go_ret;exact⟨A2,c2,rfl,by rw[←hbase];exact O3.out,BW.out⟩
def stg15(rn:Nat)(a:LIn):Bool:=decide ((rn:Int)≤a.p)
theorem Xnf(p:Int)(AA:Option Addr)(an ac:Nat)(DD:Option Addr)(dn dc:Nat)(rn g:Nat)(RA:Option Addr)(rc:Nat)(w:World)(h0:0≤p)(h1:p<256)(hr:rn≤100000)(ct:w.cell? ⟨g,41,none⟩=some (.slice RA rn rc)) :
 Calls Tryd.prog 44 #[.agg (insC p AA an ac DD dn dc).toArray,.pointer (some ⟨g,0,none⟩)] w fun e w'=>e=.returned (.bool (decide ((rn:Int)≤p)))∧Below w.heap.size w w':=by
 have hb0:=(Br w.heap.size w).alloc (Lr _) (.cells (insC p AA an ac DD dn dc).toArray 108);have HB0:=Hd hb0;have ct2:=(hb0.cell (block_lt_of_cell ct)).trans ct;have c0:(w.alloc (.cells (insC p AA an ac DD dn dc).toArray 108)).cell? ⟨w.heap.size,0,none⟩=some (.int .u8 p):=(Row.new w 108 (insC p AA an ac DD dn dc)).cell 0;clear hb0 ct;have hw:IntKind.i64.wrap p=p:=IntWalk.i64_in (by omega) (by omega);by_cases h:(rn:Int)≤p
 ·have hp:Hid (decide ((rn:Int)≤p)=true):=Hd (decide_eq_true h);go_enter Tryd.func44,Tryd.ntmps44
  go_wp2_with fail;go_ret;exact⟨Xc4 hp.out.symm,HB0.out⟩
 ·have hp:Hid (decide ((rn:Int)≤p)=false):=Hd (decide_eq_false h);go_enter Tryd.func44,Tryd.ntmps44
  go_wp2_with fail;go_ret;exact⟨Xc4 hp.out.symm,HB0.out⟩
def IdxDone15(b:Bool)(e:Ending):Prop:=∃r:Int,e=.returned (.int .i64 r)∧(0≤r↔b=true)
theorem Xnc{l:List LIn}{k:Nat}{a:LIn}{f:LIn→Bool}(h:l[k]?=some a):(l.take (k+1)).any f=((l.take k).any f||f a):=by
 rw[List.take_add_one,h];simp
theorem Xtj(A:Option Addr)(n c B g rn:Nat)(RA:Option Addr)(rc:Nat)(l:List LIn)(w:World)(hs:InsIn w B A n l)(hB:B≤w.heap.size)(hb:∀a ∈ l,IsByte a.p)(hn:n≤100000)(hr:rn≤100000)(ct:w.cell? ⟨g,41,none⟩=some (.slice RA rn rc)) :
 Calls Tryd.prog 54 #[.slice A n c,.func (.func 44) #[] #[.pointer (some ⟨g,0,none⟩)]] w fun e w'=>IdxDone15 (l.any (stg15 rn)) e∧Below w.heap.size w w':=by
 have HL:=Hd hs.len;have HB:=Hd hb;have HS:=Hd (fun(V:World) (hv:Below w.heap.size w V)=>hs.below (hv.mono hB));have HG:=Hd (fun(V:World) (hv:Below w.heap.size w V)=>(hv.cell (block_lt_of_cell ct)).trans ct);clear hb hs hB ct;go_enter Tryd.func54,Tryd.ntmps54
 go_wp2_with fail;go_loopw [8] (fun i wr=>∃k:Nat,k≤n∧i=.int .i64 k∧(l.take k).any (stg15 rn)=false∧Below w.heap.size w wr) (fun i _=>n - (intOf i).toNat)
 case atStart=>exact⟨0,Nat.zero_le _,rfl,by simp,Br _ _⟩
 case round =>
  obtain⟨k,hk,rfl,hany,hbw⟩:=hrel;have HA:=Hd hany;have BW:=Hd hbw;clear hany hbw;rename World=>wr
  by_cases hlt:k<n
  ·have hlt':(k:Int)<n:=by omega
   obtain⟨ia,a,va,vd,hia,hib,ha,hat⟩:=(HS.out wr BW.out).get (k:=k) hlt;obtain⟨AA,ac,rfl,ha1,ha2,ha3⟩:=hat.acc.is;obtain⟨DD,dc,rfl,hd1,hd2,hd3⟩:=hat.dat.is;have HCE:=Hd hat.cells;have hpb:=HB.out a (List.mem_of_getElem? ha);have HX:=Hd (Xnc (f:=stg15 rn) ha);have HME:=Hd (List.mem_of_getElem? ha);have HC:=Hd (Xnf a.p AA a.acc.length ac DD a.dat.length dc rn g RA rc wr hpb.1 hpb.2 hr (HG.out wr BW.out));subst hia;clear hib ha hat ha1 ha2 ha3 hd1 hd2 hd3 hpb;by_cases hp:(rn:Int)≤a.p
   ·have HP:Hid (l.any (stg15 rn)=true):=Hd (List.any_eq_true.2 ⟨a,HME.out,decide_eq_true hp⟩);have hpd:decide ((rn:Int)≤a.p)=true:=decide_eq_true hp;have HC2:=Hd HC.out;rw[hpd]at HC2;clear HC hpd hp;go_wp2_with (first
     | ((with_reducible show wpList _ _ _ (⟨some 15,_,_,_,_,_⟩::_) _ _);go_must(refine Xa9 rfl 108 (.tmp 14) rfl (ia.add (k*3)) (insC a.p AA a.acc.length ac DD a.dat.length dc) _ Tryd.underlying108 rfl (by kernel_rfl) HCE.out ?_ ?_;go_simp))
     | (go_at_call 44;refine HC2.out.mono ?_;rintro e w' ⟨rfl,hb9⟩;have B9:=Hd hb9;clear hb9))
    go_ret;exact⟨⟨_,rfl,by constructor;(intro _;exact HP.out);(intro _;omega)⟩,BW.out.trans (B9.out.mono BW.out.size)⟩
   ·have HP:Hid ((l.take (k+1)).any (stg15 rn)=false):=Hd (by rw[HX.out,HA.out];exact decide_eq_false hp);have hpd:decide ((rn:Int)≤a.p)=false:=decide_eq_false hp;have HC2:=Hd HC.out;rw[hpd]at HC2;clear HC hpd hp;go_wp2_with (first
     | ((with_reducible show wpList _ _ _ (⟨some 15,_,_,_,_,_⟩::_) _ _);go_must(refine Xa9 rfl 108 (.tmp 14) rfl (ia.add (k*3)) (insC a.p AA a.acc.length ac DD a.dat.length dc) _ Tryd.underlying108 rfl (by kernel_rfl) HCE.out ?_ ?_;go_simp))
     | (go_at_call 44;refine HC2.out.mono ?_;rintro e w' ⟨rfl,hb9⟩;have B9:=Hd hb9;clear hb9))
    go_roundw
    case rel=>exact⟨k+1,by omega,by go_num,HP.out,BW.out.trans (B9.out.mono BW.out.size)⟩
    case measure=>simp[intOf];omega
  ·obtain rfl:k=n:=by omega
   have HE:Hid (l.any (stg15 rn)=false):=Hd (by
    have h1:=HA.out;rwa [List.take_of_length_le (by rw[HL.out];exact Lr _)]at h1)
   go_wp2_with fail;go_ret;exact⟨⟨_,rfl,by rw[HE.out];simp⟩,BW.out⟩
theorem Xhs{b:Bool}{r:Int}(h:0≤r↔b=true):decide (0≤r)=b:=by
 cases b with
 | true=>exact decide_eq_true (h.2 rfl)
 | false=>exact decide_eq_false (fun e=>by cases h.1 e)
theorem Xnu(A:Option Addr)(n c B g rn:Nat)(RA:Option Addr)(rc:Nat)(l:List LIn)(w:World)(hs:InsIn w B A n l)(hB:B≤w.heap.size)(hb:∀a ∈ l,IsByte a.p)(hn:n≤100000)(hr:rn≤100000)(ct:w.cell? ⟨g,41,none⟩=some (.slice RA rn rc)) :
 Calls Tryd.prog 43 #[.slice A n c,.func (.func 44) #[] #[.pointer (some ⟨g,0,none⟩)]] w fun e w'=>e=.returned (.bool (l.any (stg15 rn)))∧Below w.heap.size w w':=by
 have HI:=Hd (Xtj A n c B g rn RA rc l w hs hB hb hn hr ct);clear hs hb hB ct;go_enter Tryd.func43,Tryd.ntmps43
 go_wp2_with fail;refine HI.out.mono ?_;rintro e w' ⟨⟨r,rfl,hr⟩,hb9⟩;have HR:=Hd hr;have B9:=Hd hb9;clear hr hb9;go_wp2_with fail;go_ret;exact⟨Xc4 (by first | exact(Xhs HR.out).symm | exact Xhs HR.out),B9.out⟩
theorem Xk5(q:YRaw)(x:LReady)(B:Nat)(w:World)(h:ReadyIn w B q x)(hB:B≤w.heap.size)(hb:∀a ∈ x.tx.m.ins,IsByte a.p)(hn:q.t.q.n≤65535)(hr:q.rn≤100000) :
 Calls Tryd.prog 30 #[.agg (q.cells x).toArray] w fun e w'=>e=.returned (.bool (x.tx.m.ins.any (stg15 q.rn)))∧Below w.heap.size w w':=by
 have hmf:∀(fn:Fn) (first cap:Array Value) (w:World),(Instr.makeFunc fn first cap).run Tryd.prog w=.ok (.func fn first cap) w:=fun _ _ _ _=>rfl
 have hb0:=(Br w.heap.size w).alloc (Lr _) (.cells (q.cells x).toArray 48);have HB0:=Hd hb0;have R0:=Row.new w 48 (q.cells x);have c39:(w.alloc (.cells (q.cells x).toArray 48)).cell? ⟨w.heap.size,39,none⟩=some (.slice q.t.q.IA q.t.q.n q.t.q.ic):=(R0.cell 39).trans (Xf7 h.tx.m.recent);have c41:(w.alloc (.cells (q.cells x).toArray 48)).cell? ⟨w.heap.size,41,none⟩=some (.slice q.RA q.rn q.rc):=(R0.cell 41).trans (Xaz h.tx.m.recent 0);have HC:=Hd (Xnu q.t.q.IA q.t.q.n q.t.q.ic B w.heap.size q.rn q.RA q.rc x.tx.m.ins _ (h.tx.m.ins.below (hb0.mono hB)) (Lq hB hb0.size) hb (by omega) hr c41);clear h hb0 R0 hb c41;go_enter Tryd.func30,Tryd.ntmps30
 go_wp2_with (go_at_call 43;refine HC.out.mono ?_;rintro e w' ⟨rfl,hb9⟩;have B9:=Hd hb9;clear hb9)
 go_ret;exact⟨rfl,HB0.out.trans (B9.out.mono HB0.out.size)⟩
def RunDoneC(w:World)(R:LOut × Int)(e:Ending)(w':World):Prop:=∃A c,e=.returned (.tuple #[.agg (R.1.cells (.slice A R.1.ch.length R.1.ch.length)).toArray,.int .i64 R.2])∧w'.ownsRow w.heap.size 78 66 (.slice A R.1.ch.length c) R.1.ch.length (holC R.1.ch)∧Below w.heap.size w w'
theorem Xlx{w w':World}{R:LOut × Int}(h:R=(out0,1))(hb:Below w.heap.size w w'):RunDoneC w R (.returned (.tuple #[.agg (out0.cells (.slice none 0 0)).toArray,.int .i64 1])) w':=by
 subst h;exact⟨none,0,rfl,Xcg _ _ _ _,hb⟩
theorem Xne(RA LA:Option Addr)(rn rc ln lc:Nat)(u:Int):Tryd.prog.built 94 [(0,.slice RA rn rc),(1,.slice LA ln lc),(2,.int .u64 u)]=some (wkC RA rn rc (.slice LA ln lc) u 0).toArray:=by kernel_rfl
theorem Xpi:(Tryd.prog.info? 94).map (·.zero)=some (some (.agg (wkC none 0 0 (.slice none 0 0) 0 0).toArray)):=by kernel_rfl
theorem Xr8{RA LA:Option Addr}{rn rc ln lc:Nat}{u s:Int}:∀y ∈ wkC RA rn rc (.slice LA ln lc) u s,y.oneCell'=true:=by
 intro y hy;simp only[wkC,List.mem_cons,List.not_mem_nil,or_false]at hy;rcases hy with rfl | rfl | rfl | rfl <;> rfl
theorem Xjx(u f s:Int):Tryd.prog.built 60 [(1,.int .i64 (-1)),(2,.int .u64 u),(3,.int .u64 f),(4,.int .u64 s)]=some ((LOut.mk 0 (-1) u f s []).cells (.slice none 0 0)).toArray:=by kernel_rfl
theorem Xg8{x:LReady}{k:Nat}{a:LIn}{S:S15}(h:0≤S.units∧S.units≤x.u):0≤(step15 x k a S).2.units∧(step15 x k a S).2.units≤x.u:=by
 unfold step15;split
 ·exact⟨by show 0≤x.u;omega,Int.le_refl _⟩
 ·rename_i hc
  have h2:0≤S.units+150∧S.units+150≤x.u:=by omega
  split
  ·exact h2
  ·split
   ·split
    ·exact h2
    ·exact h2
   ·split
    ·exact h2
    ·exact h2
theorem Xhm{x:LReady}:∀(L:List LIn) (k:Nat) (S:S15),(0≤S.units∧S.units≤x.u)→0≤(go15 x L k S).2.2.units∧(go15 x L k S).2.2.units≤x.u
 | [],_,_,h=>h
 | a::r,k,S,h=>by
  unfold go15;split
  ·exact Xhm r _ _ (Xg8 h)
  ·exact Xg8 h
theorem Xls{x:LReady}{ln:Nat}:∀(L:List LIn) (k:Nat) (S:S15),S.now.length=ln→(∀y ∈ S.now,AccOk y)→(∀a ∈ L,AllBytes a.acc∧AllBytes a.dat)→(go15 x L k S).1=0→(go15 x L k S).2.2.now.length=ln
 | [],_,_,h,_,_,_=>h
 | a::r,k,S,h,hok,hb,h0=>by
  have hba:=hb a (List.mem_cons_self ..);unfold go15 at h0 ⊢;split at h0
  ·rename_i hs
   rw[if_pos hs];have hst:(step15 x k a S).2.now.length=ln∧∀y ∈ (step15 x k a S).2.now,AccOk y:=by
    revert hs
    unfold step15;split
    ·intro hs;cases hs
    ·split
     ·intro hs;cases hs
     ·split
      ·split
       ·rename_i he
        intro _;obtain⟨pa,pb,hwt⟩:=Xi9 hok hba.2 hba.1 he;exact⟨hwt.d.len.trans h,hwt.d.ok⟩
       ·rename_i he
        intro hs;exact absurd hs he
      ·split
       ·intro _;exact⟨h,hok⟩
       ·intro hs;cases hs
   exact Xls r _ _ hst.1 hst.2 (fun b hb2=>hb b (List.mem_cons_of_mem _ hb2)) h0
  ·rename_i hs
   exact absurd h0 hs
theorem Xnb{x:LReady}{l:List LAcc}(hl:l.length=x.roles.length)(hp:∀a ∈ x.tx.m.ins,a.p<(x.roles.length:Int))(h:(go15 x x.tx.m.ins 0 ⟨l,0,0⟩).1=0):run15 x l=(⟨0,-1,(go15 x x.tx.m.ins 0 ⟨l,0,0⟩).2.2.units,x.fee,(go15 x x.tx.m.ins 0 ⟨l,0,0⟩).2.2.space,chg15 x.roles (go15 x x.tx.m.ins 0 ⟨l,0,0⟩).2.2.now⟩,0):=by
 unfold run15;rw[if_neg (by omega),if_neg (by rintro⟨b,hb,hc⟩;have:=hp b hb;omega),if_pos h]
theorem Xqr{x:LReady}{l:List LAcc}(hl:l.length=x.roles.length)(hp:∀a ∈ x.tx.m.ins,a.p<(x.roles.length:Int))(h:(go15 x x.tx.m.ins 0 ⟨l,0,0⟩).1≠0):run15 x l=(⟨(go15 x x.tx.m.ins 0 ⟨l,0,0⟩).1,(go15 x x.tx.m.ins 0 ⟨l,0,0⟩).2.1,(go15 x x.tx.m.ins 0 ⟨l,0,0⟩).2.2.units,x.fee,0,chg15 x.roles l⟩,0):=by
 unfold run15;rw[if_neg (by omega),if_neg (by rintro⟨b,hb,hc⟩;have:=hp b hb;omega),if_neg h]
theorem Xje{x:LReady}{rn:Nat}(hr:x.roles.length=rn):(x.tx.m.ins.any (stg15 rn)=true↔∃a ∈ x.tx.m.ins,(x.roles.length:Int)≤a.p):=by
 rw[List.any_eq_true];subst hr;constructor
 ·rintro⟨a,ha,h⟩;exact⟨a,ha,of_decide_eq_true h⟩
 ·rintro⟨a,ha,h⟩;exact⟨a,ha,decide_eq_true h⟩
theorem Xp5{x:LReady}{rn:Nat}(hr:x.roles.length=rn)(hb:∀a ∈ x.tx.m.ins,IsByte a.p)(h:¬x.tx.m.ins.any (stg15 rn)=true):(∀a ∈ x.tx.m.ins,0≤a.p∧a.p<(rn:Int))∧∀a ∈ x.tx.m.ins,a.p<(x.roles.length:Int):=by
 have h2:∀a ∈ x.tx.m.ins,a.p<(x.roles.length:Int):=fun a ha=>by
  by_cases hc:a.p<(x.roles.length:Int)
  ·exact hc
  ·exact absurd ((Xje hr).2 ⟨a,ha,by omega⟩) h
 exact⟨fun a ha=>⟨(hb a ha).1,by rw[←hr];exact h2 a ha⟩,h2⟩
theorem RX.but{w V V':World}{B g2 g4 ln h:Nat}{q:YRaw}{x:LReady}{LA:Option Addr}{l:List LAcc}(a:RX w V B g2 g4 q x LA ln l)(hB:B≤w.heap.size)(hb:But h V V')(h1:w.heap.size≤h)(h2:g2≠h)(h4:g4≠h):RX w V' B g2 g4 q x LA ln l:=
 ⟨a.b.trans (hb.below h1 a.b.size),hb.row a.r2 h2,hb.row a.r4 h4,a.rd.below (hb.below (Lq hB h1) (Lq hB a.b.size)),a.ac.below (hb.below (Lq hB h1) (Lq hB a.b.size))⟩
theorem Xs3(q:YRaw)(x:LReady)(B:Nat)(LA:Option Addr)(ln lc:Nat)(l:List LAcc)(w:World)(h:ReadyIn w B q x)(hl:AccsIn w B LA ln l)(hlc:ln≤lc∧lc≤maxLen)(hB:B≤w.heap.size)(hln:ln≤100000)(hpb:∀a ∈ x.tx.m.ins,IsByte a.p)(hab:∀a ∈ x.tx.m.ins,AllBytes a.acc∧AllBytes a.dat)(hu:0≤x.u∧x.u<18446744073709551616)(hsm:q.t.q.n≤65535∧∀a ∈ x.tx.m.ins,a.acc.length≤65535)(htw:TypAt w)(hne:ln≠q.rn) :
 Calls Tryd.prog 11 #[.agg (q.cells x).toArray,.slice LA ln lc] w (RunDoneC w (run15 x l)):=by
 have HD:Hid (run15 x l=(out0,1)):=Hd (arg15 (by rw[hl.len,h.rs.len];exact hne));have hne':¬(ln:Int)=(q.rn:Int):=fun e=>hne (by exact_mod_cast e)
 clear hne;have HB:=Hd hB;have H32:=Hd h.tx.m.recent;have HRL:=Hd h.rs.len;have HLL:=Hd hl.len;have HPB:=Hd hpb;have HAB:=Hd hab;have HU:=Hd hu;have HSM:=Hd hsm;have HRM:=Hd h.rn;have HT0:=Hd htw;have HLC:=Hd hlc;have hbw:=((Br w.heap.size w).alloc (Lr _) (.cells (q.cells x).toArray 48)).alloc (by simp) (.cells (out0.cells (.slice none 0 0)).toArray 60);have R2:=Hd ((Row.new w 48 (q.cells x)).alloc (.cells (out0.cells (.slice none 0 0)).toArray 60));have R4:=Hd (Row.new' (w.alloc (.cells (q.cells x).toArray 48)) 60 (out0.cells (.slice none 0 0)) (g:=w.heap.size+1) (by simp));have X0:Hid (RX w ((w.alloc (.cells (q.cells x).toArray 48)).alloc (.cells (out0.cells (.slice none 0 0)).toArray 60)) B w.heap.size (w.heap.size+1) q x LA ln l):=Hd ⟨hbw,R2.out,R4.out,h.below (hbw.mono hB),hl.below (hbw.mono hB)⟩;clear hbw h hl R2 R4;obtain⟨g4,hg4⟩:∃g,g=w.heap.size+1:=⟨_,rfl⟩;have HG4:Hid ((w.alloc (.cells (q.cells x).toArray 48)).heap.size=g4):=Hd (by rw[hg4];simp);have HG42:Hid (w.heap.size+1=g4):=Hd hg4.symm;obtain⟨g2,hg2⟩:∃g,g=w.heap.size:=⟨_,rfl⟩;have HG2:Hid (w.heap.size=g2):=Hd hg2.symm;rw[←hg4,←hg2]at X0;have HGL:Hid (w.heap.size≤g2∧w.heap.size≤g4):=Hd (by omega);have HGN:Hid (g2≠g4):=Hd (by omega);clear hg2 hg4;generalize hW0:w.alloc (.cells (q.cells x).toArray 48)=W0 at *;generalize hW:W0.alloc (.cells (out0.cells (.slice none 0 0)).toArray 60)=W at *;have HW0:=Hd hW0;have HW:=Hd hW;clear hW hW0 hpb hab hu hsm htw hlc hB;go_enter Tryd.func11,Tryd.ntmps11
 go_upto_region 1 with((with_reducible show wpList _ _ _ (⟨some 4,_,_,_,_,_⟩::_) _ _);go_must(refine Xa2 rfl 60 rfl (out0.cells (.slice none 0 0)) Xbh ?_))
 rw[HW0.out];rw[HW.out];try rw[HG4.out]
 try rw[HG42.out]
 try rw[HG2.out]
 clear HG2 HG4 HG42 HW0 HW;have c41:W.cell? ⟨g2,41,none⟩=some (.slice q.RA q.rn q.rc):=(X0.out.r2.cell 41).trans (Xaz H32.out 0);go_wp2_with (first
  | ((with_reducible show wpList _ _ _ (⟨some 20,_,_,_,_,_⟩::_) _ _);go_must(refine wpList_plain rfl fun K hK=>Xau _ _ _ rfl (by simp only[List.map_toArray,List.map_nil];exact Xec) (hK _ _ ?_)))
  | ((with_reducible show wpList _ _ _ (⟨none,Op.store 60 _ _,_,_,_,_⟩::_) _ _);go_must(refine Xai rfl 60 (.tmp 4) (.tmp 20) rfl g4 (out0.cells (.slice none 0 0)) (out0.cells (.slice none 0 0)) X0.out.r4 (Xag _ _) rfl (Xbe _ rfl) ?_ ?_ ?_;go_simp;go_simp;intro w5 hr5 ht5)))
 have R5:=Hd hr5;have B5:=Hd (X0.out.b.trans (ht5.below HGL.out.2));clear hr5 ht5;refine bodyPost_ret (Xaj (h:=rfl) _ w5 ⟨g4,0,none⟩ _ _ (by rfl) (by rfl) (run_loadVar_row w5 g4 60 60 (out0.cells (.slice none 0 0)).toArray (0,0) _ R5.out.is Tryd.underlying60 rfl (by rw[List.size_toArray];exact Xag _ _))) rfl ?_;exact Xlx HD.out B5.out
theorem Xr4(q:YRaw)(x:LReady)(B:Nat)(LA:Option Addr)(ln lc:Nat)(l:List LAcc)(w:World)(h:ReadyIn w B q x)(hl:AccsIn w B LA ln l)(hlc:ln≤lc∧lc≤maxLen)(hB:B≤w.heap.size)(hln:ln≤100000)(hpb:∀a ∈ x.tx.m.ins,IsByte a.p)(hab:∀a ∈ x.tx.m.ins,AllBytes a.acc∧AllBytes a.dat)(hu:0≤x.u∧x.u<18446744073709551616)(hsm:q.t.q.n≤65535∧∀a ∈ x.tx.m.ins,a.acc.length≤65535)(htw:TypAt w)(heq:ln=q.rn)(hs:x.tx.m.ins.any (stg15 q.rn)=true) :
 Calls Tryd.prog 11 #[.agg (q.cells x).toArray,.slice LA ln lc] w (RunDoneC w (run15 x l)):=by
 have HD:Hid (run15 x l=(out0,1)):=Hd (Xmi ((Xje h.rs.len).1 hs));have HRN:Hid (q.rn≤100000):=Hd (by omega);have heq':(ln:Int)=(q.rn:Int):=by exact_mod_cast heq
 have hlc0:=hlc.1;have hlc1:=hlc.2;clear heq;have HB:=Hd hB;have H32:=Hd h.tx.m.recent;have HRL:=Hd h.rs.len;have HLL:=Hd hl.len;have HPB:=Hd hpb;have HAB:=Hd hab;have HU:=Hd hu;have HSM:=Hd hsm;have HRM:=Hd h.rn;have HT0:=Hd htw;have HLC:=Hd hlc;have hbw:=((Br w.heap.size w).alloc (Lr _) (.cells (q.cells x).toArray 48)).alloc (by simp) (.cells (out0.cells (.slice none 0 0)).toArray 60);have R2:=Hd ((Row.new w 48 (q.cells x)).alloc (.cells (out0.cells (.slice none 0 0)).toArray 60));have R4:=Hd (Row.new' (w.alloc (.cells (q.cells x).toArray 48)) 60 (out0.cells (.slice none 0 0)) (g:=w.heap.size+1) (by simp));have X0:Hid (RX w ((w.alloc (.cells (q.cells x).toArray 48)).alloc (.cells (out0.cells (.slice none 0 0)).toArray 60)) B w.heap.size (w.heap.size+1) q x LA ln l):=Hd ⟨hbw,R2.out,R4.out,h.below (hbw.mono hB),hl.below (hbw.mono hB)⟩;clear hbw h hl R2 R4;obtain⟨g4,hg4⟩:∃g,g=w.heap.size+1:=⟨_,rfl⟩;have HG4:Hid ((w.alloc (.cells (q.cells x).toArray 48)).heap.size=g4):=Hd (by rw[hg4];simp);have HG42:Hid (w.heap.size+1=g4):=Hd hg4.symm;obtain⟨g2,hg2⟩:∃g,g=w.heap.size:=⟨_,rfl⟩;have HG2:Hid (w.heap.size=g2):=Hd hg2.symm;rw[←hg4,←hg2]at X0;have HGL:Hid (w.heap.size≤g2∧w.heap.size≤g4):=Hd (by omega);have HGN:Hid (g2≠g4):=Hd (by omega);clear hg2 hg4;generalize hW0:w.alloc (.cells (q.cells x).toArray 48)=W0 at *;generalize hW:W0.alloc (.cells (out0.cells (.slice none 0 0)).toArray 60)=W at *;have HW0:=Hd hW0;have HW:=Hd hW;clear hW hW0 hpb hab hu hsm htw hlc hB;go_enter Tryd.func11,Tryd.ntmps11
 go_upto_region 1 with((with_reducible show wpList _ _ _ (⟨some 4,_,_,_,_,_⟩::_) _ _);go_must(refine Xa2 rfl 60 rfl (out0.cells (.slice none 0 0)) Xbh ?_))
 rw[HW0.out];rw[HW.out];try rw[HG4.out]
 try rw[HG42.out]
 try rw[HG2.out]
 clear HG2 HG4 HG42 HW0 HW;have c41:W.cell? ⟨g2,41,none⟩=some (.slice q.RA q.rn q.rc):=(X0.out.r2.cell 41).trans (Xaz H32.out 0);have HST:=Hd (Xk5 q x B W X0.out.rd (Lq HB.out X0.out.b.size) HPB.out HSM.out.1 HRN.out);rw[hs]at HST;go_wp2_with (first
  | ((with_reducible show wpList _ _ _ (⟨some 17,_,_,_,_,_⟩::_) _ _);go_must(refine Xb8 (by kernel_rfl) 48 (.tmp 2) rfl ⟨g2,0,none⟩ (q.cells x) _ Tryd.underlying48 rfl (Xby H32.out) (fun j v hv=>by rw[Xac,X0.out.r2.cell,Nat.zero_add];exact hv) ?_ ?_;go_simp))
  | fail)
 refine HST.out.mono ?_;rintro e ws ⟨rfl,hbs⟩;have X1:=Hd (X0.out.below HB.out hbs);clear hbs HST X0;go_wp2_with (first
  | ((with_reducible show wpList _ _ _ (⟨some 20,_,_,_,_,_⟩::_) _ _);go_must(refine wpList_plain rfl fun K hK=>Xau _ _ _ rfl (by simp only[List.map_toArray,List.map_nil];exact Xec) (hK _ _ ?_)))
  | ((with_reducible show wpList _ _ _ (⟨none,Op.store 60 _ _,_,_,_,_⟩::_) _ _);go_must(refine Xai rfl 60 (.tmp 4) (.tmp 20) rfl g4 (out0.cells (.slice none 0 0)) (out0.cells (.slice none 0 0)) X1.out.r4 (Xag _ _) rfl (Xbe _ rfl) ?_ ?_ ?_;go_simp;go_simp;intro w5 hr5 ht5)))
 have R5:=Hd hr5;have B5:=Hd (X1.out.b.trans (ht5.below HGL.out.2));clear hr5 ht5;refine bodyPost_ret (Xaj (h:=rfl) _ w5 ⟨g4,0,none⟩ _ _ (by rfl) (by rfl) (run_loadVar_row w5 g4 60 60 (out0.cells (.slice none 0 0)).toArray (0,0) _ R5.out.is Tryd.underlying60 rfl (by rw[List.size_toArray];exact Xag _ _))) rfl ?_;exact Xlx HD.out B5.out
theorem Xt7(q:YRaw)(x:LReady)(B:Nat)(LA:Option Addr)(ln lc:Nat)(l:List LAcc)(w:World)(h:ReadyIn w B q x)(hl:AccsIn w B LA ln l)(hlc:ln≤lc∧lc≤maxLen)(hB:B≤w.heap.size)(hln:ln≤100000)(hpb:∀a ∈ x.tx.m.ins,IsByte a.p)(hab:∀a ∈ x.tx.m.ins,AllBytes a.acc∧AllBytes a.dat)(hu:0≤x.u∧x.u<18446744073709551616)(hsm:q.t.q.n≤65535∧∀a ∈ x.tx.m.ins,a.acc.length≤65535)(htw:TypAt w)(heq:ln=q.rn)(hs:¬x.tx.m.ins.any (stg15 q.rn)=true) :
 Calls Tryd.prog 11 #[.agg (q.cells x).toArray,.slice LA ln lc] w (RunDoneC w (run15 x l)):=by
 have HNS:=Hd (Xp5 h.rs.len hpb hs);have HS0:Hid (x.tx.m.ins.any (stg15 q.rn)=false):=Hd (by simpa using hs);have HLR:Hid (l.length=x.roles.length):=Hd (by rw[hl.len,h.rs.len,heq]);have heq':(ln:Int)=(q.rn:Int):=by exact_mod_cast heq
 have HEQ:=Hd heq;have HRN:Hid (q.rn≤100000):=Hd (by omega);have hlc0:=hlc.1;have hlc1:=hlc.2;clear hs heq;have HB:=Hd hB;have H32:=Hd h.tx.m.recent;have HRL:=Hd h.rs.len;have HLL:=Hd hl.len;have HPB:=Hd hpb;have HAB:=Hd hab;have HU:=Hd hu;have HSM:=Hd hsm;have HRM:=Hd h.rn;have HT0:=Hd htw;have HLC:=Hd hlc;have hbw:=((Br w.heap.size w).alloc (Lr _) (.cells (q.cells x).toArray 48)).alloc (by simp) (.cells (out0.cells (.slice none 0 0)).toArray 60);have R2:=Hd ((Row.new w 48 (q.cells x)).alloc (.cells (out0.cells (.slice none 0 0)).toArray 60));have R4:=Hd (Row.new' (w.alloc (.cells (q.cells x).toArray 48)) 60 (out0.cells (.slice none 0 0)) (g:=w.heap.size+1) (by simp));have X0:Hid (RX w ((w.alloc (.cells (q.cells x).toArray 48)).alloc (.cells (out0.cells (.slice none 0 0)).toArray 60)) B w.heap.size (w.heap.size+1) q x LA ln l):=Hd ⟨hbw,R2.out,R4.out,h.below (hbw.mono hB),hl.below (hbw.mono hB)⟩;clear hbw h hl R2 R4;obtain⟨g4,hg4⟩:∃g,g=w.heap.size+1:=⟨_,rfl⟩;have HG4:Hid ((w.alloc (.cells (q.cells x).toArray 48)).heap.size=g4):=Hd (by rw[hg4];simp);have HG42:Hid (w.heap.size+1=g4):=Hd hg4.symm;obtain⟨g2,hg2⟩:∃g,g=w.heap.size:=⟨_,rfl⟩;have HG2:Hid (w.heap.size=g2):=Hd hg2.symm;rw[←hg4,←hg2]at X0;have HGL:Hid (w.heap.size≤g2∧w.heap.size≤g4):=Hd (by omega);have HGN:Hid (g2≠g4):=Hd (by omega);clear hg2 hg4;generalize hW0:w.alloc (.cells (q.cells x).toArray 48)=W0 at *;generalize hW:W0.alloc (.cells (out0.cells (.slice none 0 0)).toArray 60)=W at *;have HW0:=Hd hW0;have HW:=Hd hW;clear hW hW0 hpb hab hu hsm htw hlc hB;go_enter Tryd.func11,Tryd.ntmps11
 go_upto_region 1 with((with_reducible show wpList _ _ _ (⟨some 4,_,_,_,_,_⟩::_) _ _);go_must(refine Xa2 rfl 60 rfl (out0.cells (.slice none 0 0)) Xbh ?_))
 rw[HW0.out];rw[HW.out];try rw[HG4.out]
 try rw[HG42.out]
 try rw[HG2.out]
 clear HG2 HG4 HG42 HW0 HW;have c41:W.cell? ⟨g2,41,none⟩=some (.slice q.RA q.rn q.rc):=(X0.out.r2.cell 41).trans (Xaz H32.out 0);have HST:=Hd (Xk5 q x B W X0.out.rd (Lq HB.out X0.out.b.size) HPB.out HSM.out.1 HRN.out);rw[HS0.out]at HST;clear HS0;go_wp2_with (first
  | ((with_reducible show wpList _ _ _ (⟨some 17,_,_,_,_,_⟩::_) _ _);go_must(refine Xb8 (by kernel_rfl) 48 (.tmp 2) rfl ⟨g2,0,none⟩ (q.cells x) _ Tryd.underlying48 rfl (Xby H32.out) (fun j v hv=>by rw[Xac,X0.out.r2.cell,Nat.zero_add];exact hv) ?_ ?_;go_simp))
  | fail)
 refine HST.out.mono ?_;rintro e ws ⟨rfl,hbs⟩;have X1:=Hd (X0.out.below HB.out hbs);clear hbs HST X0 c41;have c41:ws.cell? ⟨g2,41,none⟩=some (.slice q.RA q.rn q.rc):=(X1.out.r2.cell 41).trans (Xaz H32.out 0);have c42:ws.cell? ⟨g2,42,none⟩=some (.int .u64 x.u):=(X1.out.r2.cell 42).trans (Xaz H32.out 1);go_upto_region 4 with(first
  | ((with_reducible show wpList _ _ _ (⟨some 27,_,_,_,_,_⟩::_) _ _);go_must(refine wpList_plain rfl fun K hK=>Xau _ _ _ rfl (by simp only[List.map_toArray,List.map_cons,List.map_nil];exact Xne _ _ _ _ _ _ _) (hK _ _ ?_)))
  | ((with_reducible show wpList _ _ _ (⟨some 6,_,_,_,_,_⟩::_) _ _);go_must(refine Xa2 rfl 94 rfl (wkC none 0 0 (.slice none 0 0) 0 0) Xpi ?_))
  | ((with_reducible show wpList _ _ _ (⟨none,Op.store 94 _ _,_,_,_,_⟩::_) _ _);go_must(refine Xa6 rfl 94 (.tmp 6) (.tmp 27) rfl (wkC q.RA q.rn q.rc (.slice LA ln lc) x.u 0) (Xq7 _ _ _ _ _ _) Xr8 rfl ?_ ?_ ?_;go_simp;go_simp;intro w3 hr3 hb3 hz3)))
 have RH:=Hd hr3;have X3:=Hd (X1.out.below HB.out hb3);obtain⟨hw,hhw⟩:∃g,g=ws.heap.size:=⟨_,rfl⟩;rw[←hhw]at RH ⊢;have HHG:Hid (w.heap.size≤hw∧g2≠hw∧g4≠hw):=Hd (by have h1:=X1.out.b.size;have h2:=X1.out.r2.lt;have h4:=X1.out.r4.lt;omega);clear hr3 hb3 hz3 X1 c41 c42 hhw;have HAV:Hid (AV15 w3 hw (.slice LA ln lc) l):=Hd (.inl ⟨LA,lc,by rw[HLL.out],by rw[HLL.out];exact X3.out.ac.more (Lq HB.out HHG.out.1),by rw[HLL.out];exact HLC.out.1,HLC.out.2⟩);have HALL:=Hd (all15 hw q x B l (.slice LA ln lc) w3 RH.out HAV.out X3.out.rd (Lq HB.out HHG.out.1) (by rw[HLL.out];exact hln) HRN.out HNS.out.1 HAB.out HU.out HSM.out);clear HAV;go_wp2_with (first
  | ((with_reducible show wpList _ _ _ (⟨some 28,_,_,_,_,_⟩::_) _ _);go_must(refine Xa3 rfl 48 (.tmp 2) rfl g2 _ (q.cells x) _ Tryd.underlying48 rfl (Xby H32.out) X3.out.r2 ?_ ?_;go_simp))
  | fail)
 refine HALL.out.mono ?_;clear HALL;have HGU:=Hd (Xhm (x:=x) x.tx.m.ins 0 ⟨l,0,0⟩ ⟨Int.le_refl _,HU.out.1⟩);have HFI:=Hd (Xnb (x:=x) (l:=l) HLR.out HNS.out.2);have HIL:=Hd (Xqr (x:=x) (l:=l) HLR.out HNS.out.2);have HLG9:=Hd (Xls (x:=x) x.tx.m.ins 0 ⟨l,0,0⟩ (ln:=ln) HLL.out X3.out.ac.ok HAB.out);have HX34:Hid (g2<w3.heap.size∧g4<w3.heap.size∧hw<w3.heap.size):=Hd ⟨X3.out.r2.lt,X3.out.r4.lt,RH.out.lt⟩;rintro e w4 ⟨hb4,hcases⟩;generalize go15 x x.tx.m.ins 0 ⟨l,0,0⟩=G at *;have X4:=Hd (X3.out.but HB.out hb4 HHG.out.1 HHG.out.2.1 HHG.out.2.2);have HB34:Hid (w3.heap.size≤w4.heap.size):=Hd hb4.size;clear X3 hb4;have c42:w4.cell? ⟨g2,42,none⟩=some (.int .u64 x.u):=(X4.out.r2.cell 42).trans (Xaz H32.out 1);have c45:w4.cell? ⟨g2,45,none⟩=some (.int .u64 x.fee):=(X4.out.r2.cell 45).trans (Xaz H32.out 4);have hgu0:=HGU.out.1;have hgu1:=HGU.out.2;have hu1:=HU.out.2;have hwr:IntKind.u64.wrap (x.u - (x.u - G.2.2.units))=G.2.2.units:=by rw[IntKind.wrap_u64];omega
 rcases hcases with⟨hne,fb,rfl,hfb,hfbs,va9,sp9,hrw⟩ | ⟨hee,rfl,v9,hav,hrw⟩
 ·have HRW:=Hd hrw;have HFB:=Hd hfb;have HFX:Hid (g2<fb∧g4<fb∧hw<fb):=Hd (by have h1:=HX34.out;omega);have HRUN:=Hd (HIL.out hne);clear hrw hfb hne HFI HIL;have HWB:=Hd HRW.out.lt;have h2:w4.cell? ⟨hw,2,none⟩=some (.int .u64 (x.u - G.2.2.units)):=HRW.out.cell 2;have h3:w4.cell? ⟨hw,3,none⟩=some (.int .u64 sp9):=HRW.out.cell 3;have HFS:Hid (fb≠g2∧fb≠g4∧fb≠hw):=Hd (by have h1:=HFX.out;omega);go_upto_region 6 with(first
   | ((with_reducible show wpList _ _ _ (⟨some 40,_,_,_,_,_⟩::_) _ _);go_must(refine wpList_plain rfl fun K hK=>Xau _ _ _ rfl (by simp only[List.map_toArray,List.map_cons,List.map_nil];exact Xjx _ _ _) (hK _ _ ?_)))
   | ((with_reducible show wpList _ _ _ (⟨some 8,_,_,_,_,_⟩::_) _ _);go_must(refine Xa2 rfl 60 rfl (out0.cells (.slice none 0 0)) Xbh ?_))
   | ((with_reducible show wpList _ _ _ (⟨none,Op.store 60 _ _,_,_,_,_⟩::_) _ _);go_must(refine Xa6 rfl 60 (.tmp 8) (.tmp 40) rfl ((LOut.mk 0 (-1) G.2.2.units x.fee sp9 []).cells (.slice none 0 0)) (Xag _ _) (Xbe _ rfl) rfl ?_ ?_ ?_;go_simp;go_simp;intro w5 hr5 hb5 hz5)))
  have X5:=Hd (X4.out.below HB.out hb5);have RH5:=Hd (HRW.out.below hb5 HWB.out);have F5:=Hd (HFB.out.below hb5 HFB.out.lt);have O5:=Hd hr5;obtain⟨g8,hg8⟩:∃g,g=w4.heap.size:=⟨_,rfl⟩;rw[←hg8]at O5 ⊢;have HG8:Hid (g8≠g2∧g8≠g4∧g8≠hw∧w.heap.size≤g8∧fb≠g8):=Hd (by have h1:=X4.out.r2.lt;have h2:=X4.out.r4.lt;have h3:=HWB.out;have h4:=X4.out.b.size;have h5:=HFB.out.lt;omega);clear X4 HRW HFB HB34 hr5 hb5 hz5 hg8 c42 c45 h2 h3 hwr hgu0 hgu1;go_upto_region 7 with fail
  have hb6:=(Br w5.heap.size w5).alloc (Lr _) (.cells #[.pointer none] 98);have X6:=Hd (X5.out.below HB.out hb6);have RH6:=Hd (RH5.out.below hb6 RH5.out.lt);have F6:=Hd (F5.out.below hb6 F5.out.lt);have O6:=Hd (O5.out.below hb6 O5.out.lt);have N6:=Hd (Row.new w5 98 [.pointer none]);obtain⟨g9,hg9⟩:∃g,g=w5.heap.size:=⟨_,rfl⟩;rw[←hg9]at N6 ⊢;have HG9:Hid (g9≠g2∧g9≠g4∧g9≠hw∧w.heap.size≤g9∧fb≠g9∧g8≠g9):=Hd (by have h1:=X5.out.r2.lt;have h2:=X5.out.r4.lt;have h3:=RH5.out.lt;have h4:=X5.out.b.size;have h5:=F5.out.lt;have h6:=O5.out.lt;omega);clear X5 RH5 O5 F5 hb6 hg9;have N6':Hid (Row (w5.alloc (.cells #[.pointer none] 98)) g9 98 [.pointer none]):=Hd N6.out;clear N6;generalize w5.alloc (.cells #[.pointer none] 98)=w6 at *;have HP0:=HT0.out.pos;have C1:=Hd (as_f15 ⟨fb,0,none⟩ ⟨g9,0,none⟩ (.pointer none) w6 (HT0.out.below X6.out.b HP0) (N6'.out.cell 0) (N6'.out.frozen 0));go_wp2_with fail;refine C1.out.mono ?_;rintro e w7 ⟨rfl,V7,hb7,hw7⟩;have T7:=Xa0 V7 ⟨g9,0,none⟩ (.pointer (some ⟨fb,0,none⟩));rw[←hw7]at T7;have X7:=Hd ((X6.out.below HB.out hb7).but HB.out (.of_turned T7) HG9.out.2.2.2.1 (Ne.symm HG9.out.1) (Ne.symm HG9.out.2.1));have RH7:=Hd (T7.row (RH6.out.below hb7 RH6.out.lt) (Ne.symm HG9.out.2.2.1));have F7:=Hd (T7.row (F6.out.below hb7 F6.out.lt) HG9.out.2.2.2.2.1);have O7:=Hd (T7.row (O6.out.below hb7 O6.out.lt) HG9.out.2.2.2.2.2);have N7:Hid (Row w7 g9 98 [.pointer (some ⟨fb,0,none⟩)]):=Hd (by rw[hw7];exact(N6'.out.below hb7 N6'.out.lt).set_ 0 _);clear T7 hw7 hb7 C1 X6 RH6 F6 O6 N6';have C2:=Hd (as_n15 ⟨fb,0,none⟩ ⟨g8,0,none⟩ G.1 (.int .i64 0) w7 (HT0.out.below X7.out.b HP0) (O7.out.cell 0) (O7.out.frozen 0) (F7.out.cell 1) rfl);go_wp2_with fail;refine C2.out.mono ?_;rintro e w8 ⟨rfl,V8,hb8,hw8⟩;have T8:=Xa0 V8 ⟨g8,0,none⟩ (.int .i64 G.1);rw[←hw8]at T8;have X8:=Hd ((X7.out.below HB.out hb8).but HB.out (.of_turned T8) HG8.out.2.2.2.1 (Ne.symm HG8.out.1) (Ne.symm HG8.out.2.1));have RH8:=Hd (T8.row (RH7.out.below hb8 RH7.out.lt) (Ne.symm HG8.out.2.2.1));have F8:=Hd (T8.row (F7.out.below hb8 F7.out.lt) HG8.out.2.2.2.2);have N8:=Hd (T8.row (N7.out.below hb8 N7.out.lt) (Ne.symm HG9.out.2.2.2.2.2));have O8:Hid (Row w8 g8 60 ((LOut.mk G.1 (-1) G.2.2.units x.fee sp9 []).cells (.slice none 0 0))):=Hd (by rw[hw8];exact(O7.out.below hb8 O7.out.lt).set_ 0 _);clear T8 hw8 hb8 C2 X7 RH7 F7 O7 N7 HP0;have n0:w8.cell? ⟨g9,0,none⟩=some (.pointer (some ⟨fb,0,none⟩)):=N8.out.cell 0;have k0':w8.cell? ⟨fb,0,none⟩=some (.int .i64 G.2.1):=F8.out.cell 0;have o1:w8.cell? ⟨g8,1,none⟩=some (.int .i64 (-1)):=O8.out.cell 1;have o4:w8.cell? ⟨g8,4,none⟩=some (.int .u64 sp9):=O8.out.cell 4;have r1:w8.cell? ⟨hw,1,none⟩=some va9:=RH8.out.cell 1;have fo1:=O8.out.frozen 1;have fo4:=O8.out.frozen 4;have fr1:=RH8.out.frozen 1;have hgh1:¬g8=hw:=HG8.out.2.2.1;have hgh2:¬hw=g8:=Ne.symm HG8.out.2.2.1;go_upto_region 9 with fail
  have T9:=((But.of_turned (Xa0 w8 ⟨g8,1,none⟩ (.int .i64 G.2.1))).trans (.of_turned (Xa0 _ ⟨g8,4,none⟩ (.int .u64 0))));have Y9:=Hd (X8.out.but HB.out T9 HG8.out.2.2.2.1 (Ne.symm HG8.out.1) (Ne.symm HG8.out.2.1));have X9:=Hd (Y9.out.but HB.out (.of_turned (Xa0 _ ⟨hw,1,none⟩ (.slice LA ln lc))) HHG.out.1 HHG.out.2.1 HHG.out.2.2);have O9:Hid (Row _ g8 60 ((LOut.mk G.1 G.2.1 G.2.2.units x.fee 0 []).cells (.slice none 0 0))):=Hd (((O8.out.set_ 1 (.int .i64 G.2.1)).set_ 4 (.int .u64 0)).far (p:=⟨hw,1,none⟩) HG8.out.2.2.1 (.slice LA ln lc));have RH9:=Hd ((T9.row RH8.out (Ne.symm HG8.out.2.2.1)).set_ 1 (.slice LA ln lc));clear hgh1 hgh2 n0 k0' o1 o4 r1 fo1 fo4 fr1 T9 Y9 X8 RH8 F8 O8 N8;generalize ((w8.setCell ⟨g8,1,none⟩ (.int .i64 G.2.1)).setCell ⟨g8,4,none⟩ (.int .u64 0)).setCell ⟨hw,1,none⟩ (.slice LA ln lc)=w9 at *;have c41:w9.cell? ⟨g2,41,none⟩=some (.slice q.RA q.rn q.rc):=(X9.out.r2.cell 41).trans (Xaz H32.out 0);have h1:w9.cell? ⟨hw,1,none⟩=some (.slice LA ln lc):=RH9.out.cell 1;go_wp2_with fail;refine(Xj3 q.RA q.rn q.rc B x.roles LA ln lc l w9 X9.out.rd.rs X9.out.ac HLC.out.1 HEQ.out (Lq HB.out X9.out.b.size) hln).mono ?_;rintro e wa ⟨A9,c9,rfl,ho9,hb9⟩;have XA:=Hd (X9.out.below HB.out hb9);have OA:=Hd (O9.out.below hb9 O9.out.lt);have OW:=Hd (Xc0 ho9 X9.out.b.size);have OLT:=Hd (fun g hg=>(ho9.lt g hg).1);have HL6:Hid (g8<w9.heap.size∧g4<w9.heap.size):=Hd ⟨O9.out.lt,X9.out.r4.lt⟩;clear ho9 hb9 X9 O9 RH9 c41 h1;obtain⟨CH,hCH⟩:∃C,C=chg15 x.roles l:=⟨_,rfl⟩;have HCH:=Hd hCH;rw[←hCH]at OW OLT ⊢;clear hCH;have c5:wa.cell? ⟨g8,5,none⟩=some (.slice none 0 0):=OA.out.cell 5;have f5:=OA.out.frozen 5;go_upto_region 10 with fail
  have XB:Hid (Row (wa.setCell ⟨g8,5,none⟩ (.slice A9 CH.length CH.length)) g4 60 (out0.cells (.slice none 0 0))):=Hd (XA.out.r4.far (Ne.symm HG8.out.2.1) _);have OB:Hid (Row (wa.setCell ⟨g8,5,none⟩ (.slice A9 CH.length CH.length)) g8 60 ((LOut.mk G.1 G.2.1 G.2.2.units x.fee 0 CH).cells (.slice A9 CH.length CH.length))):=Hd (OA.out.set_ 5 _);have T9:=Hd (Xa0 wa ⟨g8,5,none⟩ (.slice A9 CH.length CH.length));clear c5 f5 OA;generalize wa.setCell ⟨g8,5,none⟩ (.slice A9 CH.length CH.length)=wb at *;go_wp2_with (first
   | ((with_reducible show wpList _ _ _ (⟨some 64,_,_,_,_,_⟩::_) _ _);go_must(refine Xa3 rfl 60 (.tmp 8) rfl g8 _ ((LOut.mk G.1 G.2.1 G.2.2.units x.fee 0 CH).cells (.slice A9 CH.length CH.length)) _ Tryd.underlying60 rfl (Xag _ _) OB.out ?_ ?_;go_simp))
   | ((with_reducible show wpList _ _ _ (⟨none,Op.store 60 _ _,_,_,_,_⟩::_) _ _);go_must(refine Xai rfl 60 (.tmp 4) (.tmp 64) rfl g4 (out0.cells (.slice none 0 0)) ((LOut.mk G.1 G.2.1 G.2.2.units x.fee 0 CH).cells (.slice A9 CH.length CH.length)) XB.out (Xag _ _) rfl (Xbe _ rfl) ?_ ?_ ?_;go_simp;go_simp;intro wz hrz htz)))
  have RZ:=Hd hrz;have TZ:=Hd htz;clear hrz htz;refine bodyPost_ret (Xaj (h:=rfl) _ wz ⟨g4,0,none⟩ _ _ (by rfl) (by rfl) (run_loadVar_row wz g4 60 60 ((LOut.mk G.1 G.2.1 G.2.2.units x.fee 0 CH).cells (.slice A9 CH.length CH.length)).toArray (0,0) _ RZ.out.is Tryd.underlying60 rfl (by rw[List.size_toArray];exact Xag _ _))) rfl ?_;rw[HRUN.out];try rw[←HCH.out]
  refine⟨A9,c9,rfl,?_,(XA.out.b.trans (T9.out.below HG8.out.2.2.2.1)).trans (TZ.out.below HGL.out.2)⟩;exact Xgg OW.out fun g hg=>(TZ.out.block g (by have:=OLT.out g hg;have:=HL6.out;omega)).trans (T9.out.block g (by have:=OLT.out g hg;have:=HL6.out;show g≠g8;omega))
 ·have HRW:=Hd hrw;have HAV:=Hd hav;have HEE9:=Hd hee;have HRUN:=Hd (HFI.out hee);clear hrw hav hee HFI HIL;have hwb:hw<w4.heap.size:=HRW.out.lt;obtain⟨LB,lb,rfl,hacb,hlb0,hlb1⟩:=HAV.out.form hwb;have HLB:Hid (G.2.2.now.length=q.rn):=Hd (by rw[HLG9.out HEE9.out,HEQ.out]);have HWB:=Hd hwb;have h2:w4.cell? ⟨hw,2,none⟩=some (.int .u64 (x.u - G.2.2.units)):=HRW.out.cell 2;have h3:w4.cell? ⟨hw,3,none⟩=some (.int .u64 G.2.2.space):=HRW.out.cell 3;have HAC:=Hd hacb;clear hacb hwb;go_upto_region 6 with(first
   | ((with_reducible show wpList _ _ _ (⟨some 40,_,_,_,_,_⟩::_) _ _);go_must(refine wpList_plain rfl fun K hK=>Xau _ _ _ rfl (by simp only[List.map_toArray,List.map_cons,List.map_nil];exact Xjx _ _ _) (hK _ _ ?_)))
   | ((with_reducible show wpList _ _ _ (⟨some 8,_,_,_,_,_⟩::_) _ _);go_must(refine Xa2 rfl 60 rfl (out0.cells (.slice none 0 0)) Xbh ?_))
   | ((with_reducible show wpList _ _ _ (⟨none,Op.store 60 _ _,_,_,_,_⟩::_) _ _);go_must(refine Xa6 rfl 60 (.tmp 8) (.tmp 40) rfl ((LOut.mk 0 (-1) G.2.2.units x.fee G.2.2.space []).cells (.slice none 0 0)) (Xag _ _) (Xbe _ rfl) rfl ?_ ?_ ?_;go_simp;go_simp;intro w5 hr5 hb5 hz5)))
  have X5:=Hd (X4.out.below HB.out hb5);have RH5:=Hd (HRW.out.below hb5 HWB.out);have O5:=Hd hr5;have AC5:=Hd ((HAC.out.below hb5).more (Nat.le_of_lt (show w4.heap.size<w5.heap.size by rw[hz5];exact Nat.lt_succ_self _)));obtain⟨g8,hg8⟩:∃g,g=w4.heap.size:=⟨_,rfl⟩;rw[←hg8]at O5 ⊢;have HG8:Hid (g8≠g2∧g8≠g4∧g8≠hw∧w.heap.size≤g8):=Hd (by have h1:=X4.out.r2.lt;have h2:=X4.out.r4.lt;have h3:=HWB.out;have h4:=X4.out.b.size;omega);clear X4 HRW HAV HAC HB34 hr5 hb5 hz5 hg8 c42 c45 h2 h3 hwr hgu0 hgu1;go_upto_region 7 with fail
  have hb6:=(Br w5.heap.size w5).alloc (Lr _) (.cells #[.pointer none] 98);have X6:=Hd (X5.out.below HB.out hb6);have RH6:=Hd (RH5.out.below hb6 RH5.out.lt);have O6:=Hd (O5.out.below hb6 O5.out.lt);have AC6:=Hd ((AC5.out.below hb6).more (hb6.size));clear X5 RH5 O5 AC5 hb6;generalize w5.alloc (.cells #[.pointer none] 98)=w6 at *;go_wp2_with fail;refine(Xrp _ w6).mono ?_;rintro e w7 ⟨rfl,rfl⟩;have c41:w7.cell? ⟨g2,41,none⟩=some (.slice q.RA q.rn q.rc):=(X6.out.r2.cell 41).trans (Xaz H32.out 0);have h1:w7.cell? ⟨hw,1,none⟩=some (.slice LB G.2.2.now.length lb):=RH6.out.cell 1;go_wp2_with fail;refine(Xj3 q.RA q.rn q.rc w7.heap.size x.roles LB G.2.2.now.length lb G.2.2.now w7 (X6.out.rd.rs.more (Lq HB.out X6.out.b.size)) AC6.out hlb0 HLB.out (Lr _) (by rw[HLB.out];exact HRN.out)).mono ?_;rintro e w8 ⟨A9,c9,rfl,ho9,hb9⟩;have X8:=Hd (X6.out.below HB.out hb9);have O8:=Hd (O6.out.below hb9 O6.out.lt);have OW:=Hd (Xc0 ho9 X6.out.b.size);have OLT:=Hd (fun g hg=>(ho9.lt g hg).1);have HL6:Hid (g8<w7.heap.size∧g4<w7.heap.size):=Hd ⟨O6.out.lt,X6.out.r4.lt⟩;clear ho9 hb9 X6 O6 AC6 RH6 c41 h1;obtain⟨CH,hCH⟩:∃C,C=chg15 x.roles G.2.2.now:=⟨_,rfl⟩;have HCH:=Hd hCH;rw[←hCH]at OW OLT ⊢;clear hCH;have c5:w8.cell? ⟨g8,5,none⟩=some (.slice none 0 0):=O8.out.cell 5;have f5:=O8.out.frozen 5;go_upto_region 10 with fail
  have X9:Hid (Row (w8.setCell ⟨g8,5,none⟩ (.slice A9 CH.length CH.length)) g4 60 (out0.cells (.slice none 0 0))):=Hd (X8.out.r4.far (Ne.symm HG8.out.2.1) _);have O9:Hid (Row (w8.setCell ⟨g8,5,none⟩ (.slice A9 CH.length CH.length)) g8 60 ((LOut.mk 0 (-1) G.2.2.units x.fee G.2.2.space CH).cells (.slice A9 CH.length CH.length))):=Hd (O8.out.set_ 5 _);have T9:=Hd (Xa0 w8 ⟨g8,5,none⟩ (.slice A9 CH.length CH.length));clear c5 f5 O8;generalize w8.setCell ⟨g8,5,none⟩ (.slice A9 CH.length CH.length)=w9 at *;go_wp2_with (first
   | ((with_reducible show wpList _ _ _ (⟨some 64,_,_,_,_,_⟩::_) _ _);go_must(refine Xa3 rfl 60 (.tmp 8) rfl g8 _ ((LOut.mk 0 (-1) G.2.2.units x.fee G.2.2.space CH).cells (.slice A9 CH.length CH.length)) _ Tryd.underlying60 rfl (Xag _ _) O9.out ?_ ?_;go_simp))
   | ((with_reducible show wpList _ _ _ (⟨none,Op.store 60 _ _,_,_,_,_⟩::_) _ _);go_must(refine Xai rfl 60 (.tmp 4) (.tmp 64) rfl g4 (out0.cells (.slice none 0 0)) ((LOut.mk 0 (-1) G.2.2.units x.fee G.2.2.space CH).cells (.slice A9 CH.length CH.length)) X9.out (Xag _ _) rfl (Xbe _ rfl) ?_ ?_ ?_;go_simp;go_simp;intro wz hrz htz)))
  have RZ:=Hd hrz;have TZ:=Hd htz;clear hrz htz;refine bodyPost_ret (Xaj (h:=rfl) _ wz ⟨g4,0,none⟩ _ _ (by rfl) (by rfl) (run_loadVar_row wz g4 60 60 ((LOut.mk 0 (-1) G.2.2.units x.fee G.2.2.space CH).cells (.slice A9 CH.length CH.length)).toArray (0,0) _ RZ.out.is Tryd.underlying60 rfl (by rw[List.size_toArray];exact Xag _ _))) rfl ?_;rw[HRUN.out];try rw[←HCH.out]
  refine⟨A9,c9,rfl,?_,(X8.out.b.trans (T9.out.below HG8.out.2.2.2)).trans (TZ.out.below HGL.out.2)⟩;exact Xgg OW.out fun g hg=>(TZ.out.block g (by have:=OLT.out g hg;have:=HL6.out;omega)).trans (T9.out.block g (by have:=OLT.out g hg;have:=HL6.out;show g≠g8;omega))
theorem runC(q:YRaw)(x:LReady)(B:Nat)(LA:Option Addr)(ln lc:Nat)(l:List LAcc)(w:World)(h:ReadyIn w B q x)(hl:AccsIn w B LA ln l)(hlc:ln≤lc∧lc≤maxLen)(hB:B≤w.heap.size)(hln:ln≤100000)(hpb:∀a ∈ x.tx.m.ins,IsByte a.p)(hab:∀a ∈ x.tx.m.ins,AllBytes a.acc∧AllBytes a.dat)(hu:0≤x.u∧x.u<18446744073709551616)(hsm:q.t.q.n≤65535∧∀a ∈ x.tx.m.ins,a.acc.length≤65535)(htw:TypAt w) :
 Calls Tryd.prog 11 #[.agg (q.cells x).toArray,.slice LA ln lc] w (RunDoneC w (run15 x l)):=by
 by_cases heq:ln=q.rn
 rotate_left
 ·exact Xs3 q x B LA ln lc l w h hl hlc hB hln hpb hab hu hsm htw heq
 by_cases hs:x.tx.m.ins.any (stg15 q.rn)=true
 ·exact Xr4 q x B LA ln lc l w h hl hlc hB hln hpb hab hu hsm htw heq hs
 ·exact Xt7 q x B LA ln lc l w h hl hlc hB hln hpb hab hu hsm htw heq hs
def kx15(n:Int):List Int:=n::List.replicate 31 0
def ro15x:List LRole:=[⟨kx15 8,true,true⟩,⟨kx15 9,false,true⟩,⟨k0,false,false⟩]
def q15x(gi gr:Nat):YRaw:=⟨none,0,0,⟨none,0,0,⟨none,0,0,some ⟨gi,0,none⟩,1,1,none,0,0⟩⟩,some ⟨gr,0,none⟩,3,3⟩
theorem Xeo{n:Int}(h:0≤n∧n<256):(kx15 n).length=32∧AllBytes (kx15 n):=by
 refine⟨by simp[kx15],fun z hz=>?_⟩;rcases List.mem_cons.1 hz with rfl | hz
 ·exact h
 ·rw[List.eq_of_mem_replicate hz];exact⟨by decide,by decide⟩
theorem Xom:AllBytes [0,1]:=by
 have h:∀z ∈ ([0,1]:List Int),0≤z∧z<256:=by decide
 exact h
def ic15x(ga gd:Nat):List Value:=insC 2 (some ⟨ga,0,none⟩) 2 2 (some ⟨gd,0,none⟩) 12 12
theorem Xql:Tryd.prog.built 68 [(0,.int .u8 8)]=some (bv (kx15 8)).toArray:=by kernel_rfl
theorem Xpy:Tryd.prog.built 68 [(0,.int .u8 9)]=some (bv (kx15 9)).toArray:=by kernel_rfl
theorem Xl8(ga gd:Nat):Tryd.prog.built 108 [(0,.int .u8 2),(1,.slice (some ⟨ga,0,none⟩) 2 2),(2,.slice (some ⟨gd,0,none⟩) 12 12)]=some (ic15x ga gd).toArray:=by kernel_rfl
theorem Xol:Tryd.prog.built 82 [(0,.agg (bv (kx15 8)).toArray),(1,.bool true),(2,.bool true)]=some (LRole.mk (kx15 8) true true).cells.toArray:=by kernel_rfl
theorem Xoe:Tryd.prog.built 82 [(0,.agg (bv (kx15 9)).toArray),(2,.bool true)]=some (LRole.mk (kx15 9) false true).cells.toArray:=by kernel_rfl
theorem Xk8:Tryd.prog.built 82 [(0,.agg (bv k0).toArray)]=some (LRole.mk k0 false false).cells.toArray:=by kernel_rfl
theorem Xkj:Tryd.prog.built 46 [(0,.int .u64 400000),(2,.int .i64 (-1))]=some ([.int .u64 400000,.int .u64 0,.int .i64 (-1)]:List Value).toArray:=by kernel_rfl
def zrdC:List Value:=zYRaw.cells zReady
theorem Xmf:(Tryd.prog.info? 48).map (·.zero)=some (some (.agg zrdC.toArray)):=by kernel_rfl
theorem Xo4:(Tryd.prog.info? 108).map (·.zero)=some (some (.agg (insC 0 none 0 0 none 0 0).toArray)):=by kernel_rfl
def roC15x:List Value:=(LRole.mk (kx15 8) true true).cells++((LRole.mk (kx15 9) false true).cells++(LRole.mk k0 false false).cells)
theorem Xlu:∀r ∈ ro15x,RoleOk r:=by
 intro r hr;simp only[ro15x,List.mem_cons,List.not_mem_nil,or_false]at hr;rcases hr with rfl | rfl | rfl
 ·exact Xeo (by omega)
 ·exact Xeo (by omega)
 ·exact⟨rfl,fun z hz=>by rw[List.eq_of_mem_replicate (show z ∈ List.replicate 32 0 from hz)];exact⟨by decide,by decide⟩⟩
theorem Xgk:(Tryd.prog.info? 108).map (fun i=>(i.zero,i.size,i.bytes))=some (some (.agg (insC 0 none 0 0 none 0 0).toArray),3,56):=by kernel_rfl
theorem Xi5:(Value.agg (insC 0 none 0 0 none 0 0).toArray).cells.size=3:=by kernel_rfl
theorem zszRx:(Value.agg r0.cells.toArray).cells.size=34:=by kernel_rfl
theorem Xc3{P:Program}{o:Oper}{a:Act}{w:World}{K:Act→World→Prop}{Q:Exit→Act→World→Prop}(t e:TypeId)(y y' y2:Operand)(ho:o.op=.buildSlice t 3 #[(0,y),(1,y'),(2,y2)])
 (cs cs' cs2:List Value) (z:Value) (size bytes:Nat) (hu:P.underlying t=some (.slice e)) (hi:(P.info? e).map (fun i=>(i.zero,i.size,i.bytes))=some (some z,size,bytes)) (hzs:z.cells.size=size) (hs0:0<size) (hs1:size≤1000)
 (hcs:cs.length=size) (hcs':cs'.length=size) (hcs2:cs2.length=size) (hy:a.eval y=.agg cs.toArray) (hy':a.eval y'=.agg cs'.toArray) (hy2:a.eval y2=.agg cs2.toArray)
 (h:K (a.put o.dst (.slice (some ⟨w.heap.size,0,none⟩) 3 3)) (w.alloc (.cells (cs++(cs'++cs2)).toArray e))):o.wp P a w K Q:=by
 obtain⟨ie,hie,h1,h2,_⟩:=info_parts hi;subst h2;refine wp_buildSlice t e 3 _ ho (cs++(cs'++cs2)).toArray ie z hu hie h1 (by omega) (by omega) ?_ h;have:=Go.Great.fill_whole (s:=ie.size) hs0 [Value.agg cs.toArray,Value.agg cs'.toArray,Value.agg cs2.toArray] ((Array.range (3*ie.size)).map (z.cells[· % z.cells.size]!)) (by simp[Value.cells,hcs,hcs',hcs2]) (by simp);simpa [hy,hy',hy2,Value.cells]using this
def ac15x(c:Int):LAcc:=⟨c,k0,0⟩
theorem Xlt{c:Int}(h:0≤c∧c<18446744073709551616):AccOk (ac15x c):=⟨h,Xaw,by show(0:Int)≤0∧(0:Int)<18446744073709551616;decide⟩
theorem Xnh(c:Int):Tryd.prog.built 72 [(0,.int .u64 c)]=some (ac15x c).cells.toArray:=by kernel_rfl
def st15x:List LHold:=[⟨kx15 8,ac15x 20000⟩]
theorem put15x:putH [] (kx15 8) (ac15x 20000)=st15x:=by kernel_rfl
structure LX15(w V:World)(g1 g2:Nat):Prop where
 b:Below w.heap.size w V
 r1:Row V g1 68 (bv (kx15 8))
 r2:Row V g2 68 (bv (kx15 9))
 lo:w.heap.size≤g1∧w.heap.size≤g2
theorem LX15.below{w V V':World}{g1 g2:Nat}(m:LX15 w V g1 g2)(hb:Below V.heap.size V V'):LX15 w V' g1 g2:=⟨m.b.trans (hb.mono m.b.size),m.r1.below hb m.r1.lt,m.r2.below hb m.r2.lt,m.lo⟩
theorem Xif{w V V':World}{mb:Nat}(hg:V.grownBy V' (some mb))(hb:Below w.heap.size w V)(hm:w.heap.size≤mb):Below w.heap.size w V':=hb.grown hg hb.size (fun k hk=>by cases hk;exact hm)
theorem LX15.grown{w V V':World}{g1 g2 mb:Nat}(m:LX15 w V g1 g2)(hg:V.grownBy V' (some mb))(hm:w.heap.size≤mb)(h1:g1≠mb)(h2:g2≠mb):LX15 w V' g1 g2:=
 ⟨Xif hg m.b hm,m.r1.grown hg (fun e=>h1 (by injection e)),m.r2.grown hg (fun e=>h2 (by injection e)),m.lo⟩
theorem Xlj{w:World}{base g cap n:Nat}{rest:List Value}{out:List LAcc}(h:OutAt w base g cap n rest out):AccsIn w w.heap.size (some ⟨g,0,none⟩) n out:=h.done.accs h.len.symm
structure RdP16(q:YRaw)(x:LReady):Prop where
 f:RdF16 x
 pb:∀a ∈ x.tx.m.ins,IsByte a.p
 u:0≤x.u∧x.u<18446744073709551616
 sm:q.t.q.n≤65535∧∀a ∈ x.tx.m.ins,a.acc.length≤65535
 rn:q.rn≤300
def ApDone16(w:World)(sb mb:Nat)(R:(LOut × Int) × List LHold)(e:Ending)(w':World):Prop:=
 ∃A c,e=.returned (.tuple #[.agg (R.1.1.cells (.slice A R.1.1.ch.length R.1.1.ch.length)).toArray,.int .i64 R.1.2])∧w'.ownsRow w.heap.size 78 66 (.slice A R.1.1.ch.length c) R.1.1.ch.length (holC R.1.1.ch)∧StIn w' sb mb R.2∧w.grownBy w' (some mb)
theorem Xm4{w w':World}{sb mb:Nat}{L:List LHold}{x:LReady}{e:Int}(h:apply16 L x=((out0,e),L))(hs:StIn w' sb mb L)(hg:w.grownBy w' (some mb)):ApDone16 w sb mb (apply16 L x) (.returned (.tuple #[.agg (out0.cells (.slice none 0 0)).toArray,.int .i64 e])) w':=by
 rw[h];exact⟨none,0,rfl,Xcg _ _ _ _,hs,hg⟩
theorem Xh7{w:World}{base c:Nat}{A:Option Addr}{L:List LHold}(h:w.ownsRow base 78 66 (.slice A L.length c) L.length (holC L))(ho:∀x ∈ L,HoldOk x):CsIn 66 w w.heap.size A L.length (L.map LHold.cells):=by
 obtain⟨A',c',e,h2,_⟩:=Xan h;injection e with e _ _
 subst e;exact⟨by rw[List.length_map],fun k hk=>by obtain⟨y,hy,rfl⟩:=List.mem_map.1 hk;exact Xch (ho y hy).k.1 (ho y hy).a.o.1,h2⟩
theorem Xfb{q:YRaw}{x:LReady}(h:x.tx.m.recent.length=32):(Tryd.prog.info? 48).map (·.size)=some (q.cells x).length:=by rw[Xbv h];kernel_rfl
theorem Xsz(sb mb:Nat)(L:List LHold)(q:YRaw)(x:LReady)(B:Nat)(w:World)(hs:StIn w sb mb L)(h:ReadyIn w B q x)(hp:RdP16 q x)(hB:B≤w.heap.size)(hL:L.length+q.rn≤5000)(ht:TypAt w) :
 Calls Tryd.prog 19 #[.pointer (some ⟨sb,0,none⟩),.agg (q.cells x).toArray] w (ApDone16 w sb mb (apply16 L x)):=by
 have HP:=Hd hp;have HB:=Hd hB;have HL:=Hd hL;have H32:=Hd h.tx.m.recent;have HRL:=Hd h.rs.len;have HSO:=Hd hs.sto;have hbw:=((Br w.heap.size w).alloc (Lr _) (.cells (q.cells x).toArray 48)).alloc (by simp) (.cells (out0.cells (.slice none 0 0)).toArray 60);have R3:=Hd ((Row.new w 48 (q.cells x)).alloc (.cells (out0.cells (.slice none 0 0)).toArray 60));have R4:=Hd (Row.new' (w.alloc (.cells (q.cells x).toArray 48)) 60 (out0.cells (.slice none 0 0)) (g:=w.heap.size+1) (by simp));have B0:=Hd hbw;have HST:=Hd (fun(V:World) (hb:Below w.heap.size w V)=>hs.below hb);have HRD:=Hd (fun(V:World) (hb:Below w.heap.size w V)=>h.below (hb.mono hB));have HTY:=Hd (fun(V:World) (hb:Below w.heap.size w V)=>ht.below hb ht.pos);clear hbw h hp hs ht hB hL;obtain⟨g4,hg4⟩:∃g,g=w.heap.size+1:=⟨_,rfl⟩;have HG4:Hid ((w.alloc (.cells (q.cells x).toArray 48)).heap.size=g4):=Hd (by rw[hg4];simp);have HG42:Hid (w.heap.size+1=g4):=Hd hg4.symm;obtain⟨g3,hg3⟩:∃g,g=w.heap.size:=⟨_,rfl⟩;have HG3:Hid (w.heap.size=g3):=Hd hg3.symm;rw[←hg4]at R4;rw[←hg3]at R3;have HGL:Hid (w.heap.size≤g3∧w.heap.size≤g4∧g3≠g4):=Hd (by omega);clear hg3 hg4;have R4':Hid (Row ((w.alloc (.cells (q.cells x).toArray 48)).alloc (.cells (out0.cells (.slice none 0 0)).toArray 60)) g4 60 (out0.cells (.slice none 0 0))):=Hd R4.out;clear R4;generalize hW0:w.alloc (.cells (q.cells x).toArray 48)=W0 at *;generalize hW:W0.alloc (.cells (out0.cells (.slice none 0 0)).toArray 60)=W at *;have HW0:=Hd hW0;have HW:=Hd hW;clear hW hW0;go_enter Tryd.func19,Tryd.ntmps19
 go_upto_region 1 with((with_reducible show wpList _ _ _ (⟨some 4,_,_,_,_,_⟩::_) _ _);go_must(refine Xa2 rfl 60 rfl (out0.cells (.slice none 0 0)) Xbh ?_))
 rw[HW0.out];rw[HW.out];try rw[HG4.out]
 try rw[HG42.out]
 try rw[HG3.out]
 clear HG3 HG4 HG42 HW0 HW;go_wp2_with ((with_reducible show wpList _ _ _ (⟨some 11,_,_,_,_,_⟩::_) _ _);go_must(refine Xa3 rfl 48 (.tmp 3) rfl g3 _ (q.cells x) _ Tryd.underlying48 rfl (Xfb H32.out) R3.out ?_ ?_;go_simp))
 refine(loadC sb mb L q x B W (HST.out W B0.out) (HRD.out W B0.out) (Lq HB.out B0.out.size) (by have:=HP.out.rn;omega) (fun r hr=>(HP.out.f.key r hr).2) HP.out.f.fee).mono ?_;rintro e w1 ⟨hb1,hcs⟩;have B1:=Hd (B0.out.trans (hb1.mono B0.out.size));have R31:=Hd (R3.out.below hb1 R3.out.lt);have R41:=Hd (R4'.out.below hb1 R4'.out.lt);clear hb1 R3 R4' B0;rcases hcs with⟨hpay,rfl⟩ | ⟨hpay,gl,cap,rest,rfl,hol⟩
 ·have HAP:Hid (apply16 L x=((out0,22),L)):=Hd (by unfold apply16;rw[if_neg (by rw[hpay];decide)]);clear hpay;go_wp2_with (first
   | ((with_reducible show wpList _ _ _ (⟨some 17,_,_,_,_,_⟩::_) _ _);go_must(refine wpList_plain rfl fun K hK=>Xau _ _ _ rfl (by simp only[List.map_toArray,List.map_nil];exact Xec) (hK _ _ ?_)))
   | ((with_reducible show wpList _ _ _ (⟨none,Op.store 60 (.tmp 4) _,_,_,_,_⟩::_) _ _);go_must(refine Xai rfl 60 (.tmp 4) (.tmp 17) rfl g4 (out0.cells (.slice none 0 0)) (out0.cells (.slice none 0 0)) R41.out (Xag _ _) rfl (Xbe _ rfl) ?_ ?_ ?_;go_simp;go_simp;intro w5 hr5 ht5)))
  have R5:=Hd hr5;have B5:=Hd (B1.out.trans (ht5.below HGL.out.2.1));clear hr5 ht5;refine bodyPost_ret (Xaj (h:=rfl) _ w5 ⟨g4,0,none⟩ _ _ (by rfl) (by rfl) (run_loadVar_row w5 g4 60 60 (out0.cells (.slice none 0 0)).toArray (0,0) _ R5.out.is Tryd.underlying60 rfl (by rw[List.size_toArray];exact Xag _ _))) rfl ?_;exact Xm4 HAP.out (HST.out _ B5.out) (gb_of _ B5.out)
 have HPY:=Hd hpay;have OL:=Hd hol;have HRC:=Hd (runC q x B (some ⟨gl,0,none⟩) x.roles.length x.roles.length (load15 L x) w1);clear hpay hol;have HRC2:Hid (Calls Tryd.prog 11 #[.agg (q.cells x).toArray,.slice (some ⟨gl,0,none⟩) x.roles.length x.roles.length] w1 (RunDoneC w1 (run15 x (load15 L x)))):=Hd (runC q x w1.heap.size (some ⟨gl,0,none⟩) x.roles.length x.roles.length (load15 L x) w1 ((HRD.out w1 B1.out).more (Lq HB.out B1.out.size)) (Xlj OL.out) ⟨Lr _,by have h1:=HRL.out;have h2:=HP.out.rn;unfold maxLen;omega⟩ (Lr _) (by have h1:=HRL.out;have h2:=HP.out.rn;omega) HP.out.pb HP.out.f.ins HP.out.u HP.out.sm (HTY.out w1 B1.out));clear HRC OL;have HCH:Hid (∀h ∈ (run15 x (load15 L x)).1.ch,HoldOk h):=Hd (Xfa HP.out.f.key (Xdm HSO.out HPY.out HP.out.f) HP.out.f.ins).ok;have HCL:Hid ((run15 x (load15 L x)).1.ch.length≤q.rn):=Hd (by have:=(Xfa HP.out.f.key (Xdm HSO.out HPY.out HP.out.f) HP.out.f.ins).len;rwa [HRL.out]at this);have HE:=Hd (Xu4 x (load15 L x));have HAP1:Hid ((run15 x (load15 L x)).2=0→apply16 L x=(((run15 x (load15 L x)).1,0),commit16 L (run15 x (load15 L x)).1.ch)):=Hd fun h=>by unfold apply16;rw[if_pos HPY.out,if_pos h]
 have HAP2:Hid ((run15 x (load15 L x)).2≠0→apply16 L x=((out0,1),L)):=Hd fun h=>by unfold apply16;rw[if_pos HPY.out,if_neg h]
 clear HPY HRL;generalize run15 x (load15 L x)=R at *;obtain⟨o,er⟩:=R;go_wp2_with ((with_reducible show wpList _ _ _ (⟨some 20,_,_,_,_,_⟩::_) _ _);go_must(refine Xa3 rfl 48 (.tmp 3) rfl g3 _ (q.cells x) _ Tryd.underlying48 rfl (Xfb H32.out) R31.out ?_ ?_;go_simp))
 refine HRC2.out.mono ?_;rintro e w2 ⟨A,c,rfl,hox,hb2⟩;have B2:=Hd (B1.out.trans (hb2.mono B1.out.size));have R42:=Hd (R41.out.below hb2 R41.out.lt);have OX2:=Hd hox;have HLW1:=Hd B1.out.size;clear hb2 hox R41 R31 B1 HRC2;go_upto_region 5 with(first
  | ((with_reducible show wpList _ _ _ (⟨some 8,_,_,_,_,_⟩::_) _ _);go_must(refine Xa2 rfl 60 rfl (out0.cells (.slice none 0 0)) Xbh ?_))
  | ((with_reducible show wpList _ _ _ (⟨none,Op.store 60 (.tmp 8) _,_,_,_,_⟩::_) _ _);go_must(refine Xa6 rfl 60 (.tmp 8) (.tmp 23) rfl (o.cells (.slice A o.ch.length o.ch.length)) (Xag _ _) (Xbe _ rfl) rfl ?_ ?_ ?_;go_simp;go_simp;intro w6 hr6 hb6 hz6)))
 have R8:=Hd hr6;have B6:=Hd (B2.out.trans (hb6.mono B2.out.size));have R46:=Hd (R42.out.below hb6 R42.out.lt);have OX6:=Hd (Xaa OX2.out hb6);obtain⟨g8,hg8⟩:∃v,v=w2.heap.size:=⟨_,rfl⟩;have HG8:Hid (w.heap.size≤g8):=Hd (by rw[hg8];exact B2.out.size);rw[←hg8]at R8 ⊢;clear hr6 hb6 hz6 hg8 R42 B2 OX2;by_cases he:er=0
 ·subst he;have HAP:=Hd (HAP1.out rfl);clear HAP1 HAP2 HE;go_wp2_with ((with_reducible show wpList _ _ _ (⟨some 30,_,_,_,_,_⟩::_) _ _);go_must(refine Xa3 rfl 60 (.tmp 8) rfl g8 _ (o.cells (.slice A o.ch.length o.ch.length)) _ Tryd.underlying60 rfl (Xag _ _) R8.out ?_ ?_;go_simp))
  refine(Xqq sb mb L o A o.ch.length o.ch.length w6.heap.size w6 (HST.out _ B6.out) (Xh7 OX6.out HCH.out) (Lr _) HCH.out (by have h1:=HCL.out;have h2:=HL.out;omega)).mono ?_;rintro e w7 ⟨rfl,hs7,hg7⟩;have S7:=Hd hs7;have R87:=Hd (R8.out.grown hg7 (fun e=>(HST.out _ B6.out).row_ne R8.out (Option.some.inj e)));have R47:=Hd (R46.out.grown hg7 (fun e=>(HST.out _ B6.out).row_ne R46.out (Option.some.inj e)));have OX7:=Hd (OX6.out.kept hg7 ((HST.out _ B6.out).own_ne16 OX6.out));have G7:=Hd (Xcl (gb_of (some mb) B6.out) hg7);have HSM:Hid (∀g,sb≠g→mb≠g→∀V V',StIn V sb mb (commit16 L o.ch)→Turned V V' g→StIn V' sb mb (commit16 L o.ch)):=Hd fun g h1 h2 V V' h ht=>h.keep (ht.block sb h1) (ht.block mb h2)
  have HNE:Hid (sb≠g4∧mb≠g4):=Hd ⟨fun e=>by have h1:=(HST.out _ (Br _ _)).lt.1;have h2:=HGL.out;omega,fun e=>by have h1:=(HST.out _ (Br _ _)).lt.2;have h2:=HGL.out;omega⟩;clear hs7 hg7 R8 R46 OX6 B6;go_wp2_with (first
   | ((with_reducible show wpList _ _ _ (⟨some 32,_,_,_,_,_⟩::_) _ _);go_must(refine Xa3 rfl 60 (.tmp 8) rfl g8 _ (o.cells (.slice A o.ch.length o.ch.length)) _ Tryd.underlying60 rfl (Xag _ _) R87.out ?_ ?_;go_simp))
   | ((with_reducible show wpList _ _ _ (⟨none,Op.store 60 (.tmp 4) _,_,_,_,_⟩::_) _ _);go_must(refine Xai rfl 60 (.tmp 4) (.tmp 32) rfl g4 (out0.cells (.slice none 0 0)) (o.cells (.slice A o.ch.length o.ch.length)) R47.out (Xag _ _) rfl (Xbe _ rfl) ?_ ?_ ?_;go_simp;go_simp;intro w9 hr9 ht9)))
  have R9:=Hd hr9;have T9:=Hd ht9;clear hr9 ht9;refine bodyPost_ret (Xaj (h:=rfl) _ w9 ⟨g4,0,none⟩ _ _ (by rfl) (by rfl) (run_loadVar_row w9 g4 60 60 (o.cells (.slice A o.ch.length o.ch.length)).toArray (0,0) _ R9.out.is Tryd.underlying60 rfl (by rw[List.size_toArray];exact Xag _ _))) rfl ?_;rw[HAP.out];refine⟨A,c,rfl,Xc0 (Xa5 OX7.out R47.out (by decide) T9.out) HLW1.out,HSM.out g4 HNE.out.1 HNE.out.2 _ _ S7.out T9.out,Xe4 G7.out T9.out (.inl HGL.out.2.1)⟩
 ·have HAP:=Hd (HAP2.out he);obtain rfl:er=1:=by
   rcases HE.out with h | h
   ·exact absurd h he
   ·injection h
  clear HAP1 HAP2 HE he;go_wp2_with (first
   | ((with_reducible show wpList _ _ _ (⟨some 27,_,_,_,_,_⟩::_) _ _);go_must(refine wpList_plain rfl fun K hK=>Xau _ _ _ rfl (by simp only[List.map_toArray,List.map_nil];exact Xec) (hK _ _ ?_)))
   | ((with_reducible show wpList _ _ _ (⟨none,Op.store 60 (.tmp 4) _,_,_,_,_⟩::_) _ _);go_must(refine Xai rfl 60 (.tmp 4) (.tmp 27) rfl g4 (out0.cells (.slice none 0 0)) (out0.cells (.slice none 0 0)) R46.out (Xag _ _) rfl (Xbe _ rfl) ?_ ?_ ?_;go_simp;go_simp;intro w9 hr9 ht9)))
  have R9:=Hd hr9;have B9:=Hd (B6.out.trans (ht9.below HGL.out.2.1));clear hr9 ht9;refine bodyPost_ret (Xaj (h:=rfl) _ w9 ⟨g4,0,none⟩ _ _ (by rfl) (by rfl) (run_loadVar_row w9 g4 60 60 (out0.cells (.slice none 0 0)).toArray (0,0) _ R9.out.is Tryd.underlying60 rfl (by rw[List.size_toArray];exact Xag _ _))) rfl ?_;exact Xm4 HAP.out (HST.out _ B9.out) (gb_of _ B9.out)
open Go.RowKit Go.Shelf
def FW(ro:Option Nat):Fence:={ Fence.wide with round:=ro }
section
variable{ro:Option Nat}{n:Nat}{P:Program}{o:Oper}{a:Act}{w:World}{K:Act→World→Prop}{Q:Exit→Act→World→Prop}{ops:Array Oper}{rest:List Oper}
theorem Xt0(hd:∀c,o.op≠.defer c)(h:Oper.wp P o a w K Q):Oper.wpIn (FW ro) n P o a w K Q:=by
 refine⟨fun _ _=>trivial,?_⟩;rw[Oper.semAt_eq _ _ _ hd];unfold Oper.wp at h;generalize (execOp a.eval o).run P w=r at *;cases r with
 | ok x w' =>
  cases x with
  | value v=>exact h
  | skip=>exact h
  | defer d=>exact h
  | enter f args =>
   refine⟨fun e=>(by cases e),?_⟩;have h':=(callsIn_wide (n:=n - 1)).2 h;exact CallsIn.mono (F:=Fence.wide) h' (fun e w'' he=>by cases e <;> exact he)
  | row row args =>
   refine⟨fun e=>(by cases e),fun c cs _=>?_⟩;have h':Rows P row args w' _:=h;obtain⟨v,w'',r,s⟩:=h' c cs;exact⟨v,w'',r,stepsIn_wide.2 s⟩
  | _=>exact(h:False).elim
 | halt x w' =>
  cases x with
  | panic v=>exact h
  | _=>exact(h:False).elim
theorem Xm8(hd:∀c,o.op≠.defer c)(hQ:¬LetsOut Q)(h:∀K:Act→World→Prop,(∀a' w',wpListIn (FW ro) n P ops Q rest a' w'→K a' w')→wpList P ops (Exit.then K Q) [o] a w):wpListIn (FW ro) n P ops Q (o::rest) a w:=by
 have h:=h _ (fun _ _ h=>h);unfold wpList at h;unfold wpListIn;split
 ·rename_i hw
  rw[if_pos hw]at h;rcases h with h | ⟨_,a',w',h⟩
  ·exact Xt0 hd (K:=wpListIn (FW ro) n P ops Q rest) (by
    unfold Oper.wp at h ⊢;generalize (execOp a.eval o).run P w=r at *;cases r with
    | ok x w' =>
     cases x with
     | value v=>exact h
     | skip=>exact h
     | defer d=>exact h
     | enter f args =>
      have h':Calls P f args w' _:=h;refine h'.mono fun e w'' he=>?_
      cases e with
      | outgrown=>obtain⟨a1,w1,h1⟩:=he;exact⟨a1,w1,h1⟩
      | _=>exact he
     | row row args=>exact h
     | _=>exact(h:False).elim
    | halt x w'=>cases x <;> exact h)
  ·exact absurd ⟨a',w',h⟩ hQ
 ·rename_i hw
  rw[if_neg hw]at h;exact⟨fun _ _=>trivial,h⟩
theorem Xhg(hd:∀c,o.op≠.defer c)(hQ:¬LetsOut Q)(h:∀K:Act→World→Prop,(∀a' w',wpListIn Fence.wide n P ops Q rest a' w'→K a' w')→wpList P ops (Exit.then K Q) [o] a w):wpListIn Fence.wide n P ops Q (o::rest) a w:=Xm8 (ro:=none) hd hQ h
theorem Xk0{l:Nat}(hd:∀c,o.op≠.defer c)(hQ:¬LetsOut Q)(h:∀K:Act→World→Prop,(∀a' w',wpListIn (Fence.wide.inRound l) n P ops Q rest a' w'→K a' w')→wpList P ops (Exit.then K Q) [o] a w):wpListIn (Fence.wide.inRound l) n P ops Q (o::rest) a w:=Xm8 (ro:=some l) hd hQ h
theorem Xdu{md:Region.Mode}(hd:∀(i:Nat) (o:Oper),ops[i]?=some o→∀c,o.op≠.defer c)(hQ:¬LetsOut Q):∀(fuel:Nat) (listed:Array Bool) (a:Act) (w:World),wpAny P md ops Q fuel listed a w→wpAnyIn (FW ro) n P md ops Q fuel listed a w
 | 0,_,_,_,h=>h
 | fuel+1,listed,a,w,h=>⟨h.1,fun i hi=>by
  have h1:=h.2 i hi;unfold wpOp at h1;unfold wpOpIn;cases ho:ops[i]? with
  | none =>
   rw[ho]at h1;exact Xdu hd hQ fuel _ a w h1
  | some o =>
   rw[ho]at h1;dsimp only at h1 ⊢
   split
   ·rename_i hw
    rw[if_pos hw]at h1;rcases h1 with h1 | ⟨_,h1⟩
    ·exact Xt0 (hd i o ho) (by
      unfold Oper.wp at h1 ⊢;generalize (execOp a.eval o).run P w=r at *;cases r with
      | ok x w' =>
       cases x with
       | value v=>exact Xdu hd hQ fuel _ _ _ h1
       | skip=>exact Xdu hd hQ fuel _ _ _ h1
       | defer d=>exact Xdu hd hQ fuel _ _ _ h1
       | enter f args =>
        have h':Calls P f args w' _:=h1;refine h'.mono fun e w'' he=>?_
        cases e with
        | returned v=>exact Xdu hd hQ fuel _ _ _ he
        | _=>exact he
       | row row args =>
        have h':Rows P row args w' _:=h1;exact h'.mono fun v w'' he=>Xdu hd hQ fuel _ _ _ he
       | _=>exact(h1:False).elim
      | halt x w'=>cases x <;> exact h1)
    ·exact absurd h1 hQ
   ·rename_i hw
    rw[if_neg hw]at h1;exact⟨fun _ _=>trivial,Xdu hd hQ fuel _ _ _ h1⟩⟩
theorem Xmr{id:Nat}{L:List Oper}{S:World→Prop}(hm:P.follows .mixedOrders=true)(hd:∀o ∈ L,∀c,o.op≠.defer c)(hQ:¬LetsOut Q)
 (h:wpAnyH P .any L.toArray Q S L.toArray.size (Array.replicate L.toArray.size false) a w.drew):(Code.region id L.toArray true).wpIn (FW ro) n P Q a w:=
 wpIn_region_any hm (Xdu (fun i o ho=>hd o (by simpa using List.mem_of_getElem? (by simpa using ho))) hQ _ _ _ _ (wpAny_of_held _ _ _ _ h))
theorem Xl1{l id:Nat}{L:List Oper}{S:World→Prop}(hm:P.follows .mixedOrders=true)(hd:∀o ∈ L,∀c,o.op≠.defer c)(hQ:¬LetsOut Q)
 (h:wpAnyH P .any L.toArray Q S L.toArray.size (Array.replicate L.toArray.size false) a w.drew):(Code.region id L.toArray true).wpIn (Fence.wide.inRound l) n P Q a w:=Xmr (ro:=some l) hm hd hQ h
end
attribute [local go_sem] Oper.semAt_some
structure RdsIn(w:World)(B:Nat)(A:Option Addr)(n:Nat)(l:List (YRaw × LReady)):Prop where
 len:l.length=n
 each:∀(k:Nat) (p:YRaw × LReady),l[k]?=some p→ReadyIn w B p.1 p.2
 sees:∀(k:Nat) (p:YRaw × LReady),l[k]?=some p→∃a,A=some a∧a.block<B∧∀j u,(p.1.cells p.2)[j]?=some u→w.cell? ((a.add (k*48)).add j)=some u
theorem RdsIn.keep{w w':World}{B n:Nat}{A:Option Addr}{l:List (YRaw × LReady)}(h:RdsIn w B A n l)(hk:∀p:Addr,p.block<B→w'.cell? p=w.cell? p):RdsIn w' B A n l:=
 ⟨h.len,fun k p hp=>(h.each k p hp).keep hk,fun k p hp=>by
  obtain⟨a,e,hb,hc⟩:=h.sees k p hp;exact⟨a,e,hb,fun j u hu=>(hk _ (by rw[Xab,Xab];exact hb)).trans (hc j u hu)⟩⟩
theorem RdsIn.below{w w':World}{B n:Nat}{A:Option Addr}{l:List (YRaw × LReady)}(h:RdsIn w B A n l)(hb:Below B w w'):RdsIn w' B A n l:=h.keep fun _ hp=>hb.cell hp
def sto16(L:List LHold)(l:List (YRaw × LReady))(k:Nat):List LHold:=(fold16 ((l.take k).map (·.2)) ⟨[],0,0,L⟩).L
structure FK16 where
 b4:Nat
 b5:Nat
 b6:Nat
 bl:Nat
 bs:Nat
 sb:Nat
 mb:Nat
 ln:Nat
 lc:Nat
 LA:Option Addr
theorem Xs7{q:YRaw}{x:LReady}:∀u ∈ q.cells x,u.oneCell'=true:=Xfu
theorem Xp1(sb ln lc:Nat)(LA:Option Addr)(w:World):Calls Tryd.prog 27 #[.pointer (some ⟨sb,0,none⟩),.slice LA ln lc] w fun e w' =>
 e=.returned (.func (.func 40) #[] #[.pointer (some ⟨w.heap.size+1,0,none⟩),.pointer (some ⟨w.heap.size,0,none⟩)])∧w'=(w.alloc (.cells #[.pointer (some ⟨sb,0,none⟩)] 26)).alloc (.cells #[.slice LA ln lc] 23):=by
 go_enter Tryd.func27,Tryd.ntmps27
 go_wp2;go_ret;exact⟨rfl,rfl⟩
theorem iter16(m n:Nat)(hn:2≤n)(hm:m=n - 1)(T:FK16)(B lp:Nat)(l:List (YRaw × LReady))(L0:List LHold)(w0 W:World)(hl:RdsIn w0 B T.LA T.ln l)(hB:B≤w0.heap.size)(hp:∀(k:Nat) (p:YRaw × LReady),l[k]?=some p→RdP16 p.1 p.2)
 (hlc:T.ln≤T.lc) (hln:T.ln≤100000) (hs0:StIn w0 T.sb T.mb L0) (hty:TypAt w0) (hlen:∀(k:Nat) (p:YRaw × LReady),l[k]?=some p→(sto16 L0 l k).length+p.1.rn≤5000)
 (J:Nat→World→Prop) (Jx:World→Prop)
 (hJ:∀k V,J k V→w0.grownBy V (some T.mb)∧StIn V T.sb T.mb (sto16 L0 l k)∧Row V T.bl 23 [.slice T.LA T.ln T.lc]∧Row V T.bs 26 [.pointer (some ⟨T.sb,0,none⟩)])
 (hJb:∀k V V',J k V→Below V.heap.size V V'→J k V')
 (hY:∀(k:Nat) (p:YRaw × LReady) (V V':World) (A:Option Addr) (c:Nat),l[k]?=some p→J k V →
   V'.ownsRow V.heap.size 78 66 (.slice A (apply16 (sto16 L0 l k) p.2).1.1.ch.length c) (apply16 (sto16 L0 l k) p.2).1.1.ch.length (holC (apply16 (sto16 L0 l k) p.2).1.1.ch)→StIn V' T.sb T.mb (apply16 (sto16 L0 l k) p.2).2→V.grownBy V' (some T.mb) →
   YieldAt Fence.wide m Tryd.prog lp #[.agg ((apply16 (sto16 L0 l k) p.2).1.1.cells (.slice A (apply16 (sto16 L0 l k) p.2).1.1.ch.length (apply16 (sto16 L0 l k) p.2).1.1.ch.length)).toArray,.int .i64 (apply16 (sto16 L0 l k) p.2).1.2] V'
    (fun e W'=>(e=.returned (.bool true)∧J (k+1) W')∨(e=.returned (.bool false)∧Jx W')))
 (h0:J 0 W) :
 CallsIn Fence.wide n Tryd.prog 40 #[.func (.yield lp) #[] #[],.pointer (some ⟨T.bl,0,none⟩),.pointer (some ⟨T.bs,0,none⟩)] W fun e W'=>(∃v,e=.returned v)∧(J T.ln W'∨Jx W'):=by
 have HL:=Hd hl;have HB:=Hd hB;have HP:=Hd hp;have HS0:=Hd hs0;have HTY:=Hd hty;have HLEN:=Hd hlen;have HJ:=Hd hJ;have HJB:=Hd hJb;have HY:=Hd hY;have H0:=Hd h0;clear hl hB hp hs0 hty hlen hJ hJb hY h0;subst hm;refine callsIn_of_wp Tryd.func40 rfl trivial ?_ rfl;simp only[Tryd.ntmps40,List.size_toArray,List.length_cons,List.length_nil,Nat.reduceAdd,Nat.reduceSub,Array.replicate_succ,Array.replicate_zero,List.push_toArray,List.append_toArray,List.nil_append,List.cons_append];have cl:W.cell? ⟨T.bl,0,none⟩=some (.slice T.LA T.ln T.lc):=(HJ.out 0 W H0.out).2.2.1.cell 0;gi_wp2_with fail
 clear cl;gi_loopw [8] (fun i wr=>∃k:Nat,k≤T.ln∧i=.int .i64 k∧J k wr) (fun i _=>T.ln - (intOf i).toNat)
 case atStart=>exact⟨0,Nat.zero_le _,rfl,H0.out⟩
 case round =>
  obtain⟨k,hk,rfl,hj⟩:=hrel;have JW:=Hd hj;clear hj H0;by_cases hlt:k<T.ln
  ·have hlt':(k:Int)<T.ln:=by omega
   obtain⟨p,hpk⟩:∃p,l[k]?=some p:=⟨_,List.getElem?_eq_getElem (by rw[HL.out.len];exact hlt)⟩;have HPK:=Hd hpk;obtain⟨hg,hst,hrl,hrs⟩:=HJ.out k wr JW.out;have KP:Hid (∀p:Addr,p.block<B→wr.cell? p=w0.cell? p):=Hd (Xg3 HS0.out hst hg HB.out);have HBW:Hid (B≤wr.heap.size):=Hd (Lq HB.out hg.size);have hty:=HTY.out;have TY:Hid (TypAt wr):=Hd (hty.keep (Xg3 HS0.out hst hg (Lr _)) hty.pos);obtain⟨a,ea,hab,hcs⟩:=(HL.out.keep KP.out).sees k p hpk;have RI:Hid (ReadyIn wr B p.1 p.2):=Hd ((HL.out.keep KP.out).each k p hpk);have PP:=Hd (HP.out k p hpk);have LE:=Hd (HLEN.out k p hpk);have HY1:=Hd (HY.out k p);have HCX:=Hd hcs;rw[ea];have HSZ:=Hd (Xfb (q:=p.1) RI.out.tx.m.recent);have HLL:=Hd (Xbv (q:=p.1) RI.out.tx.m.recent);have HONE:=Hd (Xs7 (q:=p.1) (x:=p.2));have ST:=Hd hst;have RS:=Hd hrs;clear hg hst hrl hrs hty hcs hab hpk ea;generalize hap:apply16 (sto16 L0 l k) p.2=R at *;have HAP:=Hd hap;clear hap;gi_wp2_with (first
    | ((with_reducible show wpListIn _ _ _ _ _ (⟨some 11,_,_,_,_,_⟩::_) _ _);go_must(refine Xhg (fun _ e=>by cases e) (by rintro⟨a0,w0,h⟩;obtain⟨⟨v,e⟩,_⟩:=h;cases e) fun K hK=>?_;refine Xa9 rfl 48 (.tmp 10) rfl (a.add (k*48)) (p.1.cells p.2) _ Tryd.underlying48 rfl HSZ.out HCX.out ?_ ?_;go_simp;refine hK _ _ ?_))
    | ((with_reducible show wpListIn _ _ _ _ _ (⟨none,Op.store 48 (.tmp 5) _,_,_,_,_⟩::_) _ _);go_must(refine Xhg (fun _ e=>by cases e) (by rintro⟨a0,w0,h⟩;obtain⟨⟨v,e⟩,_⟩:=h;cases e) fun K hK=>?_;refine Xa6 rfl 48 (.tmp 5) (.tmp 11) rfl (p.1.cells p.2) HSZ.out HONE.out (by rw[HLL.out];rfl) ?_ ?_ ?_;go_simp;go_simp;intro w8 hr8 hb8 hz8;refine hK _ _ ?_;have cs8:w8.cell? ⟨T.bs,0,none⟩=some (.pointer (some ⟨T.sb,0,none⟩)):=(RS.out.below hb8 RS.out.lt).cell 0))
    | ((with_reducible show wpListIn _ _ _ _ _ (⟨some 14,_,_,_,_,_⟩::_) _ _);go_must(refine Xhg (fun _ e=>by cases e) (by rintro⟨a0,w0,h⟩;obtain⟨⟨v,e⟩,_⟩:=h;cases e) fun K hK=>?_;refine Xa3 rfl 48 (.tmp 5) rfl wr.heap.size _ (p.1.cells p.2) _ Tryd.underlying48 rfl HSZ.out hr8 ?_ ?_;go_simp;refine hK _ _ ?_)))
   have R8:=Hd hr8;have ST8:=Hd (ST.out.below hb8);have RS8:=Hd (RS.out.below hb8 RS.out.lt);have J8:=Hd (HJB.out k _ _ JW.out hb8);have RI8:Hid (ReadyIn w8 B p.1 p.2):=Hd (RI.out.below (hb8.mono HBW.out));have TY8:Hid (TypAt w8):=Hd (TY.out.below hb8 TY.out.pos);have HB8:Hid (B≤w8.heap.size):=Hd (Lq HBW.out hb8.size);clear hr8 hb8 hz8 ST RS JW;have HAC:=Hd (Xsz T.sb T.mb (sto16 L0 l k) p.1 p.2 B w8 ST8.out RI8.out PP.out HB8.out LE.out TY8.out);rw[HAP.out]at HAC;clear HAP;refine⟨trivial,fun _=>by omega,(callsIn_wide.2 HAC.out).mono ?_⟩;rintro e w9 ⟨A,c,rfl,ho9,hs9,hg9⟩;obtain⟨f9,t9,a9,b9,hy9,hR9⟩:=HY1.out w8 w9 A c HPK.out J8.out ho9 hs9 hg9;clear ho9 hs9 hg9 J8 cs8 HAC;gi_wp2_with fail
   refine⟨fun _=>by omega,hR9.mono ?_⟩;rintro e w10 (⟨rfl,hj10⟩ | ⟨rfl,hx10⟩)
   ·have J10:=Hd hj10;clear hj10 hy9 hR9;gi_wp2_with fail
    go_roundw
    case rel=>exact⟨k+1,by omega,by go_num,J10.out⟩
    case measure=>simp[intOf];omega
   ·have X10:=Hd hx10;clear hx10 hy9 hR9;gi_wp2_with fail
    refine bodyPost_ret (results_none rfl _ _ _) rfl ?_;exact⟨⟨_,rfl⟩,.inr X10.out⟩
  ·have hke:k=T.ln:=by omega
   have hlt':¬(k:Int)<T.ln:=by omega
   rw[hke]at JW;gi_wp2_with fail
   go_end0
   exact⟨⟨_,rfl⟩,.inl JW.out⟩
end Go.Proofs.YtkhcgclnmdgpbaaDoor
