import Derived.Test.YtdgbodljmdcagaaGreatDoorQ15
set_option maxRecDepth 100000
set_option maxHeartbeats 16000000
set_option linter.unusedSimpArgs false
set_option linter.unusedVariables false
namespace Go.Proofs.YtdgbodljmdcagaaGreatDoor
open Go.RowKit
structure But11(g:Nat)(w V:World):Prop where
 size:w.heap.size≤V.heap.size
 block:∀k,k<w.heap.size→k≠g→V.heap[k]?=w.heap[k]?
theorem But11.refl(g:Nat)(w:World):But11 g w w:=⟨Lr _,fun _ _ _=>rfl⟩
theorem But11.below{g B:Nat}{w V V':World}(h:But11 g w V)(hb:Below B V V')(hB:w.heap.size≤B):But11 g w V':=⟨Lq h.size hb.size,fun k hk hn=>(hb.block k (Nat.lt_of_lt_of_le hk hB)).trans (h.block k hk hn)⟩
theorem But11.turned{g:Nat}{w V V':World}(h:But11 g w V)(ht:Turned V V' g):But11 g w V':=⟨by rw[ht.size];exact h.size,fun k hk hn=>(ht.block k hn).trans (h.block k hk hn)⟩
theorem But11.drew{g:Nat}{w V:World}(h:But11 g w V):But11 g w V.drew:=⟨h.size,h.block⟩
def Low11(g K:Nat)(C:List Value)(V:World):Prop:=∀j v,j<K→C[j]?=some v→V.cell? ⟨g,j,none⟩=some v
theorem Low11.row{g K t:Nat}{C:List Value}{V:World}(h:Row V g t C):Low11 g K C V:=fun j v _ hv=>(h.cell j).trans hv
def YRaw.pre(q:YRaw)(x:LReady):List Value:=.slice q.BA q.bn q.bc::(q.t.cells x.tx++[.slice q.RA q.rn q.rc])
theorem Xb5(q:YRaw)(x:LReady):q.cells x=q.pre x++x.last:=by simp[YRaw.cells,YRaw.pre]
theorem Xf6{q:YRaw}{x:LReady}(h:x.tx.m.recent.length=32):(q.pre x).length=42:=by simp[YRaw.pre,Xac h]
def told11(x:LReady):LReady:=⟨x.bytes,x.tx,x.roles,xU x.tx,xP x.tx,xBad x.tx,xFee x.tx,xCost x.tx x.roles,xPri x.tx x.roles⟩
theorem Xp2{q:YRaw}{x:LReady}(h:x.tx.m.recent.length=32)(a b c:Int):(q.cells x).take 42++[.int .u64 a,.int .u64 b,.int .i64 c]++(q.cells x).drop (42+[Value.int .u64 a,.int .u64 b,.int .i64 c].length)=q.cells { x with u:=a,p:=b,bad:=c }:=by
 rw[Xb5,Xb5,List.take_left' (Xf6 h),←List.drop_drop,List.drop_left' (Xf6 h)];simp[LReady.last,YRaw.pre]
theorem Xdb{q:YRaw}{x:LReady}(h:x.tx.m.recent.length=32)(i:Nat)(v:Value):(q.cells x).set (42+i) v=q.pre x++x.last.set i v:=by
 rw[Xb5,List.set_append_right _ _ (by rw[Xf6 h];omega),Xf6 h];congr 2
 omega
theorem Xb1{q:YRaw}{x:LReady}(h:x.tx.m.recent.length=32)(i:Nat):(q.cells x)[42+i]?=x.last[i]?:=by
 rw[Xb5,List.getElem?_append_right (by rw[Xf6 h];omega),Xf6 h];congr 1
 omega
theorem Xop(g:Nat)(q:YRaw)(x:LReady)(w:World)(hr:Row w g 48 (q.cells x))(hre:x.tx.m.recent.length=32)(few:Few11 x.tx)(hw:x.tx.Wf)(hrn:x.roles.length≤70000)
 (hin:∀V,But11 g w V→TxIn V V.heap.size q.t x.tx∧RolesIn V V.heap.size q.RA q.rn x.roles∧LenAt V) :
 Calls Tryz.prog 43 #[.pointer (some ⟨g,0,none⟩)] w fun e w'=>e=.returned (.tuple #[])∧Row w' g 48 (q.cells (told11 x))∧But11 g w w'∧Below g w w':=by
 obtain⟨i1,i2,i3⟩:=hin w (But11.refl _ _);have hsl:=i1.sigs.len;have hil:=i1.m.ins.len;have hrl:=i2.len;have HGL:=Hd hr.lt;have HW:=Hd (fun(V:World) (hb:But11 g w V)=>Xuz q.RA q.rn q.rc V.heap.size x.roles V (hin V hb).2.1 (Lr _) (by omega));have HBU:=Hd (fun(V:World) (hb:But11 g w V)=>ofB_ q.t.q x.tx.m V.heap.size V (hin V hb).1.m (Lr _) (fun i hi=>⟨(hw.m.ins i hi).1,(hw.m.ins i hi).2.2⟩) (by have:=few.ins;omega) (hin V hb).2.2);have hu:=few.uw;have hp:=few.p;have HFE:=Hd (fun(V:World)=>fee_ (x.tx.sigs.length:Int) (xU x.tx) (xP x.tx) (xBad x.tx) V (by have:=few.sigs;omega) (by have:=few.sigs;omega) hu hp);have HCO:=Hd (fun(V:World) (hb:But11 g w V)=>cost_ (q.t.cells x.tx) x.tx.sigs.length q.t.q.n q.t.SA q.t.q.IA q.t.sc q.t.q.ic V.heap.size x.tx.m.ins ((wrK x.roles).length:Int) (xU x.tx) V (Xac hre) (by rw[hsl];rfl) ((Xc1 37).trans (Xds hre)) (hin V hb).1.m.ins (Lr _) (by have:=few.sigs;omega) (by have:=few.ins;omega) (by have:=few.dat;omega) (by omega) (by have:=Xkx x.roles;omega) hu);have HPR:=Hd (fun(V:World)=>pri_ (x.tx.sigs.length:Int) (xU x.tx) (xP x.tx) (xBad x.tx) (xCost x.tx x.roles) V (by have:=few.sigs;omega) (by have:=few.sigs;omega) hu hp (few.cost _ hrn));have E1:Hid (bud8 (all8 x.tx.m.keys x.tx.m.ins)=[.int .u64 (xU x.tx),.int .u64 (xP x.tx),.int .i64 (xBad x.tx)]):=Hd rfl;have E2:Hid (cost9 x.tx.sigs.length (dat9 x.tx.m.ins) ((wrK x.roles).length:Int) (xU x.tx)=xCost x.tx x.roles):=Hd rfl;have E3:Hid (fee10 (x.tx.sigs.length:Int) (xP x.tx) (xU x.tx)=xFee x.tx):=Hd rfl;have E4:Hid (pri10 (x.tx.sigs.length:Int) (xP x.tx) (xU x.tx) (xCost x.tx x.roles)=xPri x.tx x.roles):=Hd rfl;rw[E1.out]at HBU;rw[E2.out]at HCO;rw[E3.out]at HFE;rw[E4.out]at HPR;clear E1 E2 E3 E4;have HRE:=Hd hre;obtain⟨x1,hx1⟩:∃x1:LReady,x1={ x with u:=xU x.tx,p:=xP x.tx,bad:=xBad x.tx }:=⟨_,rfl⟩;obtain⟨x2,hx2⟩:∃x2:LReady,x2={ x1 with fee:=xFee x.tx }:=⟨_,rfl⟩;obtain⟨x3,hx3⟩:∃x3:LReady,x3={ x2 with cost:=xCost x.tx x.roles }:=⟨_,rfl⟩;have h4:{ x3 with pri:=xPri x.tx x.roles }=told11 x:=by rw[hx3,hx2,hx1];rfl
 have Y1:Hid ((q.cells x).take 42++[.int .u64 (xU x.tx),.int .u64 (xP x.tx),.int .i64 (xBad x.tx)]++(q.cells x).drop (42+[Value.int .u64 (xU x.tx),.int .u64 (xP x.tx),.int .i64 (xBad x.tx)].length)=q.cells x1):=Hd (by rw[Xp2 hre,hx1]);have Y2:Hid ((q.cells x1).set 45 (.int .u64 (xFee x.tx))=q.cells x2):=Hd (by
  rw[show 45=42+3 from rfl,Xdb (by rw[hx1];exact hre),Xb5 q x2,hx2];rfl)
 have Y3:Hid ((q.cells x2).set 46 (.int .u64 (xCost x.tx x.roles))=q.cells x3):=Hd (by
  rw[show 46=42+4 from rfl,Xdb (by rw[hx2,hx1];exact hre),Xb5 q x3,hx3];rfl)
 have Y4:Hid ((q.cells x3).set 47 (.int .u64 (xPri x.tx x.roles))=q.cells (told11 x)):=Hd (by
  rw[show 47=42+5 from rfl,Xdb (by rw[hx3,hx2,hx1];exact hre),Xb5 q (told11 x),←h4];rfl)
 have HL:Hid ((q.cells x).length=48):=Hd (Xbe hre);have C1:Hid ((q.cells x)[1]?=some (.slice q.t.SA q.t.sn q.t.sc)):=Hd (Xeh (j:=0) rfl);have C41:Hid ((q.cells x)[41]?=some (.slice q.RA q.rn q.rc)):=Hd ((Xea hre 0).trans rfl);have HM:Hid (∀j u,(q.t.q.cells x.tx.m)[j]?=some u→(q.cells x)[2+j]?=some u):=Hd fun j u hu=>by
  have:=Xeh (q:=q) (x:=x) (j:=1+j) ((Xc1 j).trans hu);rwa [←Nat.add_assoc]at this
 have HMS:=Hd (show(Tryz.prog.info? 40).map (·.size)=some (q.t.q.cells x.tx.m).length by rw[Xat,Xaq hre]);have G1:Hid (∀j v,j<3→([.int .u64 (xU x.tx),.int .u64 (xP x.tx),.int .i64 (xBad x.tx)]:List Value)[j]?=some v→(q.cells x1)[42+j]?=some v∧(q.cells x3)[42+j]?=some v):=Hd fun j v hj hv=>by
  rw[Xb1 (by rw[hx1];exact hre),Xb1 (by rw[hx3,hx2,hx1];exact hre),hx3,hx2,hx1];rcases(show j=0∨j=1∨j=2 by omega)with rfl | rfl | rfl <;> exact⟨hv,hv⟩
 have G2:Hid ((q.cells x2)[42]?=some (.int .u64 (xU x.tx))):=Hd (by rw[show 42=42+0 from rfl,Xb1 (by rw[hx2,hx1];exact hre),hx2,hx1];rfl);have G3:Hid ((q.cells x3)[46]?=some (.int .u64 (xCost x.tx x.roles))):=Hd (by rw[show 46=42+4 from rfl,Xb1 (by rw[hx3,hx2,hx1];exact hre),hx3];rfl);have HT2:Hid (∀j u,(q.t.cells x.tx)[j]?=some u→(q.cells x2)[1+j]?=some u):=Hd fun j u hu=>Xeh (by rw[hx2,hx1];exact hu)
 have HTL:Hid ((q.t.cells x.tx).length=40):=Hd (Xac hre);have HTS:=Hd (show(Tryz.prog.info? 42).map (·.size)=some (q.t.cells x.tx).length by rw[Xba,Xac hre]);have F1:Hid (∃v,(q.cells x1)[45]?=some v):=Hd ⟨_,by rw[show 45=42+3 from rfl,Xb1 (by rw[hx1];exact hre)];rfl⟩;have F2:Hid (∃v,(q.cells x2)[46]?=some v):=Hd ⟨_,by rw[show 46=42+4 from rfl,Xb1 (by rw[hx2,hx1];exact hre)];rfl⟩;have F3:Hid (∃v,(q.cells x3)[47]?=some v):=Hd ⟨_,by rw[show 47=42+5 from rfl,Xb1 (by rw[hx3,hx2,hx1];exact hre)];rfl⟩;have HBS:=Hd (Xaz (xU x.tx) (xP x.tx) (xBad x.tx));have HB1:=Hd (Xfi (xU x.tx) (xP x.tx) (xBad x.tx));have HSN:Hid (q.t.sn=x.tx.sigs.length):=Hd hsl.symm;have WN:Hid ((wrK x.roles).length≤70000):=Hd (by have:=Xkx x.roles;omega);have SN:Hid (x.tx.sigs.length≤1232):=Hd few.sigs;have R0:=Hd hr;unfold bud10 at HFE HPR;clear i1 i2 i3 hsl hil hrl hu hp hre few hw hrn hin hr h4 hx1 hx2 hx3 HRE;generalize q.cells (told11 x)=CT at *;generalize q.cells x1=CX1 at *;generalize q.cells x2=CX2 at *;generalize q.cells x3=CX3 at *;generalize q.cells x=CX at *;generalize q.t.cells x.tx=TC at *;generalize q.t.q.cells x.tx.m=MC at *;generalize xPri x.tx x.roles=vr at *;generalize xCost x.tx x.roles=vc at *;generalize xFee x.tx=vf at *;generalize xBad x.tx=vb at *;generalize xP x.tx=vp at *;generalize xU x.tx=vu at *;obtain⟨BA,bn,bc,⟨SA,sn,sc,mq⟩,RA,rn,rc⟩:=q;dsimp only at *
 rw[←HSN.out]at HFE HPR SN;clear HSN;have hb0:Below g w w:=Br _ _;go_enter Tryz.func43,Tryz.ntmps43
 go_wp2_with fail;have HS:=Hd (Low11.row (K:=48) R0.out.drew);refine wp_region_held_drew (S:=Low11 g 48 CX) (by kernel_rfl) HS.out (fun _=>?_);refine Tk 0 rfl ?_ HS.out ?_ ⟨?_,rfl⟩
 ·intro wz hwz;go_simp;try with_reducible rfl
 try simp only[nm]
 refine Tk 1 rfl ?_ HS.out ?_ ⟨?_,rfl⟩
 ·intro wz hwz;go_simp;try with_reducible rfl
 try simp only[nm]
 refine Tk 2 rfl ?_ HS.out ?_ ⟨?_,rfl⟩
 ·intro wz hwz;go_simp;try with_reducible rfl
 try simp only[nm]
 refine Tk 3 rfl ?_ HS.out ?_ ⟨?_,rfl⟩
 ·intro wz hwz;go_simp;try with_reducible rfl
 try simp only[nm]
 refine Tk 4 rfl ?_ HS.out ?_ ⟨?_,rfl⟩
 ·intro wz hwz;have q1:wz.cell? ⟨g,1,none⟩=some (.slice SA sn sc):=hwz 1 _ (by omega) (C1.out);go_simp;try with_reducible rfl
 try simp only[nm]
 refine Tk 5 rfl ?_ HS.out ?_ ⟨?_,rfl⟩
 ·intro wz hwz;go_simp;try with_reducible rfl
 try simp only[nm]
 refine Tk 6 rfl ?_ HS.out ?_ ⟨?_,rfl⟩
 ·intro wz hwz;go_simp;try with_reducible rfl
 try simp only[nm]
 refine Tk 7 rfl ?_ HS.out ?_ ⟨?_,rfl⟩
 ·intro wz hwz;go_simp;try with_reducible rfl
 try simp only[nm]
 refine Tk 8 rfl ?_ HS.out ?_ ⟨?_,rfl⟩
 ·intro wz hwz;go_simp;try with_reducible rfl
 try simp only[nm]
 refine Tk 9 rfl ?_ HS.out ?_ ⟨?_,rfl⟩
 ·intro wz hwz;have q41:wz.cell? ⟨g,41,none⟩=some (.slice RA rn rc):=hwz 41 _ (by omega) (C41.out);go_simp;try with_reducible rfl
 try simp only[nm]
 refine Rl 10 rfl fun K hK=>?_
 go_simp;have N0:=(But11.refl g w).drew;refine(HW.out _ N0).mono ?_;rintro e w1 ⟨hb,A1,c1,rfl,_⟩;have N1:=Hd (N0.below hb (Lr _));have R1:=Hd (R0.out.drew.below hb R0.out.drew.lt);have B1:=Hd (show Below g w w1 from⟨hb.os,hb.tape,hb.output,hb.size,fun k hk=>hb.block k (Nat.lt_trans hk HGL.out)⟩);have HS1:=Hd (Low11.row (K:=48) R1.out);clear hb N0 hb0;refine hK.out _ _ HS1.out ?_;clear hK K;try simp only[nm]
 refine Tk 11 rfl ?_ HS1.out ?_ ⟨?_,rfl⟩
 ·intro wz hwz;go_simp;try with_reducible rfl
 try simp only[nm]
 refine Tk 12 rfl ?_ HS1.out ?_ ⟨?_,rfl⟩
 ·intro wz hwz;go_simp;try with_reducible rfl
 try simp only[nm]
 refine Tk 13 rfl ?_ HS1.out ?_ ⟨?_,rfl⟩
 ·intro wz hwz;go_simp;try with_reducible rfl
 try simp only[nm]
 refine wpAnyH_done (by kernel_rfl) ?_ _;go_wp2_with ((with_reducible show wpList _ _ _ (⟨some 21,_,_,_,_,_⟩::_) _ _);go_must(refine Xa3 rfl 40 (.tmp 20) rfl ⟨g,2,none⟩ MC _ Tryz.underlying40 rfl HMS.out (fun j u hu=>by rw[Xa5];exact(R1.out.cell (2+j)).trans (HM.out j u hu)) ?_ ?_;go_simp))
 refine(HBU.out _ N1.out).mono ?_;rintro e w2 ⟨rfl,hb⟩;have N2:=Hd (N1.out.below hb N1.out.size);have R2:=Hd (R1.out.below hb R1.out.lt);have B2:=Hd (B1.out.trans (hb.mono (Nat.le_of_lt R1.out.lt)));clear hb N1 B1 HS1 R1;go_upto_region 2 with((with_reducible show wpList _ _ _ (⟨none,Op.store 46 _ _,_,_,_,_⟩::_) _ _);go_must(refine Xa9 rfl 46 (.tmp 24) (.tmp 22) rfl g 48 42 CX _ R2.out HBS.out (by rw[HL.out];simp) HB1.out ?_ ?_ ?_;go_simp;go_simp;intro w3 hr3 ht3))
 rw[Y1.out]at hr3;have N3:=Hd (N2.out.turned ht3);have R3:=Hd hr3;have B3:=Hd (B2.out.trans (ht3.below (Lr _)));clear hr3 ht3 N2 R2 B2;obtain⟨v45,hv45⟩:=F1.out;go_wp2_with ((with_reducible show wpList _ _ _ (⟨some 30,_,_,_,_,_⟩::_) _ _);go_must(refine Xa3 rfl 46 (.tmp 29) rfl ⟨g,42,none⟩ [.int .u64 vu,.int .u64 vp,.int .i64 vb] _ Tryz.underlying46 rfl HBS.out (fun j u hu=>by rw[Xa5];exact(R3.out.cell (42+j)).trans (G1.out j u (by have:=(List.getElem?_eq_some_iff.1 hu).1;simpa using this) hu).1) ?_ ?_;go_simp))
 refine(HFE.out _).mono ?_;rintro e w4 ⟨rfl,hb⟩;have N4:=Hd (N3.out.below hb N3.out.size);have R4:=Hd (R3.out.below hb R3.out.lt);have B4:=Hd (B3.out.trans (hb.mono (Nat.le_of_lt R3.out.lt)));clear hb N3 R3 B3;have c45:w4.cell? ⟨g,45,none⟩=some v45:=(R4.out.cell 45).trans hv45;have f45:w4.frozen? ⟨g,45,none⟩=false:=R4.out.frozen 45;go_upto_region 3 with fail
 have r5:=R4.out.set_ 45 (.int .u64 vf);rw[Y2.out]at r5;have ht5:=Xa2 w4 ⟨g,45,none⟩ (.int .u64 vf);generalize w4.setCell ⟨g,45,none⟩ (.int .u64 vf)=w5 at *;have N5:=Hd (N4.out.turned ht5);have R5:=Hd r5;have B5:=Hd (B4.out.trans (ht5.below (Lr _)));clear r5 ht5 N4 R4 B4 c45 f45 hv45;have HS:=Hd (Low11.row (K:=46) R5.out.drew);have C42:=G2;refine wp_region_held_drew (S:=Low11 g 46 CX2) (by kernel_rfl) HS.out (fun _=>?_);refine Tk 0 rfl ?_ HS.out ?_ ⟨?_,rfl⟩
 ·intro wz hwz;go_simp;try with_reducible rfl
 try simp only[nm]
 refine Tk 1 rfl ?_ HS.out ?_ ⟨?_,rfl⟩
 ·intro wz hwz;go_simp;try with_reducible rfl
 try simp only[nm]
 refine Tk 2 rfl ?_ HS.out ?_ ⟨?_,rfl⟩
 ·intro wz hwz;go_simp;try with_reducible rfl
 try simp only[nm]
 refine Tk 3 rfl ?_ HS.out ?_ ⟨?_,rfl⟩
 ·intro wz hwz;go_simp;try with_reducible rfl
 try simp only[nm]
 refine Tl 4 (v:=.agg TC.toArray) rfl (Or.inl ⟨by rfl,fun wz hwz=>Xa8 wz 42 (.tmp 37) rfl ⟨g,1,none⟩ TC _ Tryz.underlying42 rfl HTS.out (fun j u hu=>by rw[Xa5];exact hwz (1+j) u (by have:=(List.getElem?_eq_some_iff.1 hu).1;have:=HTL.out;omega) (HT2.out j u hu)) (by go_simp)⟩) HS.out ?_;try simp only[nm]
 refine Tk 5 rfl ?_ HS.out ?_ ⟨?_,rfl⟩
 ·intro wz hwz;go_simp;try with_reducible rfl
 try simp only[nm]
 refine Tk 6 rfl ?_ HS.out ?_ ⟨?_,rfl⟩
 ·intro wz hwz;go_simp;try with_reducible rfl
 try simp only[nm]
 refine Tk 7 rfl ?_ HS.out ?_ ⟨?_,rfl⟩
 ·intro wz hwz;go_simp;try with_reducible rfl
 try simp only[nm]
 refine Tk 8 rfl ?_ HS.out ?_ ⟨?_,rfl⟩
 ·intro wz hwz;go_simp;try with_reducible rfl
 try simp only[nm]
 refine Tk 9 rfl ?_ HS.out ?_ ⟨?_,rfl⟩
 ·intro wz hwz;go_simp;try with_reducible rfl
 try simp only[nm]
 refine Tk 10 rfl ?_ HS.out ?_ ⟨?_,rfl⟩
 ·intro wz hwz;have q42:wz.cell? ⟨g,42,none⟩=some (.int .u64 vu):=hwz 42 _ (by omega) (C42.out);go_simp;try with_reducible rfl
 try simp only[nm]
 refine Rl 11 rfl fun K hK=>?_
 go_simp;refine(HCO.out _ N5.out.drew).mono ?_;rintro e w6 ⟨rfl,hb⟩;have N6:=Hd (N5.out.drew.below hb N5.out.size);have R6:=Hd (R5.out.drew.below hb R5.out.drew.lt);have B6:=Hd (show Below g w w6 from B5.out.drew.trans (hb.mono (Nat.le_of_lt R5.out.lt)));have HS6:=Hd (Low11.row (K:=46) R6.out);clear hb N5 R5 B5 HS;obtain⟨v46,hv46⟩:=F2.out;refine hK.out _ _ HS6.out ?_;clear hK K;try simp only[nm]
 refine Tk 12 rfl ?_ HS6.out ?_ ⟨?_,rfl⟩
 ·intro wz hwz;go_simp;try with_reducible rfl
 try simp only[nm]
 refine Tk 13 rfl ?_ HS6.out ?_ ⟨?_,rfl⟩
 ·intro wz hwz;go_simp;try with_reducible rfl
 try simp only[nm]
 refine Rl 14 rfl fun K hK=>?_
 have c46:w6.cell? ⟨g,46,none⟩=some v46:=(R6.out.cell 46).trans hv46;have f46:w6.frozen? ⟨g,46,none⟩=false:=R6.out.frozen 46;go_simp;have r7:=R6.out.set_ 46 (.int .u64 vc);rw[Y3.out]at r7;have ht7:=Xa2 w6 ⟨g,46,none⟩ (.int .u64 vc);have HS7:Low11 g 46 CX2 (w6.setCell ⟨g,46,none⟩ (.int .u64 vc)):=fun j v hj hv=>by
  have:=R6.out.set_ 46 (.int .u64 vc);rw[this.cell,List.getElem?_set_ne (by omega)];exact hv
 refine hK.out _ _ HS7 ?_;clear hK K HS7;try simp only[nm]
 generalize w6.setCell ⟨g,46,none⟩ (.int .u64 vc)=w7 at *;have N7:=Hd (N6.out.turned ht7);have R7:=Hd r7;have B7:=Hd (B6.out.trans (ht7.below (Lr _)));clear r7 ht7 N6 R6 B6 HS6 c46 f46 hv46;refine wpAnyH_done (by kernel_rfl) ?_ _;go_wp2_with fail;have HS:=Hd (Low11.row (K:=47) R7.out.drew);have C46:=G3;refine wp_region_held_drew (S:=Low11 g 47 CX3) (by kernel_rfl) HS.out (fun _=>?_);refine Tk 0 rfl ?_ HS.out ?_ ⟨?_,rfl⟩
 ·intro wz hwz;go_simp;try with_reducible rfl
 try simp only[nm]
 refine Tk 1 rfl ?_ HS.out ?_ ⟨?_,rfl⟩
 ·intro wz hwz;go_simp;try with_reducible rfl
 try simp only[nm]
 refine Tk 2 rfl ?_ HS.out ?_ ⟨?_,rfl⟩
 ·intro wz hwz;go_simp;try with_reducible rfl
 try simp only[nm]
 refine Tk 3 rfl ?_ HS.out ?_ ⟨?_,rfl⟩
 ·intro wz hwz;go_simp;try with_reducible rfl
 try simp only[nm]
 refine Tk 4 rfl ?_ HS.out ?_ ⟨?_,rfl⟩
 ·intro wz hwz;go_simp;try with_reducible rfl
 try simp only[nm]
 refine Tl 5 (v:=.agg ([.int .u64 vu,.int .u64 vp,.int .i64 vb]:List Value).toArray) rfl (Or.inl ⟨by rfl,fun wz hwz=>Xa8 wz 46 (.tmp 52) rfl ⟨g,42,none⟩ [.int .u64 vu,.int .u64 vp,.int .i64 vb] _ Tryz.underlying46 rfl HBS.out (fun j u hu=>by have hj:j<3:=(by have:=(List.getElem?_eq_some_iff.1 hu).1;simpa using this);rw[Xa5];exact hwz (42+j) u (by omega) (G1.out j u hj hu).2) (by go_simp)⟩) HS.out ?_;try simp only[nm]
 refine Tk 6 rfl ?_ HS.out ?_ ⟨?_,rfl⟩
 ·intro wz hwz;go_simp;try with_reducible rfl
 try simp only[nm]
 refine Tk 7 rfl ?_ HS.out ?_ ⟨?_,rfl⟩
 ·intro wz hwz;go_simp;try with_reducible rfl
 try simp only[nm]
 refine Tk 8 rfl ?_ HS.out ?_ ⟨?_,rfl⟩
 ·intro wz hwz;go_simp;try with_reducible rfl
 try simp only[nm]
 refine Tk 9 rfl ?_ HS.out ?_ ⟨?_,rfl⟩
 ·intro wz hwz;have q46:wz.cell? ⟨g,46,none⟩=some (.int .u64 vc):=hwz 46 _ (by omega) (C46.out);go_simp;try with_reducible rfl
 try simp only[nm]
 refine Rl 10 rfl fun K hK=>?_
 go_simp;refine(HPR.out _).mono ?_;rintro e w8 ⟨rfl,hb⟩;have N8:=Hd (N7.out.drew.below hb N7.out.size);have R8:=Hd (R7.out.drew.below hb R7.out.drew.lt);have B8:=Hd (show Below g w w8 from B7.out.drew.trans (hb.mono (Nat.le_of_lt R7.out.lt)));have HS8:=Hd (Low11.row (K:=47) R8.out);clear hb N7 R7 B7 HS;obtain⟨v47,hv47⟩:=F3.out;refine hK.out _ _ HS8.out ?_;clear hK K;try simp only[nm]
 refine Tk 11 rfl ?_ HS8.out ?_ ⟨?_,rfl⟩
 ·intro wz hwz;go_simp;try with_reducible rfl
 try simp only[nm]
 refine Tk 12 rfl ?_ HS8.out ?_ ⟨?_,rfl⟩
 ·intro wz hwz;go_simp;try with_reducible rfl
 try simp only[nm]
 refine Rl 13 rfl fun K hK=>?_
 have c47:w8.cell? ⟨g,47,none⟩=some v47:=(R8.out.cell 47).trans hv47;have f47:w8.frozen? ⟨g,47,none⟩=false:=R8.out.frozen 47;go_simp;have r9:=R8.out.set_ 47 (.int .u64 vr);rw[Y4.out]at r9;have ht9:=Xa2 w8 ⟨g,47,none⟩ (.int .u64 vr);have HS9:Low11 g 47 CX3 (w8.setCell ⟨g,47,none⟩ (.int .u64 vr)):=fun j v hj hv=>by
  have:=R8.out.set_ 47 (.int .u64 vr);rw[this.cell,List.getElem?_set_ne (by omega)];exact hv
 refine hK.out _ _ HS9 ?_;clear hK K HS9;try simp only[nm]
 generalize w8.setCell ⟨g,47,none⟩ (.int .u64 vr)=w9 at *;refine wpAnyH_done (by kernel_rfl) ?_ _;go_wp2_with fail;refine bodyPost_end (results_none rfl _ _ _) rfl ?_;exact⟨rfl,r9,N8.out.turned ht9,B8.out.trans (ht9.below (Lr _))⟩
structure ROut(w:World)(lo hi:Nat)(A:Option Addr)(n:Nat)(l:List LRole)(S:Sl):Prop where
 val:Value.slice A n n=S.val
 sz:S.n=n∧S.c=n
 fit:SlFit w (S,Kd.r)
 is:RolesIn w hi A n l
 most:n≤maxLen
 low:∀g,S.A=some g→lo≤g∧g<hi
theorem Xfy{w:World}{base n c:Nat}{A:Option Addr}{l:List LRole}(h:w.ownsRow base 101 34 (.slice A n c) n (cellsR l))(hl:l.length=n)(hok:∀r ∈ l,RoleOk r):∃S,ROut w base w.heap.size A n l S:=by
 obtain⟨A',c',hv,hs,hc,hm,hlt⟩:=Xbs h;injection hv with e1 _ e3
 subst e1 e3;have hin:RolesIn w w.heap.size A n l:=⟨⟨by rw[List.length_map];exact hl,fun k hk=>by
  obtain⟨r,hr,rfl⟩:=List.mem_map.1 hk;exact Xc3 (hok r hr).1,hs⟩,hok⟩
 rcases h.2 with⟨h1,h2⟩ | ⟨g,cap,cur,h1,hg,hh,h2,h3,h4,h5⟩
 ·injection h1 with e1 e2 e3
  subst e1 e2 e3;exact⟨⟨none,0,0⟩,rfl,⟨rfl,rfl⟩,⟨rfl,rfl⟩,hin,by unfold maxLen;omega,fun g e=>by cases e⟩
 ·injection h1 with e1 e2 e3
  subst e1 e3;refine⟨⟨some g,n,n⟩,rfl,⟨rfl,rfl⟩,⟨Lr _,?_,cur.toList,⟨show w.heap[g]?=some (.cells cur.toList.toArray 101) by simpa using hh⟩,?_,fun h=>absurd h (by show ¬(34:Nat)<34;omega)⟩,hin,by omega,fun g' e=>?_⟩
  ·show n≤_
   unfold maxLen at hm;omega
  ·show n*34≤_
   have:cur.toList.length=c*34:=by simpa using h4
   rw[this];exact Nat.mul_le_mul_right _ hc
  ·cases e
   exact⟨hg,(Array.getElem?_eq_some_iff.1 hh).1⟩
theorem Xkd(Bs Rs S K:Sl)(iv:Nat→Sl × Sl)(n:Nat)(lv:Nat→Sl × Sl)(m:Nat) :
 blocks (yPages Bs Rs S K iv n lv m)=blocks [(Bs,Kd.b)]++(blocks (txPages S K iv n lv m)++blocks [(Rs,Kd.r)]):=by
 unfold yPages;rw[Xb0,Xb0]
theorem Xdi(y:Sl × Kd):(blocks [y]).Pairwise (·≠·):=by
 unfold blocks;cases h:y.1.A <;> simp[h]
theorem YPages.of{w:World}{lo hi lo' hi':Nat}{q:YRaw}{x:LReady}{Bs Rs S K I L:Sl}{iv lv:Nat→Sl × Sl}
 (hb:Value.slice q.BA q.bn q.bc=Bs.val) (hr:Value.slice q.RA q.rn q.rc=Rs.val) (ht:TxPages w lo' hi' q.t x.tx S K I L iv lv) (h1:lo≤lo') (h2:hi'≤hi)
 (fb:SlFit w (Bs,Kd.b)) (fr:SlFit w (Rs,Kd.r))
 (gb:∀g,Bs.A=some g→lo≤g∧g<hi∧(g<lo'∨hi'≤g)) (gr:∀g,Rs.A=some g→lo≤g∧g<hi∧(g<lo'∨hi'≤g)) (ne:∀g,Bs.A=some g→Rs.A≠some g) :
 YPages w lo hi q x Bs Rs S K I L iv lv:=by
 refine⟨hb,hr,⟨lo',hi',h1,h2,ht⟩,fb,fr,?_,fun g hg=>?_⟩
 ·rw[Xkd,List.pairwise_append,List.pairwise_append];refine⟨Xdi _,⟨ht.rise.imp fun h=>Nat.ne_of_lt h,Xdi _,fun a ha b hb' e=>?_⟩,fun a ha b hb' e=>?_⟩
  ·subst e;have:=Xbb _ a hb';have:=(gr a this).2.2;have:=ht.low a ha;omega
  ·subst e;have h3:=Xbb _ a ha;rcases List.mem_append.1 hb' with h4 | h4
   ·have:=(gb a h3).2.2;have:=ht.low a h4;omega
   ·exact ne a h3 (Xbb _ a h4)
 ·rw[Xkd]at hg;rcases List.mem_append.1 hg with h | h
  ·have:=gb g (Xbb _ g h);omega
  rcases List.mem_append.1 h with h | h
  ·have:=ht.low g h;omega
  ·have:=gr g (Xbb _ g h);omega
theorem YPages.below{w w':World}{lo hi:Nat}{q:YRaw}{x:LReady}{Bs Rs S K I L:Sl}{iv lv:Nat→Sl × Sl}(h:YPages w lo hi q x Bs Rs S K I L iv lv)(hb:Below hi w w'):YPages w' lo hi q x Bs Rs S K I L iv lv:=by
 have hlow:=h.low;rw[Xkd]at hlow;obtain⟨lo',hi',h1,h2,h3⟩:=h.t;refine⟨h.b,h.r,⟨lo',hi',h1,h2,h3.below (hb.mono h2)⟩,h.fb.keep fun g hg=>hb.block g (hlow g ?_).2,h.fr.keep fun g hg=>hb.block g (hlow g ?_).2,h.ne,h.low⟩
 ·refine List.mem_append_left _ ?_;unfold blocks;have hg:Bs.A=some g:=hg;simp[hg]
 ·refine List.mem_append_right _ (List.mem_append_right _ ?_);unfold blocks;have hg:Rs.A=some g:=hg;simp[hg]
structure RdV(w:World)(lo hi:Nat)(q:YRaw)(x:LReady):Prop where
 le:lo≤hi
 is:ReadyIn w hi q x
 few:x.tx.m.ins.length≤65535∧x.tx.m.looks.length≤65535
 pg:∃Bs Rs S K I L iv lv,YPages w lo hi q x Bs Rs S K I L iv lv
theorem RdV.below{w w':World}{lo hi:Nat}{q:YRaw}{x:LReady}(h:RdV w lo hi q x)(hb:Below hi w w'):RdV w' lo hi q x:=by
 obtain⟨Bs,Rs,S,K,I,L,iv,lv,hp⟩:=h.pg;exact⟨h.le,h.is.below hb,h.few,⟨Bs,Rs,S,K,I,L,iv,lv,hp.below hb⟩⟩
theorem RdV.zero(w:World)(lo hi:Nat)(h:lo≤hi):RdV w lo hi zYRaw zReady:=by
 obtain⟨s,hs⟩:∃s,s=zRaw:=⟨_,rfl⟩;refine⟨h,Xlo w hi,by decide,⟨none,0,0⟩,⟨none,0,0⟩,⟨none,0,0⟩,⟨none,0,0⟩,⟨none,0,0⟩,⟨none,0,0⟩,fun _=>(⟨none,0,0⟩,⟨none,0,0⟩),fun _=>(⟨none,0,0⟩,⟨none,0,0⟩),?_⟩;exact YPages.of (lo':=hi) (hi':=hi) rfl rfl (Xvs w hi hi) h (Lr _) ⟨rfl,rfl⟩ ⟨rfl,rfl⟩ (fun g e=>by cases e) (fun g e=>by cases e) (fun g e=>by cases e)
def RdDone(w:World)(ts:List LTab)(zs:List Int)(e:Ending)(w':World):Prop:=
 ∃q,e=.returned (.tuple #[.agg (YRaw.cells q (rdX ts zs)).toArray,.int .i64 (rdErr ts zs)])∧RdV w' w.heap.size w'.heap.size q (rdX ts zs)∧Below w.heap.size w w'
theorem RdDone.no{w w':World}{ts:List LTab}{zs:List Int}{c:Int}(hc:rdErr ts zs=c)(h0:c≠0)(hb:Below w.heap.size w w'):RdDone w ts zs (.returned (.tuple #[.agg (YRaw.cells zYRaw zReady).toArray,.int .i64 c])) w':=by
 have e:rdX ts zs=zReady:=Xqj (by rw[hc];exact h0);exact⟨zYRaw,by rw[hc,e],by rw[e];exact RdV.zero _ _ _ hb.size,hb⟩
structure Three11(g:Nat)(C:List Value)(v:Int)(V:World):Prop where
 r0:Row V g 48 C
 r1:Row V (g+1) 49 [.int .i64 0]
 r2:Row V (g+2) 49 [.int .i64 v]
section
variable{g:Nat}{C C':List Value}{v v':Int}{V V':World}
theorem Three11.below{B:Nat}(h:Three11 g C v V)(hb:Below B V V')(hB:g+2<B):Three11 g C v V':=⟨h.r0.below hb (by omega),h.r1.below hb (by omega),h.r2.below hb hB⟩
theorem Three11.part(h:Three11 g C v V)(ht:Turned V V' g)(hr:Row V' g 48 C'):Three11 g C' v V':=⟨hr,ht.row h.r1 (by omega),ht.row h.r2 (by omega)⟩
theorem Three11.wrong(h:Three11 g C v V)(v':Int):Three11 g C v' (V.setCell ⟨g+1+1,0,none⟩ (.int .i64 v')):=
 ⟨h.r0.far (show g≠g+1+1 by omega) _,h.r1.far (show g+1≠g+1+1 by omega) _,h.r2.set_ 0 (.int .i64 v')⟩
theorem Three11.cell(h:Three11 g C v V)(i:Nat)(u:Value):Three11 g (C.set i u) v (V.setCell ⟨g,i,none⟩ u):=
 ⟨h.r0.set_ i u,h.r1.far (show g+1≠g by omega) _,h.r2.far (show g+2≠g by omega) _⟩
theorem Three11.lt(h:Three11 g C v V):g+2<V.heap.size:=h.r2.lt
end
theorem Xl5{q:YRaw}{x:LReady}{s:TRaw}{t:LTx}(h:x.tx.m.recent.length=32)(h':t.m.recent.length=32) :
 (q.cells x).take 1++s.cells t++(q.cells x).drop (1+(s.cells t).length)=YRaw.cells { q with t:=s } { x with tx:=t }:=by
 have h1:(q.t.cells x.tx).length=40:=Xac h;have h2:(s.cells t).length=40:=Xac h';rw[h2];unfold YRaw.cells;simp only[List.take_succ_cons,List.take_zero,List.cons_append,List.nil_append];rw[show 1+40=40+1 from rfl,List.drop_succ_cons,List.drop_left' h1];rfl
theorem Xnv{q:YRaw}{x:LReady}(h:x.tx.m.recent.length=32)(A:Option Addr)(n c:Nat)(l:List LRole) :
 (q.cells x).set 41 (.slice A n c)=YRaw.cells { q with RA:=A,rn:=n,rc:=c } { x with roles:=l }:=by
 have h1:(q.t.cells x.tx).length=40:=Xac h;unfold YRaw.cells;rw[show 41=40+1 from rfl,List.set_cons_succ,List.set_append_right _ _ (by omega),h1];rfl
structure Lists11(g lo hi base:Nat)(s:TRaw)(x:LTx)(A:Option Addr)(c:Nat)(l:List LRole)(V:World):Prop where
 tx:TxV V lo hi s x
 rs:V.ownsRow base 101 34 (.slice A l.length c) l.length (cellsR l)
 low:g+2<lo∧hi≤base∧hi≤V.heap.size
theorem Lists11.keep{g lo hi base c:Nat}{s:TRaw}{x:LTx}{A:Option Addr}{l:List LRole}{V V':World}(h:Lists11 g lo hi base s x A c l V)(hz:V.heap.size≤V'.heap.size)(hk:∀k,g+2<k→k<V.heap.size→V'.heap[k]?=V.heap[k]?):Lists11 g lo hi base s x A c l V':=by
 obtain⟨l1,l2,l3⟩:=h.low;refine⟨h.tx.stay hz fun k a b=>hk k (by omega) (by omega),Xfv h.rs fun k hk'=>?_,l1,l2,by omega⟩;have:=h.rs.lt k hk';obtain⟨mid,e1,e2,_⟩:=h.tx.is;exact hk k (by omega) (by omega)
theorem Xrc{w V:World}{ts:List LTab}{zs:List Int}{x:LTx}{s:TRaw}{lo hi base c gb n:Nat}{A:Option Addr}{l:List LRole}(h0:rdErr ts zs=0)(hx:rdX ts zs=xReady zs x l)
 (hL:Lists11 w.heap.size lo hi base s x A c l V) (hrow:Row V gb 5 (bv zs)) (hgb:∀k,(Value.slice A l.length c).ownBlock=some k→k<gb) (hg1:hi≤gb) (hn:zs.length=n) (hm:n≤maxLen) (few:Few11 x) (hok:∀r ∈ l,RoleOk r) (hb:Below w.heap.size w V) :
 RdDone w ts zs (.returned (.tuple #[.agg (YRaw.cells ⟨some ⟨gb,0,none⟩,n,n,s,A,l.length,l.length⟩ (xReady zs x l)).toArray,.int .i64 0])) V:=by
 subst hn;obtain⟨l1,l2,l3⟩:=hL.low;obtain⟨S,hS⟩:=Xfy hL.rs rfl hok;have hA:A=S.A.map fun g=>⟨g,0,none⟩:=by
  have:=hS.val;unfold Sl.val at this;injection this
 have hlt:=hrow.lt;obtain⟨Sa,K,I,L,iv,lv,hp⟩:=hL.tx.pages;refine⟨⟨some ⟨gb,0,none⟩,zs.length,zs.length,s,A,l.length,l.length⟩,by rw[hx,h0],⟨hb.size,?_,?_,⟨some gb,zs.length,zs.length⟩,S,Sa,K,I,L,iv,lv,?_⟩,hb⟩
 ·rw[hx];refine⟨?_,⟨Lr _,hm⟩,(hL.tx.in_).more l3,hS.is,⟨Lr _,hS.most⟩⟩;exact⟨by rw[bL];rfl,fun i u hu=>⟨_,rfl,hlt,by rw[Xa5,Nat.zero_add,hrow.cell];exact hu⟩⟩
 ·rw[hx];exact⟨by have:=few.ins;show x.m.ins.length≤65535;omega,by have:=few.total;unfold total at this;show x.m.looks.length≤65535;omega⟩
 ·rw[hx];refine YPages.of (lo':=lo) (hi':=hi) rfl hS.val hp (by omega) l3 ?_ hS.fit ?_ ?_ ?_
  ·exact⟨Lr _,by have:=hm;unfold maxLen at this;show zs.length≤_;omega,bv zs,hrow,by show zs.length*1≤_;rw[bL];omega,fun h=>absurd h (by show ¬(34:Nat)<1;omega)⟩
  ·intro g e;cases e
   obtain⟨mid,e1,e2,_⟩:=hL.tx.is;exact⟨by omega,hlt,.inr hg1⟩
  ·intro g e;have:=hS.low g e;obtain⟨mid,e1,e2,_⟩:=hL.tx.is;exact⟨by omega,this.2,.inr (by omega)⟩
  ·intro g e e';cases e
   have:=hgb gb (by rw[hA,e'];rfl);omega
theorem of11(rb mb hi k:Nat)(ts:List LTab)(A:Option Addr)(n c B:Nat)(zs:List Int)(w:World)(hr:Reg w rb mb hi k ts)(hg:TsB11 ts)(hs:Sees w B A n (bv zs))(hB:B≤w.heap.size)(hnc:n≤c)(hc:c≤maxLen)(hz:AllBytes zs)(hl:LenAt w) :
 Calls Tryz.prog 12 #[.slice A n c,.pointer (some ⟨rb,0,none⟩)] w (RdDone w ts zs):=by
 have hmf:∀(fn:Fn) (first cap:Array Value) (w:World),(Instr.makeFunc fn first cap).run Tryz.prog w=.ok (.func fn first cap) w:=fun _ _ _ _=>rfl
 obtain⟨W,HX,hb0,h30,hz0⟩:∃W,Hid (∀z,z=yzero.toArray→((w.alloc (.cells z 48)).alloc (.cells #[.int .i64 0] 49)).alloc (.cells #[.int .i64 0] 49)=W)∧Below w.heap.size w W∧Three11 w.heap.size yzero 0 W∧W.heap.size=w.heap.size+3:=by
  refine⟨_,Hd fun z h=>by rw[h],(((Br w.heap.size w).alloc (Lr _) _).alloc (by simp) _).alloc (by simp;omega) _,⟨((Row.new w 48 yzero).alloc _).alloc _,(Row.new' (w.alloc (.cells yzero.toArray 48)) 49 [.int .i64 0] (by simp)).alloc _,Row.new' _ 49 [.int .i64 0] (by simp)⟩,by simp⟩
 have hnz:zs.length=n:=by have:=hs.len;rwa [bL]at this
 have HTH:=Hd (fun(V:World) (hb:Below w.heap.size w V)=>Xou rb mb hi k ts V (hr.below (hb.mono hr.lt.2.2)));have HWI:=Hd (fun(V:World) (hb:Below w.heap.size w V)=>wire_ A n c B zs V (hs.below (hb.mono hB)) (Lq hB hb.size) hnc hc hz);have HCA:=Hd (fun(V:World) (hb:Below w.heap.size w V) q m B' hm hB' hs hw=>cast11 q m rb mb hi k ts B' V (hr.below (hb.mono hr.lt.2.2)) hg hm hB' hs hw);have HCP:=Hd (fun(V:World) (hb:Below w.heap.size w V) h1 hn=>Xtm A n c B zs V (hs.below (hb.mono hB)) (Lq hB hb.size) h1 hn);have HLE:=Hd (fun(V:World) (hb:Below w.heap.size w V)=>hl.below hb hl.pos);have HEND:=Hd (fun V C cc u (hl:C.length=48) h1 (h:Three11 w.heap.size C cc V)=>Xvy w.heap.size C cc 0 u V hl h1 h.r0 h.r1 h.r2);have HPOS:=Hd hl.pos;have HZ:=Hd hz;have HG:=Hd hg;have HNZ:=Hd hnz;have HNM:=Hd (show n≤maxLen by omega);have B0:=Hd hb0;have T0:=Hd h30;have Z0:=Hd hz0;clear hb0 h30 hz0 hr hg hs hB hnc hc hz hl hnz;go_enter_defers Tryz.func12,Tryz.ntmps12
 go_upto_region 3 with fail
 rw[HX.out];rotate_left
 ·kernel_rfl
 clear HX;go_wp2_with fail;refine(HTH.out _ B0.out).mono ?_;rintro e w1 ⟨rfl,hb⟩;have T1:=Hd (T0.out.below hb T0.out.lt);have B1:=Hd (B0.out.trans (hb.mono B0.out.size));clear hb B0 T0 HTH;have c2:w1.cell? ⟨w.heap.size+1+1,0,none⟩=some (.int .i64 0):=T1.out.r2.cell 0;have f2:w1.frozen? ⟨w.heap.size+1+1,0,none⟩=false:=T1.out.r2.frozen 0;go_upto_region 4 with fail
 have T2:=Hd (T1.out.wrong 0);have B2:=Hd (B1.out.trans ((Xa2 w1 ⟨w.heap.size+1+1,0,none⟩ (.int .i64 0)).below (show w.heap.size≤w.heap.size+1+1 by omega)));clear c2 f2 T1 B1;generalize w1.setCell ⟨w.heap.size+1+1,0,none⟩ (.int .i64 0)=w2 at *;have c2:w2.cell? ⟨w.heap.size+1+1,0,none⟩=some (.int .i64 0):=T2.out.r2.cell 0;have HF:=Hd (fun w=>Xcx 0 w);rw[show decide ((0:Int)≠0)=false from rfl]at HF;go_wp2_with (go_at_call 40;refine(HF.out _).mono ?_;rintro e w' ⟨rfl,hw⟩;obtain rfl:=hw.symm)
 refine(HWI.out _ B2.out).mono ?_;clear c2 HF HWI;rintro e w3 (⟨x,s,lo,hp,hk,rfl,hlo,hv,hb⟩ | ⟨hn,rfl,hb⟩)
 ·have hg11:=got11 HZ.out hp;have few:=few11 hg11;have h0w:wErr zs=0:=by rw[Xeo hp];exact hk
  have hwx:wireX zs=x:=by unfold wireX wx;rw[if_pos h0w,hp]
  have HRD:Hid (rdErr ts zs=castErr ts x.m):=Hd (by rw[Xjg h0w,hwx]);have HRR:Hid (castErr ts x.m=0→rdX ts zs=xReady zs x (castRoles ts x.m)):=Hd fun h=>by
   rw[Xlp (by rw[HRD.out];exact h),hwx];have:rdRoles ts zs=castRoles ts x.m:=by unfold rdRoles castRoles;rw[hwx]
   rw[this]
  have HOK:=Hd (Xgu (ts:=ts) HG.out hg11.wf.m);have h1n:1≤n∧n≤1232:=by
   have h1:=hg11.len;have h2:zs≠[]:=fun e=>by rw[e,show wTx []=.error 5 from rfl]at hp;cases hp
   have h3:=List.length_pos_iff.2 h2;have h4:=HNZ.out;omega
  have hr3:=Xac (s:=s) (x:=x) hv.in_.m.recent;have HRC:=Hd hv.in_.m.recent;have HSZ:=Hd (show(Tryz.prog.info? 42).map (·.size)=some (TRaw.cells s x).length by rw[Xba,hr3]);have HTL:=Hd hr3;have HCO:=Hd (Xbm (s:=s) (x:=x));have T3:=Hd (T2.out.below hb T2.out.lt);have B3:=Hd (B2.out.trans (hb.mono B2.out.size));have HLO:Hid (w.heap.size+2<lo):=Hd (by have:=T2.out.lt;omega);have HV:=Hd hv;have HG11:=Hd hg11;have FEW:=Hd few;have H1N:=Hd h1n;clear hg11 few h0w hwx hr3 hb hlo hv hp hk T2 B2 h1n;have HF:=Hd (fun w=>Xcx 0 w);rw[show decide ((0:Int)≠0)=false from rfl]at HF;obtain⟨cs,hcs⟩:∃cs,cs=TRaw.cells s x:=⟨_,rfl⟩;have CS:=Hd hcs;rw[←hcs]at HSZ HTL HCO ⊢;clear hcs;go_upto_region 6 with((with_reducible show wpList _ _ _ (⟨none,Op.store 42 _ _,_,_,_,_⟩::_) _ _);go_must(refine Xa9 rfl 42 (.tmp 17) (.tmp 15) rfl w.heap.size 48 1 yzero cs T3.out.r0 HSZ.out (by rw[Xbz,HTL.out];omega) HCO.out ?_ ?_ ?_;go_simp;(go_simp;try kernel_rfl);intro w4 hr4 ht4;have c2:w4.cell? ⟨w.heap.size+1+1,0,none⟩=some (.int .i64 0):=(ht4.row T3.out.r2 (show w.heap.size+2≠w.heap.size by omega)).cell 0;have f2:w4.frozen? ⟨w.heap.size+1+1,0,none⟩=false:=(ht4.row T3.out.r2 (show w.heap.size+2≠w.heap.size by omega)).frozen 0))
  obtain⟨q1,hq1⟩:∃q1:YRaw,q1={ zYRaw with t:=s }:=⟨_,rfl⟩;obtain⟨x1,hx1⟩:∃x1:LReady,x1={ zReady with tx:=x }:=⟨_,rfl⟩;have e4:yzero.take 1++cs++yzero.drop (1+cs.length)=q1.cells x1:=by
   rw[CS.out,hq1,hx1];exact Xl5 (q:=zYRaw) (x:=zReady) (s:=s) (t:=x) rfl HRC.out
  rw[e4]at hr4;have T4:=Hd (T3.out.part ht4 hr4);have B4:=Hd (B3.out.trans (ht4.below (Lr _)));have V4:=Hd (HV.out.stay (w':=w4) (by rw[ht4.size];exact Lr _) fun k a b=>ht4.block k (by have:=HLO.out;omega));have Z4:Hid (w4.heap.size=w3.heap.size):=Hd ht4.size;clear hr4 ht4 e4 T3 B3 HV;have T5:=Hd (T4.out.wrong 0);have ht5:=Xa2 w4 ⟨w.heap.size+1+1,0,none⟩ (.int .i64 0);have B5:=Hd (B4.out.trans (ht5.below (show w.heap.size≤w.heap.size+1+1 by omega)));have V5:=Hd (V4.out.stay (by rw[ht5.size];exact Lr _) fun k a b=>ht5.block k (show k≠w.heap.size+1+1 by have:=HLO.out;omega));have Z5:=Hd (ht5.size.trans Z4.out);clear c2 f2 T4 B4 V4 Z4 ht5;generalize w4.setCell ⟨w.heap.size+1+1,0,none⟩ (.int .i64 0)=w5 at *;have c2:w5.cell? ⟨w.heap.size+1+1,0,none⟩=some (.int .i64 0):=T5.out.r2.cell 0;have HMC:Hid (∀j u,(s.q.cells x.m)[j]?=some u→w5.cell? ⟨w.heap.size,2+j,none⟩=some u):=Hd fun j u hu=>by
   rw[T5.out.r0.cell,hq1,hx1];have:=Xeh (q:={ zYRaw with t:=s }) (x:={ zReady with tx:=x }) (j:=1+j) ((Xc1 j).trans hu);rwa [←Nat.add_assoc]at this
  have HMS:=Hd (show(Tryz.prog.info? 40).map (·.size)=some (s.q.cells x.m).length by rw[Xat,Xaq HRC.out]);go_wp2_with (first
   | (go_at_call 40;refine(HF.out _).mono ?_;rintro e w' ⟨rfl,hw⟩;obtain rfl:=hw.symm)
   | ((with_reducible show wpList _ _ _ (⟨some 23,_,_,_,_,_⟩::_) _ _);go_must(refine Xa3 rfl 40 (.tmp 22) rfl ⟨w.heap.size,2,none⟩ (s.q.cells x.m) _ Tryz.underlying40 rfl HMS.out (fun j u hu=>by rw[Xa5];exact HMC.out j u hu) ?_ ?_;go_simp)))
  refine(HCA.out w5 B5.out s.q x.m w3.heap.size V5.out.in_.m (by rw[Z5.out];exact Lr _) HG11.out.small HG11.out.wf.m).mono ?_;rintro e w6 ⟨hb,hq⟩;have T6:=Hd (T5.out.below hb T5.out.lt);have B6:=Hd (B5.out.trans (hb.mono B5.out.size));have V6:=Hd (V5.out.stay hb.size fun k a b=>hb.block k (by rw[Z5.out];exact b));have Z6:Hid (w3.heap.size≤w5.heap.size∧w5.heap.size≤w6.heap.size):=Hd ⟨Nat.le_of_eq Z5.out.symm,hb.size⟩;have HC41:Hid ((q1.cells x1)[41]?=some (.slice none 0 0)):=Hd (by rw[hq1,hx1];exact(Xea HRC.out 0).trans rfl);clear hb c2 T5 B5 V5 Z5 HMC HMS HCA HF;have c2:w6.cell? ⟨w.heap.size+1+1,0,none⟩=some (.int .i64 0):=T6.out.r2.cell 0;have f2:w6.frozen? ⟨w.heap.size+1+1,0,none⟩=false:=T6.out.r2.frozen 0;have c41:w6.cell? ⟨w.heap.size,41,none⟩=some (.slice none 0 0):=(T6.out.r0.cell 41).trans HC41.out;have f41:w6.frozen? ⟨w.heap.size,41,none⟩=false:=T6.out.r0.frozen 41;by_cases hce:castErr ts x.m=0
  ·rw[if_pos hce]at hq;obtain⟨RA,rc,rfl,ho⟩:=hq;have HCE:=Hd hce;have HO:=Hd ho;have HF:=Hd (fun w=>Xcx 0 w);rw[show decide ((0:Int)≠0)=false from rfl]at HF;clear hce ho;obtain⟨l,hl⟩:∃l,l=castRoles ts x.m:=⟨_,rfl⟩;have HLR:=Hd hl;rw[←hl]at HO HOK HRR ⊢;clear hl;go_upto_region 8 with fail
   obtain⟨q2,hq2⟩:∃q2:YRaw,q2={ q1 with RA:=RA,rn:=l.length,rc:=l.length }:=⟨_,rfl⟩;obtain⟨x2,hx2⟩:∃x2:LReady,x2={ x1 with roles:=l }:=⟨_,rfl⟩;have T7:=T6.out.cell 41 (.slice RA l.length l.length);have e7:(q1.cells x1).set 41 (.slice RA l.length l.length)=q2.cells x2:=by rw[hq2,hx2];exact Xnv (by rw[hx1];exact HRC.out) _ _ _ _
   rw[e7]at T7;have ht7:=Xa2 w6 ⟨w.heap.size,41,none⟩ (.slice RA l.length l.length);have ht8:=Xa2 (w6.setCell ⟨w.heap.size,41,none⟩ (.slice RA l.length l.length)) ⟨w.heap.size+1+1,0,none⟩ (.int .i64 0);have T8:=Hd (T7.wrong 0);have B8:=Hd ((B6.out.trans (ht7.below (Lr _))).trans (ht8.below (show w.heap.size≤w.heap.size+1+1 by omega)));have L6:Lists11 w.heap.size lo w3.heap.size w5.heap.size s x RA rc l w6:=⟨V6.out,HO.out,HLO.out,Z6.out.1,Lq Z6.out.1 Z6.out.2⟩;have L8:=Hd (L6.keep (by rw[ht8.size,ht7.size];exact Lr _) fun k a b=>(ht8.block k (show k≠w.heap.size+1+1 by omega)).trans (ht7.block k (show k≠w.heap.size by omega)));clear c2 f2 c41 f41 T6 B6 V6 e7 T7 ht7 ht8 L6 HO HC41;generalize (w6.setCell ⟨w.heap.size,41,none⟩ (.slice RA l.length l.length)).setCell ⟨w.heap.size+1+1,0,none⟩ (.int .i64 0)=w8 at *;have c2:w8.cell? ⟨w.heap.size+1+1,0,none⟩=some (.int .i64 0):=T8.out.r2.cell 0;go_wp2_with (go_at_call 40;refine(HF.out _).mono ?_;rintro e w' ⟨rfl,hw⟩;obtain rfl:=hw.symm)
   refine(HCP.out w8 B8.out H1N.out.1 H1N.out.2).mono ?_;rintro e w9 ⟨rfl,hrow,hb⟩;have T9:=Hd (T8.out.below hb T8.out.lt);have B9:=Hd (B8.out.trans (hb.mono B8.out.size));have L9:=Hd (L8.out.keep hb.size fun k a b=>hb.block k b);have R9:=Hd hrow;have HGB:Hid (∀k,(Value.slice RA l.length rc).ownBlock=some k→k<w8.heap.size):=Hd fun k hk=>(L8.out.rs.lt k hk).2
   have HHI:Hid (w3.heap.size≤w8.heap.size∧w.heap.size+2<w8.heap.size):=Hd ⟨L8.out.low.2.2,T8.out.lt⟩;have HC0:Hid ((q2.cells x2)[0]?=some (.slice none 0 0)):=Hd (by rw[hq2,hq1];rfl);clear hb hrow c2 HF HCP T8 B8 L8;have c0:w9.cell? ⟨w.heap.size,0,none⟩=some (.slice none 0 0):=(T9.out.r0.cell 0).trans HC0.out;have f0:w9.frozen? ⟨w.heap.size,0,none⟩=false:=T9.out.r0.frozen 0;go_upto_region 10 with fail
   obtain⟨q3,hq3⟩:∃q3:YRaw,q3={ q2 with BA:=some ⟨w8.heap.size,0,none⟩,bn:=n,bc:=n }:=⟨_,rfl⟩;have T10:=T9.out.cell 0 (.slice (some ⟨w8.heap.size,0,none⟩) n n);have e10:(q2.cells x2).set 0 (.slice (some ⟨w8.heap.size,0,none⟩) n n)=q3.cells x2:=by rw[hq3];rfl
   rw[e10]at T10;have ht10:=Xa2 w9 ⟨w.heap.size,0,none⟩ (.slice (some ⟨w8.heap.size,0,none⟩) n n);have T10:=Hd T10;have B10:=Hd (B9.out.trans (ht10.below (Lr _)));have L10:=Hd (L9.out.keep (by rw[ht10.size];exact Lr _) fun k a b=>ht10.block k (show k≠w.heap.size by omega));have R10:=Hd (ht10.row R9.out (show w8.heap.size≠w.heap.size by have:=HHI.out.2;omega));clear c0 f0 T9 B9 L9 R9 e10 ht10 HC0;generalize w9.setCell ⟨w.heap.size,0,none⟩ (.slice (some ⟨w8.heap.size,0,none⟩) n n)=w10 at *;have hx2t:x2.tx=x:=by rw[hx2,hx1]
   have hx2r:x2.roles=l:=by rw[hx2]
   have HAP:=Hd (Xop w.heap.size q3 x2 w10 T10.out.r0 (by rw[hx2t];exact HRC.out) (by rw[hx2t];exact FEW.out) (by rw[hx2t];exact HG11.out.wf) (by
    rw[hx2r];have h1:=Xgs (ts:=ts) HZ.out (by rw[HRD.out];exact HCE.out);have h2:=HRR.out HCE.out;rw[Xlp (by rw[HRD.out];exact HCE.out)]at h2;have h3:rdRoles ts zs=l:=congrArg LReady.roles h2;rw[h3]at h1;omega) fun V hV=>by
    have hk:Lists11 w.heap.size lo w3.heap.size w5.heap.size s x RA rc l V:=L10.out.keep hV.size fun k a b=>hV.block k b (by omega)
    obtain⟨S,hS⟩:=Xfy hk.rs rfl HOK.out;rw[hx2t,hx2r,hq3,hq2,hq1];exact⟨(hk.tx.in_).more hk.low.2.2,hS.is,(HLE.out w10 B10.out).keep fun p hp=>World.cell?_of_block (by rw[hp];exact hV.block 0 (by have:=T10.out.lt;omega) (Nat.ne_of_lt HPOS.out))⟩)
   clear HLE HPOS;go_wp2_with fail;refine HAP.out.mono ?_;rintro e w11 ⟨rfl,hr11,hN,hb⟩;have e11:q3.cells (told11 x2)=YRaw.cells ⟨some ⟨w8.heap.size,0,none⟩,n,n,s,RA,l.length,l.length⟩ (xReady zs x l):=by
    unfold told11 xReady;rw[hx2t,hx2r,hq3,hq2,hq1];rfl
   have HCL:=Hd (Xbe (q:=⟨some ⟨w8.heap.size,0,none⟩,n,n,s,RA,l.length,l.length⟩) (x:=xReady zs x l) HRC.out);have HC1:=Hd (Xbk (q:=⟨some ⟨w8.heap.size,0,none⟩,n,n,s,RA,l.length,l.length⟩) (x:=xReady zs x l));rw[e11]at hr11;have T11:Three11 w.heap.size (YRaw.cells ⟨some ⟨w8.heap.size,0,none⟩,n,n,s,RA,l.length,l.length⟩ (xReady zs x l)) 0 w11:=
    ⟨hr11,⟨(hN.block _ T10.out.r1.lt (by omega)).trans T10.out.r1.is⟩,⟨(hN.block _ T10.out.r2.lt (by omega)).trans T10.out.r2.is⟩⟩
   have T11:=Hd T11;have L11:=Hd (L10.out.keep hN.size fun k a b=>hN.block k b (by omega));have R11:Hid (Row w11 w8.heap.size 5 (bv zs)):=Hd ⟨(hN.block _ R10.out.lt (by have:=HHI.out.2;omega)).trans R10.out.is⟩;have B11:=Hd (B10.out.trans hb);have HFIN:Hid (∀V,Lists11 w.heap.size lo w3.heap.size w5.heap.size s x RA rc l V→Row V w8.heap.size 5 (bv zs)→Below w.heap.size w V→RdDone w ts zs (.returned (.tuple #[.agg (YRaw.cells ⟨some ⟨w8.heap.size,0,none⟩,n,n,s,RA,l.length,l.length⟩ (xReady zs x l)).toArray,.int .i64 0])) V):=Hd fun V h1 h2 h3 =>
    Xrc (by rw[HRD.out];exact HCE.out) (HRR.out HCE.out) h1 h2 HGB.out HHI.out.1 HNZ.out HNM.out FEW.out HOK.out h3
   clear hr11 hN hb e11 L10 R10 B10 T10 HAP hx2t hx2r hq1 hq2 hq3 hx1 hx2;generalize YRaw.cells ⟨some ⟨w8.heap.size,0,none⟩,n,n,s,RA,l.length,l.length⟩ (xReady zs x l)=CF at *;go_wp2_with fail;refine leaves_cons (f:=37) (args:=#[.pointer (some ⟨w.heap.size,0,none⟩),.pointer (some ⟨w.heap.size+1+1,0,none⟩),.pointer (some ⟨w.heap.size+1,0,none⟩)]) (by simp) (by simp[go_sem]) ?_;refine(HEND.out w11 _ _ _ HCL.out HC1.out T11.out).mono ?_;rintro e u' w12 ⟨rfl,⟨rfl,h0,h1,hb9⟩,hs9,hk9⟩;rw[if_pos rfl]at h0;refine⟨_,Xc6 (h:=rfl) _ w12 ⟨w.heap.size,0,none⟩ ⟨w.heap.size+1,0,none⟩ _ _ (by rfl) (by rfl) (run_loadVar_row w12 w.heap.size 48 48 CF.toArray (0,0) _ h0.is Tryz.underlying48 rfl (by rw[List.size_toArray];exact(by rw[HCL.out];exact Xb6))) (Xas w12 _ 49 _ _ Tryz.underlying49 rfl (h1.cell 0)),?_⟩;refine HFIN.out w12 (L11.out.keep hs9 fun k a b=>hk9 k b (by omega) (by omega)) ⟨(hk9 _ R11.out.lt (by have:=HHI.out.2;omega) (by have:=HHI.out.2;omega)).trans R11.out.is⟩ (B11.out.trans hb9)
  ·rw[if_neg hce]at hq;subst hq;have HF:=Hd (fun w=>Xcx (castErr ts x.m) w);rw[decide_eq_true hce]at HF;have HCE:=Hd hce;have e7:(q1.cells x1).set 41 (.slice none 0 0)=YRaw.cells { q1 with RA:=none,rn:=0,rc:=0 } { x1 with roles:=[] }:=Xnv (by rw[hx1];exact HRC.out) _ _ _ _;have HCL:=Hd (Xbe (q:={ q1 with RA:=none,rn:=0,rc:=0 }) (x:={ x1 with roles:=[] }) (by rw[hx1];exact HRC.out));have HC1:=Hd (Xbk (q:={ q1 with RA:=none,rn:=0,rc:=0 }) (x:={ x1 with roles:=[] }));clear hce;generalize castErr ts x.m=ce at *;go_upto_region 8 with fail
   have T7:=T6.out.cell 41 (.slice none 0 0);rw[e7]at T7;have ht7:=Xa2 w6 ⟨w.heap.size,41,none⟩ (.slice none 0 0);have ht8:=Xa2 (w6.setCell ⟨w.heap.size,41,none⟩ (.slice none 0 0)) ⟨w.heap.size+1+1,0,none⟩ (.int .i64 ce);have T8:=Hd (T7.wrong ce);have B8:=Hd ((B6.out.trans (ht7.below (Lr _))).trans (ht8.below (show w.heap.size≤w.heap.size+1+1 by omega)));clear c2 f2 c41 f41 T6 B6 V6 e7 T7 ht7 ht8;generalize (w6.setCell ⟨w.heap.size,41,none⟩ (.slice none 0 0)).setCell ⟨w.heap.size+1+1,0,none⟩ (.int .i64 ce)=w8 at *;have c2:w8.cell? ⟨w.heap.size+1+1,0,none⟩=some (.int .i64 ce):=T8.out.r2.cell 0;go_wp2_with (go_at_call 40;refine(HF.out _).mono ?_;rintro e w' ⟨rfl,hw⟩;obtain rfl:=hw.symm)
   refine leaves_cons (f:=37) (args:=#[.pointer (some ⟨w.heap.size,0,none⟩),.pointer (some ⟨w.heap.size+1+1,0,none⟩),.pointer (some ⟨w.heap.size+1,0,none⟩)]) (by simp) (by simp[go_sem]) ?_;refine(HEND.out w8 _ _ _ HCL.out HC1.out T8.out).mono ?_;rintro e u' w9 ⟨rfl,⟨rfl,h0,h1,hb9⟩,hs9,hk9⟩;rw[if_neg HCE.out]at h0;refine⟨_,Xc6 (h:=rfl) _ w9 ⟨w.heap.size,0,none⟩ ⟨w.heap.size+1,0,none⟩ _ _ (by rfl) (by rfl) (run_loadVar_row w9 w.heap.size 48 48 yzero.toArray (0,0) _ h0.is Tryz.underlying48 rfl (by rw[List.size_toArray];exact(by rw[Xbz];exact Xb6))) (Xas w9 _ 49 _ _ Tryz.underlying49 rfl (h1.cell 0)),?_⟩;exact RdDone.no HRD.out HCE.out (B8.out.trans hb9)
 ·have HN:=Hd hn;have T3:=Hd (T2.out.below hb T2.out.lt);have B3:=Hd (B2.out.trans (hb.mono B2.out.size));have HF:=Hd (fun w=>Xcx (wErr zs) w);rw[decide_eq_true hn]at HF;clear hb hn T2 B2;go_upto_region 6 with((with_reducible show wpList _ _ _ (⟨none,Op.store 42 _ _,_,_,_,_⟩::_) _ _);go_must(refine Xa9 rfl 42 (.tmp 17) (.tmp 15) rfl w.heap.size 48 1 yzero tzero T3.out.r0 Xan (by rw[Xbz,Xdf];omega) Xap ?_ ?_ ?_;go_simp;(go_simp;try kernel_rfl);intro w4 hr4 ht4;have c2:w4.cell? ⟨w.heap.size+1+1,0,none⟩=some (.int .i64 0):=(ht4.row T3.out.r2 (show w.heap.size+2≠w.heap.size by omega)).cell 0;have f2:w4.frozen? ⟨w.heap.size+1+1,0,none⟩=false:=(ht4.row T3.out.r2 (show w.heap.size+2≠w.heap.size by omega)).frozen 0))
  have e4:yzero.take 1++tzero++yzero.drop (1+tzero.length)=yzero:=by
   have:=Xl5 (q:=zYRaw) (x:=zReady) (s:=zRaw) (t:=zTx) rfl rfl;exact this
  rw[e4]at hr4;have T4:=Hd (T3.out.part ht4 hr4);have B4:=Hd (B3.out.trans (ht4.below (Lr _)));clear hr4 ht4 e4 T3 B3;have T5:=Hd (T4.out.wrong (wErr zs));have B5:=Hd (B4.out.trans ((Xa2 w4 ⟨w.heap.size+1+1,0,none⟩ (.int .i64 (wErr zs))).below (show w.heap.size≤w.heap.size+1+1 by omega)));clear c2 f2 T4 B4;generalize w4.setCell ⟨w.heap.size+1+1,0,none⟩ (.int .i64 (wErr zs))=w5 at *;have c2:w5.cell? ⟨w.heap.size+1+1,0,none⟩=some (.int .i64 (wErr zs)):=T5.out.r2.cell 0;go_wp2_with (go_at_call 40;refine(HF.out _).mono ?_;rintro e w' ⟨rfl,hw⟩;obtain rfl:=hw.symm)
  refine leaves_cons (f:=37) (args:=#[.pointer (some ⟨w.heap.size,0,none⟩),.pointer (some ⟨w.heap.size+1+1,0,none⟩),.pointer (some ⟨w.heap.size+1,0,none⟩)]) (by simp) (by simp[go_sem]) ?_;refine(HEND.out w5 _ _ _ Xbz Xe1 T5.out).mono ?_;rintro e u' w9 ⟨rfl,⟨rfl,h0,h1,hb9⟩,hs9,hk9⟩;rw[if_neg HN.out]at h0;refine⟨_,Xc6 (h:=rfl) _ w9 ⟨w.heap.size,0,none⟩ ⟨w.heap.size+1,0,none⟩ _ _ (by rfl) (by rfl) (run_loadVar_row w9 w.heap.size 48 48 yzero.toArray (0,0) _ h0.is Tryz.underlying48 rfl (by rw[List.size_toArray];exact(by rw[Xbz];exact Xb6))) (Xas w9 _ 49 _ _ Tryz.underlying49 rfl (h1.cell 0)),?_⟩;exact RdDone.no (Xf1 HN.out) HN.out (B5.out.trans hb9)
def ET(S:Nat→Prop)(w:World)(B:Nat)(cs:List Value)(t:LTab):Prop:=
 t.key.length=32∧∃g c rest,cs=bv t.key++[.slice (some ⟨g,0,none⟩) t.keys.length c]∧Row w g 78 (bv t.keys.flatten++rest)∧(t.keys.length≤c∧c≤maxLen)∧S g
def KeepKeys(w w':World):Prop:=∀g xs,Row w g 78 xs→Row w' g 78 xs
structure RReg(w:World)(pb base:Nat)(v:Value)(ts:List LTab)(S:Nat→Prop):Prop where
 row:Row w pb 85 [v]
 tabs:∃css,w.ownsRow base 147 33 v ts.length css.flatten∧Elems 33 (ET S) w 0 ts css
 good:TsOk ts
section
variable{w w':World}{pb base:Nat}{v:Value}{ts:List LTab}{S S':Nat→Prop}
theorem KeepKeys.below(hb:Below w.heap.size w w'):KeepKeys w w':=fun g xs hr=>hr.below hb hr.lt
theorem ET.keep{B:Nat}{cs:List Value}{t:LTab}(h:ET S w B cs t)(hk:KeepKeys w w')(hS:∀g,g<w.heap.size→S g→S' g):ET S' w' B cs t:=by
 obtain⟨h1,g,c,rest,h2,h3,h4,h5⟩:=h;exact⟨h1,g,c,rest,h2,hk g _ h3,h4,hS g h3.lt h5⟩
theorem RReg.keep(h:RReg w pb base v ts S)(hk:KeepKeys w w')(hp:w'.heap[pb]?=w.heap[pb]?)(ho:∀g,v.ownBlock=some g→w'.heap[g]?=w.heap[g]?):RReg w' pb base v ts S:=by
 obtain⟨css,h1,h2⟩:=h.tabs;exact⟨⟨hp.trans h.row.is⟩,⟨css,Xfv h1 ho,h2.map fun cs x hx=>ET.keep hx hk fun _ _ hs=>hs⟩,h.good⟩
theorem RReg.below(h:RReg w pb base v ts S)(hb:Below w.heap.size w w'):RReg w' pb base v ts S:=by
 obtain⟨css,h1,h2⟩:=h.tabs;exact h.keep (KeepKeys.below hb) (hb.block pb h.row.lt) fun g e=>hb.block g (h1.lt g e).2
theorem Elems.turn{α:Type}{size:Nat}{E E':World→Nat→List Value→α→Prop}{w w':World}{B B':Nat}{l:List α}{css:List (List Value)}(h:Elems size E w B l css)(hm:∀cs x,E w B cs x→E' w' B' cs x):Elems size E' w' B' l css:=
 ⟨h.len,fun i x cs hx hcs=>by
  obtain⟨a,b⟩:=h.at_ i x cs hx hcs;exact⟨hm _ _ a,b⟩⟩
theorem RReg.weak(h:RReg w pb base v ts S)(hS:∀g,g<w.heap.size→S g→S' g):RReg w pb base v ts S':=by
 obtain⟨css,h1,h2⟩:=h.tabs;exact⟨h.row,⟨css,h1,h2.turn fun cs x hx=>ET.keep hx (fun _ _ hr=>hr) hS⟩,h.good⟩
theorem RReg.open_(h:RReg w pb base v ts S):∃A c css,v=.slice A ts.length c∧Sees w w.heap.size A (ts.length*33) css.flatten∧Elems 33 (ET S) w 0 ts css∧ts.length≤c∧c≤maxLen:=by
 obtain⟨css,h1,h2⟩:=h.tabs;obtain⟨A,c,hv,hs,hc,hm,_⟩:=Xbs h1;exact⟨A,c,css,hv,hs,h2,hc,hm⟩
end
theorem Xld{ts us:List LTab}{x:List Int}{l:List (List Int)}(h:findT ts x=some l):findT (ts++us) x=some l:=by
 unfold findT at *;rw[List.find?_append];obtain⟨t,ht,rfl⟩:=Option.map_eq_some_iff.1 h;rw[ht];rfl
theorem Xq2{ts:List LTab}{x:List Int}{k:Nat}{t:LTab}(ht:ts[k]?=some t)(h:findT (ts.take k) x=none)(he:t.key=x):findT ts x=some t.keys:=by
 have h1:findT (ts.take (k+1)) x=some t.keys:=by
  rw[List.take_add_one,ht];show findT (ts.take k++[t]) x=_
  rw[Xgf,h];simp[he]
 have:=Xld (us:=ts.drop (k+1)) h1;rwa [List.take_append_drop]at this
theorem Xoz{ts:List LTab}{x:List Int}{k:Nat}{t:LTab}(ht:ts[k]?=some t)(h:findT (ts.take k) x=none)(he:t.key≠x):findT (ts.take (k+1)) x=none:=by
 rw[List.take_add_one,ht];show findT (ts.take k++[t]) x=_
 rw[Xgf,h];simp[he]
def RFDone(w:World)(ts:List LTab)(x:List Int)(e:Ending)(w':World):Prop:=
 ∃A n c,e=.returned (.tuple #[.slice A n c,.int .i64 (fErr ts x)])∧KeysIn w' w'.heap.size A n (fKeys ts x)∧n≤256∧Below w.heap.size w w'∧∀a,A=some a→w.heap.size≤a.block
theorem Xqd(pb base:Nat)(v:Value)(ts:List LTab)(S:Nat→Prop)(x:List Int)(w:World)(h:RReg w pb base v ts S)(hx:KeyOk x)(hn:ts.length≤1000) :
 Calls Tryz.prog 82 #[.pointer (some ⟨pb,0,none⟩),.agg (bv x).toArray] w (RFDone w ts x):=by
 have hb0:Below w.heap.size w (w.alloc (.cells (bv x).toArray 78)):=(Br _ _).alloc (Lr _) _;have RX:=Hd (Row.new w 78 (bv x));have HSZ:=Hd (show(Tryz.prog.info? 78).map (·.size)=some (bv x).length by rw[bL,hx.1];exact Xab);have HB0:=Hd hb0;have hR:=h.below hb0;have HR:=Hd hR;obtain⟨A,c,css,rfl,hse,hel,hc1,hc2⟩:=hR.open_;have SE:=Hd hse;have EL':=Hd hel;have HX:=Hd hx;have HN:=Hd (And.intro hc1 hc2);have c0:(w.alloc (.cells (bv x).toArray 78)).cell? ⟨pb,0,none⟩=some (.slice A ts.length c):=hR.row.cell 0;clear h hb0 hR hse hel hx hc1 hc2;obtain⟨X,hX⟩:∃X,X=bv x:=⟨_,rfl⟩;have HXX:=Hd hX;rw[←hX]at RX HSZ HB0 HR SE EL' c0 ⊢;clear hX;generalize hWW:w.alloc (.cells X.toArray 78)=W at *;have HWW:=Hd hWW;clear hWW;obtain⟨n,hnn⟩:∃n,n=ts.length:=⟨_,rfl⟩;have LN:=Hd hnn;rw[←hnn]at SE c0 HN hn;clear hnn;go_enter Tryz.func82,Tryz.ntmps82
 go_upto_region 1 with fail
 rw[HWW.out];go_wp2_with fail;go_loopw [6] (fun i wr=>∃k j:Nat,k≤n∧i=.int .i64 k∧findT (ts.take k) x=none∧wr=W.drewN j) (fun i _=>n - (intOf i).toNat)
 case atStart=>exact⟨0,0,Nat.zero_le _,rfl,rfl,rfl⟩
 case round =>
  obtain⟨k,j,hk,rfl,hnone,rfl⟩:=hrel;have HNO:=Hd hnone;clear hnone;by_cases hlt:k<n
  ·obtain⟨a,t,cs,rfl,hab,ht,hcs,⟨e1,g,gc,rest,e2,e3,⟨e4,e5⟩,e6⟩,e7,e8,_⟩:=EL'.out.get (by rw[←LN.out];exact SE.out) (by rw[←LN.out];exact hlt) (by omega);subst e2;have HT:=Hd ht;have CA:Hid (∀j u,(bv t.key)[j]?=some u→W.cell? ((a.add (k*33)).add j)=some u):=Hd fun j u hu=>e8 j u (by rw[List.getElem?_append_left (List.getElem?_eq_some_iff.1 hu).1];exact hu)
   have HSX:=Hd (show(Tryz.prog.info? 78).map (·.size)=some (bv t.key).length by rw[Xab,bL,e1]);have NQ:∀w,(binOp .eql 78 (.agg (bv t.key).toArray) (.agg X.toArray)).run Tryz.prog w=.ok (.bool (decide (t.key=x))) w:=fun w=>by rw[HXX.out];exact Xej e1 HX.out.1 w
   have c32:W.cell? ⟨(a.add (k*33)).block,(a.add (k*33)).off+32,none⟩=some (.slice (some ⟨g,0,none⟩) t.keys.length gc):=e8 32 _ (by rw[List.getElem?_append_right (by rw[bL,e1];exact Lr _),bL,e1];rfl);have RG:=Hd e3;obtain⟨h32,h1,h256⟩:=(show(∀y ∈ t.keys,y.length=32)∧1≤t.keys.length∧t.keys.length≤256 from⟨(HR.out.good t (List.mem_of_getElem? ht)).keys,(HR.out.good t (List.mem_of_getElem? ht)).one,(HR.out.good t (List.mem_of_getElem? ht)).most⟩);have H32:=Hd h32;have KI:=Hd (Xmw RG.out rfl h32 RG.out.lt);clear ht hcs e1 e3 e4 e5 e6 e7 e8 hab h32;generalize bv t.key=Y at *;by_cases hyy:t.key=x
   ·rw[decide_eq_true hyy]at NQ;have HF:=Hd (Xq2 HT.out HNO.out hyy);clear hyy;generalize hm:t.keys.length=m at *;go_wp2_with fail;refine wp_region_quiet_lit (by kernel_rfl) (by kernel_rfl) ?_;repeat (first
     | ((with_reducible show wpQuiet _ _ _ _ (⟨some 23,_,_,_,_,_⟩::_) _);go_must(refine Xa6 (by kernel_rfl) 78 (.tmp 22) rfl (a.add (k*33)) Y _ Tryz.underlying78 rfl HSX.out (by rintro _ ⟨nq,rfl⟩;exact CA.out) ?_ ?_;go_simp;go_simp))
     | ((with_reducible show wpQuiet _ _ _ _ (⟨some 24,_,_,_,_,_⟩::_) _);go_must(refine Xa6 (by kernel_rfl) 78 (.tmp 3) rfl ⟨w.heap.size,0,none⟩ X _ Tryz.underlying78 rfl HSZ.out (by rintro _ ⟨nq,rfl⟩;exact fun j v hv=>by rw[Xa5,Nat.zero_add];exact(RX.out.cell j).trans hv) ?_ ?_;go_simp;go_simp))
     | go_big_quiet_step (fail))
    refine wpQuiet_nil ?_;intro nq;have HSG:Hid (Sees (W.drewN (j+nq)) W.heap.size (some ⟨g,0,none⟩) (m*32) (bv t.keys.flatten)):=Hd (KI.out.sees.keep fun p hp=>rfl);have HB2:Hid (Below w.heap.size w (W.drewN (j+nq))):=Hd (below_drewN HB0.out (j+nq));have HE:Hid (fErr ts x=0):=Hd (by unfold fErr;rw[HF.out];rfl);have HKK:Hid (fKeys ts x=t.keys):=Hd (by unfold fKeys;rw[HF.out];rfl);have HM:=Hd hm;clear hm;go_wp2_with ((with_reducible show wpList _ _ _ (⟨some 34,_,_,_,_,_⟩::_) _ _);go_must(refine Xiq rfl (.const (.slice none 0 0)) (.tmp 33) 34 78 _ 32 32 rfl Tryz.underlying34 Xaj zsz6 (by omega) (.slice none 0 0) 0 [] w.heap.size _ (some ⟨g,0,none⟩) m gc (bv t.keys.flatten) rfl (World.ownsRow_nil _ _ _ _) ?_ HSG.out (Xae _) (by unfold maxLen;omega) (by omega) HB2.out.size ?_;go_simp;intro v1 u1 ho1 hg1;rw[Nat.zero_add,List.nil_append]at ho1;obtain⟨A1,c1,rfl,hs1,_,_,hlo1⟩:=Xbs ho1;have SE1:=Hd hs1;have GB:=Hd (hg1.below (World.ownsRow_nil _ _ 78 32) (Lr _));have LO1:=Hd hlo1;clear ho1 hg1 hs1 hlo1))
    go_ret2
    refine⟨A1,m,c1,by rw[HE.out];rfl,?_,h256,HB2.out.trans (GB.out.mono HB2.out.size),fun a' ha=>by subst ha;exact(LO1.out _ rfl).1⟩;rw[HKK.out];exact⟨HM.out,H32.out,SE1.out⟩
   ·rw[decide_eq_false hyy]at NQ;have HF:=Hd (Xoz HT.out HNO.out hyy);clear hyy c32;go_wp2_with fail;refine wp_region_quiet_lit (by kernel_rfl) (by kernel_rfl) ?_;repeat (first
     | ((with_reducible show wpQuiet _ _ _ _ (⟨some 23,_,_,_,_,_⟩::_) _);go_must(refine Xa6 (by kernel_rfl) 78 (.tmp 22) rfl (a.add (k*33)) Y _ Tryz.underlying78 rfl HSX.out (by rintro _ ⟨nq,rfl⟩;exact CA.out) ?_ ?_;go_simp;go_simp))
     | ((with_reducible show wpQuiet _ _ _ _ (⟨some 24,_,_,_,_,_⟩::_) _);go_must(refine Xa6 (by kernel_rfl) 78 (.tmp 3) rfl ⟨w.heap.size,0,none⟩ X _ Tryz.underlying78 rfl HSZ.out (by rintro _ ⟨nq,rfl⟩;exact fun j v hv=>by rw[Xa5,Nat.zero_add];exact(RX.out.cell j).trans hv) ?_ ?_;go_simp;go_simp))
     | go_big_quiet_step (fail))
    refine wpQuiet_nil ?_;intro nq;go_wp2_with fail;go_roundw
    case rel=>exact⟨k+1,j+nq,by omega,by go_num,HF.out,by simp⟩
    case measure=>simp[intOf];omega
  ·have hkn:k=n:=by omega
   have HF:Hid (findT ts x=none):=Hd (by have:=HNO.out;rwa [hkn,LN.out,List.take_length]at this);have HE:Hid (fErr ts x=11):=Hd (by unfold fErr;rw[HF.out];rfl);have HKK:Hid (fKeys ts x=[]):=Hd (by unfold fKeys;rw[HF.out];rfl);clear hkn;go_wp2_with fail;go_ret2
   refine⟨none,0,0,by rw[HE.out];rfl,?_,by omega,below_drewN HB0.out j,fun a' ha=>by cases ha⟩;rw[HKK.out];exact⟨rfl,by simp,Sees.nil _ _ _⟩
structure PutKeep(w w':World)(pb:Nat)(v v':Value):Prop where
 os:w'.os=w.os
 tape:w'.tape=w.tape
 output:w'.output=w.output
 size:w.heap.size≤w'.heap.size
 block:∀g,g<w.heap.size→g≠pb→v.ownBlock≠some g→w'.heap[g]?=w.heap[g]?
 fresh:∀g,v'.ownBlock=some g→v.ownBlock=some g∨w.heap.size≤g
theorem PutKeep.below{w w':World}{pb:Nat}{v:Value}(h:Below w.heap.size w w'):PutKeep w w' pb v v:=⟨h.os,h.tape,h.output,h.size,fun g hg _ _=>h.block g hg,fun g e=>.inl e⟩
def RPutDone(w:World)(pb base:Nat)(v:Value)(ts:List LTab)(S:Nat→Prop)(x:List Int)(l:List (List Int))(e:Ending)(w':World):Prop:=
 e=.returned (.int .i64 (mayPut ts x l))∧∃v',RReg w' pb base v' (putT ts x l) (fun g=>S g∨w.heap.size≤g)∧PutKeep w w' pb v v'
theorem RPutDone.not{w w':World}{pb base:Nat}{v:Value}{ts:List LTab}{S:Nat→Prop}{x:List Int}{l:List (List Int)}(h:RReg w pb base v ts S)(hb:Below w.heap.size w w'){c:Int}(hm:mayPut ts x l=c)(hc:c≠0):RPutDone w pb base v ts S x l (.returned (.int .i64 c)) w':=by
 have e:putT ts x l=ts:=by unfold putT;rw[if_neg (by rw[hm];exact hc)]
 refine⟨by rw[hm],v,?_,PutKeep.below hb⟩;rw[e];exact(h.below hb).weak fun g _ hs=>.inl hs
theorem Xez:(Tryz.prog.info? 147).map (fun i=>(i.zero,i.size,i.bytes))=some (some (.agg (zeros 32++[Value.slice none 0 0]).toArray),33,56):=by kernel_rfl
theorem Xgj:(Value.agg (zeros 32++[Value.slice none 0 0]).toArray).cells.size=33:=by kernel_rfl
theorem Xkp(l:List Value)(hl:l.length=32)(A:Option Addr)(n c:Nat):Tryz.prog.built 147 [(0,.agg l.toArray),(1,.slice A n c)]=some (l++[Value.slice A n c]).toArray:=by
 obtain⟨f,rfl⟩:∃f:Fin 32→Value,l=List.ofFn f:=⟨fun i=>l.getD i undef,by
  refine List.ext_getElem (by simpa using hl) fun i h1 h2=>?_
  rw[List.getElem_ofFn,List.getD_eq_getElem?_getD,List.getElem?_eq_getElem h1];rfl⟩
 kernel_rfl
theorem Xlg{w:World}{base size n:Nat}{e:TypeId}{v:Value}{xs:List Value}(h:w.ownsRow base e size v n xs)(hn:1≤n):∃g c rest,v=.slice (some ⟨g,0,none⟩) n c∧base≤g∧Row w g e (xs++rest)∧n≤c∧c≤maxLen:=by
 rcases h.2 with⟨_,h0⟩ | ⟨g,cap,cur,h1,h2,h3,h4,h5,h6,h7⟩
 ·omega
 ·refine⟨g,cap,cur.toList.drop (n*size),h1,h2,⟨?_⟩,h4,h5⟩;rw[h3,←h7,List.take_append_drop]
structure PC(w0 V:World)(pb base bx:Nat)(v:Value)(ts:List LTab)(S:Nat→Prop)(X:List Value):Prop where
 reg:RReg V pb base v ts S
 key:Row V bx 78 X
 b:Below w0.heap.size w0 V
theorem PC.below{w0 V V':World}{pb base bx:Nat}{v:Value}{ts:List LTab}{S:Nat→Prop}{X:List Value}(h:PC w0 V pb base bx v ts S X)(hb:Below V.heap.size V V'):PC w0 V' pb base bx v ts S X:=
 ⟨h.reg.below hb,h.key.below hb h.key.lt,h.b.trans (hb.mono h.b.size)⟩
theorem PC.done{w V3 V4:World}{pb base bx g c:Nat}{v v4:Value}{ts:List LTab}{S:Nat→Prop}{X rest:List Value}{x:List Int}{l:List (List Int)}{css:List (List Value)}
 (h:PC w V3 pb base bx v ts S X) (he:Elems 33 (ET S) V3 0 ts css) (hx:KeyOk x) (hl:∀y ∈ l,y.length=32) (hm:mayPut ts x l=0)
 (ho:V4.ownsRow base 147 33 v4 (ts.length+1) (css.flatten++(bv x++[Value.slice (some ⟨g,0,none⟩) l.length c]))) (hg:Grew V3 V4 v v4)
 (hown:V3.ownsRow base 147 33 v ts.length css.flatten)
 (hk:Row V3 g 78 (bv l.flatten++rest)) (hgw:w.heap.size≤g) (hc:l.length≤c∧c≤maxLen) :
 RPutDone w pb base v ts S x l (.returned (.int .i64 0)) (V4.setCell ⟨pb,0,none⟩ v4):=by
 have hts:putT ts x l=ts++[⟨x,l⟩]:=by unfold putT;rw[if_pos hm]
 have hT:=Xa2 V4 ⟨pb,0,none⟩ v4;have hrow4:Row V4 pb 85 [v]:=h.reg.row.grown hg.grown (Xch hown h.reg.row (by decide));have hkk:KeepKeys V3 (V4.setCell ⟨pb,0,none⟩ v4):=fun g' xs hr=>by
  have h1:Row V4 g' 78 xs:=hr.grown hg.grown (Xch hown hr (by decide));exact hT.row h1 (fun e=>by
   have e':g'=pb:=e;subst e';have:=h1.is.symm.trans hrow4.is;injection this with this
   injection this with _ this
   revert this
   decide)
 refine⟨by rw[hm],v4,⟨?_,⟨css++[bv x++[Value.slice (some ⟨g,0,none⟩) l.length c]],?_,?_⟩,?_⟩,⟨hg.grown.os.trans h.b.os,hg.grown.tape.trans h.b.tape,hg.grown.output.trans h.b.output,?_,fun k hk1 hk2 hk3=>?_,fun k e=>?_⟩⟩
 ·exact hrow4.set_ 0 v4
 ·rw[hts,List.flatten_append,List.length_append];have e:([bv x++[Value.slice (some ⟨g,0,none⟩) l.length c]]:List (List Value)).flatten=bv x++[Value.slice (some ⟨g,0,none⟩) l.length c]:=by simp
  rw[e];exact Xcv ho hrow4 (by decide) hT
 ·rw[hts];have hone:Elems 33 (ET fun g=>S g∨w.heap.size≤g) (V4.setCell ⟨pb,0,none⟩ v4) 0 [(⟨x,l⟩:LTab)] [bv x++[Value.slice (some ⟨g,0,none⟩) l.length c]]:=⟨rfl,fun i y cs hy hcs=>by
   match i,hy,hcs with
   | 0,hy,hcs =>
    cases hy
    cases hcs
    refine⟨⟨hx.1,g,c,rest,rfl,hkk _ _ hk,hc,.inr hgw⟩,by simp[bL,hx.1],fun u hu=>?_⟩;rcases List.mem_append.1 hu with hu | hu
    ·exact Xae _ _ hu
    ·obtain rfl:=List.mem_singleton.1 hu;rfl⟩
  exact(he.turn fun cs y hy=>ET.keep (S':=fun g=>S g∨w.heap.size≤g) hy hkk fun _ _ hs=>Or.inl hs).app hone
 ·exact h.reg.good.put hx hl
 ·exact Lq (Lq h.b.size hg.size) (Nat.le_of_eq hT.size.symm)
 ·rw[hT.block k hk2];exact(hg.grown.block k (Nat.lt_of_lt_of_le hk1 h.b.size) (fun e=>hk3 e.symm)).trans (h.b.block k hk1)
 ·rcases hg.fresh k e with h1 | h1
  ·exact .inl h1
  ·exact .inr (Lq h.b.size h1)
theorem refPut(pb base:Nat)(v:Value)(ts:List LTab)(S:Nat→Prop)(x:List Int)(A:Option Addr)(m c B:Nat)(l:List (List Int))(w:World)(h:RReg w pb base v ts S)(hx:KeyOk x)(hl:KeysIn w B A m l)(hB:B≤w.heap.size)(hn:ts.length≤900)(hm:m≤maxLen)(hbase:base≤w.heap.size) :
 Calls Tryz.prog 35 #[.pointer (some ⟨pb,0,none⟩),.agg (bv x).toArray,.slice A m c] w (RPutDone w pb base v ts S x l):=by
 have hlen:=hl.len;have hb0:Below w.heap.size w (w.alloc (.cells (bv x).toArray 78)):=(Br _ _).alloc (Lr _) _;have RX:=Hd (Row.new w 78 (bv x));have HREG:=Hd h;have HSZ:=Hd (show(Tryz.prog.info? 78).map (·.size)=some (bv x).length by rw[bL,hx.1];exact Xab);have HXL:Hid ((bv x).length=32):=Hd (by rw[bL,hx.1]);have HF:=Hd (Xqd pb base v ts S x _ (h.below hb0) hx (by omega));have HP:=Hd (show PC w (w.alloc (.cells (bv x).toArray 78)) pb base w.heap.size v ts S (bv x)from⟨h.below hb0,RX.out,hb0⟩);have HKI:Hid (∀V:World,Below w.heap.size w V→KeysIn V B A m l):=Hd fun V hV=>hl.below (hV.mono hB)
 have HX:=Hd hx;have HONE0:Hid (∀(g:Nat) (m gc:Nat),∀u ∈ bv x++[Value.slice (some ⟨g,0,none⟩) m gc],u.oneCell'=true):=Hd fun g m gc u hu=>by
  rcases List.mem_append.1 hu with hu | hu
  ·exact Xae _ _ hu
  ·obtain rfl:=List.mem_singleton.1 hu;rfl
 have HBASE:=Hd hbase;have HL:=Hd hlen;have HLX:=Hd hl.each;have HDN:Hid (∀(V3 V4:World) v4 g c' rest css,PC w V3 pb base w.heap.size v ts S (bv x)→Elems 33 (ET S) V3 0 ts css→mayPut ts x l=0→V4.ownsRow base 147 33 v4 (ts.length+1) (css.flatten++(bv x++[Value.slice (some ⟨g,0,none⟩) l.length c']))→Grew V3 V4 v v4→V3.ownsRow base 147 33 v ts.length css.flatten→Row V3 g 78 (bv l.flatten++rest)→w.heap.size≤g→(l.length≤c'∧c'≤maxLen)→RPutDone w pb base v ts S x l (.returned (.int .i64 0)) (V4.setCell ⟨pb,0,none⟩ v4)):=
  Hd fun V3 V4 v4 g c' rest css h1 h2 h3 h4 h5 h6 h7 h8 h9=>PC.done h1 h2 hx hl.each h3 h4 h5 h6 h7 h8 h9
 unfold maxLen at hm;clear hb0 h hx hl hlen;obtain⟨X,hX⟩:∃X,X=bv x:=⟨_,rfl⟩;rw[←hX]at RX HSZ HXL HF HP HDN HONE0 ⊢;clear hX;generalize hWW:w.alloc (.cells X.toArray 78)=W at *;have HWW:=Hd hWW;clear hWW;rcases Xdp ts x l with⟨hm1,hc1⟩ | ⟨hm1,hc1,hs1⟩ | ⟨hm1,hc1,hs1⟩
 ·have hE:Hid (RPutDone w pb base v ts S x l (.returned (.int .i64 1)) W):=Hd (RPutDone.not HREG.out HP.out.b hm1 (by omega));rw[HL.out]at hc1;clear hm1;by_cases h0:m=0
  ·subst h0;go_enter Tryz.func35,Tryz.ntmps35
   go_upto_region 1 with fail
   rw[HWW.out];go_wp2_with fail;go_ret;exact hE.out
  ·have h2:256<m:=by omega
   clear hc1;go_enter Tryz.func35,Tryz.ntmps35
   go_upto_region 1 with fail
   rw[HWW.out];go_wp2_with fail;go_ret;exact hE.out
 ·have hE:Hid (∀V,Below w.heap.size w V→RPutDone w pb base v ts S x l (.returned (.int .i64 12)) V):=Hd fun V hV=>RPutDone.not HREG.out hV hm1 (by omega)
  have HFE:Hid (fErr ts x=0):=Hd (by unfold fErr;rw[if_pos hs1]);rw[HL.out]at hc1;have h0:1≤m:=by omega
  have h2:m≤256:=by omega
  clear hm1 hc1 hs1;go_enter Tryz.func35,Tryz.ntmps35
  go_upto_region 1 with fail
  rw[HWW.out];go_wp2_with ((with_reducible show wpList _ _ _ (⟨some 19,_,_,_,_,_⟩::_) _ _);go_must(refine Xa3 rfl 78 (.tmp 4) rfl ⟨w.heap.size,0,none⟩ X _ Tryz.underlying78 rfl HSZ.out (fun j u hu=>by rw[Xa5,Nat.zero_add];exact(RX.out.cell j).trans hu) ?_ ?_;go_simp))
  refine HF.out.mono ?_;rintro e w2 ⟨FA,fn,fc,rfl,hk,hn2,hb2,_⟩;have HB2:=Hd ((HP.out.below hb2).b);clear hk hb2;rw[HFE.out];go_wp2_with fail;go_ret;exact hE.out _ HB2.out
 ·have HM:=Hd hm1;have HFE:Hid (fErr ts x=11):=Hd (by unfold fErr;rw[hs1];rfl);rw[HL.out]at hc1;have h0:1≤m:=by omega
  have h2:m≤256:=by omega
  clear hm1 hc1 hs1;go_enter Tryz.func35,Tryz.ntmps35
  go_upto_region 1 with fail
  rw[HWW.out];go_wp2_with ((with_reducible show wpList _ _ _ (⟨some 19,_,_,_,_,_⟩::_) _ _);go_must(refine Xa3 rfl 78 (.tmp 4) rfl ⟨w.heap.size,0,none⟩ X _ Tryz.underlying78 rfl HSZ.out (fun j u hu=>by rw[Xa5,Nat.zero_add];exact(RX.out.cell j).trans hu) ?_ ?_;go_simp))
  refine HF.out.mono ?_;rintro e w2 ⟨FA,fn,fc,rfl,hk,hn2,hb2,_⟩;have P0:=Hd (HP.out.below (hb2.trans ((show Below W.heap.size w2 w2.drew from⟨rfl,rfl,rfl,Lr _,fun _ _=>rfl⟩))));clear hk hb2 RX HP HREG HF;rw[HFE.out];go_wp2_with fail;have HS4:Hid (∀(V V':World) n xs v',PC w V pb base w.heap.size v ts S X→V.ownsRow base 147 33 v n xs→Grew V V' v v'→Row V' w.heap.size 78 X∧Row V' pb 85 [v]):=Hd fun V V' n xs v' h1 h2 h3=>⟨h1.key.grown h3.grown (Xch h2 h1.key (by decide)),h1.reg.row.grown h3.grown (Xch h2 h1.reg.row (by decide))⟩
  have HSS:Hid (∀V:World,PC w V pb base w.heap.size v ts S X→∀j u,X[j]?=some u→V.cell? ((⟨w.heap.size,0,none⟩:Addr).add j)=some u):=Hd fun V hV j u hu=>by rw[Xa5,Nat.zero_add];exact(hV.key.cell j).trans hu
  have HONE:Hid (∀g m gc,∀u ∈ X++[Value.slice (some ⟨g,0,none⟩) m gc],u.oneCell'=true):=HONE0;have S0:=Hd (HSS.out _ P0.out);refine wp_region_held_drew (S:=fun V=>∀j u,X[j]?=some u→V.cell? ((⟨w.heap.size,0,none⟩:Addr).add j)=some u) (by kernel_rfl) S0.out (fun _=>?_);generalize w2.drew=V0 at *;obtain⟨nts,hnts⟩:∃n,n=ts.length:=⟨_,rfl⟩;have HNT:=Hd hnts;rw[←hnts]at hn;clear hnts;refine Tk 0 rfl ?_ S0.out ?_ ⟨?_,rfl⟩
  ·intro w hw;(try dsimp only at hw);go_simp;try with_reducible rfl
  try simp only[nm]
  refine Tk 1 rfl ?_ S0.out ?_ ⟨?_,rfl⟩
  ·intro w hw;(try dsimp only at hw);go_simp;try with_reducible rfl
  try simp only[nm]
  refine Tk 2 rfl ?_ S0.out ?_ ⟨?_,rfl⟩
  ·intro w hw;(try dsimp only at hw);go_simp;try with_reducible rfl
  try simp only[nm]
  refine Tk 3 rfl ?_ S0.out ?_ ⟨?_,rfl⟩
  ·intro w hw;(try dsimp only at hw);go_simp;try with_reducible rfl
  try simp only[nm]
  refine Tl 5 (v:=.agg X.toArray) rfl (Or.inl ⟨by rfl,fun wz hwz=>Xa8 wz 78 (.tmp 4) rfl ⟨w.heap.size,0,none⟩ X _ Tryz.underlying78 rfl HSZ.out hwz (by go_simp)⟩) S0.out ?_;try simp only[nm]
  refine Tk 6 rfl ?_ S0.out ?_ ⟨?_,rfl⟩
  ·intro w hw;(try dsimp only at hw);go_simp;try with_reducible rfl
  try simp only[nm]
  refine Xc8 (i:=4) (j:=7) rfl rfl (by kernel_rfl) (by kernel_rfl) (by kernel_rfl) (fun K hK=>?_) (fun K hK=>?_)
  ·have cl0:V0.cell? ⟨pb,0,none⟩=some v:=P0.out.reg.row.cell 0;go_simp;clear cl0;refine hK.out _ _ S0.out ?_;clear hK K;try simp only[nm]
   refine Rl 7 rfl fun K hK=>?_
   refine Xd9 (.const (.slice none 0 0)) (.tmp 31) 34 78 _ 32 32 rfl Tryz.underlying34 Xaj zsz6 (by omega) (.slice none 0 0) 0 [] V0.heap.size B A m c (bv l.flatten) rfl (Xnr _ _ _ _) (by go_simp) (HKI.out V0 P0.out.b).sees (Xae _) (by unfold maxLen;omega) (by omega) (Lr _) ?_;intro va V1 ho hg;rw[Nat.zero_add,List.nil_append]at ho;have hb:Below V0.heap.size V0 V1:=(Br V0.heap.size V0).grown hg.grown (Lr _) (fun k hk=>by cases hk);obtain⟨g,gc,rest,rfl,hgb,hrk,hgc⟩:=Xlg ho h0;have P1:=Hd (P0.out.below hb);have RK1:=Hd hrk;have HGW:=Hd (Lq P0.out.b.size hgb);have HGC:=Hd hgc;have S1:=Hd (HSS.out _ P1.out);clear ho hg hb hgb hrk hgc;refine hK.out _ _ S1.out ?_;clear hK K;try simp only[nm]
   refine Tl 8 (v:=.agg (X++[Value.slice (some ⟨g,0,none⟩) m gc]).toArray) rfl (Or.inl ⟨by rfl,fun wz _=>Xak wz 147 _ _ rfl (by simp only[List.map_toArray,List.map_cons,List.map_nil];exact Xkp X HXL.out _ _ _)⟩) S1.out ?_;try simp only[nm]
   refine Rl 9 rfl fun K hK=>?_
   refine Xay 83 147 (.tmp 33) rfl (X++[Value.slice (some ⟨g,0,none⟩) m gc]) _ 33 56 Tryz.underlying83 Xez Xgj (by omega) (by omega) (by rw[List.length_append,HXL.out];rfl) (by go_simp) ?_;have hb:Below V1.heap.size V1 (V1.alloc (.cells (X++[Value.slice (some ⟨g,0,none⟩) m gc]).toArray 147)):=(Br _ _).alloc (Lr _) _;have P2:=Hd (P1.out.below hb);have RK2:=Hd (RK1.out.below hb RK1.out.lt);have RB:=Hd (Row.new V1 147 (X++[Value.slice (some ⟨g,0,none⟩) m gc]));have S2:=Hd (HSS.out _ P2.out);clear hb;obtain⟨gb,hgb⟩:∃gb,gb=V1.heap.size:=⟨_,rfl⟩;rw[←hgb]at RB ⊢;clear hgb;generalize V1.alloc (.cells (X++[Value.slice (some ⟨g,0,none⟩) m gc]).toArray 147)=V2 at *;refine hK.out _ _ S2.out ?_;clear hK K;try simp only[nm]
   obtain⟨css,hown,hel⟩:=P2.out.reg.tabs;have HO:=Hd hown;have HE:=Hd hel;clear hown hel;refine Rl 10 rfl fun K hK=>?_
   refine Xd9 (.tmp 29) (.tmp 34) 83 147 _ 33 56 rfl Tryz.underlying83 Xez Xgj (by omega) v ts.length css.flatten base V2.heap.size (some ⟨gb,0,none⟩) 1 1 (X++[Value.slice (some ⟨g,0,none⟩) m gc]) (by go_simp) HO.out (by go_simp) (by have:=RB.out.sees0;rwa [List.length_append,HXL.out]at this) (HONE.out _ _ _) (by unfold maxLen;have:=HNT.out;omega) (by have:=HNT.out;omega) (Lq HBASE.out P2.out.b.size) ?_;intro v4 V4 ho4 hg4;obtain⟨A4,c4,hv4,_⟩:=Xbs ho4;subst hv4;have HO4:=Hd ho4;have HG4:=Hd hg4;have S4:=Hd (show ∀j u,X[j]?=some u→V4.cell? ((⟨w.heap.size,0,none⟩:Addr).add j)=some u from fun j u hu=>by rw[Xa5,Nat.zero_add];exact((HS4.out _ _ _ _ _ P2.out HO.out hg4).1.cell j).trans hu);have HR4:=Hd (HS4.out _ _ _ _ _ P2.out HO.out hg4);clear ho4 hg4;refine hK.out _ _ S4.out ?_;clear hK K;try simp only[nm]
   refine Tk 11 rfl ?_ S4.out ?_ ⟨?_,rfl⟩
   ·intro w hw;(try dsimp only at hw);go_simp;try with_reducible rfl
   try simp only[nm]
   refine Tk 12 rfl ?_ S4.out ?_ ⟨?_,rfl⟩
   ·intro w hw;(try dsimp only at hw);go_simp;try with_reducible rfl
   try simp only[nm]
   have ce:V4.cell? ⟨pb,0,none⟩=some v:=HR4.out.2.cell 0;have fe:=HR4.out.2.frozen 0;refine Rl 13 rfl fun K hK=>?_
   go_simp;have S5:Hid (∀j u,X[j]?=some u→(V4.setCell ⟨pb,0,none⟩ (.slice A4 (ts.length+1) c4)).cell? ((⟨w.heap.size,0,none⟩:Addr).add j)=some u):=Hd fun j u hu=>by
    rw[Xa5,Nat.zero_add];refine(((Xa2 V4 ⟨pb,0,none⟩ (.slice A4 (ts.length+1) c4)).row HR4.out.1 (fun e=>?_)).cell j).trans hu;have e':w.heap.size=pb:=e;have h1:=HR4.out.1.is;rw[e',HR4.out.2.is]at h1;injection h1 with h1
    injection h1 with _ h1
    revert h1
    decide
   clear ce fe;refine hK.out _ _ S5.out ?_;clear hK K;try simp only[nm]
   refine wpAnyH_done (by kernel_rfl) ?_ _;go_wp2_with fail;go_ret;have hon:=HO4.out;have hlm:=HL.out;rw[←hlm]at hon;exact HDN.out V2 V4 (.slice A4 (ts.length+1) c4) g gc rest css P2.out HE.out HM.out hon HG4.out HO.out RK2.out HGW.out (by rw[hlm];exact HGC.out)
  ·refine Xd9 (.const (.slice none 0 0)) (.tmp 31) 34 78 _ 32 32 rfl Tryz.underlying34 Xaj zsz6 (by omega) (.slice none 0 0) 0 [] V0.heap.size B A m c (bv l.flatten) rfl (Xnr _ _ _ _) (by go_simp) (HKI.out V0 P0.out.b).sees (Xae _) (by unfold maxLen;omega) (by omega) (Lr _) ?_;intro va V1 ho hg;rw[Nat.zero_add,List.nil_append]at ho;have hb:Below V0.heap.size V0 V1:=(Br V0.heap.size V0).grown hg.grown (Lr _) (fun k hk=>by cases hk);obtain⟨g,gc,rest,rfl,hgb,hrk,hgc⟩:=Xlg ho h0;have P1:=Hd (P0.out.below hb);have RK1:=Hd hrk;have HGW:=Hd (Lq P0.out.b.size hgb);have HGC:=Hd hgc;have S1:=Hd (HSS.out _ P1.out);clear ho hg hb hgb hrk hgc;refine hK.out _ _ S1.out ?_;clear hK K;try simp only[nm]
   refine Tl 8 (v:=.agg (X++[Value.slice (some ⟨g,0,none⟩) m gc]).toArray) rfl (Or.inl ⟨by rfl,fun wz _=>Xak wz 147 _ _ rfl (by simp only[List.map_toArray,List.map_cons,List.map_nil];exact Xkp X HXL.out _ _ _)⟩) S1.out ?_;try simp only[nm]
   refine Xc8 (i:=4) (j:=9) rfl rfl (by kernel_rfl) (by kernel_rfl) (by kernel_rfl) (fun K hK=>?_) (fun K hK=>?_)
   ·have cl1:V1.cell? ⟨pb,0,none⟩=some v:=P1.out.reg.row.cell 0;go_simp;clear cl1;refine hK.out _ _ S1.out ?_;clear hK K;try simp only[nm]
    refine Rl 9 rfl fun K hK=>?_
    refine Xay 83 147 (.tmp 33) rfl (X++[Value.slice (some ⟨g,0,none⟩) m gc]) _ 33 56 Tryz.underlying83 Xez Xgj (by omega) (by omega) (by rw[List.length_append,HXL.out];rfl) (by go_simp) ?_;have hb:Below V1.heap.size V1 (V1.alloc (.cells (X++[Value.slice (some ⟨g,0,none⟩) m gc]).toArray 147)):=(Br _ _).alloc (Lr _) _;have P2:=Hd (P1.out.below hb);have RK2:=Hd (RK1.out.below hb RK1.out.lt);have RB:=Hd (Row.new V1 147 (X++[Value.slice (some ⟨g,0,none⟩) m gc]));have S2:=Hd (HSS.out _ P2.out);clear hb;obtain⟨gb,hgb⟩:∃gb,gb=V1.heap.size:=⟨_,rfl⟩;rw[←hgb]at RB ⊢;clear hgb;generalize V1.alloc (.cells (X++[Value.slice (some ⟨g,0,none⟩) m gc]).toArray 147)=V2 at *;refine hK.out _ _ S2.out ?_;clear hK K;try simp only[nm]
    obtain⟨css,hown,hel⟩:=P2.out.reg.tabs;have HO:=Hd hown;have HE:=Hd hel;clear hown hel;refine Rl 10 rfl fun K hK=>?_
    refine Xd9 (.tmp 29) (.tmp 34) 83 147 _ 33 56 rfl Tryz.underlying83 Xez Xgj (by omega) v ts.length css.flatten base V2.heap.size (some ⟨gb,0,none⟩) 1 1 (X++[Value.slice (some ⟨g,0,none⟩) m gc]) (by go_simp) HO.out (by go_simp) (by have:=RB.out.sees0;rwa [List.length_append,HXL.out]at this) (HONE.out _ _ _) (by unfold maxLen;have:=HNT.out;omega) (by have:=HNT.out;omega) (Lq HBASE.out P2.out.b.size) ?_;intro v4 V4 ho4 hg4;obtain⟨A4,c4,hv4,_⟩:=Xbs ho4;subst hv4;have HO4:=Hd ho4;have HG4:=Hd hg4;have S4:=Hd (show ∀j u,X[j]?=some u→V4.cell? ((⟨w.heap.size,0,none⟩:Addr).add j)=some u from fun j u hu=>by rw[Xa5,Nat.zero_add];exact((HS4.out _ _ _ _ _ P2.out HO.out hg4).1.cell j).trans hu);have HR4:=Hd (HS4.out _ _ _ _ _ P2.out HO.out hg4);clear ho4 hg4;refine hK.out _ _ S4.out ?_;clear hK K;try simp only[nm]
    refine Tk 11 rfl ?_ S4.out ?_ ⟨?_,rfl⟩
    ·intro w hw;(try dsimp only at hw);go_simp;try with_reducible rfl
    try simp only[nm]
    refine Tk 12 rfl ?_ S4.out ?_ ⟨?_,rfl⟩
    ·intro w hw;(try dsimp only at hw);go_simp;try with_reducible rfl
    try simp only[nm]
    have ce:V4.cell? ⟨pb,0,none⟩=some v:=HR4.out.2.cell 0;have fe:=HR4.out.2.frozen 0;refine Rl 13 rfl fun K hK=>?_
    go_simp;have S5:Hid (∀j u,X[j]?=some u→(V4.setCell ⟨pb,0,none⟩ (.slice A4 (ts.length+1) c4)).cell? ((⟨w.heap.size,0,none⟩:Addr).add j)=some u):=Hd fun j u hu=>by
     rw[Xa5,Nat.zero_add];refine(((Xa2 V4 ⟨pb,0,none⟩ (.slice A4 (ts.length+1) c4)).row HR4.out.1 (fun e=>?_)).cell j).trans hu;have e':w.heap.size=pb:=e;have h1:=HR4.out.1.is;rw[e',HR4.out.2.is]at h1;injection h1 with h1
     injection h1 with _ h1
     revert h1
     decide
    clear ce fe;refine hK.out _ _ S5.out ?_;clear hK K;try simp only[nm]
    refine wpAnyH_done (by kernel_rfl) ?_ _;go_wp2_with fail;go_ret;have hon:=HO4.out;have hlm:=HL.out;rw[←hlm]at hon;exact HDN.out V2 V4 (.slice A4 (ts.length+1) c4) g gc rest css P2.out HE.out HM.out hon HG4.out HO.out RK2.out HGW.out (by rw[hlm];exact HGC.out)
   ·refine Xay 83 147 (.tmp 33) rfl (X++[Value.slice (some ⟨g,0,none⟩) m gc]) _ 33 56 Tryz.underlying83 Xez Xgj (by omega) (by omega) (by rw[List.length_append,HXL.out];rfl) (by go_simp) ?_;have hb:Below V1.heap.size V1 (V1.alloc (.cells (X++[Value.slice (some ⟨g,0,none⟩) m gc]).toArray 147)):=(Br _ _).alloc (Lr _) _;have P2:=Hd (P1.out.below hb);have RK2:=Hd (RK1.out.below hb RK1.out.lt);have RB:=Hd (Row.new V1 147 (X++[Value.slice (some ⟨g,0,none⟩) m gc]));have S2:=Hd (HSS.out _ P2.out);clear hb;obtain⟨gb,hgb⟩:∃gb,gb=V1.heap.size:=⟨_,rfl⟩;rw[←hgb]at RB ⊢;clear hgb;generalize V1.alloc (.cells (X++[Value.slice (some ⟨g,0,none⟩) m gc]).toArray 147)=V2 at *;refine hK.out _ _ S2.out ?_;clear hK K;try simp only[nm]
    refine Rl 4 rfl fun K hK=>?_
    have cl2:V2.cell? ⟨pb,0,none⟩=some v:=P2.out.reg.row.cell 0;go_simp;clear cl2;refine hK.out _ _ S2.out ?_;clear hK K;try simp only[nm]
    obtain⟨css,hown,hel⟩:=P2.out.reg.tabs;have HO:=Hd hown;have HE:=Hd hel;clear hown hel;refine Rl 10 rfl fun K hK=>?_
    refine Xd9 (.tmp 29) (.tmp 34) 83 147 _ 33 56 rfl Tryz.underlying83 Xez Xgj (by omega) v ts.length css.flatten base V2.heap.size (some ⟨gb,0,none⟩) 1 1 (X++[Value.slice (some ⟨g,0,none⟩) m gc]) (by go_simp) HO.out (by go_simp) (by have:=RB.out.sees0;rwa [List.length_append,HXL.out]at this) (HONE.out _ _ _) (by unfold maxLen;have:=HNT.out;omega) (by have:=HNT.out;omega) (Lq HBASE.out P2.out.b.size) ?_;intro v4 V4 ho4 hg4;obtain⟨A4,c4,hv4,_⟩:=Xbs ho4;subst hv4;have HO4:=Hd ho4;have HG4:=Hd hg4;have S4:=Hd (show ∀j u,X[j]?=some u→V4.cell? ((⟨w.heap.size,0,none⟩:Addr).add j)=some u from fun j u hu=>by rw[Xa5,Nat.zero_add];exact((HS4.out _ _ _ _ _ P2.out HO.out hg4).1.cell j).trans hu);have HR4:=Hd (HS4.out _ _ _ _ _ P2.out HO.out hg4);clear ho4 hg4;refine hK.out _ _ S4.out ?_;clear hK K;try simp only[nm]
    refine Tk 11 rfl ?_ S4.out ?_ ⟨?_,rfl⟩
    ·intro w hw;(try dsimp only at hw);go_simp;try with_reducible rfl
    try simp only[nm]
    refine Tk 12 rfl ?_ S4.out ?_ ⟨?_,rfl⟩
    ·intro w hw;(try dsimp only at hw);go_simp;try with_reducible rfl
    try simp only[nm]
    have ce:V4.cell? ⟨pb,0,none⟩=some v:=HR4.out.2.cell 0;have fe:=HR4.out.2.frozen 0;refine Rl 13 rfl fun K hK=>?_
    go_simp;have S5:Hid (∀j u,X[j]?=some u→(V4.setCell ⟨pb,0,none⟩ (.slice A4 (ts.length+1) c4)).cell? ((⟨w.heap.size,0,none⟩:Addr).add j)=some u):=Hd fun j u hu=>by
     rw[Xa5,Nat.zero_add];refine(((Xa2 V4 ⟨pb,0,none⟩ (.slice A4 (ts.length+1) c4)).row HR4.out.1 (fun e=>?_)).cell j).trans hu;have e':w.heap.size=pb:=e;have h1:=HR4.out.1.is;rw[e',HR4.out.2.is]at h1;injection h1 with h1
     injection h1 with _ h1
     revert h1
     decide
    clear ce fe;refine hK.out _ _ S5.out ?_;clear hK K;try simp only[nm]
    refine wpAnyH_done (by kernel_rfl) ?_ _;go_wp2_with fail;go_ret;have hon:=HO4.out;have hlm:=HL.out;rw[←hlm]at hon;exact HDN.out V2 V4 (.slice A4 (ts.length+1) c4) g gc rest css P2.out HE.out HM.out hon HG4.out HO.out RK2.out HGW.out (by rw[hlm];exact HGC.out)
end Go.Proofs.YtdgbodljmdcagaaGreatDoor
