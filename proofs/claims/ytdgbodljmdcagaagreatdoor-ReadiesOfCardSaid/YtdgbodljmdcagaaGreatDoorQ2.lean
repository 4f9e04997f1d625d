import Derived.Test.YtdgbodljmdcagaaGreatDoorQ1
set_option maxRecDepth 100000
set_option maxHeartbeats 16000000
set_option linter.unusedSimpArgs false
set_option linter.unusedVariables false
namespace Go.Proofs.YtdgbodljmdcagaaGreatDoor
open Go.RowKit
theorem Xc5{w:World}{g t:Nat}{tab:List Int}{va vd:Value}(hr:Row w g t (bv tab++[va,vd]))(ht:tab.length=32):w.cell? ⟨g,32,none⟩=some va∧w.cell? ⟨g,33,none⟩=some vd:=
 ⟨by rw[hr.cell,List.getElem?_append_right (by rw[bL,ht];exact Lr _),bL,ht];rfl,by rw[hr.cell,List.getElem?_append_right (by rw[bL,ht];omega),bL,ht];rfl⟩
theorem Xku:(Tryz.prog.info? 124).map (·.size)=some 34:=by kernel_rfl
theorem Xlw(base B:Nat)(v:Value)(A:Option Addr)(n c:Nat)(xs:List Int)(l:List LLook)(w:World)(hown:OwnB w base v xs)(hbase:base≤w.heap.size)(hl:LooksIn w B A n l)(hB:B≤base)
 (hf:n≤65535∧∀x ∈ l,x.wr.length≤65535∧x.rd.length≤65535) (hn:(xs++(short l.length++l.flatMap encLook)).length≤1000000000) :
 Calls Tryz.prog 105 #[v,.slice A n c] w (Adds w base v (xs++(short l.length++l.flatMap encLook))):=by
 have L0:=Hd hl.len;have HL:=Hd hl;have HP:=Hd (Xey base v xs n w hown hbase hf.1 (by simp at hn;omega));have HO:=Hd hown;have HN:=Hd hn;have HF:=Hd hf.2;have hnn:=hf.1;clear hown hl hn hf;go_enter Tryz.func105,Tryz.ntmps105
 go_wp2_with fail;refine HP.out.mono ?_;rintro e w1 ⟨v1,rfl,hown1,hg1⟩;have HO1:=Hd hown1;have HG1:=Hd hg1;clear hown1 hg1;go_wp2_with fail;go_loopw [0,13] (fun v i wr=>∃k:Nat,k≤n∧i=.int .i64 k∧OwnB wr base v (xs++(short l.length++(l.take k).flatMap encLook))∧Grew w1 wr v1 v) (fun v i _=>n - (intOf i).toNat)
 case atStart =>
  refine⟨0,Nat.zero_le _,rfl,?_,Grew.refl _ _⟩;have:=HO1.out;simpa [L0.out]using this
 case round =>
  obtain⟨k,hk,rfl,ho,hg⟩:=hrel;by_cases hlt:k<n
  ·obtain⟨x,hx⟩:∃x,l[k]?=some x:=⟨_,List.getElem?_eq_getElem (by have:=L0.out;omega)⟩;obtain⟨a,va,vd,rfl,hab,hcs,ht,hva,hvd⟩:=HL.out.at_ k x hx;have hb1:Below base w wr:=(HG1.out.below HO.out hbase).trans (hg.below HO1.out (Lq hbase HG1.out.size));have hk1:∀p:Addr,p.block<B→wr.cell? p=w.cell? p:=fun p hp=>hb1.cell (by omega)
   have hsz:(Tryz.prog.info? 124).map (·.size)=some (bv x.tab++[va,vd]).length:=by rw[Xku];simp[bL,ht]
   have hone:∀u ∈ bv x.tab++[va,vd],u.oneCell'=true:=fun u hu=>by
    simp only[List.mem_append,List.mem_cons,List.not_mem_nil,or_false]at hu;rcases hu with hu | rfl | rfl
    ·exact Xae _ _ hu
    ·obtain⟨_,_,rfl,_⟩:=hva.is;rfl
    ·obtain⟨_,_,rfl,_⟩:=hvd.is;rfl
   have HCW:=Hd (fun j u (hu:(bv x.tab++[va,vd])[j]?=some u)=>show wr.cell? ((a.add (k*34)).add j)=some u by rw[Xbr,hk1 _ (by rw[Xa7];exact hab)];exact hcs j u hu);have HK:=Hd hk1;have HC:=Hd hcs;have HB1:=Hd hb1;have HVA:=Hd hva;have HVD:=Hd hvd;have HOR:=Hd ho;have HGR:=Hd hg;clear hk1 hcs hb1 hva hvd ho hg;have HSZ:=Hd hsz;have HON:=Hd hone;clear hsz hone;have hlen:(xs++(short l.length++(l.take k).flatMap encLook)).length+(encLook x).length≤1000000000:=by
    have h1:=Xbg encLook l (k+1);rw[Xb7 encLook hx]at h1;have:=HN.out;simp only[List.length_append]at this h1 ⊢;omega
   generalize hys:xs++(short l.length++(l.take k).flatMap encLook)=ys at *;have hel:(encLook x).length=32+((encL x.wr).length+(encL x.rd).length):=by simp[encLook,ht]
   have hf:=HF.out x (List.mem_of_getElem? hx);have hbwr:base≤wr.heap.size:=Lq (Lq hbase HG1.out.size) HGR.out.size;have HYS:=Hd hys;have HLEN:=Hd hlen;have HEL:=Hd hel;have HX:=Hd hx;clear hys hlen hel hx;go_wp2_with (first
    | (with_reducible show wpList _ _ _ (⟨some 16,_,_,_,_,_⟩::_) _ _;go_must(refine Xa3 rfl 124 (.tmp 15) rfl (a.add (k*34)) (bv x.tab++[va,vd]) _ Tryz.underlying124 rfl HSZ.out HCW.out ?_ ?_;go_simp))
    | (with_reducible show wpList _ _ _ (⟨none,Op.store 124 _ _,_,_,_,_⟩::_) _ _;go_must(refine Xa1 rfl 124 (.tmp 6) (.tmp 16) rfl (bv x.tab++[va,vd]) HSZ.out HON.out (by simp[bL,ht]) ?_ ?_ ?_;go_simp;go_simp;intro w2 hr2 hb2 hz2;have ho2:=HOR.out.below hb2;have hs2:Sees w2 w2.heap.size (some ⟨wr.heap.size,0,none⟩) 32 (bv x.tab):=⟨by rw[bL,ht],fun i u hu=>⟨_,rfl,hr2.lt,by rw[Xa5,hr2.cell,Nat.zero_add,List.getElem?_append_left (List.getElem?_eq_some_iff.1 hu).1];exact hu⟩⟩;have HR2:=Hd hr2;clear hr2))
    | (at_builtin;go_must(refine Xb8 rfl (.tmp 17) (.tmp 19) 22 rfl base Tryz.underlying22 Xb3 u0 ys ?_ ho2 _ _ 32 32 x.tab ?_ hs2 (by omega) ?_ ?_;go_simp;go_simp;(have:=HLEN.out;have:=HEL.out;simp only[List.length_append];omega);intro v3 w3 ho3 hg3;have hr3:=hg3.row HR2.out (Xd8 HOR.out (Lr _));have c32:=(Xc5 hr3 ht).1;have HR3:=Hd hr3;have HG3:=Hd hg3;have HO3:=Hd ho3;clear hr3 hg3 ho3)))
   have hz3:=HG3.out.size;have hne3:=HG3.out.ne (Xd8 (base:=base) HOR.out (Lr _)) HR2.out.lt;have hb3:Below base w w3:=(HB1.out.trans (hb2.mono hbwr)).trans (HG3.out.below ho2 (by omega));have hlen1:=HLEN.out;have hel1:=HEL.out;have hva3:BytesIn w3 B va x.wr:=HVA.out.below (hb3.mono hB);have hvd3:BytesIn w3 B vd x.rd:=HVD.out.below (hb3.mono hB);have HP4:=Hd (Xdy base B v3 va (ys++x.tab) x.wr w3 HO3.out (by omega) hva3 hB hf.1 (by simp only[List.length_append];omega));have HVD3:=Hd hvd3;have HB3:=Hd hb3;clear hb3 hva3 hvd3;clear hlen1 hel1;refine HP4.out.mono ?_;rintro e w4 ⟨v4,rfl,ho4,hg4⟩;have hr4:=hg4.row HR3.out hne3;have c33:=(Xc5 hr4 ht).2;have hz4:=hg4.size;have hb4:Below base w3 w4:=hg4.below HO3.out (by omega);have HVD4:=Hd (HVD3.out.below (hb4.mono hB));have HO4:=Hd ho4;have HG4:=Hd hg4;clear hr4 hb4 ho4 hg4;go_wp2_with fail;have hlen1:=HLEN.out;have hel1:=HEL.out;refine(Xdy base B v4 vd _ x.rd w4 HO4.out (by omega) HVD4.out hB hf.2 (by simp only[List.length_append];omega)).mono ?_;rintro e w5 ⟨v5,rfl,ho5,hg5⟩;have hg25:Grew wr w5 u0 v5:=(((Grew.of_below hb2 u0).trans HG3.out).trans HG4.out).trans hg5;have HO5:=Hd ho5;have HG5:=Hd (HGR.out.trans hg25);clear ho5 hg5 hg25 hlen1 hel1;go_wp2_with fail;go_roundw
   case rel =>
    refine⟨k+1,by omega,by go_num,?_,HG5.out⟩;have:=HO5.out;rw[Xb7 encLook HX.out];rw[←HYS.out]at this;simpa [encLook,List.append_assoc]using this
   case measure=>simp[intOf];omega
  ·have HK2:=Hd (show k=n by omega);have HOR:=Hd ho;have HGR:=Hd hg;clear ho hg;go_wp2_with fail;go_ret;refine⟨_,rfl,?_,HG1.out.trans HGR.out⟩;have:=HOR.out;rwa [HK2.out,List.take_of_length_le (by rw[L0.out];exact Lr _)]at this
structure MsgRow(w:World)(g:Nat)(q:Raw)(m:LMsg):Prop where
 c0:w.cell? ⟨g,0,none⟩=some (.bool m.v0)
 c1:w.cell? ⟨g,1,none⟩=some (.int .u8 m.s)
 c2:w.cell? ⟨g,2,none⟩=some (.int .u8 m.r)
 c3:w.cell? ⟨g,3,none⟩=some (.int .u8 m.o)
 c4:w.cell? ⟨g,4,none⟩=some (.slice q.KA q.kn q.kc)
 c37:w.cell? ⟨g,37,none⟩=some (.slice q.IA q.n q.ic)
 c38:w.cell? ⟨g,38,none⟩=some (.slice q.LA q.ln q.lc)
theorem MsgRow.of{w:World}{g t:Nat}{q:Raw}{m:LMsg}(hr:Row w g t (q.cells m))(h:m.recent.length=32):MsgRow w g q m:=
 ⟨(hr.cell 0).trans Xx1,(hr.cell 1).trans Xjr,(hr.cell 2).trans Xjm,(hr.cell 3).trans Xka,(hr.cell 4).trans Xjx,(hr.cell 37).trans (Xds h),(hr.cell 38).trans (Xdo h)⟩
theorem Xat:(Tryz.prog.info? 40).map (·.size)=some 39:=by kernel_rfl
theorem Xoq:(Tryz.prog.info? 131).map (·.size)=some 3:=by kernel_rfl
theorem Xab:(Tryz.prog.info? 78).map (·.size)=some 32:=by kernel_rfl
theorem Xec:(Tryz.prog.info? 36).map (·.size)=some 32:=by kernel_rfl
def inCells(p:Int)(va vd:Value):List Value:=[.int .u8 p,va,vd]
theorem Xcg{p:Int}{va vd:Value}{w w':World}{B B':Nat}{l l':List Int}(ha:BytesIn w B va l)(hd:BytesIn w' B' vd l'):∀u ∈ inCells p va vd,u.oneCell'=true:=by
 obtain⟨_,_,rfl,_⟩:=ha.is;obtain⟨_,_,rfl,_⟩:=hd.is;intro u hu;simp only[inCells,List.mem_cons,List.not_mem_nil,or_false]at hu;rcases hu with rfl | rfl | rfl <;> rfl
theorem Xei{tab:List Int}{va vd:Value}{w w':World}{B B':Nat}{l l':List Int}(ha:BytesIn w B va l)(hd:BytesIn w' B' vd l'):∀u ∈ bv tab++[va,vd],u.oneCell'=true:=by
 obtain⟨_,_,rfl,_⟩:=ha.is;obtain⟨_,_,rfl,_⟩:=hd.is;intro u hu;simp only[List.mem_append,List.mem_cons,List.not_mem_nil,or_false]at hu;rcases hu with hu | rfl | rfl
 ·exact Xae _ _ hu
 all_goals rfl
theorem Xbj(p:Int)(va vd:Value):(Tryz.prog.info? 131).map (·.size)=some (inCells p va vd).length:=Xoq
theorem Xdm{tab:List Int}(ht:tab.length=32)(va vd:Value):(Tryz.prog.info? 124).map (·.size)=some (bv tab++[va,vd]).length:=by rw[Xku];simp[bL,ht]
theorem Xcc{w:World}{g t:Nat}{p:Int}{va vd:Value}(hr:Row w g t (inCells p va vd)):w.cell? ⟨g,0,none⟩=some (.int .u8 p)∧w.cell? ⟨g,1,none⟩=some va∧w.cell? ⟨g,2,none⟩=some vd:=
 ⟨hr.cell 0,hr.cell 1,hr.cell 2⟩
structure InAt(w:World)(B:Nat)(a:Addr)(k:Nat)(x:LIn)(va vd:Value):Prop where
 cells:∀j u,(inCells x.p va vd)[j]?=some u→w.cell? ((a.add (k*3)).add j)=some u
 acc:BytesIn w B va x.acc
 dat:BytesIn w B vd x.dat
theorem InsIn.get{w:World}{B n:Nat}{A:Option Addr}{l:List LIn}(h:InsIn w B A n l){k:Nat}(hk:k<n):∃a x va vd,A=some a∧a.block<B∧l[k]?=some x∧InAt w B a k x va vd:=by
 obtain⟨x,hx⟩:∃x,l[k]?=some x:=⟨_,List.getElem?_eq_getElem (by rw[h.len];exact hk)⟩;obtain⟨a,va,vd,rfl,hb,h1,h2,h3,h4,h5⟩:=h.at_ k x hx;refine⟨a,x,va,vd,rfl,hb,hx,fun j u hu=>?_,h4,h5⟩;rw[Xbr];match j,hu with
 | 0,hu=>cases hu;exact h1
 | 1,hu=>cases hu;exact h2
 | 2,hu=>cases hu;exact h3
theorem InAt.keep{w w':World}{B k:Nat}{a:Addr}{x:LIn}{va vd:Value}(h:InAt w B a k x va vd)(ha:a.block<B)(hk:∀p:Addr,p.block<B→w'.cell? p=w.cell? p):InAt w' B a k x va vd:=
 ⟨fun j u hu=>(hk _ (by rw[Xa7,Xa7];exact ha)).trans (h.cells j u hu),h.acc.keep hk,h.dat.keep hk⟩
structure LookAt(w:World)(B:Nat)(a:Addr)(k:Nat)(x:LLook)(va vd:Value):Prop where
 cells:∀j u,(bv x.tab++[va,vd])[j]?=some u→w.cell? ((a.add (k*34)).add j)=some u
 len:x.tab.length=32
 wr:BytesIn w B va x.wr
 rd:BytesIn w B vd x.rd
theorem LooksIn.get{w:World}{B n:Nat}{A:Option Addr}{l:List LLook}(h:LooksIn w B A n l){k:Nat}(hk:k<n):∃a x va vd,A=some a∧a.block<B∧l[k]?=some x∧LookAt w B a k x va vd:=by
 obtain⟨x,hx⟩:∃x,l[k]?=some x:=⟨_,List.getElem?_eq_getElem (by rw[h.len];exact hk)⟩;obtain⟨a,va,vd,rfl,hb,h1,h2,h4,h5⟩:=h.at_ k x hx;exact⟨a,x,va,vd,rfl,hb,hx,fun j u hu=>by rw[Xbr];exact h1 j u hu,h2,h4,h5⟩
theorem LookAt.size{w:World}{B k:Nat}{a:Addr}{x:LLook}{va vd:Value}(h:LookAt w B a k x va vd):(bv x.tab++[va,vd]).length=34:=by simp[bL,h.len]
theorem Xen{α:Type}{p:α→Prop}{l:List α}{k:Nat}{x:α}(h:l[k]?=some x):(∀y ∈ l.take (k+1),p y)↔(∀y ∈ l.take k,p y)∧p x:=by
 rw[List.take_add_one,h];simp only[Option.toList_some,List.mem_append,List.mem_singleton];exact⟨fun h'=>⟨fun y hy=>h' y (.inl hy),h' x (.inr rfl)⟩,fun h' y hy=>hy.elim (h'.1 y) fun e=>e ▸ h'.2⟩
theorem BytesIn.le{w:World}{B:Nat}{v:Value}{l:List Int}(h:BytesIn w B v l):l.length≤maxLen:=by
 obtain⟨_,_,_,_,h1,h2⟩:=h.is;omega
def FitsTo(m:LMsg)(ins:List LIn)(looks:List LLook):Prop:=
 (m.keys.length≤65535∧m.ins.length≤65535∧m.looks.length≤65535)∧(∀i ∈ ins,i.acc.length≤65535∧i.dat.length≤65535)∧(∀l ∈ looks,l.wr.length≤65535∧l.rd.length≤65535)
def most(x y z:Int):Int:=if z>(if y>x then y else x)then z else(if y>x then y else x)
theorem Xv2{P:Program}(ts:Array TypeId)(t:TypeId)(x y z:Int)(w:World):(Builtin.max_ ts t #[.int .i64 x,.int .i64 y,.int .i64 z]).run P w=.ok (.int .i64 (most x y z)) w:=run_max_int3 (P:=P) w ts t .i64 .i64 .i64 x y z
theorem Xmn(x y z c:Int):most x y z≤c↔x≤c∧y≤c∧z≤c:=by unfold most;(repeat' split) <;> omega
theorem Xr3(q:Raw)(m:LMsg)(B:Nat)(w:World)(hm:MsgIn w B q m)(hB:B≤w.heap.size)(hv:(m.v0=true∨(m.looks=[]∧m.s<128))) :
 Calls Tryz.prog 102 #[.agg (q.cells m).toArray] w fun e w'=>(∃b,e=.returned (.bool b)∧(b=true↔FitsTo m m.ins m.looks))∧Below w.heap.size w w':=by
 obtain⟨KA,kn,kc,IA,n,ic,LA,ln,lc⟩:=q;have rb:=MsgRow.of (Row.new w 40 (Raw.cells ⟨KA,kn,kc,IA,n,ic,LA,ln,lc⟩ m)) hm.recent;obtain⟨cs,hcs⟩:∃cs,cs=Raw.cells ⟨KA,kn,kc,IA,n,ic,LA,ln,lc⟩ m:=⟨_,rfl⟩;rw[←hcs]at rb ⊢;clear hcs;have h0:m.v0=true∨(m.v0=false∧m.looks=[]∧m.s<128):=by
  cases h:m.v0
  ·rw[h]at hv;simpa using hv
  ·exact .inl rfl
 obtain⟨d0,d1,d2,d3,d4,d37,d38⟩:=rb;dsimp only at d4 d37 d38
 have lk:=hm.keys.len;have li:=hm.ins.len;have ll:=hm.looks.len;have HM:=Hd hm;have k1:=hm.kn;have k2:=hm.n;have k3:=hm.ln;dsimp only at lk li ll k1 k2 k3
 unfold maxLen at k1 k2 k3;clear hm hv;have hmost:=@Xv2 Tryz.prog;have hq:(m.v0=false→ln=0∧m.s<128):=by
  rcases h0 with h0 | ⟨_,h1,h2⟩
  ·rw[h0];simp
  ·rw[h1]at ll;exact fun _=>⟨ll.symm,h2⟩
 clear h0;generalize hv0:m.v0=v0 at *;have lt0:w.heap.size<(w.alloc (Obj.cells cs.toArray 40)).heap.size:=by simp
 have hb0:Below w.heap.size w (w.alloc (Obj.cells cs.toArray 40)):=(Br _ _).alloc (Lr _) _;cases v0
 all_goals
  (try obtain⟨hq1,hq2⟩:=hq rfl
   clear hq;go_enter Tryz.func102,Tryz.ntmps102
   go_wp2_with fail;try clear hq2
   generalize (w.alloc (Obj.cells cs.toArray 40))=W0 at *;have HB0:=Hd hb0;have D38:=Hd d38;clear d0 d1 d2 d3 d4 d37 d38 hb0;go_loopw [3,36] (fun mo i wr=>∃(k:Nat) (mx:Int),k≤n∧i=.int .i64 k∧mo=.int .i64 mx∧(mx≤65535↔FitsTo m (m.ins.take k) [])∧Below (w.heap.size+1) W0 wr) (fun mo i _=>n - (intOf i).toNat)
   case atStart =>
    refine⟨0,_,Nat.zero_le _,rfl,rfl,?_,Br _ _⟩;rw[Xmn,FitsTo];simp;omega
   case round =>
    obtain⟨k,mx,hk,rfl,rfl,hmx,hb⟩:=hrel;have HMX:=Hd hmx;have HB:=Hd hb;clear hmx hb;have hsz:w.heap.size+1≤wr.heap.size:=Lq lt0 HB.out.size;have hbw:=HB0.out.trans (HB.out.mono (Nat.le_succ _));by_cases hlt:k<n
    ·obtain⟨a,x,va,vd,rfl,hab,hx,hat⟩:=HM.out.ins.get hlt;have hat:=hat.keep hab fun p hp=>hbw.cell (Nat.lt_of_lt_of_le hp hB)
     have hone:=Xcg (p:=x.p) hat.acc hat.dat;obtain⟨A1,c1,rfl,_,_,_⟩:=hat.acc.is;obtain⟨A2,c2,rfl,_,_,_⟩:=hat.dat.is;have l1:=hat.acc.le;have l2:=hat.dat.le;unfold maxLen at l1 l2;have HAT:=Hd hat;have HX:=Hd hx;have HON:=Hd hone;have HBW:=Hd hbw;clear hat hx hone hbw;go_wp2_with (first
      | (with_reducible show wpList _ _ _ (⟨some 39,_,_,_,_,_⟩::_) _ _;go_must(refine Xa3 rfl 131 (.tmp 38) rfl (a.add (k*3)) (inCells x.p (.slice A1 x.acc.length c1) (.slice A2 x.dat.length c2)) _ Tryz.underlying131 rfl (Xbj _ _ _) HAT.out.cells ?_ ?_;go_simp))
      | (with_reducible show wpList _ _ _ (⟨none,Op.store 131 _ _,_,_,_,_⟩::_) _ _;go_must(refine Xa1 rfl 131 (.tmp 5) (.tmp 39) rfl (inCells x.p (.slice A1 x.acc.length c1) (.slice A2 x.dat.length c2)) (Xbj _ _ _) HON.out rfl ?_ ?_ ?_;go_simp;go_simp;intro w2 hr2 hb2 hz2;obtain⟨-,e1,e2⟩:=Xcc hr2;have HB2:=Hd hb2;clear hb2 hr2)))
     go_roundw
     case rel =>
      refine⟨k+1,_,by omega,by go_num,rfl,?_,HB.out.trans (HB2.out.mono hsz)⟩;have:=HMX.out;have hf:=Xen (p:=fun(i:LIn)=>i.acc.length≤65535∧i.dat.length≤65535) HX.out;rw[Xmn,this];unfold FitsTo;rw[hf];constructor
      ·rintro⟨⟨h1,h2,h3⟩,h4,h5⟩;exact⟨h1,⟨h2,by omega,by omega⟩,h3⟩
      ·rintro⟨h1,⟨h2,h4,h5⟩,h3⟩;exact⟨⟨h1,h2,h3⟩,by omega,by omega⟩
     case measure=>simp[intOf];omega
    ·have HMX1:Hid (mx≤65535↔FitsTo m m.ins []):=by
      have:=HMX.out;rwa [List.take_of_length_le (by omega)]at this
     have d38:wr.cell? ⟨w.heap.size,38,none⟩=_:=(HB.out.cell (p:=⟨w.heap.size,38,none⟩) (Nat.lt_succ_self _)).trans D38.out;have HBW:=Hd hbw;have HSZ:=Hd hsz;clear hbw hsz HMX;go_wp2_with fail;generalize wr=W1 at *;clear d38;go_loopw [3,52] (fun mo i wr=>∃(k:Nat) (mx:Int),k≤ln∧i=.int .i64 k∧mo=.int .i64 mx∧(mx≤65535↔FitsTo m m.ins (m.looks.take k))∧Below (w.heap.size+1) W0 wr) (fun mo i _=>ln - (intOf i).toNat)
     case atStart =>
      refine⟨0,mx,Nat.zero_le _,rfl,rfl,?_,HB.out⟩;simpa using HMX1.out
     case round =>
      clear HB HBW HSZ HMX1;obtain⟨k,mx,hk,rfl,rfl,hmx,hb⟩:=hrel;have HMX:=Hd hmx;have HB:=Hd hb;clear hmx hb;have hsz:w.heap.size+1≤wr.heap.size:=Lq lt0 HB.out.size;have hbw:=HB0.out.trans (HB.out.mono (Nat.le_succ _));by_cases hlt:k<ln
      ·obtain⟨a,x,va,vd,rfl,hab,hx,hat⟩:=HM.out.looks.get hlt;have hcw:∀j u,(bv x.tab++[va,vd])[j]?=some u→wr.cell? ((a.add (k*34)).add j)=some u:=fun j u hu=>(hbw.cell (by rw[Xa7,Xa7];omega)).trans (hat.cells j u hu)
       have hone:=Xei (tab:=x.tab) hat.wr hat.rd;obtain⟨A1,c1,rfl,_,_,_⟩:=hat.wr.is;obtain⟨A2,c2,rfl,_,_,_⟩:=hat.rd.is;have l1:=hat.wr.le;have l2:=hat.rd.le;unfold maxLen at l1 l2;have HCW:=Hd hcw;have HL:=Hd hat.len;have HX:=Hd hx;have HON:=Hd hone;clear hat hx hone hbw hcw;go_wp2_with (first
        | (with_reducible show wpList _ _ _ (⟨some 55,_,_,_,_,_⟩::_) _ _;go_must(refine Xa3 rfl 124 (.tmp 54) rfl (a.add (k*34)) (bv x.tab++[.slice A1 x.wr.length c1,.slice A2 x.rd.length c2]) _ Tryz.underlying124 rfl (Xdm HL.out _ _) HCW.out ?_ ?_;go_simp))
        | (with_reducible show wpList _ _ _ (⟨none,Op.store 124 _ _,_,_,_,_⟩::_) _ _;go_must(refine Xa1 rfl 124 (.tmp 7) (.tmp 55) rfl (bv x.tab++[.slice A1 x.wr.length c1,.slice A2 x.rd.length c2]) (Xdm HL.out _ _) HON.out (by simp[bL,HL.out]) ?_ ?_ ?_;go_simp;go_simp;intro w2 hr2 hb2 hz2;obtain⟨e1,e2⟩:=Xc5 hr2 HL.out;have HB2:=Hd hb2;clear hb2 hr2)))
       all_goals
        (go_roundw
         case rel =>
          refine⟨k+1,_,by omega,by go_num,rfl,?_,HB.out.trans (HB2.out.mono hsz)⟩;have:=HMX.out;have hf:=Xen (p:=fun(i:LLook)=>i.wr.length≤65535∧i.rd.length≤65535) HX.out;rw[Xmn,this];unfold FitsTo;rw[hf];constructor
          ·rintro⟨⟨h1,h2,h3⟩,h4,h5⟩;exact⟨h1,h2,h3,by omega,by omega⟩
          ·rintro⟨h1,h2,h3,h4,h5⟩;exact⟨⟨h1,h2,h3⟩,by omega,by omega⟩
         case measure=>simp[intOf];omega)
      ·have HMX1:Hid (mx≤65535↔FitsTo m m.ins m.looks):=by
        have:=HMX.out;rwa [List.take_of_length_le (by omega)]at this
       have HBW:=Hd hbw;clear hbw HMX;go_wp2_with fail;go_ret;exact⟨⟨_,rfl,by simpa using HMX1.out⟩,HBW.out⟩)
theorem Xti(q:Raw)(m:LMsg)(w:World)(hr:m.recent.length=32)(hl:m.looks.length=q.ln)(hv:m.v0=false)(hs:m.looks≠[]∨128≤m.s)(hln:q.ln≤maxLen) :
 Calls Tryz.prog 102 #[.agg (q.cells m).toArray] w fun e w'=>e=.returned (.bool false)∧Below w.heap.size w w':=by
 obtain⟨KA,kn,kc,IA,n,ic,LA,ln,lc⟩:=q;have rb:=MsgRow.of (Row.new w 40 (Raw.cells ⟨KA,kn,kc,IA,n,ic,LA,ln,lc⟩ m)) hr;have hb0:=Hd ((Br w.heap.size w).alloc (Lr _) (.cells (Raw.cells ⟨KA,kn,kc,IA,n,ic,LA,ln,lc⟩ m).toArray 40));obtain⟨cs,hcs⟩:∃cs,cs=Raw.cells ⟨KA,kn,kc,IA,n,ic,LA,ln,lc⟩ m:=⟨_,rfl⟩;rw[←hcs]at rb hb0 ⊢;clear hcs;obtain⟨d0,d1,d2,d3,d4,d37,d38⟩:=rb;dsimp only at d4 d37 d38 hl hln
 unfold maxLen at hln;rw[hv]at d0;have h:0<ln∨(ln=0∧128≤m.s):=by
  rcases Nat.eq_zero_or_pos ln with h | h
  ·rcases hs with hs | hs
   ·exact absurd (List.length_eq_zero_iff.1 (by omega)) hs
   ·exact .inr ⟨h,hs⟩
  ·exact .inl h
 clear hs hl hv hr;rcases h with h | ⟨h,h'⟩
 ·go_enter Tryz.func102,Tryz.ntmps102
  go_wp2_with fail;go_ret;exact⟨rfl,hb0.out⟩
 ·go_enter Tryz.func102,Tryz.ntmps102
  go_wp2_with fail;go_ret;exact⟨rfl,hb0.out⟩
open Classical in
theorem fits_(q:Raw)(m:LMsg)(B:Nat)(w:World)(hm:MsgIn w B q m)(hB:B≤w.heap.size) :
 Calls Tryz.prog 102 #[.agg (q.cells m).toArray] w fun e w'=>(∃b,e=.returned (.bool b)∧(b=true↔Fits m))∧Below w.heap.size w w':=by
 by_cases hv:m.v0=true∨(m.looks=[]∧m.s<128)
 ·refine(Xr3 q m B w hm hB hv).mono ?_;rintro e w' ⟨⟨b,rfl,hb⟩,h⟩;refine⟨⟨b,rfl,hb.trans ?_⟩,h⟩;unfold FitsTo Fits;exact⟨fun⟨⟨h1,h2,h3⟩,h4,h5⟩=>⟨hv,h1,h2,h3,h4,h5⟩,fun⟨_,h1,h2,h3,h4,h5⟩=>⟨⟨h1,h2,h3⟩,h4,h5⟩⟩
 ·refine(Xti q m w hm.recent hm.looks.len ?_ ?_ (by have:=hm.ln;omega)).mono ?_
  ·cases h:m.v0
   ·rfl
   ·exact absurd (.inl h) hv
  ·by_cases h:m.looks=[]
   ·right
    have:¬m.s<128:=fun h'=>hv (.inr ⟨h,h'⟩)
    omega
   ·exact .inl h
  ·rintro e w' ⟨rfl,h⟩;exact⟨⟨false,rfl,by simp;exact fun hf=>hv hf.1⟩,h⟩
theorem Xhp:∀(l:List (List Int)) (k:Nat) (x:List Int),(∀y ∈ l,y.length=32)→l[k]?=some x→∀j,j<32→l.flatten[k*32+j]?=x[j]?
 | [],k,x,_,h,_,_=>by simp at h
 | y::r,0,x,hl,h,j,hj=>by
  have:y=x:=by simpa using h
  subst this;have hy:=hl y (by simp);rw[List.flatten_cons,List.getElem?_append_left (by omega)];simp
 | y::r,k+1,x,hl,h,j,hj=>by
  have hy:=hl y (by simp);rw[List.flatten_cons,List.getElem?_append_right (by omega)];have:=Xhp r k x (fun z hz=>hl z (by simp[hz])) (by simpa using h) j hj;rw[←this];congr 1
  omega
theorem Xdh:∀(l:List (List Int)),(∀y ∈ l,y.length=32)→l.flatten.length=l.length*32
 | [],_=>rfl
 | y::r,h=>by
  have:=Xdh r (fun z hz=>h z (by simp[hz]));have hy:=h y (by simp);simp only[List.flatten_cons,List.length_append,List.length_cons,this,hy];omega
theorem Xe3{l:List (List Int)}{k:Nat}{x:List Int}(h:l[k]?=some x):(l.take (k+1)).flatten=(l.take k).flatten++x:=by
 rw[List.take_add_one,List.flatten_append,h];simp
structure KeyAt(w:World)(a:Addr)(k:Nat)(x:List Int):Prop where
 cells:∀j u,(bv x)[j]?=some u→w.cell? ((a.add (k*32)).add j)=some u
 len:x.length=32
theorem KeysIn.get{w:World}{B n:Nat}{A:Option Addr}{l:List (List Int)}(h:KeysIn w B A n l){k:Nat}(hk:k<n):∃a x,A=some a∧a.block<B∧l[k]?=some x∧KeyAt w a k x:=by
 obtain⟨x,hx⟩:∃x,l[k]?=some x:=⟨_,List.getElem?_eq_getElem (by rw[h.len];exact hk)⟩;have hxl:=h.each x (List.mem_of_getElem? hx);obtain⟨a,u,e,hb,_,_⟩:=h.sees.at_ (k:=k*32) (by omega);refine⟨a,x,e,hb,hx,fun j u hu=>?_,hxl⟩;have hj:j<32:=by have:=(List.getElem?_eq_some_iff.1 hu).1;rw[bL]at this;omega
 rw[bv_getElem?,←Xhp l k x h.each hx j hj,←bv_getElem?]at hu;obtain⟨a',e',_,hc⟩:=h.sees.cell _ u hu;rw[e]at e';cases e'
 rw[Xbr];exact hc
theorem KeyAt.keep{w w':World}{B k:Nat}{a:Addr}{x:List Int}(h:KeyAt w a k x)(ha:a.block<B)(hk:∀p:Addr,p.block<B→w'.cell? p=w.cell? p):KeyAt w' a k x:=
 ⟨fun j u hu=>(hk _ (by rw[Xa7,Xa7];exact ha)).trans (h.cells j u hu),h.len⟩
def PutMsgDone(w:World)(ys:List Int)(e:Ending)(w':World):Prop:=
 ∃g rest,e=.returned (.tuple #[.slice (some ⟨g,0,none⟩) ys.length ys.length,.int .i64 0])∧w.heap.size≤g∧Row w' g 5 (bv ys++rest)∧Below w.heap.size w w'
theorem OwnB.row{w:World}{base:Nat}{v:Value}{ys:List Int}(h:OwnB w base v ys)(h0:0<ys.length):∃g rest c,v=.slice (some ⟨g,0,none⟩) ys.length c∧base≤g∧Row w g 5 (bv ys++rest)∧ys.length≤c∧c≤maxLen:=by
 rcases h.2 with⟨_,h1⟩ | ⟨g,cap,cur,rfl,hg,hh,h2,h3,h4,h5⟩
 ·omega
 ·refine⟨g,cur.toList.drop ys.length,cap,rfl,hg,⟨?_⟩,h2,h3⟩;rw[hh];have:bv ys++cur.toList.drop ys.length=cur.toList:=by
   rw[←h5];simp
  rw[this]
theorem Row.sees_at{w:World}{g t o n:Nat}{cs xs:List Value}(hr:Row w g t cs)(hn:xs.length=n)(h:∀j u,xs[j]?=some u→cs[o+j]?=some u):Sees w w.heap.size (some ⟨g,o,none⟩) n xs:=
 ⟨hn,fun i u hu=>⟨_,rfl,hr.lt,by rw[Xa5,hr.cell];exact h i u hu⟩⟩
theorem MsgRow.keep{w w':World}{g B:Nat}{q:Raw}{m:LMsg}(h:MsgRow w g q m)(hg:g<B)(hb:Below B w w'):MsgRow w' g q m:=
 have k:∀o,w'.cell? ⟨g,o,none⟩=w.cell? ⟨g,o,none⟩:=fun o=>hb.cell hg
 ⟨(k 0).trans h.c0,(k 1).trans h.c1,(k 2).trans h.c2,(k 3).trans h.c3,(k 4).trans h.c4,(k 37).trans h.c37,(k 38).trans h.c38⟩
theorem Xqi(m:LMsg):(enc m).length=(encHead m).length+(short m.keys.length).length+m.keys.flatten.length+m.recent.length+(short m.ins.length).length+(m.ins.flatMap encIn).length+(encTail m).length:=by
 unfold enc;simp only[List.length_append];omega
theorem put_ok(q:Raw)(m:LMsg)(B:Nat)(w:World)(hm:MsgIn w B q m)(hB:B≤w.heap.size)(hf:Fits m)(hl:(enc m).length≤1000000000) :
 Calls Tryz.prog 66 #[.agg (q.cells m).toArray] w (PutMsgDone w (enc m)):=by
 obtain⟨KA,kn,kc,IA,n,ic,LA,ln,lc⟩:=q;have hrow:=Row.new w 40 (Raw.cells ⟨KA,kn,kc,IA,n,ic,LA,ln,lc⟩ m);have hb0:=(Br w.heap.size w).alloc (Lr _) (.cells (Raw.cells ⟨KA,kn,kc,IA,n,ic,LA,ln,lc⟩ m).toArray 40);have hlen:=Xaq (q:=⟨KA,kn,kc,IA,n,ic,LA,ln,lc⟩) hm.recent;have HF:=Hd (fits_ ⟨KA,kn,kc,IA,n,ic,LA,ln,lc⟩ m B _ (hm.alloc hB (.cells (Raw.cells ⟨KA,kn,kc,IA,n,ic,LA,ln,lc⟩ m).toArray 40)) (Lq hB hb0.size));have HREC:=Hd (fun j u=>@Xes ⟨KA,kn,kc,IA,n,ic,LA,ln,lc⟩ m j u);have HMR:=Hd (MsgRow.of hrow hm.recent);obtain⟨cs,hcs⟩:∃cs,cs=Raw.cells ⟨KA,kn,kc,IA,n,ic,LA,ln,lc⟩ m:=⟨_,rfl⟩;rw[←hcs]at hrow hb0 hlen HF HREC HMR ⊢;clear hcs;have HSZ:=Hd (show(Tryz.prog.info? 40).map (·.size)=some cs.length by rw[Xat,hlen]);have HROW:=Hd hrow;have HM:=Hd hm;have HB0:=Hd hb0;have k1:=hm.kn;have k2:=hm.n;have k3:=hm.ln;dsimp only at k1 k2 k3
 unfold maxLen at k1 k2 k3;have HL:=Hd hl;have HFI:=Hd hf;clear hlen hm hb0 hrow hl hf;go_enter Tryz.func66,Tryz.ntmps66
 go_wp2_with (first
  | (with_reducible show wpList _ _ _ (⟨some 9,_,_,_,_,_⟩::_) _ _;go_must(refine Xa0 rfl 40 (.tmp 1) rfl w.heap.size 40 cs _ Tryz.underlying40 rfl HSZ.out HROW.out ?_ ?_;go_simp)))
 refine HF.out.mono ?_;rintro e w1 ⟨⟨b,rfl,hb⟩,hb1⟩;obtain rfl:b=true:=hb.2 HFI.out;clear hb;have hlt0:w.heap.size<w1.heap.size:=Nat.lt_of_lt_of_le HROW.out.lt hb1.size;have hr1:=HROW.out.below hb1 HROW.out.lt;have hm1:=HMR.out.keep HROW.out.lt hb1;have hbw1:=HB0.out.trans (hb1.mono HB0.out.size);generalize hW:(w.alloc (Obj.cells cs.toArray 40))=W0 at *;clear hW HF HMR HROW HB0 hb1;have HR1:=Hd hr1;have HMR1:=Hd hm1;have HBW1:=Hd hbw1;have HM1:=Hd (HM.out.below (hbw1.mono hB));clear hr1 hbw1 HM;obtain⟨d0,d1,d2,d3,d4,d37,d38⟩:=hm1;clear d1 d2 d3 d4 d37 d38;generalize hv0:m.v0=v0 at *;have HV0:=Hd hv0;clear hv0;have HO1:=Hd (OwnB.nil w1 w1.heap.size);have hpar:=Xqi m;have hhl:(encHead m).length=(if v0 then 1 else 0)+3:=by unfold encHead;rw[HV0.out];cases v0 <;> rfl
 have HPAR:=Hd hpar;have HHL:=Hd hhl;clear hpar hhl;have hfk:=HFI.out.2.1;have hfi:=HFI.out.2.2.1;rw[HM1.out.keys.len]at hfk;rw[HM1.out.ins.len]at hfi;dsimp only at hfk hfi
 have HE:Hid (enc m=encHead m++short kn++m.keys.flatten++m.recent++short n++m.ins.flatMap encIn++encTail m):=by
  have e1:=HM1.out.keys.len;have e2:=HM1.out.ins.len;dsimp only at e1 e2
  refine Hd ?_;unfold enc;rw[e1,e2];simp only[List.append_assoc]
 have HPL:Hid ((encHead m).length+3+m.keys.flatten.length+m.recent.length+3+(m.ins.flatMap encIn).length+(encTail m).length≤1000000006):=by
  have h1:=HPAR.out;have h2:=HL.out;exact Hd (by omega)
 cases v0
 ·have hh:encHead m=[m.s,m.r,m.o]:=by unfold encHead;rw[HV0.out];rfl
  have HH:=Hd hh;clear hh;obtain⟨-,d1,d2,d3,d4,-,-⟩:=HMR1.out;go_wp2_with (first
   | (at_builtin;with_reducible show wpList _ _ _ (⟨some 28,_,_,_,_,_⟩::_) _ _;go_must(refine Xc2 rfl (.tmp 17) (.tmp 27) 22 rfl w1.heap.size Tryz.underlying22 Xb3 (.slice none 0 0) [] [m.s,m.r,m.o] 3 rfl ?_ HO1.out ?_ (Lr _) (by simp only[List.nil_append,List.length_cons,List.length_nil];omega) ?_;go_simp;go_simp;intro v2 w2 ho2 hg2;have hb2:=hg2.belowB HO1.out (Lr _);obtain⟨-,-,-,-,d4,-,-⟩:=HMR1.out.keep hlt0 hb2;have HO2:Hid (OwnB w2 w1.heap.size v2 (encHead m)):=Hd (by rw[HH.out];simpa only[List.cons_append,List.nil_append]using ho2);have HB2:=Hd hb2;clear ho2 hg2 hb2 d1 d2 d3)))
  clear HH;all_goals
  (have HX1:=HPL.out
   refine(Xey w1.heap.size v2 (encHead m) kn w2 HO2.out HB2.out.size hfk (by omega)).mono ?_;rintro e w3 ⟨v3,rfl,ho3,hg3⟩;have HB3:=Hd (HB2.out.trans (hg3.belowB HO2.out HB2.out.size));have HO3:=Hd ho3;have HS3:=Xcw kn;have HS4:=Xcw n;have hkl:∀k,(m.keys.take k).flatten.length≤m.keys.flatten.length:=fun k=>by
    have:=Xbg id m.keys k;simpa only[List.flatMap_id]using this
   have hrl:=HM1.out.recent;have HXL:=Hd (And.intro HX1 (And.intro HS3 (And.intro HS4 (And.intro hkl hrl))));have d4:=(HMR1.out.keep hlt0 HB3.out).c4;dsimp only at d4
   clear ho3 hg3 HO2 HB2 HX1 HS3 HS4 hkl hrl;go_wp2_with fail;clear d4;go_loopw [4,37] (fun v i wr=>∃k:Nat,k≤kn∧i=.int .i64 k∧OwnB wr w1.heap.size v (encHead m++short kn++(m.keys.take k).flatten)∧Below w1.heap.size w1 wr) (fun v i _=>kn - (intOf i).toNat)
   case atStart =>
    refine⟨0,Nat.zero_le _,rfl,?_,HB3.out⟩;simpa only[List.take_zero,List.flatten_nil,List.append_nil]using HO3.out
   case round =>
    obtain⟨k,hk,rfl,ho,hb⟩:=hrel;have HOR:=Hd ho;have HBR:=Hd hb;clear ho hb HO3 HB3;have hsz:=HBR.out.size;by_cases hlt:k<kn
    ·obtain⟨a,x,rfl,hab,hx,hat⟩:=HM1.out.keys.get hlt;have HAT:=Hd (hat.keep hab fun p hp=>HBR.out.cell (Nat.lt_of_lt_of_le hp (Lq hB (Nat.le_of_lt hlt0))));have HX:=Hd hx;have hz32:(Tryz.prog.info? 78).map (·.size)=some (bv x).length:=by rw[Xab,bL,hat.len]
     have HZ32:=Hd hz32;have hln:(encHead m++short kn++(m.keys.take k).flatten).length+32≤2000000000:=by
      obtain⟨h1,h2,h3,h4,h5⟩:=HXL.out;have:=h4 k;simp only[List.length_append];omega
     have HLN:=Hd hln;clear hat hx hz32 hln;go_wp2_with (first
      | (with_reducible show wpList _ _ _ (⟨some 40,_,_,_,_,_⟩::_) _ _;go_must(refine Xa3 rfl 78 (.tmp 39) rfl (a.add (k*32)) (bv x) _ Tryz.underlying78 rfl HZ32.out HAT.out.cells ?_ ?_;go_simp))
      | (with_reducible show wpList _ _ _ (⟨none,Op.store 78 _ _,_,_,_,_⟩::_) _ _;go_must(refine Xa1 rfl 78 (.tmp 6) (.tmp 40) rfl (bv x) HZ32.out (Xae x) (by simp[bL,HAT.out.len]) ?_ ?_ ?_;go_simp;go_simp;intro w4 hr4 hb4 hz4;have hs4:Sees w4 w4.heap.size (some ⟨wr.heap.size,0,none⟩) 32 (bv x):=hr4.sees_at (o:=0) (by rw[bL,HAT.out.len]) (fun j u hu=>by rw[Nat.zero_add];exact hu);have ho4:=HOR.out.below hb4;clear hr4))
      | (at_builtin;go_must(refine Xb8 rfl (.tmp 41) (.tmp 42) 22 rfl w1.heap.size Tryz.underlying22 Xb3 _ _ ?_ ho4 _ _ 32 32 x ?_ hs4 (by omega) (by have q1:=HLN.out;have q2:=HAT.out.len;rw[List.length_append];omega) ?_;go_simp;go_simp;intro v5 w5 ho5 hg5;have HB5:=Hd ((HBR.out.trans (hb4.mono hsz)).trans (hg5.belowB ho4 (by omega)));have HO5:=Hd ho5;clear ho5 hg5)))
     go_roundw
     case rel =>
      refine⟨k+1,by omega,by go_num,?_,HB5.out⟩;rw[Xe3 HX.out,←List.append_assoc];exact HO5.out
     case measure=>simp[intOf];omega
    ·have HKK:=Hd (show k=kn by omega);have hok:OwnB wr w1.heap.size u4 (encHead m++short kn++m.keys.flatten):=by
      have:=HOR.out;rwa [List.take_of_length_le (by have:=HM1.out.keys.len;dsimp only at this;have:=HKK.out;omega)]at this
     have hsr:=(HR1.out.below HBR.out hlt0).sees_at (o:=5) (xs:=bv m.recent) (n:=32) (by rw[bL,HXL.out.2.2.2.2]) HREC.out;have HOK:=Hd hok;clear hok HOR;go_wp2_with (first
      | (at_builtin;go_must(refine Xb8 rfl (.tmp 45) (.tmp 47) 22 rfl w1.heap.size Tryz.underlying22 Xb3 _ _ ?_ HOK.out _ _ 32 32 m.recent ?_ hsr hsz (by obtain⟨h1,h2,h3,h4,h5⟩:=HXL.out;simp only[List.length_append];omega) ?_;go_simp;go_simp;intro v5 w5 ho5 hg5;have hb5:=HBR.out.trans (hg5.belowB HOK.out hsz);have d37:=(HMR1.out.keep hlt0 hb5).c37;dsimp only at d37;have HB5:=Hd hb5;have HO5:=Hd ho5;clear hb5 ho5 hg5)))
     have HX1:=HXL.out;have hz5:=HB5.out.size;refine(Xey w1.heap.size v5 _ n w5 HO5.out hz5 hfi (by simp only[List.length_append];omega)).mono ?_;rintro e w6 ⟨v6,rfl,ho6,hg6⟩;have HB6:=Hd (HB5.out.trans (hg6.belowB HO5.out hz5));have HO6:=Hd ho6;have d37:=(HMR1.out.keep hlt0 HB6.out).c37;dsimp only at d37
     have HM6:=Hd (HM1.out.below (HB6.out.mono (Lq hB (Nat.le_of_lt hlt0))));clear ho6 hg6 HO5 HB5 HX1 hsz HOK HBR hz5;go_wp2_with fail;clear d37;go_loopw [4,57] (fun v i wr=>∃k:Nat,k≤n∧i=.int .i64 k∧OwnB wr w1.heap.size v (encHead m++short kn++m.keys.flatten++m.recent++short n++(m.ins.take k).flatMap encIn)∧Below w1.heap.size w1 wr) (fun v i _=>n - (intOf i).toNat)
     case atStart =>
      refine⟨0,Nat.zero_le _,rfl,?_,HB6.out⟩;simpa only[List.take_zero,List.flatMap_nil,List.append_nil]using HO6.out
     case round =>
      clear HO6 HB6 HM6;obtain⟨k2,hk2,rfl,ho,hb⟩:=hrel;have HOR:=Hd ho;have HBR:=Hd hb;clear ho hb;have hsz:=HBR.out.size;by_cases hlt2:k2<n
      ·obtain⟨a,x,va,vd,rfl,hab,hx,hat⟩:=HM1.out.ins.get hlt2;have hat:=hat.keep hab fun p hp=>HBR.out.cell (Nat.lt_of_lt_of_le hp (Lq hB (Nat.le_of_lt hlt0)))
       have HON:=Hd (Xcg (p:=x.p) hat.acc hat.dat);have HAT:=Hd hat;have HX:=Hd hx;have hln:(encHead m++short kn++m.keys.flatten++m.recent++short n++(m.ins.take k2).flatMap encIn).length+(encIn x).length≤2000000000:=by
        obtain⟨h1,h2,h3,h4,h5⟩:=HXL.out;have h6:=Xbg encIn m.ins (k2+1);rw[Xb7 encIn hx]at h6;simp only[List.length_append]at h6 ⊢;omega
       have hel:(encIn x).length=1+((encL x.acc).length+(encL x.dat).length):=by simp[encIn];omega
       have hfx:=HFI.out.2.2.2.2.1 x (List.mem_of_getElem? hx);generalize hys:encHead m++short kn++m.keys.flatten++m.recent++short n++(m.ins.take k2).flatMap encIn=ys at *;have HYS:=Hd hys;have HLN:=Hd hln;have HEL:=Hd hel;clear hat hx hln hel hys;go_wp2_with (first
        | (with_reducible show wpList _ _ _ (⟨some 60,_,_,_,_,_⟩::_) _ _;go_must(refine Xa3 rfl 131 (.tmp 59) rfl (a.add (k2*3)) (inCells x.p va vd) _ Tryz.underlying131 rfl (Xbj _ _ _) HAT.out.cells ?_ ?_;go_simp))
        | (with_reducible show wpList _ _ _ (⟨none,Op.store 131 _ _,_,_,_,_⟩::_) _ _;go_must(refine Xa1 rfl 131 (.tmp 8) (.tmp 60) rfl (inCells x.p va vd) (Xbj _ _ _) HON.out rfl ?_ ?_ ?_;go_simp;go_simp;intro w4 hr4 hb4 hz4;obtain⟨e0,-,-⟩:=Xcc hr4;have ho4:=HOR.out.below hb4;have HR4:=Hd hr4;clear hr4))
        | (at_builtin;go_must(refine Xc2 rfl (.tmp 61) (.tmp 64) 22 rfl w1.heap.size Tryz.underlying22 Xb3 _ ys [x.p] 1 rfl ?_ ho4 ?_ (by omega) (by have q1:=HLN.out;rw[List.length_append,List.length_singleton];omega) ?_;go_simp;go_simp;intro v5 w5 ho5 hg5;have HNE5:=Hd (hg5.ne (Xd8 (base:=w1.heap.size) HOR.out (Lr _)) HR4.out.lt);have hr5:=hg5.row HR4.out (Xd8 HOR.out (Lr _));obtain⟨-,e1,-⟩:=Xcc hr5;have HR5:=Hd hr5;have HB5:=Hd ((HBR.out.trans (hb4.mono hsz)).trans (hg5.belowB ho4 (by omega)));have HO5:=Hd ho5;have hg5':=hg5;clear ho5 hg5 hr5 e0)))
       have hln:=HLN.out;have hel:=HEL.out;have hz5:=HB5.out.size;have hdat:=HAT.out.dat;have hva:BytesIn w5 w1.heap.size va x.acc:=(HAT.out.acc.more (Lq hB (Nat.le_of_lt hlt0))).below ((hb4.mono hsz).trans (hg5'.belowB ho4 (by omega)));have hvd:BytesIn w5 w1.heap.size vd x.dat:=(HAT.out.dat.more (Lq hB (Nat.le_of_lt hlt0))).below ((hb4.mono hsz).trans (hg5'.belowB ho4 (by omega)));clear hdat;refine(Xdy w1.heap.size w1.heap.size v5 va _ x.acc w5 HO5.out hz5 hva (Lr _) hfx.1 (by rw[List.length_append,List.length_singleton];omega)).mono ?_;rintro e w6' ⟨v6',rfl,ho6',hg6'⟩;have hr6:=hg6'.row HR5.out HNE5.out;obtain⟨-,-,e2⟩:=Xcc hr6;have hb6:=hg6'.belowB HO5.out hz5;have HVD:=Hd (hvd.below hb6);have HB6':=Hd (HB5.out.trans hb6);have HO6':=Hd ho6';clear hr6 hb6 ho6' hg6' hva hvd e1 hln hel hz5 ho4 hb4 hg5';go_wp2_with fail;have hln:=HLN.out;have hel:=HEL.out;refine(Xdy w1.heap.size w1.heap.size v6' vd _ x.dat w6' HO6'.out HB6'.out.size HVD.out (Lr _) hfx.2 (by simp only[List.length_append,List.length_singleton];omega)).mono ?_;rintro e w7 ⟨v7,rfl,ho7,hg7⟩;have HB7:=Hd (HB6'.out.trans (hg7.belowB HO6'.out HB6'.out.size));have HO7:=Hd ho7;clear ho7 hg7 hln hel e2;go_wp2_with fail;go_roundw
       case rel =>
        refine⟨k2+1,by omega,by go_num,?_,HB7.out⟩;have:=HO7.out;rw[Xb7 encIn HX.out,←List.append_assoc,HYS.out];simpa only[encIn,List.append_assoc,List.singleton_append,List.cons_append,List.nil_append]using this
       case measure=>simp[intOf];omega
      ·have HOK:Hid (OwnB wr w1.heap.size u4 (encHead m++short kn++m.keys.flatten++m.recent++short n++m.ins.flatMap encIn)):=by
        have:=HOR.out;rw[List.take_of_length_le (by have h1:=HM1.out.ins.len;dsimp only at h1;omega)]at this;exact Hd this
       have hm2:=HMR1.out.keep hlt0 HBR.out;have d0:=hm2.c0;rw[HV0.out]at d0;clear hm2 HOR;go_wp2_with fail;have ht:encTail m=[]:=by unfold encTail;rw[HV0.out];rfl
       have hlast:=HOK.out;have hE:=HE.out;rw[ht,List.append_nil]at hE;rw[←hE]at hlast;obtain⟨g,rest,c,rfl,hg,hrow,hc1,hc2⟩:=hlast.row (by rw[hE];simp only[List.length_append,HXL.out.2.2.2.2];omega);have HROW:=Hd hrow;clear hrow d0 hE ht HOK hlast;refine(clip_ _ _ c _ hc1 hc2).mono ?_;rintro e w8 ⟨rfl,rfl⟩;go_wp2_with fail;go_ret2
       exact⟨g,rest,rfl,by omega,HROW.out,HBW1.out.trans (HBR.out.mono (Nat.le_of_lt hlt0))⟩)
 ·have hh:encHead m=[128,m.s,m.r,m.o]:=by unfold encHead;rw[HV0.out];rfl
  have HH:=Hd hh;clear hh;go_wp2_with (first
   | (at_builtin;with_reducible show wpList _ _ _ (⟨some 16,_,_,_,_,_⟩::_) _ _;go_must(refine Xc2 rfl (.tmp 14) (.tmp 15) 22 rfl w1.heap.size Tryz.underlying22 Xb3 (.slice none 0 0) [] [128] 1 rfl ?_ HO1.out ?_ (Lr _) (by simp only[List.nil_append,List.length_cons,List.length_nil];omega) ?_;go_simp;go_simp;intro v1 w1' ho1 hg1;have hb1:=hg1.belowB HO1.out (Lr _);obtain⟨-,d1,d2,d3,d4,-,-⟩:=HMR1.out.keep hlt0 hb1;have HO1':Hid (OwnB w1' w1.heap.size v1 [128]):=Hd (by simpa only[List.nil_append]using ho1);have HB1':=Hd hb1;clear ho1 hg1 hb1))
   | (at_builtin;with_reducible show wpList _ _ _ (⟨some 28,_,_,_,_,_⟩::_) _ _;go_must(refine Xc2 rfl (.tmp 17) (.tmp 27) 22 rfl w1.heap.size Tryz.underlying22 Xb3 v1 [128] [m.s,m.r,m.o] 3 rfl ?_ HO1'.out ?_ HB1'.out.size (by simp only[List.cons_append,List.nil_append,List.length_cons,List.length_nil];omega) ?_;go_simp;go_simp;intro v2 w2 ho2 hg2;have hb2:=HB1'.out.trans (hg2.belowB HO1'.out HB1'.out.size);obtain⟨-,-,-,-,d4,-,-⟩:=HMR1.out.keep hlt0 hb2;have HO2:Hid (OwnB w2 w1.heap.size v2 (encHead m)):=Hd (by rw[HH.out];simpa only[List.cons_append,List.nil_append]using ho2);have HB2:=Hd hb2;clear ho2 hg2 hb2 d1 d2 d3 HO1' HB1')))
  clear HH;all_goals
  (have HX1:=HPL.out
   refine(Xey w1.heap.size v2 (encHead m) kn w2 HO2.out HB2.out.size hfk (by omega)).mono ?_;rintro e w3 ⟨v3,rfl,ho3,hg3⟩;have HB3:=Hd (HB2.out.trans (hg3.belowB HO2.out HB2.out.size));have HO3:=Hd ho3;have HS3:=Xcw kn;have HS4:=Xcw n;have hkl:∀k,(m.keys.take k).flatten.length≤m.keys.flatten.length:=fun k=>by
    have:=Xbg id m.keys k;simpa only[List.flatMap_id]using this
   have hrl:=HM1.out.recent;have HXL:=Hd (And.intro HX1 (And.intro HS3 (And.intro HS4 (And.intro hkl hrl))));have d4:=(HMR1.out.keep hlt0 HB3.out).c4;dsimp only at d4
   clear ho3 hg3 HO2 HB2 HX1 HS3 HS4 hkl hrl;go_wp2_with fail;clear d4;go_loopw [4,37] (fun v i wr=>∃k:Nat,k≤kn∧i=.int .i64 k∧OwnB wr w1.heap.size v (encHead m++short kn++(m.keys.take k).flatten)∧Below w1.heap.size w1 wr) (fun v i _=>kn - (intOf i).toNat)
   case atStart =>
    refine⟨0,Nat.zero_le _,rfl,?_,HB3.out⟩;simpa only[List.take_zero,List.flatten_nil,List.append_nil]using HO3.out
   case round =>
    obtain⟨k,hk,rfl,ho,hb⟩:=hrel;have HOR:=Hd ho;have HBR:=Hd hb;clear ho hb HO3 HB3;have hsz:=HBR.out.size;by_cases hlt:k<kn
    ·obtain⟨a,x,rfl,hab,hx,hat⟩:=HM1.out.keys.get hlt;have HAT:=Hd (hat.keep hab fun p hp=>HBR.out.cell (Nat.lt_of_lt_of_le hp (Lq hB (Nat.le_of_lt hlt0))));have HX:=Hd hx;have hz32:(Tryz.prog.info? 78).map (·.size)=some (bv x).length:=by rw[Xab,bL,hat.len]
     have HZ32:=Hd hz32;have hln:(encHead m++short kn++(m.keys.take k).flatten).length+32≤2000000000:=by
      obtain⟨h1,h2,h3,h4,h5⟩:=HXL.out;have:=h4 k;simp only[List.length_append];omega
     have HLN:=Hd hln;clear hat hx hz32 hln;go_wp2_with (first
      | (with_reducible show wpList _ _ _ (⟨some 40,_,_,_,_,_⟩::_) _ _;go_must(refine Xa3 rfl 78 (.tmp 39) rfl (a.add (k*32)) (bv x) _ Tryz.underlying78 rfl HZ32.out HAT.out.cells ?_ ?_;go_simp))
      | (with_reducible show wpList _ _ _ (⟨none,Op.store 78 _ _,_,_,_,_⟩::_) _ _;go_must(refine Xa1 rfl 78 (.tmp 6) (.tmp 40) rfl (bv x) HZ32.out (Xae x) (by simp[bL,HAT.out.len]) ?_ ?_ ?_;go_simp;go_simp;intro w4 hr4 hb4 hz4;have hs4:Sees w4 w4.heap.size (some ⟨wr.heap.size,0,none⟩) 32 (bv x):=hr4.sees_at (o:=0) (by rw[bL,HAT.out.len]) (fun j u hu=>by rw[Nat.zero_add];exact hu);have ho4:=HOR.out.below hb4;clear hr4))
      | (at_builtin;go_must(refine Xb8 rfl (.tmp 41) (.tmp 42) 22 rfl w1.heap.size Tryz.underlying22 Xb3 _ _ ?_ ho4 _ _ 32 32 x ?_ hs4 (by omega) (by have q1:=HLN.out;have q2:=HAT.out.len;rw[List.length_append];omega) ?_;go_simp;go_simp;intro v5 w5 ho5 hg5;have HB5:=Hd ((HBR.out.trans (hb4.mono hsz)).trans (hg5.belowB ho4 (by omega)));have HO5:=Hd ho5;clear ho5 hg5)))
     go_roundw
     case rel =>
      refine⟨k+1,by omega,by go_num,?_,HB5.out⟩;rw[Xe3 HX.out,←List.append_assoc];exact HO5.out
     case measure=>simp[intOf];omega
    ·have HKK:=Hd (show k=kn by omega);have hok:OwnB wr w1.heap.size u4 (encHead m++short kn++m.keys.flatten):=by
      have:=HOR.out;rwa [List.take_of_length_le (by have:=HM1.out.keys.len;dsimp only at this;have:=HKK.out;omega)]at this
     have hsr:=(HR1.out.below HBR.out hlt0).sees_at (o:=5) (xs:=bv m.recent) (n:=32) (by rw[bL,HXL.out.2.2.2.2]) HREC.out;have HOK:=Hd hok;clear hok HOR;go_wp2_with (first
      | (at_builtin;go_must(refine Xb8 rfl (.tmp 45) (.tmp 47) 22 rfl w1.heap.size Tryz.underlying22 Xb3 _ _ ?_ HOK.out _ _ 32 32 m.recent ?_ hsr hsz (by obtain⟨h1,h2,h3,h4,h5⟩:=HXL.out;simp only[List.length_append];omega) ?_;go_simp;go_simp;intro v5 w5 ho5 hg5;have hb5:=HBR.out.trans (hg5.belowB HOK.out hsz);have d37:=(HMR1.out.keep hlt0 hb5).c37;dsimp only at d37;have HB5:=Hd hb5;have HO5:=Hd ho5;clear hb5 ho5 hg5)))
     have HX1:=HXL.out;have hz5:=HB5.out.size;refine(Xey w1.heap.size v5 _ n w5 HO5.out hz5 hfi (by simp only[List.length_append];omega)).mono ?_;rintro e w6 ⟨v6,rfl,ho6,hg6⟩;have HB6:=Hd (HB5.out.trans (hg6.belowB HO5.out hz5));have HO6:=Hd ho6;have d37:=(HMR1.out.keep hlt0 HB6.out).c37;dsimp only at d37
     have HM6:=Hd (HM1.out.below (HB6.out.mono (Lq hB (Nat.le_of_lt hlt0))));clear ho6 hg6 HO5 HB5 HX1 hsz HOK HBR hz5;go_wp2_with fail;clear d37;go_loopw [4,57] (fun v i wr=>∃k:Nat,k≤n∧i=.int .i64 k∧OwnB wr w1.heap.size v (encHead m++short kn++m.keys.flatten++m.recent++short n++(m.ins.take k).flatMap encIn)∧Below w1.heap.size w1 wr) (fun v i _=>n - (intOf i).toNat)
     case atStart =>
      refine⟨0,Nat.zero_le _,rfl,?_,HB6.out⟩;simpa only[List.take_zero,List.flatMap_nil,List.append_nil]using HO6.out
     case round =>
      clear HO6 HB6 HM6;obtain⟨k2,hk2,rfl,ho,hb⟩:=hrel;have HOR:=Hd ho;have HBR:=Hd hb;clear ho hb;have hsz:=HBR.out.size;by_cases hlt2:k2<n
      ·obtain⟨a,x,va,vd,rfl,hab,hx,hat⟩:=HM1.out.ins.get hlt2;have hat:=hat.keep hab fun p hp=>HBR.out.cell (Nat.lt_of_lt_of_le hp (Lq hB (Nat.le_of_lt hlt0)))
       have HON:=Hd (Xcg (p:=x.p) hat.acc hat.dat);have HAT:=Hd hat;have HX:=Hd hx;have hln:(encHead m++short kn++m.keys.flatten++m.recent++short n++(m.ins.take k2).flatMap encIn).length+(encIn x).length≤2000000000:=by
        obtain⟨h1,h2,h3,h4,h5⟩:=HXL.out;have h6:=Xbg encIn m.ins (k2+1);rw[Xb7 encIn hx]at h6;simp only[List.length_append]at h6 ⊢;omega
       have hel:(encIn x).length=1+((encL x.acc).length+(encL x.dat).length):=by simp[encIn];omega
       have hfx:=HFI.out.2.2.2.2.1 x (List.mem_of_getElem? hx);generalize hys:encHead m++short kn++m.keys.flatten++m.recent++short n++(m.ins.take k2).flatMap encIn=ys at *;have HYS:=Hd hys;have HLN:=Hd hln;have HEL:=Hd hel;clear hat hx hln hel hys;go_wp2_with (first
        | (with_reducible show wpList _ _ _ (⟨some 60,_,_,_,_,_⟩::_) _ _;go_must(refine Xa3 rfl 131 (.tmp 59) rfl (a.add (k2*3)) (inCells x.p va vd) _ Tryz.underlying131 rfl (Xbj _ _ _) HAT.out.cells ?_ ?_;go_simp))
        | (with_reducible show wpList _ _ _ (⟨none,Op.store 131 _ _,_,_,_,_⟩::_) _ _;go_must(refine Xa1 rfl 131 (.tmp 8) (.tmp 60) rfl (inCells x.p va vd) (Xbj _ _ _) HON.out rfl ?_ ?_ ?_;go_simp;go_simp;intro w4 hr4 hb4 hz4;obtain⟨e0,-,-⟩:=Xcc hr4;have ho4:=HOR.out.below hb4;have HR4:=Hd hr4;clear hr4))
        | (at_builtin;go_must(refine Xc2 rfl (.tmp 61) (.tmp 64) 22 rfl w1.heap.size Tryz.underlying22 Xb3 _ ys [x.p] 1 rfl ?_ ho4 ?_ (by omega) (by have q1:=HLN.out;rw[List.length_append,List.length_singleton];omega) ?_;go_simp;go_simp;intro v5 w5 ho5 hg5;have HNE5:=Hd (hg5.ne (Xd8 (base:=w1.heap.size) HOR.out (Lr _)) HR4.out.lt);have hr5:=hg5.row HR4.out (Xd8 HOR.out (Lr _));obtain⟨-,e1,-⟩:=Xcc hr5;have HR5:=Hd hr5;have HB5:=Hd ((HBR.out.trans (hb4.mono hsz)).trans (hg5.belowB ho4 (by omega)));have HO5:=Hd ho5;have hg5':=hg5;clear ho5 hg5 hr5 e0)))
       have hln:=HLN.out;have hel:=HEL.out;have hz5:=HB5.out.size;have hdat:=HAT.out.dat;have hva:BytesIn w5 w1.heap.size va x.acc:=(HAT.out.acc.more (Lq hB (Nat.le_of_lt hlt0))).below ((hb4.mono hsz).trans (hg5'.belowB ho4 (by omega)));have hvd:BytesIn w5 w1.heap.size vd x.dat:=(HAT.out.dat.more (Lq hB (Nat.le_of_lt hlt0))).below ((hb4.mono hsz).trans (hg5'.belowB ho4 (by omega)));clear hdat;refine(Xdy w1.heap.size w1.heap.size v5 va _ x.acc w5 HO5.out hz5 hva (Lr _) hfx.1 (by rw[List.length_append,List.length_singleton];omega)).mono ?_;rintro e w6' ⟨v6',rfl,ho6',hg6'⟩;have hr6:=hg6'.row HR5.out HNE5.out;obtain⟨-,-,e2⟩:=Xcc hr6;have hb6:=hg6'.belowB HO5.out hz5;have HVD:=Hd (hvd.below hb6);have HB6':=Hd (HB5.out.trans hb6);have HO6':=Hd ho6';clear hr6 hb6 ho6' hg6' hva hvd e1 hln hel hz5 ho4 hb4 hg5';go_wp2_with fail;have hln:=HLN.out;have hel:=HEL.out;refine(Xdy w1.heap.size w1.heap.size v6' vd _ x.dat w6' HO6'.out HB6'.out.size HVD.out (Lr _) hfx.2 (by simp only[List.length_append,List.length_singleton];omega)).mono ?_;rintro e w7 ⟨v7,rfl,ho7,hg7⟩;have HB7:=Hd (HB6'.out.trans (hg7.belowB HO6'.out HB6'.out.size));have HO7:=Hd ho7;clear ho7 hg7 hln hel e2;go_wp2_with fail;go_roundw
       case rel =>
        refine⟨k2+1,by omega,by go_num,?_,HB7.out⟩;have:=HO7.out;rw[Xb7 encIn HX.out,←List.append_assoc,HYS.out];simpa only[encIn,List.append_assoc,List.singleton_append,List.cons_append,List.nil_append]using this
       case measure=>simp[intOf];omega
      ·have HOK:Hid (OwnB wr w1.heap.size u4 (encHead m++short kn++m.keys.flatten++m.recent++short n++m.ins.flatMap encIn)):=by
        have:=HOR.out;rw[List.take_of_length_le (by have h1:=HM1.out.ins.len;dsimp only at h1;omega)]at this;exact Hd this
       have hm2:=HMR1.out.keep hlt0 HBR.out;have d0:=hm2.c0;rw[HV0.out]at d0;have d38:=hm2.c38;dsimp only at d38
       clear hm2 HOR;go_wp2_with fail;have hlk:=(HM1.out.below (HBR.out.mono (Lq hB (Nat.le_of_lt hlt0)))).looks;have ht:encTail m=short m.looks.length++m.looks.flatMap encLook:=by unfold encTail;rw[HV0.out];rfl
       have HT:=Hd ht;have hle:=HL.out;rw[HE.out,ht]at hle;refine(Xlw w1.heap.size B u4 LA ln lc _ m.looks _ HOK.out hsz hlk (Lq hB (Nat.le_of_lt hlt0)) ⟨by have h1:=hlk.len;dsimp only at h1;have h2:=HFI.out.2.2.2.1;omega,HFI.out.2.2.2.2.2⟩ hle).mono ?_;rintro e w8 ⟨v8,rfl,ho8,hg8⟩;have HB8:=Hd (HBR.out.trans (hg8.belowB HOK.out hsz));have HO8:=Hd ho8;clear ho8 hg8 ht hle hlk d0 d38 hsz HBR HOK;go_wp2_with fail;have hlast:=HO8.out;rw[←HT.out,←HE.out]at hlast;obtain⟨g,rest,c,rfl,hg,hrow,hc1,hc2⟩:=hlast.row (by rw[HE.out];simp only[List.length_append,HXL.out.2.2.2.2];omega);have HROW:=Hd hrow;clear hrow;refine(clip_ _ _ c _ hc1 hc2).mono ?_;rintro e w9 ⟨rfl,rfl⟩;go_wp2_with fail;go_ret2
       exact⟨g,rest,rfl,by omega,HROW.out,HBW1.out.trans (HB8.out.mono (Nat.le_of_lt hlt0))⟩)
theorem put_no(q:Raw)(m:LMsg)(B:Nat)(w:World)(hm:MsgIn w B q m)(hB:B≤w.heap.size)(hf:¬Fits m) :
 Calls Tryz.prog 66 #[.agg (q.cells m).toArray] w fun e w'=>e=.returned (.tuple #[.slice none 0 0,.int .i64 1])∧Below w.heap.size w w':=by
 have hrow:=Row.new w 40 (q.cells m);have hb0:=(Br w.heap.size w).alloc (Lr _) (.cells (q.cells m).toArray 40);have hlen:=Xaq (q:=q) hm.recent;have HF:=Hd (fits_ q m B _ (hm.alloc hB (.cells (q.cells m).toArray 40)) (Lq hB hb0.size));have HSZ:=Hd (show(Tryz.prog.info? 40).map (·.size)=some (q.cells m).length by rw[Xat,hlen]);have HROW:=Hd hrow;have HB0:=Hd hb0;have HN:=Hd hf;clear hlen hm hb0 hrow hf;go_enter Tryz.func66,Tryz.ntmps66
 go_wp2_with (first
  | (with_reducible show wpList _ _ _ (⟨some 9,_,_,_,_,_⟩::_) _ _;go_must(refine Xa0 rfl 40 (.tmp 1) rfl w.heap.size 40 (q.cells m) _ Tryz.underlying40 rfl HSZ.out HROW.out ?_ ?_;go_simp)))
 refine HF.out.mono ?_;rintro e w1 ⟨⟨b,rfl,hb⟩,hb1⟩;obtain rfl:b=false:=by
  cases b
  ·rfl
  ·exact absurd (hb.1 rfl) HN.out
 clear hb;go_wp2_with fail;go_ret2
 exact⟨rfl,HB0.out.trans (hb1.mono HB0.out.size)⟩
structure RdIn(w:World)(p B:Nat)(zs:List Int):Prop where
 is:∃A c,Row w p 243 [.slice A zs.length c]∧Sees w B A zs.length (bv zs)∧zs.length≤c∧c≤maxLen
structure But(p:Nat)(w w':World):Prop where
 os:w'.os=w.os
 tape:w'.tape=w.tape
 output:w'.output=w.output
 size:w.heap.size≤w'.heap.size
 block:∀k,k<w.heap.size→k≠p→w'.heap[k]?=w.heap[k]?
section
variable{w w' w'':World}{p B:Nat}{zs:List Int}
theorem But.refl(p:Nat)(w:World):But p w w:=⟨rfl,rfl,rfl,Lr _,fun _ _ _=>rfl⟩
theorem But.trans(h:But p w w')(k:But p w' w''):But p w w'':=
 ⟨k.os.trans h.os,k.tape.trans h.tape,k.output.trans h.output,Lq h.size k.size,fun i hi hp=>(k.block i (Nat.lt_of_lt_of_le hi h.size) hp).trans (h.block i hi hp)⟩
theorem But.of_below(hb:Below w.heap.size w w')(p:Nat):But p w w':=⟨hb.os,hb.tape,hb.output,hb.size,fun k hk _=>hb.block k hk⟩
theorem But.of_turned(h:Turned w w' p):But p w w':=⟨h.os,h.tape,h.output,by rw[h.size];exact Lr _,fun k _ hk=>h.block k hk⟩
theorem But.below(h:But p w w')(hB:B≤p)(hs:B≤w.heap.size):Below B w w':=⟨h.os,h.tape,h.output,h.size,fun k hk=>h.block k (by omega) (by omega)⟩
theorem But.row{g t:Nat}{xs:List Value}(h:But p w w')(hr:Row w g t xs)(hg:g≠p):Row w' g t xs:=⟨(h.block g hr.lt hg).trans hr.is⟩
theorem RdIn.lt(h:RdIn w p B zs):p<w.heap.size:=by obtain⟨A,c,hr,_⟩:=h.is;exact hr.lt
theorem RdIn.below(h:RdIn w p B zs)(hb:Below w.heap.size w w')(hB:B≤p):RdIn w' p B zs:=by
 obtain⟨A,c,hr,hs,h1,h2⟩:=h.is;have:=hr.lt;exact⟨A,c,hr.below hb hr.lt,hs.below (hb.mono (by omega)),h1,h2⟩
def panics(c:Int):Ending:=.panicked [{ v:=.iface 49 (.int .i64 c),recovered:=false }]
end
def Took(w:World)(p B k:Nat)(zs:List Int)(e:Ending)(w':World):Prop:=
 (∃A c,e=.returned (.slice A k c)∧Sees w' B A k (bv (zs.take k)))∧RdIn w' p B (zs.drop k)∧Turned w w' p
theorem Xm0(p B k:Nat)(zs:List Int)(w:World)(h:RdIn w p B zs)(hB:B≤p)(h1:1≤k)(hk:k≤zs.length) :
 Calls Tryz.prog 171 #[.pointer (some ⟨p,0,none⟩),.int .i64 k] w (Took w p B k zs):=by
 obtain⟨A,c,hr,hs,h2,h3⟩:=h.is;obtain⟨a,_,rfl,hab,_,_⟩:=hs.at_ (k:=0) (by omega);have c0:w.cell? ⟨p,0,none⟩=some (.slice (some a) zs.length c):=hr.cell 0;have f0:=hr.frozen 0;have R:=Hd hr;have S:=Hd hs;unfold maxLen at h3;have hs1:Sees w B (some a) k (bv (zs.take k)):=⟨by rw[bL,List.length_take];omega,fun i u hu=>by
  have hi:=(List.getElem?_eq_some_iff.1 hu).1;rw[bL,List.length_take]at hi;refine hs.cell i u ?_;rw[bv_getElem?]at hu ⊢;rwa [List.getElem?_take_of_lt (by omega)]at hu⟩
 have S1:=Hd hs1;have hk':¬((zs.length:Int)<k):=by omega
 clear hr hs hs1 h;have T:=fun(v:Value)=>Hd (Xa2 w ⟨p,0,none⟩ v)
 have R':=fun(v:Value)=>Hd (R.out.set_ 0 v)
 have fin:∀(e:Ending) (w':World) (v:Value),e=.returned (.slice (some a) k c)→w'=w.setCell ⟨p,0,none⟩ v→(∃A c',v=.slice A (zs.drop k).length c'∧Sees w B A (zs.drop k).length (bv (zs.drop k))∧(zs.drop k).length≤c'∧c'≤maxLen) →
  Took w p B k zs e w':=by
  rintro _ _ v rfl rfl ⟨A,c',rfl,h4,h5,h6⟩;have hb:=(T (.slice A (zs.drop k).length c')).out.below (B:=B) hB;exact⟨⟨_,_,rfl,S1.out.below hb⟩,⟨⟨A,c',by simpa using (R' (.slice A (zs.drop k).length c')).out,h4.below hb,h5,h6⟩⟩,(T _).out⟩
 have F:=Hd fin;clear fin T R';have hz:zs.length - k=(zs.drop k).length:=by simp
 have hdrop:Sees w B (some (a.add k)) (zs.length - k) (bv (zs.drop k)):=⟨by rw[bL,List.length_drop],fun i u hu=>by
  rw[bv_getElem?,List.getElem?_drop,←bv_getElem?]at hu;obtain⟨a',e,hb,hc⟩:=S.out.cell _ u hu;cases e
  exact⟨_,rfl,by rw[Xa7];exact hb,by rw[Xbr];exact hc⟩⟩
 have HD:=Hd hdrop;have HZ:=Hd hz;clear hdrop hz;by_cases hck:c=k
 ·subst hck;go_enter Tryz.func171,Tryz.ntmps171
  go_wp2;go_ret;refine F.out _ _ _ rfl rfl ⟨some a,0,by rw[←HZ.out,show zs.length - c=0 by omega],?_,?_,?_⟩
  ·rw[←HZ.out,show zs.length - c=0 by omega];have e0:zs.drop c=[]:=List.drop_eq_nil_of_le (by omega);rw[e0];exact Sees.nil _ _ _
  ·rw[←HZ.out];omega
  ·unfold maxLen;omega
 ·go_enter Tryz.func171,Tryz.ntmps171
  go_wp2;go_ret;refine F.out _ _ _ rfl rfl ⟨_,_,by rw[←HZ.out],?_,?_,?_⟩
  ·rw[←HZ.out];exact HD.out
  ·rw[←HZ.out];omega
  ·unfold maxLen;omega
theorem Xqe(p B k:Nat)(zs:List Int)(w:World)(h:RdIn w p B zs)(hk:zs.length<k) :
 Calls Tryz.prog 171 #[.pointer (some ⟨p,0,none⟩),.int .i64 k] w fun e w'=>e=panics 5∧w=w':=by
 obtain⟨A,c,hr,hs,h2,h3⟩:=h.is;have c0:w.cell? ⟨p,0,none⟩=some (.slice A zs.length c):=hr.cell 0;clear hr hs h;go_enter Tryz.func171,Tryz.ntmps171
 go_wp2;exact⟨rfl,rfl,rfl⟩
def Reads{α:Type}(w:World)(p B:Nat)(r:PR α)(V:World→Value→α→Prop)(e:Ending)(w':World):Prop:=
 (∃x rest v,r=.ok (x,rest)∧e=.returned v∧V w' v x∧RdIn w' p B rest∧But p w w')∨(∃c,r=.error c∧e=panics c∧But p w w')
theorem Xgx(p B:Nat)(zs:List Int)(w:World)(h:RdIn w p B zs)(hB:B≤p) :
 Calls Tryz.prog 164 #[.pointer (some ⟨p,0,none⟩)] w (Reads w p B (pOctet zs) fun _ v x=>v=.int .u8 x):=by
 match zs,h with
 | [],h =>
  have H:=Hd (Xqe p B 1 [] w h (by simp));clear h;go_enter Tryz.func164,Tryz.ntmps164
  go_wp2_with fail;refine H.out.mono ?_;rintro e w1 ⟨rfl,rfl⟩;exact⟨rfl,.inr ⟨5,rfl,rfl,But.refl _ _⟩⟩
 | z::r,h =>
  have H:=Hd (Xm0 p B 1 (z::r) w h hB (by omega) (by simp));clear h;go_enter Tryz.func164,Tryz.ntmps164
  go_wp2_with fail;refine H.out.mono ?_;rintro e w1 ⟨⟨A,c,rfl,hs⟩,hr,ht⟩;obtain⟨a,rfl,hab,hc⟩:=hs.byte (k:=0) (by omega);have c0:w1.cell? a=some (.int .u8 z):=hc;have HR:=Hd hr;have HT:=Hd ht;clear hs hc hr ht;go_wp2_with fail;go_ret;exact .inl ⟨z,r,_,rfl,rfl,rfl,HR.out,But.of_turned HT.out⟩
theorem Xnn(p B:Nat)(zs:List Int)(w:World)(h:RdIn w p B zs)(hB:B≤p)(hz:AllBytes zs) :
 Calls Tryz.prog 172 #[.pointer (some ⟨p,0,none⟩)] w (Reads w p B (pShort zs) fun _ v x=>v=.int .i64 x∧x≤65535):=by
 obtain⟨A,c,hr,hs,h2,h3⟩:=h.is;have HG:=Hd (Xn3 A zs.length c zs w B hs (by omega) hz.bytes);have c0:w.cell? ⟨p,0,none⟩=some (.slice A zs.length c):=hr.cell 0;rcases Xdd zs hz with hg | ⟨n,k,hg,hn,hk1,hk⟩
 ·obtain⟨x,hx,hg⟩:∃x:Int,(x != 0)=true∧getS zs=(0,0,x):=by
   rcases hg with hg | hg
   ·exact⟨4,rfl,hg⟩
   ·exact⟨5,rfl,hg⟩
  have hP:pShort zs=.error x:=by
   unfold pShort;rw[hg];exact if_neg (by simpa using hx)
  rw[hg]at HG;have HP:=Hd hP;clear hr hs hP hg h;go_enter Tryz.func172,Tryz.ntmps172
  go_wp2_with fail;refine HG.out.mono ?_;rintro e w1 ⟨rfl,rfl⟩;go_wp2_with fail;exact⟨rfl,.inr ⟨x,HP.out,rfl,But.refl _ _⟩⟩
 ·have hP:pShort zs=.ok (n,zs.drop k):=by
   unfold pShort;rw[hg];exact if_pos rfl
  rw[hg]at HG;have HP:=Hd hP;have HT:=Hd (Xm0 p B k zs w h hB hk1 hk);clear hr hs hP hg h;go_enter Tryz.func172,Tryz.ntmps172
  go_wp2_with fail;refine HG.out.mono ?_;rintro e w1 ⟨rfl,rfl⟩;go_wp2_with fail;refine HT.out.mono ?_;rintro e w1 ⟨⟨A',c',rfl,-⟩,hr,ht⟩;have HR:=Hd hr;have HT2:=Hd ht;clear hr ht;go_wp2_with fail;go_ret;exact .inl ⟨n,_,_,HP.out,rfl,⟨rfl,hn⟩,HR.out,But.of_turned HT2.out⟩
theorem RdIn.alloc{w:World}{p B:Nat}{zs:List Int}(h:RdIn w p B zs)(hB:B≤p)(o:Obj):RdIn (w.alloc o) p B zs:=h.below ((Br _ _).alloc (Lr _) o) hB
theorem RdIn.drew{w:World}{p B:Nat}{zs:List Int}(h:RdIn w p B zs):RdIn w.drew p B zs:=by
 obtain⟨A,c,hr,hs,h1,h2⟩:=h.is;exact⟨A,c,hr.drew,hs.drew,h1,h2⟩
theorem But.drew{w w':World}{p:Nat}(h:But p w w'):But p w w'.drew:=⟨h.os,h.tape,h.output,h.size,h.block⟩
theorem But.alloc{w w':World}{p:Nat}(h:But p w w')(o:Obj):But p w (w'.alloc o):=h.trans (.of_below ((Br _ _).alloc (Lr _) o) p)
def zeros(n:Nat):List Value:=List.replicate n (.int .u8 0)
theorem Xmi:(#[.int .u8 0,.int .u8 0,.int .u8 0,.int .u8 0,.int .u8 0,.int .u8 0,.int .u8 0,.int .u8 0,.int .u8 0,.int .u8 0,.int .u8 0,.int .u8 0,.int .u8 0,.int .u8 0,.int .u8 0,.int .u8 0,.int .u8 0,.int .u8 0,.int .u8 0,.int .u8 0,.int .u8 0,.int .u8 0,.int .u8 0,.int .u8 0,.int .u8 0,.int .u8 0,.int .u8 0,.int .u8 0,.int .u8 0,.int .u8 0,.int .u8 0,.int .u8 0]:Array Value)=(zeros 32).toArray:=rfl
theorem key_(p B:Nat)(zs:List Int)(w:World)(h:RdIn w p B zs)(hB:B≤p) :
 Calls Tryz.prog 166 #[.pointer (some ⟨p,0,none⟩)] w (Reads w p B (pTake 32 zs) fun _ v x=>v=.agg (bv x).toArray∧x.length=32):=by
 have hp:=h.lt;have HR:=Hd h;clear h;by_cases hz:zs.length<32
 ·have hP:pTake 32 zs=.error 5:=if_pos hz;have HP:=Hd hP;clear hP;go_enter Tryz.func166,Tryz.ntmps166
  go_wp2_with fail;rw[Xmi];refine wp_region_any (by kernel_rfl) ?_;try(change wpAny _ _ _ _ _ _ _ (World.drew _))
  refine wpAny_take (i:=0) (v:=?_) rfl (by kernel_rfl) (by kernel_rfl) (by kernel_rfl) (fun _ _ _ h=>h) (Or.inl ⟨by rfl,?_⟩) ?_;rotate_left
  ·intro w;go_simp;try with_reducible rfl
  refine wpAny_take (i:=1) (v:=?_) rfl (by kernel_rfl) (by kernel_rfl) (by kernel_rfl) (fun _ _ _ h=>h) (Or.inl ⟨by rfl,?_⟩) ?_;rotate_left
  ·intro w;go_simp;try with_reducible rfl
  refine wpAny_ready (rs:=[2]) (by kernel_rfl) (by simp) ?_;refine AllReady.cons rfl (fun K hK=>?_) AllReady.nil;go_simp;refine(Xqe p B 32 zs _ ((HR.out.alloc hB _).drew) hz).mono ?_;rintro e w1 ⟨rfl,rfl⟩;exact⟨rfl,.inr ⟨5,HP.out,rfl,((But.refl p w).alloc _).drew⟩⟩
 ·have hP:pTake 32 zs=.ok (zs.take 32,zs.drop 32):=if_neg hz;have HP:=Hd hP;clear hP;go_enter Tryz.func166,Tryz.ntmps166
  go_wp2_with fail;rw[Xmi];refine wp_region_any (by kernel_rfl) ?_;try(change wpAny _ _ _ _ _ _ _ (World.drew _))
  refine wpAny_take (i:=0) (v:=?_) rfl (by kernel_rfl) (by kernel_rfl) (by kernel_rfl) (fun _ _ _ h=>h) (Or.inl ⟨by rfl,?_⟩) ?_;rotate_left
  ·intro w;go_simp;try with_reducible rfl
  refine wpAny_take (i:=1) (v:=?_) rfl (by kernel_rfl) (by kernel_rfl) (by kernel_rfl) (fun _ _ _ h=>h) (Or.inl ⟨by rfl,?_⟩) ?_;rotate_left
  ·intro w;go_simp;try with_reducible rfl
  refine wpAny_ready (rs:=[2]) (by kernel_rfl) (by simp) ?_;refine AllReady.cons rfl (fun K hK=>?_) AllReady.nil;go_simp;refine(Xm0 p B 32 zs _ ((HR.out.alloc hB (.cells (zeros 32).toArray 78)).drew) hB (by omega) (by omega)).mono ?_;rintro e w1 ⟨⟨A,c,rfl,hs⟩,hr,ht⟩;simp only[];refine hK _ _ ?_;have hl:(zs.take 32).length=32:=by rw[List.length_take];omega
  have hb1:But p w w1:=(((But.refl p w).alloc (.cells (zeros 32).toArray 78)).drew).trans (But.of_turned ht);have hr1:Row w1 w.heap.size 78 (zeros 32):=ht.row ((Row.new w 78 (zeros 32)).drew) (Nat.ne_of_gt hp);have HT:=Hd ht;clear hK K ht;refine wpAny_ready (rs:=[3]) (by kernel_rfl) (by simp) ?_;refine AllReady.cons rfl (fun K hK=>?_) AllReady.nil;refine step_copy_splice rfl (.tmp 3) (.tmp 5) 22 22 rfl 5 Tryz.underlying22 Xcp (some ⟨w.heap.size,0,none⟩) A 32 32 32 c ?_ ?_ w.heap.size 0 (zeros 32) 78 hr1.is (bv (zs.take 32)) ?_ ?_ ?_ (Xae _) w.heap.size w1 (Br _ _) (Lr _) ?_
  ·go_simp
  ·go_simp
  ·rw[bL,hl];rfl
  ·intro hpos;obtain⟨a,_,e,_⟩:=hs.at_ (k:=0) (by omega);refine⟨rfl,a,e,fun j v hv=>?_⟩;obtain⟨_,e',_,hc⟩:=hs.cell j v hv;rw[e]at e';cases e'
   exact hc
  ·rw[bL,hl];simp[zeros]
  intro w2 h2 hb2;have hr2:Row w2 w.heap.size 78 (bv (zs.take 32)):=⟨by
   rw[h2.out];have:splice (zeros 32) 0 (bv (zs.take 32))=bv (zs.take 32):=by
    unfold splice;rw[bL,hl];simp[zeros]
   rw[this]⟩
  refine hK _ _ ?_;clear hK K;refine wpAny_done (by kernel_rfl) ?_ _;have hrd2:RdIn w2 p B (zs.drop 32):=by
   obtain⟨A',c',q1,q2,q3,q4⟩:=hr.is;exact⟨A',c',q1.below hb2 hp,q2.below (hb2.mono (by omega)),q3,q4⟩
  have hbw2:But p w w2:=⟨hb2.os.trans hb1.os,hb2.tape.trans hb1.tape,hb2.output.trans hb1.output,Lq hb1.size hb2.size,fun k hk hne=>(hb2.block k hk).trans (hb1.block k hk hne)⟩;have HR2:=Hd hr2;have HRD:=Hd hrd2;have HBW:=Hd hbw2;have hz:(Tryz.prog.info? 78).map (·.size)=some (bv (zs.take 32)).length:=by rw[Xab,bL,hl]
  have HZ:=Hd hz;clear hr2 hrd2 hbw2 hb2 h2 hr1 hb1 hz hs hr HT;go_wp2_with (first
   | (with_reducible show wpList _ _ _ (⟨some 7,_,_,_,_,_⟩::_) _ _;go_must(refine Xa0 rfl 78 (.tmp 2) rfl w.heap.size 78 (bv (zs.take 32)) _ Tryz.underlying78 rfl HZ.out HR2.out ?_ ?_;go_simp))
   | (with_reducible show wpList _ _ _ (⟨none,Op.store 78 _ _,_,_,_,_⟩::_) _ _;go_must(refine Xa4 rfl 78 (.tmp 2) (.tmp 7) rfl w.heap.size (bv (zs.take 32)) (bv (zs.take 32)) HR2.out HZ.out rfl (Xae _) ?_ ?_ ?_;go_simp;go_simp;intro w3 hr3 ht3;have HR3:=Hd hr3;have HT3:=Hd ht3;clear hr3 ht3)))
  refine bodyPost_ret (results_cell_row (h:=rfl) _ w3 w.heap.size 78 (bv (zs.take 32)).toArray (0,0) _ (by rfl) HR3.out.is Tryz.underlying78 rfl (by simpa using HZ.out)) rfl ?_;have hne:p≠w.heap.size:=Nat.ne_of_lt hp;refine .inl ⟨zs.take 32,zs.drop 32,_,HP.out,rfl,⟨rfl,hl⟩,?_,?_⟩
  ·obtain⟨A',c',q1,q2,q3,q4⟩:=HRD.out.is;exact⟨A',c',HT3.out.row q1 hne,q2.below (HT3.out.below (by omega)),q3,q4⟩
  ·exact⟨HT3.out.os.trans HBW.out.os,HT3.out.tape.trans HBW.out.tape,HT3.out.output.trans HBW.out.output,by rw[HT3.out.size];exact HBW.out.size,fun k hk hne'=>(HT3.out.block k (by omega)).trans (HBW.out.block k hk hne')⟩
theorem Xbd{α:Type}(one:List Int→PR α)(n:Nat)(zs:List Int):pMany one (n+1) zs=match pMany one n zs with
 | .error c=>.error c
 | .ok (l,r)=>match one r with
  | .error c=>.error c
  | .ok (x,r')=>.ok (l++[x],r'):=rfl
theorem Xe2{α:Type}(one:List Int→PR α){k:Nat}{zs:List Int}{c:Int}(h:pMany one k zs=.error c):∀n,k≤n→pMany one n zs=.error c:=by
 intro n hn;induction n with
 | zero =>
  obtain rfl:k=0:=by omega
  exact h
 | succ n ih =>
  rcases Nat.lt_or_ge k (n+1)with hk | hk
  ·rw[Xbd,ih (by omega)]
  ·obtain rfl:k=n+1:=by omega
   exact h
theorem Xer{α:Type}(one:List Int→PR α):∀(k:Nat) (zs:List Int) (l:List α) (r:List Int),pMany one k zs=.ok (l,r)→l.length=k
 | 0,zs,l,r,h=>by
  cases h
  rfl
 | k+1,zs,l,r,h=>by
  rw[Xbd]at h;split at h
  ·cases h
  ·rename_i l' r' h'
   have:=Xer one k zs l' r' h';split at h
   ·cases h
   ·cases h
    simp[this]
theorem But.ownB{w w':World}{p lo:Nat}{v:Value}{xs:List Int}(h:But p w w')(hp:p<lo)(ho:OwnB w lo v xs):OwnB w' lo v xs:=by
 refine⟨ho.1,?_⟩;rcases ho.2 with h2 | ⟨g,cap,cur,hv,hg,hh,r⟩
 ·exact .inl h2
 ·exact .inr ⟨g,cap,cur,hv,hg,(h.block g (Array.getElem?_eq_some_iff.1 hh).1 (by omega)).trans hh,r⟩
theorem But.grew{w w':World}{p lo:Nat}{v v':Value}{xs:List Int}(hg:Grew w w' v v')(ho:OwnB w lo v xs)(hp:p<lo)(b:World)(hb:But p b w)(hlo:b.heap.size≤lo):But p b w':=
 ⟨hg.grown.os.trans hb.os,hg.grown.tape.trans hb.tape,hg.grown.output.trans hb.output,Lq hb.size hg.size,fun k hk hne =>
  (hg.grown.block k (Nat.lt_of_lt_of_le hk hb.size) fun e=>by have:=(World.ownsRow.lt ho k e.symm).1;omega).trans (hb.block k hk hne)⟩
theorem RdIn.grew{w w':World}{p B lo:Nat}{v v':Value}{xs zs:List Int}(h:RdIn w p B zs)(hg:Grew w w' v v')(ho:OwnB w lo v xs)(hp:p<lo)(hB:B≤p)(hlo:lo≤w.heap.size):RdIn w' p B zs:=by
 obtain⟨A,c,q1,q2,q3,q4⟩:=h.is;have hb:=hg.belowB ho hlo;exact⟨A,c,q1.below hb hp,q2.below (hb.mono (by omega)),q3,q4⟩
theorem Xg6{P:Program}(ts:Array TypeId)(t:TypeId)(x y:Nat)(w:World):(Builtin.min_ ts t #[.int .i64 (x:Int),.int .i64 (y:Int)]).run P w=.ok (.int .i64 ((min x y:Nat):Int)) w:=by
 rw[run_min_int2];congr 2
 split <;> omega
def octetFn(p:Nat):Value:=.func (.func 164) #[.pointer (some ⟨p,0,none⟩)] #[]
def ListB(w:World)(p B:Nat)(zs:List Int)(e:Ending)(w':World):Prop:=
 Reads w p B (pBytes zs) (fun w' v l=>OwnB w' w.heap.size v l∧l.length≤65535) e w'
theorem Xfo(p B:Nat)(zs:List Int)(w:World)(h:RdIn w p B zs)(hB:B≤p)(hz:AllBytes zs) :
 Calls Tryz.prog 173 #[.pointer (some ⟨p,0,none⟩),octetFn p] w (ListB w p B zs):=by
 have hp:=h.lt;have HS:=Hd (Xnn p B zs w h hB hz);have HZ:=Hd hz;have hmin:=@Xg6 Tryz.prog;obtain⟨i0,hi,hz0,hz1,hz2⟩:=info_parts Xb3;unfold octetFn;clear h hz;go_enter Tryz.func173,Tryz.ntmps173
 go_wp2_with fail;refine HS.out.mono ?_;rintro e w1 (⟨n,r,v,hP,rfl,⟨rfl,hn⟩,hr,hb⟩ | ⟨c,hP,rfl,hb⟩)
 ·have HP:=Hd hP;have HR:=Hd hr;have HB:=Hd hb;have hz1':=hb.size;have hrb:AllBytes r:=by
   unfold pShort at hP;split at hP
   ·cases hP;exact HZ.out.drop _
   ·cases hP
  have HRB:=Hd hrb;clear hP hr hb hrb HS;by_cases h0:n=0
  ·subst h0;go_wp2_with fail;go_ret;refine .inl ⟨[],r,_,?_,rfl,⟨OwnB.nil _ _,by simp⟩,HR.out,HB.out⟩;unfold pBytes pList;rw[HP.out];rfl
  ·have h0':((n:Int)==0)=false:=by simp;omega
   obtain⟨A,c,q1,q2,q3,q4⟩:=HR.out.is;have c0:w1.cell? ⟨p,0,none⟩=some (.slice A r.length c):=q1.cell 0;have HN0:=Hd h0;clear q1 q2 h0;unfold maxLen at q4;go_wp2_with (first
    | (at_make;go_must(refine wpList_make_own _ rfl (.const (.int .i64 0)) (.tmp 17) 22 rfl w.heap.size 5 i0 _ 1 Tryz.underlying22 hi hz0 hz1 .i64 .i64 _ (min n r.length) rfl ?_ rfl (by rw[hz2];omega) (by unfold maxLen;omega) hz1' ?_;go_simp;intro w2 hown hgrow)))
   have HO2:Hid (OwnB w2 w.heap.size (.slice (some ⟨w1.heap.size,0,none⟩) 0 (min n r.length)) []):=Hd hown;have hb2:Below w1.heap.size w1 w2:=(Br _ _).grown hgrow (Lr _) (fun k hk=>by cases hk);have HR2:=Hd (HR.out.below hb2 hB);have HB2:=Hd (HB.out.trans (But.of_below hb2 p));clear hown hgrow hb2 c0 hi hz0 hz1 hz2;go_loopw [6,20] (fun v i wr=>∃(k:Nat) (l rest:List Int),k≤n∧i=.int .i64 k∧pMany pOctet k r=.ok (l,rest)∧OwnB wr w.heap.size v l∧RdIn wr p B rest∧But p w wr) (fun v i _=>n - (intOf i).toNat)
   case atStart=>exact⟨0,[],r,Nat.zero_le _,rfl,rfl,HO2.out,HR2.out,HB2.out⟩
   case round =>
    clear HO2 HR2 HB2;obtain⟨k,l,rest,hk,rfl,hP2,ho,hr,hb⟩:=hrel;have HP2:=Hd hP2;have HO:=Hd ho;have HBR:=Hd hb;have hlk:=Xer _ _ _ _ _ hP2;by_cases hlt:k<n
    ·have HC:=Hd (Xgx p B rest wr hr hB);have hzs:=hb.size;clear hP2 ho hr hb;go_wp2_with fail;refine HC.out.mono ?_;rintro e w3 (⟨x,rest',v,hP3,rfl,rfl,hr3,hb3⟩ | ⟨c,hP3,rfl,hb3⟩)
     ·have hz3:=hb3.size;have ho3:=hb3.ownB hp HO.out;have HP3:=Hd hP3;have HR3:=Hd hr3;have HB3:=Hd (HBR.out.trans hb3);clear hP3 hr3 hb3;go_wp2_with (at_builtin;go_must(refine Xc2 rfl (.tmp 22) (.tmp 25) 22 rfl w.heap.size Tryz.underlying22 Xb3 _ l [x] 1 rfl ?_ ho3 ?_ (by omega) (by rw[List.length_append,List.length_singleton];omega) ?_;go_simp;go_simp;intro v4 w4 ho4 hg4;have HO4:=Hd ho4;have HR4:=Hd (HR3.out.grew hg4 ho3 hp hB (by omega));have HB4:=Hd (But.grew hg4 ho3 hp w HB3.out (Lr _));clear ho4 hg4))
      go_roundw
      case rel =>
       refine⟨k+1,l++[x],rest',by omega,by go_num,?_,HO4.out,HR4.out,HB4.out⟩;rw[Xbd,HP2.out];simp only[HP3.out]
      case measure=>simp[intOf];omega
     ·refine⟨rfl,.inr ⟨c,?_,rfl,HBR.out.trans hb3⟩⟩;unfold pBytes pList;rw[HP.out];refine Xe2 pOctet (k:=k+1) ?_ n (by omega);rw[Xbd,HP2.out];simp only[hP3]
    ·have HKK:=Hd (show k=n by omega);have HR2:=Hd hr;clear hP2 ho hr hb;go_wp2_with fail;go_ret;refine .inl ⟨l,rest,_,?_,rfl,⟨HO.out,by have:=HKK.out;omega⟩,HR2.out,HBR.out⟩;unfold pBytes pList;rw[HP.out,←HKK.out];exact HP2.out
 ·refine⟨rfl,.inr ⟨c,?_,rfl,hb⟩⟩;unfold pBytes pList;rw[hP]
section
variable{w w':World}{p B g lo:Nat}{zs:List Int}{v:Value}{xs:List Int}
theorem RdIn.turned(h:RdIn w p B zs)(ht:Turned w w' g)(hg:g≠p)(hB:B≤g):RdIn w' p B zs:=by
 obtain⟨A,c,q1,q2,q3,q4⟩:=h.is;exact⟨A,c,ht.row q1 (fun e=>hg e.symm),q2.below (ht.below hB),q3,q4⟩
theorem But.turned{w0:World}(h:But p w0 w)(ht:Turned w w' g)(hg:w0.heap.size≤g):But p w0 w':=
 ⟨ht.os.trans h.os,ht.tape.trans h.tape,ht.output.trans h.output,by rw[ht.size];exact h.size,fun k hk hne=>(ht.block k (by omega)).trans (h.block k hk hne)⟩
theorem OwnB.turned(h:OwnB w lo v xs)(ht:Turned w w' g)(hg:g<lo):OwnB w' lo v xs:=by
 refine⟨h.1,?_⟩;rcases h.2 with h2 | ⟨k,cap,cur,hv,hk,hh,r⟩
 ·exact .inl h2
 ·exact .inr ⟨k,cap,cur,hv,hk,(ht.block k (by omega)).trans hh,r⟩
theorem OwnB.lt(h:OwnB w lo v xs):∀k,v.ownBlock=some k→lo≤k∧k<w.heap.size:=World.ownsRow.lt h
theorem OwnB.more{lo':Nat}(h:OwnB w lo v xs)(hl:lo'≤lo):OwnB w lo' v xs:=by
 refine⟨h.1,?_⟩;rcases h.2 with h2 | ⟨k,cap,cur,hv,hk,hh,r⟩
 ·exact .inl h2
 ·exact .inr ⟨k,cap,cur,hv,by omega,hh,r⟩
theorem OwnB.stay{hi:Nat}(h:OwnB w lo v xs)(hh:∀k,v.ownBlock=some k→k<hi)(hk:∀k,lo≤k→k<hi→w'.heap[k]?=w.heap[k]?):OwnB w' lo v xs:=by
 refine⟨h.1,?_⟩;rcases h.2 with h2 | ⟨k,cap,cur,hv,hk',hh',r⟩
 ·exact .inl h2
 ·exact .inr ⟨k,cap,cur,hv,hk',(hk k hk' (hh k (by rw[hv];rfl))).trans hh',r⟩
theorem OwnB.one(h:OwnB w lo v xs):v.oneCell'=true:=by
 obtain⟨A,c,rfl⟩:=h.form;rfl
end
structure OwnR(w:World)(lo hi:Nat)(v:Value)(l:List Int):Prop where
 own:OwnB w lo v l
 lt:∀k,v.ownBlock=some k→k<hi
 len:l.length≤65535
theorem OwnR.stay{w w':World}{lo hi:Nat}{v:Value}{l:List Int}(h:OwnR w lo hi v l)(hk:∀k,lo≤k→k<hi→w'.heap[k]?=w.heap[k]?):OwnR w' lo hi v l:=⟨h.own.stay h.lt hk,h.lt,h.len⟩
def InV(w:World)(lo hi:Nat)(cs:List Value)(x:LIn):Prop:=∃va vd mid,cs=inCells x.p va vd∧lo≤mid∧mid≤hi∧OwnR w lo mid va x.acc∧OwnR w mid hi vd x.dat
def LookV(w:World)(lo hi:Nat)(cs:List Value)(x:LLook):Prop:=∃va vd mid,cs=bv x.tab++[va,vd]∧x.tab.length=32∧lo≤mid∧mid≤hi∧OwnR w lo mid va x.wr∧OwnR w mid hi vd x.rd
def KeyV(w:World)(lo hi:Nat)(cs:List Value)(x:List Int):Prop:=cs=bv x∧x.length=32
theorem instr_(p B:Nat)(zs:List Int)(w:World)(h:RdIn w p B zs)(hB:B≤p)(hz:AllBytes zs) :
 Calls Tryz.prog 168 #[.pointer (some ⟨p,0,none⟩)] w (Reads w p B (pIn zs) fun w' v x=>∃cs:List Value,v=.agg cs.toArray∧InV w' w.heap.size w'.heap.size cs x):=by
 have hp:=h.lt;have HC:=Hd (Xgx p B zs _ (h.alloc hB (.cells (inCells 0 (.slice none 0 0) (.slice none 0 0)).toArray 131)) hB);have HR0:=Hd ((Row.new w 131 (inCells 0 (.slice none 0 0) (.slice none 0 0))));have HB0:=Hd ((But.refl p w).alloc (.cells (inCells 0 (.slice none 0 0) (.slice none 0 0)).toArray 131));have hmf:∀(fn:Fn) (first cap:Array Value) (w:World),(Instr.makeFunc fn first cap).run Tryz.prog w=.ok (.func fn first cap) w:=fun _ _ _ _=>rfl
 obtain⟨P,hP⟩:∃P,P=pIn zs:=⟨_,rfl⟩;rw[←hP];have HP:=Hd hP;have HZ:=Hd hz;clear hP h hz;go_enter Tryz.func168,Tryz.ntmps168
 go_wp2_with fail;refine HC.out.mono ?_;rintro e w1 (⟨x,r,v,hP1,rfl,rfl,hr1,hb1⟩ | ⟨c,hP1,rfl,hb1⟩)
 ·have hrow:=hb1.row HR0.out (Nat.ne_of_gt hp);have c0:=(Xcc hrow).1;have f0:=hrow.frozen 0;have hrb:AllBytes r:=(Xau _ _ _ hP1).bytes HZ.out;have hB1:=HB0.out.trans hb1;have hlt1:=hrow.lt;have ht2:=Xa2 w1 ⟨w.heap.size,0,none⟩ (.int .u8 x);have hR2:Row (w1.setCell ⟨w.heap.size,0,none⟩ (.int .u8 x)) w.heap.size 131 (inCells x (.slice none 0 0) (.slice none 0 0)):=hrow.set_ 0 _;have hrd2:RdIn _ p B r:=hr1.turned ht2 (Nat.ne_of_gt hp) (by show B≤w.heap.size;omega);have hB2:But p w _:=hB1.turned ht2 (Lr _);have hL2:=Xfo p B r _ hrd2 hB hrb;have hz2:(w1.setCell ⟨w.heap.size,0,none⟩ (.int .u8 x)).heap.size=w1.heap.size:=ht2.size;have HRB:=Hd hrb;have HP1:=Hd hP1;have HB2:=Hd hB2;have HR2:=Hd hR2;have HL2:=Hd hL2;have HZ2:=Hd hz2;clear hP1 hr1 hb1 hrow hrb hB1 ht2 hR2 hrd2 hB2 hL2 hz2;go_wp2_with fail;generalize (w1.setCell ⟨w.heap.size,0,none⟩ (.int .u8 x))=w2 at *;refine HL2.out.mono ?_;rintro e w3 (⟨la,r2,va,hP2,rfl,⟨hva,hla⟩,hr3,hb3⟩ | ⟨c,hP2,rfl,hb3⟩)
  ·obtain⟨A1,c1,rfl⟩:=hva.form;have hrow:=hb3.row HR2.out (Nat.ne_of_gt hp);have c0:=(Xcc hrow).2.1;have f0:=hrow.frozen 1;have hrb:AllBytes r2:=(Xcs _ _ _ hP2).bytes HRB.out;have hB1:=HB2.out.trans hb3;have hlt3:=hrow.lt;have ht4:=Xa2 w3 ⟨w.heap.size,1,none⟩ (.slice A1 la.length c1);have hR4:Row (w3.setCell ⟨w.heap.size,1,none⟩ (.slice A1 la.length c1)) w.heap.size 131 (inCells x (.slice A1 la.length c1) (.slice none 0 0)):=hrow.set_ 1 _;have hrd4:RdIn _ p B r2:=hr3.turned ht4 (Nat.ne_of_gt hp) (by show B≤w.heap.size;omega);have hB4:But p w _:=hB1.turned ht4 (Lr _);have hL4:=Xfo p B r2 _ hrd4 hB hrb;have hva4:OwnB _ w2.heap.size (.slice A1 la.length c1) la:=hva.turned ht4 (by show w.heap.size<w2.heap.size;rw[HZ2.out];exact hlt1);have HVA:=Hd hva4;have HVL:Hid (∀k,(Value.slice A1 la.length c1).ownBlock=some k→k<w3.heap.size):=Hd fun k hk=>(hva.lt k hk).2
   have hz4:(w3.setCell ⟨w.heap.size,1,none⟩ (.slice A1 la.length c1)).heap.size=w3.heap.size:=ht4.size;have hz23:w2.heap.size≤w3.heap.size:=hb3.size;have HRB2:=Hd hrb;have HP2:=Hd hP2;have HB4:=Hd hB4;have HR4:=Hd hR4;have HL4:=Hd hL4;have HZ4:=Hd hz4;have HLA:=Hd hla;clear hP2 hr3 hb3 hrow hrb hB1 ht4 hR4 hrd4 hB4 hL4 hz4 hva hva4 hla HL2;go_wp2_with fail;generalize (w3.setCell ⟨w.heap.size,1,none⟩ (.slice A1 la.length c1))=w4 at *;clear c0 f0;refine HL4.out.mono ?_;rintro e w5 (⟨ld,r3,vd,hP3,rfl,⟨hvd,hld⟩,hr5,hb5⟩ | ⟨c,hP3,rfl,hb5⟩)
   ·obtain⟨A2,c2,rfl⟩:=hvd.form;have hrow:=hb5.row HR4.out (Nat.ne_of_gt hp);have c0:=(Xcc hrow).2.2;have f0:=hrow.frozen 2;have hB1:=HB4.out.trans hb5;have hlt5:=hrow.lt;have ht6:=Xa2 w5 ⟨w.heap.size,2,none⟩ (.slice A2 ld.length c2);have hR6:Row (w5.setCell ⟨w.heap.size,2,none⟩ (.slice A2 ld.length c2)) w.heap.size 131 (inCells x (.slice A1 la.length c1) (.slice A2 ld.length c2)):=hrow.set_ 2 _;have hrd6:RdIn _ p B r3:=hr5.turned ht6 (Nat.ne_of_gt hp) (by show B≤w.heap.size;omega);have hB6:But p w _:=hB1.turned ht6 (Lr _);have hvd6:OwnB _ w4.heap.size (.slice A2 ld.length c2) ld:=hvd.turned ht6 (by show w.heap.size<w4.heap.size;rw[HZ4.out];exact hlt3);have hva6:OwnB _ w2.heap.size (.slice A1 la.length c1) la:=(hb5.ownB (by rw[HZ2.out];omega) HVA.out).turned ht6 (by show w.heap.size<w2.heap.size;rw[HZ2.out];exact hlt1);have hz6:(w5.setCell ⟨w.heap.size,2,none⟩ (.slice A2 ld.length c2)).heap.size=w5.heap.size:=ht6.size;have HVL2:Hid (∀k,(Value.slice A2 ld.length c2).ownBlock=some k→k<w5.heap.size):=Hd fun k hk=>(hvd.lt k hk).2
    have hz45:w4.heap.size≤w5.heap.size:=hb5.size;have hone:∀u ∈ inCells x (.slice A1 la.length c1) (.slice A2 ld.length c2),u.oneCell'=true:=by
     intro u hu;simp only[inCells,List.mem_cons,List.not_mem_nil,or_false]at hu;rcases hu with rfl | rfl | rfl <;> rfl
    have HON:=Hd hone;have HP3:=Hd hP3;have HB6:=Hd hB6;have HR6:=Hd hR6;have HRD6:=Hd hrd6;have HVA6:=Hd hva6;have HVD6:=Hd hvd6;have HZ6:=Hd hz6;have HLD:=Hd hld;clear hP3 hr5 hb5 hrow hB1 ht6 hR6 hrd6 hB6 hvd6 hva6 hz6 hvd hld HL4 hone;go_wp2_with (first
     | (with_reducible show wpList _ _ _ (⟨some 16,_,_,_,_,_⟩::_) _ _;go_must(refine Xa0 rfl 131 (.tmp 2) rfl w.heap.size 131 _ _ Tryz.underlying131 rfl (Xbj _ _ _) HR6.out ?_ ?_;go_simp))
     | (with_reducible show wpList _ _ _ (⟨none,Op.store 131 _ _,_,_,_,_⟩::_) _ _;go_must(refine Xa4 rfl 131 (.tmp 2) (.tmp 16) rfl w.heap.size _ _ HR6.out (Xbj _ _ _) rfl HON.out ?_ ?_ ?_;go_simp;go_simp;intro w7 hr7 ht7;have HR7:=Hd hr7;have HT7:=Hd ht7;clear hr7 ht7)))
    generalize (w5.setCell ⟨w.heap.size,2,none⟩ (.slice A2 ld.length c2))=w6 at *;refine bodyPost_ret (results_cell_row (h:=rfl) _ w7 w.heap.size 131 _ (0,0) _ (by rfl) HR7.out.is Tryz.underlying131 rfl (by simpa using Xbj _ _ _)) rfl ?_;have e7:=HT7.out.size;have e6:=HZ6.out;have e4:=HZ4.out;have e2:=HZ2.out;refine .inl ⟨⟨x,la,ld⟩,r3,_,?_,rfl,⟨_,rfl,_,_,w4.heap.size,rfl,by omega,by omega,⟨?_,fun k hk=>by have:=HVL.out k hk;omega,HLA.out⟩,⟨?_,fun k hk=>by have:=HVL2.out k hk;omega,HLD.out⟩⟩,?_,?_⟩
    ·rw[HP.out];unfold pIn;simp only[HP1.out,HP2.out,HP3.out]
    ·exact(HVA6.out.turned HT7.out (by omega)).more (by omega)
    ·exact HVD6.out.turned HT7.out (by omega)
    ·exact HRD6.out.turned HT7.out (Nat.ne_of_gt hp) (by omega)
    ·exact HB6.out.turned HT7.out (Lr _)
   ·refine⟨rfl,.inr ⟨c,?_,rfl,HB4.out.trans hb5⟩⟩;rw[HP.out];unfold pIn;simp only[HP1.out,HP2.out,hP3]
  ·refine⟨rfl,.inr ⟨c,?_,rfl,HB2.out.trans hb3⟩⟩;rw[HP.out];unfold pIn;simp only[HP1.out,hP2]
 ·refine⟨rfl,.inr ⟨c,?_,rfl,HB0.out.trans hb1⟩⟩;rw[HP.out];unfold pIn;rw[hP1]
def lookZ:List Value:=bv (List.replicate 32 0)++[.slice none 0 0,.slice none 0 0]
theorem Xtb{w:World}{g t:Nat}{tab:List Int}{va vd:Value}(hr:Row w g t (bv tab++[va,vd]))(ht:tab.length=32)(u:Value):Row (w.setCell ⟨g,32,none⟩ u) g t (bv tab++[u,vd]):=by
 have h:=hr.set_ 32 u;rw[List.set_append_right _ _ (by rw[bL,ht];exact Lr _),bL,ht]at h;exact h
theorem Xr6{w:World}{g t:Nat}{tab:List Int}{va vd:Value}(hr:Row w g t (bv tab++[va,vd]))(ht:tab.length=32)(u:Value):Row (w.setCell ⟨g,33,none⟩ u) g t (bv tab++[va,u]):=by
 have h:=hr.set_ 33 u;rw[List.set_append_right _ _ (by rw[bL,ht];omega),bL,ht]at h;exact h
theorem look_(p B:Nat)(zs:List Int)(w:World)(h:RdIn w p B zs)(hB:B≤p)(hz:AllBytes zs) :
 Calls Tryz.prog 170 #[.pointer (some ⟨p,0,none⟩)] w (Reads w p B (pLook zs) fun w' v x=>∃cs:List Value,v=.agg cs.toArray∧LookV w' w.heap.size w'.heap.size cs x):=by
 have hp:=h.lt;have HC:=Hd (key_ p B zs _ (h.alloc hB (.cells lookZ.toArray 124)) hB);have HR0:=Hd ((Row.new w 124 lookZ));have HB0:=Hd ((But.refl p w).alloc (.cells lookZ.toArray 124));have hmf:∀(fn:Fn) (first cap:Array Value) (w:World),(Instr.makeFunc fn first cap).run Tryz.prog w=.ok (.func fn first cap) w:=fun _ _ _ _=>rfl
 obtain⟨P,hP⟩:∃P,P=pLook zs:=⟨_,rfl⟩;rw[←hP];have HP:=Hd hP;have HZ:=Hd hz;clear hP h hz;go_enter Tryz.func170,Tryz.ntmps170
 go_wp2_with fail;refine HC.out.mono ?_;rintro e w1 (⟨x,r,v,hP1,rfl,⟨rfl,hx32⟩,hr1,hb1⟩ | ⟨c,hP1,rfl,hb1⟩)
 ·have hrow:=hb1.row HR0.out (Nat.ne_of_gt hp);have hrb:AllBytes r:=(Xc4 32 _ _ _ hP1).bytes HZ.out;have hB1:=HB0.out.trans hb1;have hlt1:=hrow.lt;have hzk:(Tryz.prog.info? 78).map (·.size)=some (bv x).length:=by rw[Xab,bL,hx32]
  have HZK:=Hd hzk;have HRB:=Hd hrb;have HP1:=Hd hP1;have HB1:=Hd hB1;have HROW:=Hd hrow;have HR1:=Hd hr1;have HX:=Hd hx32;clear hP1 hr1 hb1 hrow hrb hB1 hzk hx32;go_wp2_with (with_reducible show wpList _ _ _ (⟨none,Op.store 78 _ _,_,_,_,_⟩::_) _ _;go_must(refine Xa9 rfl 78 (.tmp 5) (.tmp 4) rfl w.heap.size 124 0 lookZ (bv x) HROW.out HZK.out (by rw[bL,HX.out];decide) (Xae x) ?_ ?_ ?_;go_simp;go_simp;intro w2 hr2 ht2;have HR2':=Hd hr2;have HT2:=Hd ht2;clear hr2 ht2))
  have hR2:Row w2 w.heap.size 124 (bv x++[.slice none 0 0,.slice none 0 0]):=by
   have h:=HR2'.out;rw[bL,HX.out]at h;exact h
  have hrd2:RdIn _ p B r:=HR1.out.turned HT2.out (Nat.ne_of_gt hp) (by omega);have hB2:But p w _:=HB1.out.turned HT2.out (Lr _);have HL2:=Hd (Xfo p B r _ hrd2 hB HRB.out);have HZ2:=Hd HT2.out.size;have HB2:=Hd hB2;have HR2:=Hd hR2;clear hR2 hrd2 hB2;refine HL2.out.mono ?_;rintro e w3 (⟨la,r2,va,hP2,rfl,⟨hva,hla⟩,hr3,hb3⟩ | ⟨c,hP2,rfl,hb3⟩)
  ·obtain⟨A1,c1,rfl⟩:=hva.form;have hrow:=hb3.row HR2.out (Nat.ne_of_gt hp);have c0:=(Xc5 hrow HX.out).1;have f0:=hrow.frozen 32;have hrb:AllBytes r2:=(Xcs _ _ _ hP2).bytes HRB.out;have hB1:=HB2.out.trans hb3;have hlt3:=hrow.lt;have ht4:=Xa2 w3 ⟨w.heap.size,32,none⟩ (.slice A1 la.length c1);have hR4:Row (w3.setCell ⟨w.heap.size,32,none⟩ (.slice A1 la.length c1)) w.heap.size 124 (bv x++[.slice A1 la.length c1,.slice none 0 0]):=Xtb hrow HX.out _;have hrd4:RdIn _ p B r2:=hr3.turned ht4 (Nat.ne_of_gt hp) (by show B≤w.heap.size;omega);have hB4:But p w _:=hB1.turned ht4 (Lr _);have hL4:=Xfo p B r2 _ hrd4 hB hrb;have hva4:OwnB _ w2.heap.size (.slice A1 la.length c1) la:=hva.turned ht4 (by show w.heap.size<w2.heap.size;rw[HZ2.out];exact hlt1);have HVA:=Hd hva4;have HVL:Hid (∀k,(Value.slice A1 la.length c1).ownBlock=some k→k<w3.heap.size):=Hd fun k hk=>(hva.lt k hk).2
   have hz4:(w3.setCell ⟨w.heap.size,32,none⟩ (.slice A1 la.length c1)).heap.size=w3.heap.size:=ht4.size;have hz23:w2.heap.size≤w3.heap.size:=hb3.size;have HRB2:=Hd hrb;have HP2:=Hd hP2;have HB4:=Hd hB4;have HR4:=Hd hR4;have HL4:=Hd hL4;have HZ4:=Hd hz4;have HLA:=Hd hla;clear hP2 hr3 hb3 hrow hrb hB1 ht4 hR4 hrd4 hB4 hL4 hz4 hva hva4 hla HL2;go_wp2_with fail;generalize (w3.setCell ⟨w.heap.size,32,none⟩ (.slice A1 la.length c1))=w4 at *;clear c0 f0;refine HL4.out.mono ?_;rintro e w5 (⟨ld,r3,vd,hP3,rfl,⟨hvd,hld⟩,hr5,hb5⟩ | ⟨c,hP3,rfl,hb5⟩)
   ·obtain⟨A2,c2,rfl⟩:=hvd.form;have hrow:=hb5.row HR4.out (Nat.ne_of_gt hp);have c0:=(Xc5 hrow HX.out).2;have f0:=hrow.frozen 33;have hB1:=HB4.out.trans hb5;have hlt5:=hrow.lt;have ht6:=Xa2 w5 ⟨w.heap.size,33,none⟩ (.slice A2 ld.length c2);have hR6:Row (w5.setCell ⟨w.heap.size,33,none⟩ (.slice A2 ld.length c2)) w.heap.size 124 (bv x++[.slice A1 la.length c1,.slice A2 ld.length c2]):=Xr6 hrow HX.out _;have hrd6:RdIn _ p B r3:=hr5.turned ht6 (Nat.ne_of_gt hp) (by show B≤w.heap.size;omega);have hB6:But p w _:=hB1.turned ht6 (Lr _);have hvd6:OwnB _ w4.heap.size (.slice A2 ld.length c2) ld:=hvd.turned ht6 (by show w.heap.size<w4.heap.size;rw[HZ4.out];exact hlt3);have hva6:OwnB _ w2.heap.size (.slice A1 la.length c1) la:=(hb5.ownB (by rw[HZ2.out];omega) HVA.out).turned ht6 (by show w.heap.size<w2.heap.size;rw[HZ2.out];exact hlt1);have hz6:(w5.setCell ⟨w.heap.size,33,none⟩ (.slice A2 ld.length c2)).heap.size=w5.heap.size:=ht6.size;have HVL2:Hid (∀k,(Value.slice A2 ld.length c2).ownBlock=some k→k<w5.heap.size):=Hd fun k hk=>(hvd.lt k hk).2
    have hz45:w4.heap.size≤w5.heap.size:=hb5.size;have hone:∀u ∈ bv x++[.slice A1 la.length c1,.slice A2 ld.length c2],u.oneCell'=true:=by
     intro u hu;simp only[List.mem_append,List.mem_cons,List.not_mem_nil,or_false]at hu;rcases hu with hu | rfl | rfl
     ·exact Xae _ _ hu
     ·rfl
     ·rfl
    have HON:=Hd hone;have HP3:=Hd hP3;have HB6:=Hd hB6;have HR6:=Hd hR6;have HRD6:=Hd hrd6;have HVA6:=Hd hva6;have HVD6:=Hd hvd6;have HZ6:=Hd hz6;have HLD:=Hd hld;clear hP3 hr5 hb5 hrow hB1 ht6 hR6 hrd6 hB6 hvd6 hva6 hz6 hvd hld HL4 hone;go_wp2_with (first
     | (with_reducible show wpList _ _ _ (⟨some 16,_,_,_,_,_⟩::_) _ _;go_must(refine Xa0 rfl 124 (.tmp 2) rfl w.heap.size 124 _ _ Tryz.underlying124 rfl (Xdm HX.out _ _) HR6.out ?_ ?_;go_simp))
     | (with_reducible show wpList _ _ _ (⟨none,Op.store 124 _ _,_,_,_,_⟩::_) _ _;go_must(refine Xa4 rfl 124 (.tmp 2) (.tmp 16) rfl w.heap.size _ _ HR6.out (Xdm HX.out _ _) rfl HON.out ?_ ?_ ?_;go_simp;go_simp;intro w7 hr7 ht7;have HR7:=Hd hr7;have HT7:=Hd ht7;clear hr7 ht7)))
    generalize (w5.setCell ⟨w.heap.size,33,none⟩ (.slice A2 ld.length c2))=w6 at *;refine bodyPost_ret (results_cell_row (h:=rfl) _ w7 w.heap.size 124 _ (0,0) _ (by rfl) HR7.out.is Tryz.underlying124 rfl (by rw[List.size_toArray];exact Xdm HX.out _ _)) rfl ?_;have e7:=HT7.out.size;have e6:=HZ6.out;have e4:=HZ4.out;have e2:=HZ2.out;refine .inl ⟨⟨x,la,ld⟩,r3,_,?_,rfl,⟨_,rfl,_,_,w4.heap.size,rfl,HX.out,by omega,by omega,⟨?_,fun k hk=>by have:=HVL.out k hk;omega,HLA.out⟩,⟨?_,fun k hk=>by have:=HVL2.out k hk;omega,HLD.out⟩⟩,?_,?_⟩
    ·rw[HP.out];unfold pLook;simp only[HP1.out,HP2.out,HP3.out]
    ·exact(HVA6.out.turned HT7.out (by omega)).more (by omega)
    ·exact HVD6.out.turned HT7.out (by omega)
    ·exact HRD6.out.turned HT7.out (Nat.ne_of_gt hp) (by omega)
    ·exact HB6.out.turned HT7.out (Lr _)
   ·refine⟨rfl,.inr ⟨c,?_,rfl,HB4.out.trans hb5⟩⟩;rw[HP.out];unfold pLook;simp only[HP1.out,HP2.out,hP3]
  ·refine⟨rfl,.inr ⟨c,?_,rfl,HB2.out.trans hb3⟩⟩;rw[HP.out];unfold pLook;simp only[HP1.out,hP2]
 ·refine⟨rfl,.inr ⟨c,?_,rfl,HB0.out.trans hb1⟩⟩;rw[HP.out];unfold pLook;rw[hP1]
end Go.Proofs.YtdgbodljmdcagaaGreatDoor
