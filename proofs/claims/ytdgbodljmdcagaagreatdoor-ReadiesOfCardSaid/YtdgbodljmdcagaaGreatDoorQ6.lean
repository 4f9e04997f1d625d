import Derived.Test.YtdgbodljmdcagaaGreatDoorQ5
import Derived.Laws.StructEq
set_option maxRecDepth 100000
set_option maxHeartbeats 16000000
set_option linter.unusedSimpArgs false
set_option linter.unusedVariables false
namespace Go.Proofs.YtdgbodljmdcagaaGreatDoor
open Go.RowKit
def ixs(l:LLook):Nat:=l.wr.length+l.rd.length
def tot(m:LMsg):Nat:=m.keys.length+lookSize m.looks
def astray(tt:Nat)(a:Int):Bool:=decide ((tt:Int)≤a)
def pstray(own:Nat)(p:Int):Bool:=decide (p=0∨(own:Int)≤p)
def stray(own tt:Nat)(i:LIn):Bool:=pstray own i.p||i.acc.any (astray tt)
def noix(l:LLook):Bool:=decide (ixs l=0)
def b1(x:LTx):Bool:=decide (x.m.s=0∨(x.sigs.length:Int)≠x.m.s)
def b2(m:LMsg):Bool:=decide (m.s≤m.r∨(m.keys.length:Int)<m.s+m.o)
def b3(m:LMsg):Bool:=m.looks.any noix
def b4(m:LMsg):Bool:=decide (64<tot m)
def b5(m:LMsg):Bool:=m.ins.any (stray m.keys.length (tot m))
def b6(m:LMsg):Bool:=decide (¬m.keys.Nodup)
def chk(x:LTx):Int:=if b1 x then 6 else if b2 x.m then 7 else if b3 x.m then 10 else if b4 x.m then 3 else if b5 x.m then 8 else if b6 x.m then 9 else 0
structure Small(m:LMsg):Prop where
 keys:m.keys.length≤4000
 ins:m.ins.length≤4000
 looks:m.looks.length≤4000
 sum:lookSize m.looks≤4000
 acc:∀i ∈ m.ins,i.acc.length≤4000
theorem Small.of{m:LMsg}(h:total m<3000):Small m:=by
 unfold total at h;refine⟨by omega,by omega,by omega,by omega,fun i hi=>?_⟩;have:=Xtx hi;omega
theorem Small.wr{m:LMsg}(h:Small m){l:LLook}(hl:l ∈ m.looks):l.wr.length≤4000∧l.rd.length≤4000:=by
 have:=Xin hl;have:=h.sum;omega
theorem Small.tot{m:LMsg}(h:Small m):tot m≤8000:=by
 have:=h.keys;have:=h.sum;unfold Proofs.YtdgbodljmdcagaaGreatDoor.tot;omega
theorem Xd5{l:List LLook}(k:Nat):lookSize (l.take k)≤lookSize l:=by
 have e:lookSize l=lookSize (l.take k)+lookSize (l.drop k):=by
  unfold lookSize;rw[←List.sum_append,←List.map_append,List.take_append_drop]
 omega
theorem Xn2(x:LLook)(A1 A2:Option Addr)(c1 c2:Nat)(w:World)(ht:x.tab.length=32)(h1:x.wr.length≤4000)(h2:x.rd.length≤4000) :
 Calls Tryz.prog 68 #[.agg (bv x.tab++[Value.slice A1 x.wr.length c1,Value.slice A2 x.rd.length c2]).toArray] w fun e w'=>e=.returned (.int .i64 (ixs x:Nat))∧Below w.heap.size w w':=by
 have hr:=Row.new w 124 (bv x.tab++[Value.slice A1 x.wr.length c1,Value.slice A2 x.rd.length c2]);obtain⟨e32,e33⟩:=Xc5 hr ht;have hb0:=(Br w.heap.size w).alloc (Lr _) (.cells (bv x.tab++[Value.slice A1 x.wr.length c1,Value.slice A2 x.rd.length c2]).toArray 124);have HX:Hid (((x.wr.length:Nat):Int)+((x.rd.length:Nat):Int)=((ixs x:Nat):Int)):=Hd (by unfold ixs;omega);generalize (bv x.tab++[Value.slice A1 x.wr.length c1,Value.slice A2 x.rd.length c2])=cs at *;have HB:=Hd hb0;clear hr hb0 ht;generalize x.wr.length=n1 at *;generalize x.rd.length=n2 at *;go_enter Tryz.func68,Tryz.ntmps68
 go_wp2;go_ret;exact⟨by rw[←HX.out];rfl,HB.out⟩
structure TxRow(w:World)(g:Nat)(s:TRaw)(x:LTx):Prop where
 c0:w.cell? ⟨g,0,none⟩=some (.slice s.SA s.sn s.sc)
 c2:w.cell? ⟨g,2,none⟩=some (.int .u8 x.m.s)
 c3:w.cell? ⟨g,3,none⟩=some (.int .u8 x.m.r)
 c4:w.cell? ⟨g,4,none⟩=some (.int .u8 x.m.o)
 c5:w.cell? ⟨g,5,none⟩=some (.slice s.q.KA s.q.kn s.q.kc)
 c38:w.cell? ⟨g,38,none⟩=some (.slice s.q.IA s.q.n s.q.ic)
 c39:w.cell? ⟨g,39,none⟩=some (.slice s.q.LA s.q.ln s.q.lc)
theorem TxRow.of{w:World}{g t:Nat}{s:TRaw}{x:LTx}(hr:Row w g t (s.cells x))(h:x.m.recent.length=32):TxRow w g s x:=
 ⟨(hr.cell 0).trans rfl,(hr.cell 2).trans rfl,(hr.cell 3).trans rfl,(hr.cell 4).trans rfl,(hr.cell 5).trans rfl,
  (hr.cell 38).trans ((Xc1 37).trans (Xds h)),(hr.cell 39).trans ((Xc1 38).trans (Xdo h))⟩
theorem total_(s:TRaw)(x:LTx)(B:Nat)(w:World)(hm:TxIn w B s x)(hB:B≤w.heap.size)(hs:Small x.m) :
 Calls Tryz.prog 26 #[.agg (s.cells x).toArray] w fun e w'=>e=.returned (.int .i64 (tot x.m:Nat))∧Below w.heap.size w w':=by
 have rb:=TxRow.of (Row.new w 42 (s.cells x)) hm.m.recent;have hb0:=(Br w.heap.size w).alloc (Lr _) (.cells (s.cells x).toArray 42);generalize s.cells x=cs at *;obtain⟨d0,d2,d3,d4,d5,d38,d39⟩:=rb;obtain⟨SA,sn,sc,KA,kn,kc,IA,n,ic,LA,ln,lc⟩:=s;dsimp only at d0 d5 d38 d39
 have lk:=hm.m.keys.len;have ll:=hm.m.looks.len;dsimp only at lk ll
 have k1:=hs.keys;have k2:=hs.looks;rw[lk]at k1;rw[ll]at k2;have HM:=Hd (hm.below (hb0.mono hB));have HB0:=Hd hb0;have HT:Hid (tot x.m=kn+lookSize x.m.looks):=Hd (by unfold tot;rw[lk]);have HS:=Hd hs;have HLL:=Hd ll;clear d0 d2 d3 d4 d38 hm hb0 lk ll hs;go_enter Tryz.func26,Tryz.ntmps26
 go_wp2;generalize (w.alloc (Obj.cells cs.toArray 42))=W0 at *;go_loopw [3,14] (fun nn i wr=>∃(k s:Nat),k≤ln∧i=.int .i64 k∧nn=.int .i64 s∧s=kn+lookSize (x.m.looks.take k)∧s≤8000∧Below W0.heap.size W0 wr) (fun nn i _=>ln - (intOf i).toNat)
 case atStart=>exact⟨0,kn,Nat.zero_le _,rfl,rfl,by simp[lookSize],by omega,Br _ _⟩
 case round =>
  obtain⟨k,s,hk,rfl,rfl,hsum,hs9,hbw⟩:=hrel;have HSU:=Hd hsum;have HBW:=Hd hbw;clear hsum hbw;by_cases hlt:k<ln
  ·obtain⟨a,y,va,vd,rfl,hab,hx,hat⟩:=(HM.out.below (HBW.out.mono (Lq hB HB0.out.size))).m.looks.get hlt;have hx2:=HS.out.wr (List.mem_of_getElem? hx);have hz:=Xfn hx;have hz2:=Xd5 (l:=x.m.looks) (k+1);have hz3:=HS.out.sum;obtain⟨A1,c1,rfl,_,_,_⟩:=hat.wr.is;obtain⟨A2,c2,rfl,_,_,_⟩:=hat.rd.is;have HI:=Hd (fun w=>Xn2 y A1 A2 c1 c2 w hat.len hx2.1 hx2.2);have HL:=Hd (Xdm hat.len (Value.slice A1 y.wr.length c1) (Value.slice A2 y.rd.length c2));have H1:=Hd (Xei (tab:=y.tab) hat.wr hat.rd);have HSZ:=Hd hat.size;have HAT:=Hd hat.cells;have HZ:Hid (s+ixs y=kn+lookSize (x.m.looks.take (k+1))):=Hd (by have:=HSU.out;unfold ixs;omega);have hz4:s+ixs y≤8000:=by have:=HZ.out;omega
   generalize (bv y.tab++[Value.slice A1 y.wr.length c1,Value.slice A2 y.rd.length c2])=lc' at *;clear hx hat hx2 hz hz2 hz3;go_wp2_with (first
    | ((with_reducible show wpList _ _ _ (⟨some 17,_,_,_,_,_⟩::_) _ _);go_must(refine Xa3 rfl 124 (.tmp 16) rfl (a.add (k*34)) lc' _ Tryz.underlying124 rfl HL.out HAT.out ?_ ?_;go_simp))
    | ((with_reducible show wpList _ _ _ (⟨none,Op.store 124 _ _,_,_,_,_⟩::_) _ _);go_must(refine Xa1 rfl 124 (.tmp 5) (.tmp 17) rfl lc' HL.out H1.out (by rw[HSZ.out];rfl) ?_ ?_ ?_;go_simp;go_simp;intro w1 hr1 hb1 hz1;have R1:=Hd hr1;have B1:=Hd hb1;clear hr1 hb1 hz1))
    | ((with_reducible show wpList _ _ _ (⟨some 19,_,_,_,_,_⟩::_) _ _);go_must(refine Xa0 rfl 124 (.tmp 5) rfl _ 124 lc' _ Tryz.underlying124 rfl HL.out R1.out ?_ ?_;go_simp)))
   refine(HI.out _).mono ?_;rintro e w2 ⟨rfl,hb2⟩;have HB2:=Hd (HBW.out.trans ((B1.out.trans (hb2.mono B1.out.size)).mono HBW.out.size));clear hb2 B1 R1;go_wp2_with fail;go_roundw
   case rel=>exact⟨k+1,s+ixs y,by omega,by go_num,by go_num,HZ.out,hz4,HB2.out⟩
   case measure=>simp[intOf];omega
  ·have hkn:k=ln:=by omega
   have HE:Hid (tot x.m=s):=Hd (by
    have h1:=HSU.out;rw[hkn,List.take_of_length_le (by rw[HLL.out];exact Lr _)]at h1;rw[HT.out,h1])
   clear hkn HSU;go_wp2;go_ret;exact⟨by simp[HE.out],HB0.out.trans (HBW.out.mono HB0.out.size)⟩
def same32(x y:List Int)(is:List Nat):Bool:=is.all fun i=>x.getD i 0==y.getD i 0
theorem Xhi(x y:List Int)(w:World):∀(is:List Nat),(∀i ∈ is,i<x.length∧i<y.length)→(Op.eqItems 9999 5 1 (bv x).toArray (bv y).toArray is).run Tryz.prog w=.ok (same32 x y is) w
 | [],_=>by simp[Op.eqItems,same32]
 | i::is,h=>by
  have hi:=h i (by simp);have hc:(bv x).toArray[i]?=some (.int .u8 (x.getD i 0)):=by
   rw[List.getElem?_toArray];exact bv_at hi.1
  have hd:(bv y).toArray[i]?=some (.int .u8 (y.getD i 0)):=by
   rw[List.getElem?_toArray];exact bv_at hi.2
  have p:=run_part_plain (P:=Tryz.prog) w Xhr (xs:=(bv x).toArray) (off:=i) hc;have p2:=run_part_plain (P:=Tryz.prog) w Xhr (xs:=(bv y).toArray) (off:=i) hd;have ih:=Xhi x y w is fun k hk=>h k (by simp[hk])
  simp only[Op.eqItems,Nat.mul_one,Sem.run_bind,p,p2,Result.andThen_ok,run_equalIn_int w 9998 5 .u8 .u8 _ _ Tryz.underlying5];cases hb:(x.getD i 0==y.getD i 0)
  ·have:same32 x y (i::is)=false:=by simp only[same32,List.all_cons,hb,Bool.false_and]
   rw[this];simp
  ·have:same32 x y (i::is)=same32 x y is:=by simp only[same32,List.all_cons,hb,Bool.true_and]
   rw[this];simpa using ih
theorem Xjd{x y:List Int}{n:Nat}(hx:x.length=n)(hy:y.length=n):same32 x y (List.range n)=decide (x=y):=by
 rw[Bool.eq_iff_iff,decide_eq_true_iff];unfold same32;rw[List.all_eq_true];constructor
 ·intro h;refine List.ext_getElem (by omega) fun i h1 h2=>?_
  have:=h i (by simp;omega);rw[beq_iff_eq,List.getD_eq_getElem?_getD,List.getD_eq_getElem?_getD,List.getElem?_eq_getElem h1,List.getElem?_eq_getElem h2]at this;exact this
 ·rintro rfl i _;simp
theorem Xej{x y:List Int}(hx:x.length=32)(hy:y.length=32)(w:World) :
 (binOp .eql 78 (.agg (bv x).toArray) (.agg (bv y).toArray)).run Tryz.prog w=.ok (.bool (decide (x=y))) w:=by
 obtain⟨i,hi⟩:=Xni;rw[run_eql_struct,show(10000:Nat)=9999+1 from rfl,run_equalIn_array w 9999 _ _ Tryz.underlying78 hi,Xg7,Xhi x y w _ (fun i hi=>by simp at hi;omega),Xjd hx hy];rfl
structure CsIn(sz:Nat)(w:World)(B:Nat)(A:Option Addr)(n:Nat)(l:List (List Value)):Prop where
 len:l.length=n
 each:∀k ∈ l,k.length=sz
 sees:Sees w B A (n*sz) l.flatten
theorem Xm7{sz:Nat}:∀{l:List (List Value)},(∀k ∈ l,k.length=sz)→l.flatten.length=l.length*sz
 | [],_=>by simp
 | y::r,h=>by
  rw[List.flatten_cons,List.length_append,Xm7 (l:=r) (fun z hz=>h z (List.mem_cons_of_mem _ hz)),h y (by simp),List.length_cons,Nat.add_mul];omega
section
variable{sz n B B':Nat}{w w':World}{A:Option Addr}{l:List (List Value)}
theorem CsIn.below(h:CsIn sz w B A n l)(hb:Below B w w'):CsIn sz w' B A n l:=⟨h.len,h.each,h.sees.below hb⟩
theorem CsIn.get(h:CsIn sz w B A n l){k:Nat}(hk:k<n)(h0:0<sz):∃a x,A=some a∧a.block<B∧l[k]?=some x∧x.length=sz∧∀j u,x[j]?=some u→w.cell? ((a.add (k*sz)).add j)=some u:=by
 obtain⟨x,hx⟩:∃x,l[k]?=some x:=⟨_,List.getElem?_eq_getElem (by rw[h.len];exact hk)⟩;have hxl:=h.each x (List.mem_of_getElem? hx);have hat:=Xbh sz l k x (fun i y hy=>h.each y (List.mem_of_getElem? hy)) hx;obtain⟨u0,hu0⟩:∃u,x[0]?=some u:=⟨_,List.getElem?_eq_getElem (by rw[hxl];exact h0)⟩;obtain⟨a,e,hb,_⟩:=h.sees.cell _ _ (hat 0 u0 hu0);refine⟨a,x,e,hb,hx,hxl,fun j u hu=>?_⟩;obtain⟨a',e',_,hc⟩:=h.sees.cell _ _ (hat j u hu);rw[e]at e';cases e'
 rw[Xbr];exact hc
end
def rowOf(n:Nat)(z:List Value):List Value:=(List.replicate n z).flatten
theorem Xcr{sz:Nat}(n:Nat){z:List Value}(hz:z.length=sz):(rowOf n z).length=n*sz:=by
 unfold rowOf;rw[Xm7 (sz:=sz) (fun k hk=>by rw[List.eq_of_mem_replicate hk,hz]),List.length_replicate]
theorem Xpn(k:Nat)(z:List Value):rowOf (k+1) z=rowOf k z++z:=by
 unfold rowOf;rw[List.replicate_succ',List.flatten_append];simp
theorem Xji{sz n k:Nat}{z:List Value}(hz:z.length=sz)(hk:k<n){j:Nat}{v:Value}(hv:z[j]?=some v):(rowOf n z)[k*sz+j]?=some v:=
 Xbh sz (List.replicate n z) k z (fun i y hy=>by
  have:=List.mem_of_getElem? hy;rw[List.eq_of_mem_replicate this,hz]) (by rw[List.getElem?_replicate_of_lt hk]) j v hv
structure LRole where
 key:List Int
 sg:Bool
 wr:Bool
theorem LRole.ext_iff'{a b:LRole}:a=b↔a.key=b.key∧a.sg=b.sg∧a.wr=b.wr:=by
 obtain⟨x,y,z⟩:=a;obtain⟨x',y',z'⟩:=b;constructor
 ·rintro h;cases h
  exact⟨rfl,rfl,rfl⟩
 ·rintro⟨h1,h2,h3⟩;simp only at h1 h2 h3;rw[h1,h2,h3]
instance:DecidableEq LRole:=fun a b=>decidable_of_iff (a.key=b.key∧a.sg=b.sg∧a.wr=b.wr) LRole.ext_iff'.symm
def LRole.cells(r:LRole):List Value:=bv r.key++[.bool r.sg,.bool r.wr]
def RoleOk(r:LRole):Prop:=r.key.length=32∧AllBytes r.key
theorem Xc3{r:LRole}(h:r.key.length=32):r.cells.length=34:=by simp[LRole.cells,bL,h]
theorem Xd3(r:LRole):∀u ∈ r.cells,u.oneCell'=true:=by
 intro u hu;rcases List.mem_append.1 hu with hu | hu
 ·exact Xae _ _ hu
 ·simp only[List.mem_cons,List.not_mem_nil,or_false]at hu;rcases hu with rfl | rfl <;> rfl
theorem Xsc{r:LRole}(h:r.key.length=32):r.cells[32]?=some (.bool r.sg):=by
 unfold LRole.cells;rw[List.getElem?_append_right (by rw[bL,h];omega),bL,h];rfl
theorem Xjy{r:LRole}(h:r.key.length=32):r.cells[33]?=some (.bool r.wr):=by
 unfold LRole.cells;rw[List.getElem?_append_right (by rw[bL,h];omega),bL,h];rfl
theorem Xju{r:LRole}{j:Nat}{u:Value}(h:(bv r.key)[j]?=some u):r.cells[j]?=some u:=by
 unfold LRole.cells;rw[List.getElem?_append_left (List.getElem?_eq_some_iff.1 h).1];exact h
theorem Xfp{r:LRole}(h:r.key.length=32):(Tryz.prog.info? 101).map (·.size)=some r.cells.length:=by
 rw[Xc3 h];kernel_rfl
theorem Xgy(xs:Array Value)(off:Nat)(w:World):(part 78 xs off).run Tryz.prog w=.ok (.agg (xs.extract off (off+32))) w:=by
 have h1:(isAgg 78).run Tryz.prog w=.ok true w:=by kernel_rfl
 simp[part,h1]
theorem Xd4(xs:Array Value)(off:Nat)(w:World){v:Value}(h:xs[off]?=some v):(part 4 xs off).run Tryz.prog w=.ok v w:=
 run_part_plain (P:=Tryz.prog) w (by kernel_rfl) h
theorem Xiz(d:Nat)(x y:List Int)(w:World):∀(is:List Nat),(∀i ∈ is,i<x.length∧i<y.length)→(Op.eqItems (d+1) 5 1 (bv x).toArray (bv y).toArray is).run Tryz.prog w=.ok (same32 x y is) w
 | [],_=>by simp[Op.eqItems,same32]
 | i::is,h=>by
  have hi:=h i (by simp);have hc:(bv x).toArray[i]?=some (.int .u8 (x.getD i 0)):=by
   rw[List.getElem?_toArray];exact bv_at hi.1
  have hd:(bv y).toArray[i]?=some (.int .u8 (y.getD i 0)):=by
   rw[List.getElem?_toArray];exact bv_at hi.2
  have p:=run_part_plain (P:=Tryz.prog) w Xhr (xs:=(bv x).toArray) (off:=i) hc;have p2:=run_part_plain (P:=Tryz.prog) w Xhr (xs:=(bv y).toArray) (off:=i) hd;have ih:=Xiz d x y w is fun k hk=>h k (by simp[hk])
  simp only[Op.eqItems,Nat.mul_one,Sem.run_bind,p,p2,Result.andThen_ok,run_equalIn_int w d 5 .u8 .u8 _ _ Tryz.underlying5];cases hb:(x.getD i 0==y.getD i 0)
  ·have:same32 x y (i::is)=false:=by simp only[same32,List.all_cons,hb,Bool.false_and]
   rw[this];simp
  ·have:same32 x y (i::is)=same32 x y is:=by simp only[same32,List.all_cons,hb,Bool.true_and]
   rw[this];simpa using ih
theorem Xr7(d:Nat){x y:List Int}(hx:x.length=32)(hy:y.length=32)(w:World) :
 (Op.equalIn (d+1+1) 78 (.agg (bv x).toArray) (.agg (bv y).toArray)).run Tryz.prog w=.ok (decide (x=y)) w:=by
 obtain⟨i,hi⟩:=Xni;rw[run_equalIn_array w (d+1) _ _ Tryz.underlying78 hi,Xg7,Xiz d x y w _ (fun i hi=>by simp at hi;omega),Xjd hx hy]
theorem Xiv{r:LRole}(h:r.key.length=32):r.cells.toArray.extract 0 (0+32)=(bv r.key).toArray:=by
 apply Array.ext'
 unfold LRole.cells;rw[Array.toList_extract];simp[List.extract,bL,h]
theorem Xty{x y:List Int}(hx:x.length=32)(hy:y.length=32)(w:World)(d:Nat)(hd:d=9997) :
 (Op.equalIn 9999 78 (.agg (bv x).toArray) (.agg (bv y).toArray)).run Tryz.prog w=.ok (decide (x=y)) w:=by
 have h:=Xr7 d hx hy w;subst hd;exact h
theorem Xts(a b:Bool)(w:World):(Op.equalIn 9999 4 (.bool a) (.bool b)).run Tryz.prog w=.ok (a==b) w:=by
 have:=run_equalIn_bool w 9998 4 a b Tryz.underlying4;rwa [show(9998+1:Nat)=9999 from rfl]at this
theorem Xsk:Tryz.prog.stoodInHeld 101=false:=by kernel_rfl
theorem Xo1:Tryz.prog.underlying 101=some (.struct (Tryz.prog.fieldsOf 101)):=by kernel_rfl
theorem Xm1(X Y:Array Value)(w:World){a b:Value}{s s' v v' c:Bool}(pa:(part 78 X 0).run Tryz.prog w=.ok a w)(pb:(part 78 Y 0).run Tryz.prog w=.ok b w)
 (ps:(part 4 X 32).run Tryz.prog w=.ok (.bool s) w) (ps':(part 4 Y 32).run Tryz.prog w=.ok (.bool s') w) (pv:(part 4 X 33).run Tryz.prog w=.ok (.bool v) w) (pv':(part 4 Y 33).run Tryz.prog w=.ok (.bool v') w)
 (hk:(Op.equalIn 9999 78 a b).run Tryz.prog w=.ok c w):(Op.eqFields 9999 X Y (Tryz.prog.fieldsOf 101).toList).run Tryz.prog w=.ok (c&&(s==s')&&(v==v')) w:=by
 simp only[Program.fieldsOf,Tryz.underlying101];have hb:=Xts;simp only[Op.eqFields,ne_eq,String.reduceEq,not_false_eq_true,if_true,Sem.run_bind,pa,pb,Result.andThen_ok,hk];cases c
 ·simp
 ·simp only[Bool.not_true,Bool.false_eq_true,if_false,ps,ps',Sem.run_bind,Result.andThen_ok,hb];cases hs:(s==s')
  ·simp
  ·simp only[Bool.not_true,Bool.false_eq_true,if_false,pv,pv',Sem.run_bind,Result.andThen_ok,hb];cases hv:(v==v') <;> simp
theorem Xof{x y:LRole}(hx:x.key.length=32)(hy:y.key.length=32)(w:World) :
 (Op.equalIn 10000 101 (.agg x.cells.toArray) (.agg y.cells.toArray)).run Tryz.prog w=.ok (decide (x=y)) w:=by
 have px1:=Xgy x.cells.toArray 0 w;have py1:=Xgy y.cells.toArray 0 w;rw[Xiv hx]at px1;rw[Xiv hy]at py1;have px2:=Xd4 x.cells.toArray 32 w (v:=.bool x.sg) (by rw[List.getElem?_toArray];exact Xsc hx);have py2:=Xd4 y.cells.toArray 32 w (v:=.bool y.sg) (by rw[List.getElem?_toArray];exact Xsc hy);have px3:=Xd4 x.cells.toArray 33 w (v:=.bool x.wr) (by rw[List.getElem?_toArray];exact Xjy hx);have py3:=Xd4 y.cells.toArray 33 w (v:=.bool y.wr) (by rw[List.getElem?_toArray];exact Xjy hy);rw[show(10000:Nat)=9999+1 from rfl,run_equalIn_struct w 9999 101 _ _ Xo1 Xsk,Xm1 _ _ w px1 py1 px2 py2 px3 py3 (Xty hx hy w _ rfl)];congr 1
 rw[Bool.eq_iff_iff,Bool.and_eq_true,Bool.and_eq_true,decide_eq_true_iff,decide_eq_true_iff,beq_iff_eq,beq_iff_eq,LRole.ext_iff',and_assoc]
theorem Xup{x y:LRole}(hx:x.key.length=32)(hy:y.key.length=32)(w:World):(binOp .neq 101 (.agg x.cells.toArray) (.agg y.cells.toArray)).run Tryz.prog w=.ok (.bool (!decide (x=y))) w:=by
 rw[run_neq_struct,Xof hx hy];rfl
structure RolesIn(w:World)(B:Nat)(A:Option Addr)(n:Nat)(l:List LRole):Prop where
 cs:CsIn 34 w B A n (l.map LRole.cells)
 ok:∀r ∈ l,RoleOk r
section
variable{n B B':Nat}{w w':World}{A:Option Addr}{l:List LRole}
theorem RolesIn.len(h:RolesIn w B A n l):l.length=n:=by have:=h.cs.len;rwa [List.length_map]at this
theorem RolesIn.below(h:RolesIn w B A n l)(hb:Below B w w'):RolesIn w' B A n l:=⟨h.cs.below hb,h.ok⟩
theorem RolesIn.get(h:RolesIn w B A n l){k:Nat}(hk:k<n):∃a r,A=some a∧a.block<B∧l[k]?=some r∧RoleOk r∧∀j u,r.cells[j]?=some u→w.cell? ((a.add (k*34)).add j)=some u:=by
 obtain⟨a,x,e,hb,hx,_,hc⟩:=h.cs.get hk (by omega);rw[List.getElem?_map]at hx;obtain⟨r,hr,rfl⟩:=Option.map_eq_some_iff.1 hx;exact⟨a,r,e,hb,hr,h.ok r (List.mem_of_getElem? hr),hc⟩
end
def r0:LRole:=⟨List.replicate 32 0,false,false⟩
def zR:Value:=.agg r0.cells.toArray
theorem infoR:(Tryz.prog.info? 101).map (fun i=>(i.zero,i.size,i.bytes))=some (some zR,34,34):=by kernel_rfl
structure IsR(h:List Value):Prop where
 len:h.length=34
 one:∀u ∈ h,u.oneCell'=true
 neq:∀w,(binOp .neq 101 (.agg h.toArray) (.agg h.toArray)).run Tryz.prog w=.ok (.bool false) w
 size:(Tryz.prog.info? 101).map (·.size)=some h.length
def sheetC(l:Value)(h f:List Value):List Value:=l::(h++f)
theorem Xq6{k:Nat}{z:List Value}(hz:z.length=34)(xs ys:List Value)(hys:(k+1)*34≤ys.length) :
 (xs++(rowOf k z++ys.drop (k*34))).take (xs.length+k*34)++z++(xs++(rowOf k z++ys.drop (k*34))).drop (xs.length+k*34+z.length)=xs++(rowOf (k+1) z++ys.drop ((k+1)*34)):=by
 have hl:=Xcr k hz;have hl2:(xs++rowOf k z).length=xs.length+k*34:=by rw[List.length_append,hl]
 have e2:xs.length+k*34+z.length=(xs++rowOf k z).length+34:=by rw[hl2,hz]
 rw[←List.append_assoc,List.take_left' hl2,e2,List.drop_length_add_append,List.drop_drop,Xpn,show k*34+34=(k+1)*34 by omega];simp only[List.append_assoc]
theorem Xhv{w:World}{g t:Nat}{l:Value}{h f:List Value}(hr:Row w g t (sheetC l h f))(hh:h.length=34):∀j v,h[j]?=some v→w.cell? ((⟨g,1,none⟩:Addr).add j)=some v:=fun j v hv=>by
 have hj:=(List.getElem?_eq_some_iff.1 hv).1;rw[Xa5,hr.cell,show 1+j=j+1 by omega];show(h++f)[j]?=_
 rw[List.getElem?_append_left hj];exact hv
theorem Xis{w:World}{g t:Nat}{l:Value}{h f:List Value}(hr:Row w g t (sheetC l h f))(hh:h.length=34):∀j v,f[j]?=some v→w.cell? ((⟨g,35,none⟩:Addr).add j)=some v:=fun j v hv=>by
 rw[Xa5,hr.cell,show 35+j=(34+j)+1 by omega];show(h++f)[34+j]?=_
 rw[List.getElem?_append_right (by omega),hh,show 34+j - 34=j by omega];exact hv
theorem Xml(g n c:Nat)(h f:List Value)(xs:List Value)(w:World)(hr:Row w g 101 xs)(hl:c*34≤xs.length)(hnc:n≤c)(hc:c≤9223372036854775807)(hh:IsR h)(hf:IsR f) :
 Calls Tryz.prog 193 #[.agg (sheetC (.slice (some ⟨g,0,none⟩) n c) h f).toArray,.bool false] w fun e w'=>e=.returned (.tuple #[])∧Row w' g 101 (rowOf n h++xs.drop (n*34))∧w.grownBy w' (some g):=by
 have hlt:=hr.lt;have HL:=Hd hl;have HH:=Hd (And.intro hh hf);have R:=Hd (hr.alloc (.cells (sheetC (.slice (some ⟨g,0,none⟩) n c) h f).toArray 162));have HB:=Hd (Row.new w 162 (sheetC (.slice (some ⟨g,0,none⟩) n c) h f));have G0:=World.grownBy_alloc w (.cells (sheetC (.slice (some ⟨g,0,none⟩) n c) h f).toArray 162) (some g);clear hr hl hh hf;generalize hC:(sheetC (.slice (some ⟨g,0,none⟩) n c) h f).toArray=C at *;go_enter Tryz.func193,Tryz.ntmps193
 go_wp2_with fail;go_loopw [4] (fun i wr=>∃k:Nat,k≤n∧i=.int .i64 k∧Row wr g 101 (rowOf k h++xs.drop (k*34))∧Row wr w.heap.size 162 (sheetC (.slice (some ⟨g,0,none⟩) n c) h f)∧w.grownBy wr (some g)) (fun i _=>n - (intOf i).toNat)
 case atStart=>exact⟨0,Nat.zero_le _,rfl,by simpa [rowOf]using R.out,hC ▸ HB.out,G0⟩
 case round =>
  obtain⟨k,hk,rfl,hr,hb,hg⟩:=hrel;clear R HB G0;have RR:=Hd hr;have RB:=Hd hb;have GG:=Hd hg;have b0:wr.cell? ⟨w.heap.size,0,none⟩=some (.slice (some ⟨g,0,none⟩) n c):=hb.cell 0;clear hr hb hg;by_cases hlt2:k<n
  ·go_wp2_with (first
    | ((with_reducible show wpList _ _ _ (⟨some 20,_,_,_,_,_⟩::_) _ _);go_must(refine Xa3 rfl 101 (.tmp 19) rfl ⟨w.heap.size,1,none⟩ h _ Tryz.underlying101 rfl (HH.out.1.size) (Xhv RB.out HH.out.1.len) ?_ ?_;go_simp))
    | ((with_reducible show wpList _ _ _ (⟨none,Op.store 101 _ _,_,_,_,_⟩::_) _ _);go_must(refine Xa9 rfl 101 (.tmp 21) (.tmp 20) rfl g 101 (k*34) _ h RR.out (HH.out.1.size) (by have:=HL.out;have:=Xcr k HH.out.1.len;rw[List.length_append,List.length_drop,HH.out.1.len];omega) HH.out.1.one ?_ ?_ ?_;go_simp;go_simp;intro w2 hr2 ht2;have HR2:=Hd hr2;have HT2:=Hd ht2;clear hr2 ht2)))
   go_roundw
   case rel =>
    refine⟨k+1,by omega,by go_num,?_,HT2.out.row RB.out (by omega),Xax GG.out ⟨HT2.out.os,HT2.out.tape,HT2.out.output,by rw[HT2.out.size];exact Lr _,fun q hq hne=>HT2.out.block q (fun e=>hne (by rw[e]))⟩⟩;have:=HR2.out;have e:=Xq6 (k:=k) HH.out.1.len [] xs (by have:=HL.out;omega);simp only[List.nil_append,List.length_nil,Nat.zero_add]at e;rwa [e]at this
   case measure=>simp[intOf];omega
  ·have hk':k=n:=by omega
   have R2:Hid (Row wr g 101 (rowOf n h++xs.drop (n*34))):=by rw[←hk'];exact RR.out
   clear hk' RR;go_wp2_with fail;refine bodyPost_ret (results_none rfl _ _ _) rfl ?_;exact⟨rfl,R2.out,GG.out⟩
theorem Xob(g n c:Nat)(h f:List Value)(xs ys:List Value)(w:World)(hr:Row w g 101 (xs++ys))(hn:xs.length=n*34)(hl:(c - n)*34≤ys.length)(hnc:n≤c)(hc:c≤9223372036854775807)(hh:IsR h)(hf:IsR f) :
 Calls Tryz.prog 193 #[.agg (sheetC (.slice (some ⟨g,0,none⟩) n c) h f).toArray,.bool true] w fun e w'=>e=.returned (.tuple #[])∧Row w' g 101 (xs++(rowOf (c - n) f++ys.drop ((c - n)*34)))∧w.grownBy w' (some g):=by
 have hlt:=hr.lt;have HL:=Hd hl;have HN:=Hd hn;have HH:=Hd (And.intro hh hf);have R:=Hd (hr.alloc (.cells (sheetC (.slice (some ⟨g,0,none⟩) n c) h f).toArray 162));have hB:=Row.new w 162 (sheetC (.slice (some ⟨g,0,none⟩) n c) h f);have HB:=Hd hB;have G0:=World.grownBy_alloc w (.cells (sheetC (.slice (some ⟨g,0,none⟩) n c) h f).toArray 162) (some g);have b0:(w.alloc (.cells (sheetC (.slice (some ⟨g,0,none⟩) n c) h f).toArray 162)).cell? ⟨w.heap.size,0,none⟩=some (.slice (some ⟨g,0,none⟩) n c):=hB.cell 0;clear hr hl hn hh hf hB;generalize hC:(sheetC (.slice (some ⟨g,0,none⟩) n c) h f).toArray=C at *;go_enter Tryz.func193,Tryz.ntmps193
 go_wp2_with fail;go_loopw [6] (fun i wr=>∃k:Nat,n+k≤c∧i=.int .i64 ((n+k:Nat):Int)∧Row wr g 101 (xs++(rowOf k f++ys.drop (k*34)))∧Row wr w.heap.size 162 (sheetC (.slice (some ⟨g,0,none⟩) n c) h f)∧w.grownBy wr (some g)) (fun i _=>c - (intOf i).toNat)
 case atStart=>exact⟨0,by omega,rfl,by simpa [rowOf]using R.out,hC ▸ HB.out,G0⟩
 case round =>
  obtain⟨k,hk,rfl,hr,hb,hg⟩:=hrel;clear R HB G0;have RR:=Hd hr;have RB:=Hd hb;have GG:=Hd hg;clear hr hb hg b0;by_cases hlt2:n+k<c
  ·generalize hj:n+k=j at *;have HJ:=Hd hj;clear hj;go_wp2_with (first
    | ((with_reducible show wpList _ _ _ (⟨some 40,_,_,_,_,_⟩::_) _ _);go_must(refine Xa3 rfl 101 (.tmp 39) rfl ⟨w.heap.size,35,none⟩ f _ Tryz.underlying101 rfl (HH.out.2.size) (Xis RB.out HH.out.1.len) ?_ ?_;go_simp))
    | ((with_reducible show wpList _ _ _ (⟨none,Op.store 101 _ _,_,_,_,_⟩::_) _ _);go_must(refine Xa9 rfl 101 (.tmp 41) (.tmp 40) rfl g 101 (j*34) _ f RR.out (HH.out.2.size) (by have:=HL.out;have:=HN.out;have:=HJ.out;have:=Xcr k HH.out.2.len;simp only[List.length_append,List.length_drop,HH.out.2.len];omega) HH.out.2.one ?_ ?_ ?_;go_simp;go_simp;intro w2 hr2 ht2;have HR2:=Hd hr2;have HT2:=Hd ht2;clear hr2 ht2)))
   go_roundw
   case rel =>
    refine⟨k+1,by have:=HJ.out;omega,by rw[←HJ.out];go_num,?_,HT2.out.row RB.out (by omega),Xax GG.out ⟨HT2.out.os,HT2.out.tape,HT2.out.output,by rw[HT2.out.size];exact Lr _,fun q hq hne=>HT2.out.block q (fun e=>hne (by rw[e]))⟩⟩;have:=HR2.out;have e:=Xq6 (k:=k) HH.out.2.len xs ys (by have:=HL.out;have:=HJ.out;omega);rw[show xs.length+k*34=j*34 by have:=HN.out;have:=HJ.out;omega]at e;rwa [e]at this
   case measure=>simp[intOf];omega
  ·have hk':k=c - n:=by omega
   have R2:Hid (Row wr g 101 (xs++(rowOf (c - n) f++ys.drop ((c - n)*34)))):=by
    have:=RR.out;rw[hk']at this;exact this
   have hj2:¬(((n+k:Nat):Int)<(c:Int)):=by omega
   clear hk' RR;generalize n+k=j at *;go_wp2_with fail;go_end0
   exact⟨rfl,R2.out,GG.out⟩
theorem Xsz(g n c:Nat)(h f:List Value)(zs:List Value)(w:World)(hr:Row w g 101 (rowOf n h++(rowOf (c - n) f++zs)))(hnc:n≤c)(hc:c≤9223372036854775807)(hh:IsR h)(hf:IsR f) :
 Calls Tryz.prog 192 #[.agg (sheetC (.slice (some ⟨g,0,none⟩) n c) h f).toArray] w fun e w'=>e=.returned (.bool true)∧w.grownBy w' none:=by
 have hlt:=hr.lt;have HH:=Hd (And.intro hh hf);have R0:=Hd (hr.alloc (.cells (sheetC (.slice (some ⟨g,0,none⟩) n c) h f).toArray 162));have HB:=Hd (Row.new w 162 (sheetC (.slice (some ⟨g,0,none⟩) n c) h f));have b0:(w.alloc (.cells (sheetC (.slice (some ⟨g,0,none⟩) n c) h f).toArray 162)).cell? ⟨w.heap.size,0,none⟩=some (.slice (some ⟨g,0,none⟩) n c):=HB.out.cell 0;have G0:=World.grownBy_alloc w (.cells (sheetC (.slice (some ⟨g,0,none⟩) n c) h f).toArray 162) none;have NH:=fun w=>hh.neq w
 have NF:=fun w=>hf.neq w
 have C1:Hid (∀k,k<n→∀j v,h[j]?=some v→(w.alloc (.cells (sheetC (.slice (some ⟨g,0,none⟩) n c) h f).toArray 162)).cell? ((⟨g,k*34,none⟩:Addr).add j)=some v):=Hd fun k hk j v hv=>by
  rw[Xa5,R0.out.cell,List.getElem?_append_left (by rw[Xcr n hh.len];have:=(List.getElem?_eq_some_iff.1 hv).1;rw[hh.len]at this;omega)];exact Xji hh.len hk hv
 have C2:Hid (∀k,k<c - n→∀j v,f[j]?=some v→(w.alloc (.cells (sheetC (.slice (some ⟨g,0,none⟩) n c) h f).toArray 162)).cell? ((⟨g,(n+k)*34,none⟩:Addr).add j)=some v):=Hd fun k hk j v hv=>by
  rw[Xa5,R0.out.cell,List.getElem?_append_right (by rw[Xcr n hh.len];omega),Xcr n hh.len,show(n+k)*34+j - n*34=k*34+j by omega,List.getElem?_append_left (by rw[Xcr _ hf.len];have:=(List.getElem?_eq_some_iff.1 hv).1;rw[hf.len]at this;omega)];exact Xji hf.len hk hv
 have C3:Hid (∀j v,h[j]?=some v→(w.alloc (.cells (sheetC (.slice (some ⟨g,0,none⟩) n c) h f).toArray 162)).cell? ((⟨w.heap.size,1,none⟩:Addr).add j)=some v):=Hd (Xhv HB.out hh.len);have C4:Hid (∀j v,f[j]?=some v→(w.alloc (.cells (sheetC (.slice (some ⟨g,0,none⟩) n c) h f).toArray 162)).cell? ((⟨w.heap.size,35,none⟩:Addr).add j)=some v):=Hd (Xis HB.out hh.len);have SH:=Hd (hh.size);have SF:=Hd (hf.size);clear hr hh hf R0 HB HH;generalize hC:(sheetC (.slice (some ⟨g,0,none⟩) n c) h f).toArray=C at *;clear hC;go_enter Tryz.func192,Tryz.ntmps192
 go_wp2_with fail;generalize w.alloc (.cells C 162)=W at *;go_loopw [3] (fun i wr=>∃k j:Nat,k≤n∧i=.int .i64 k∧wr=W.drewN j) (fun i _=>n - (intOf i).toNat)
 case atStart=>exact⟨0,0,Nat.zero_le _,rfl,rfl⟩
 case round =>
  obtain⟨k,j,hk,rfl,rfl⟩:=hrel;by_cases hlt2:k<n
  ·go_wp2_with fail;refine wp_region_quiet_lit (by kernel_rfl) (by kernel_rfl) ?_;repeat (first
    | ((with_reducible show wpQuiet _ _ _ _ (⟨some 17,_,_,_,_,_⟩::_) _);go_must(refine Xa6 (by kernel_rfl) 101 (.tmp 16) rfl ⟨g,k*34,none⟩ h _ Tryz.underlying101 rfl SH.out (by rintro _ ⟨nq,rfl⟩;exact C1.out k hlt2) ?_ ?_;go_simp;go_simp))
    | ((with_reducible show wpQuiet _ _ _ _ (⟨some 19,_,_,_,_,_⟩::_) _);go_must(refine Xa6 (by kernel_rfl) 101 (.tmp 18) rfl ⟨w.heap.size,1,none⟩ h _ Tryz.underlying101 rfl SH.out (by rintro _ ⟨nq,rfl⟩;exact C3.out) ?_ ?_;go_simp;go_simp))
    | go_big_quiet_step (fail))
   refine wpQuiet_nil ?_;intro nq;go_wp2_with fail;go_roundw
   case rel=>exact⟨k+1,j+nq,by omega,by go_num,by simp⟩
   case measure=>simp[intOf];omega
  ·go_wp2_with fail;go_loopw [5] (fun i wr=>∃k j:Nat,n+k≤c∧i=.int .i64 ((n+k:Nat):Int)∧wr=W.drewN j) (fun i _=>c - (intOf i).toNat)
   case atStart=>exact⟨0,j,by omega,rfl,rfl⟩
   case round =>
    obtain⟨k,j,hk,rfl,rfl⟩:=hrel;by_cases hlt2:n+k<c
    ·have C2k:=Hd (C2.out k (by omega));generalize hjj:n+k=t at *;have HJ:=Hd hjj;clear hjj;go_wp2_with fail;refine wp_region_quiet_lit (by kernel_rfl) (by kernel_rfl) ?_;repeat (first
      | ((with_reducible show wpQuiet _ _ _ _ (⟨some 39,_,_,_,_,_⟩::_) _);go_must(refine Xa6 (by kernel_rfl) 101 (.tmp 38) rfl ⟨g,t*34,none⟩ f _ Tryz.underlying101 rfl SF.out (by rintro _ ⟨nq,rfl⟩;exact C2k.out) ?_ ?_;go_simp;go_simp))
      | ((with_reducible show wpQuiet _ _ _ _ (⟨some 41,_,_,_,_,_⟩::_) _);go_must(refine Xa6 (by kernel_rfl) 101 (.tmp 40) rfl ⟨w.heap.size,35,none⟩ f _ Tryz.underlying101 rfl SF.out (by rintro _ ⟨nq,rfl⟩;exact C4.out) ?_ ?_;go_simp;go_simp))
      | go_big_quiet_step (fail))
     refine wpQuiet_nil ?_;intro nq;go_wp2_with fail;go_roundw
     case rel=>exact⟨k+1,j+nq,by have:=HJ.out;omega,by rw[←HJ.out];go_num,by simp⟩
     case measure=>simp[intOf];omega
    ·have hj2:¬(((n+k:Nat):Int)<(c:Int)):=by omega
     generalize n+k=t at *;go_wp2_with fail;go_ret;exact⟨rfl,Xax G0 ⟨rfl,rfl,rfl,Lr _,fun _ _ _=>rfl⟩⟩
theorem Xky(b:Bool)(h f:List Value)(w:World) :
 Calls Tryz.prog 193 #[.agg (sheetC (.slice none 0 0) h f).toArray,.bool b] w fun e w'=>e=.returned (.tuple #[])∧w.grownBy w' none:=by
 have G0:=World.grownBy_alloc w (.cells (sheetC (.slice none 0 0) h f).toArray 162) none;have b0:(w.alloc (.cells (sheetC (.slice none 0 0) h f).toArray 162)).cell? ⟨w.heap.size,0,none⟩=some (.slice none 0 0):=(Row.new w 162 (sheetC (.slice none 0 0) h f)).cell 0;generalize (sheetC (.slice none 0 0) h f).toArray=C at *;cases b
 ·go_enter Tryz.func193,Tryz.ntmps193
  go_wp2;go_loop [4] (fun i=>i=.int .i64 0) (fun _=>0)
  case atStart=>rfl
  case round =>
   subst hrel;go_wp2;refine bodyPost_ret (results_none rfl _ _ _) rfl ?_;exact⟨rfl,G0⟩
 ·go_enter Tryz.func193,Tryz.ntmps193
  go_wp2;go_loop [6] (fun i=>i=.int .i64 0) (fun _=>0)
  case atStart=>rfl
  case round =>
   subst hrel;go_wp2;go_end0
   exact⟨rfl,G0⟩
theorem Xvd(h f:List Value)(w:World) :
 Calls Tryz.prog 192 #[.agg (sheetC (.slice none 0 0) h f).toArray] w fun e w'=>e=.returned (.bool true)∧w.grownBy w' none:=by
 have G0:=World.grownBy_alloc w (.cells (sheetC (.slice none 0 0) h f).toArray 162) none;have b0:(w.alloc (.cells (sheetC (.slice none 0 0) h f).toArray 162)).cell? ⟨w.heap.size,0,none⟩=some (.slice none 0 0):=(Row.new w 162 (sheetC (.slice none 0 0) h f)).cell 0;generalize (sheetC (.slice none 0 0) h f).toArray=C at *;go_enter Tryz.func192,Tryz.ntmps192
 go_wp2;go_loop [3] (fun i=>i=.int .i64 0) (fun _=>0)
 case atStart=>rfl
 case round =>
  subst hrel;go_wp2;go_loop [5] (fun i=>i=.int .i64 0) (fun _=>0)
  case atStart=>rfl
  case round =>
   subst hrel;go_wp2;go_ret;exact⟨rfl,G0⟩
theorem Xjp(z:Value)(n:Nat):(madeCells z.cells n).toList.length=n:=by simp[madeCells]
theorem Row.of_ownN{w:World}{base N size g:Nat}{e:TypeId}{xs:List Value}(h:w.ownsRow base e size (.slice (some ⟨g,0,none⟩) N N) N xs):Row w g e xs:=by
 rcases h.2 with⟨h1,_⟩ | ⟨g',cap,cur,h1,h2,h3,h4,h5,h6,h7⟩
 ·cases h1
 ·cases h1
  refine⟨?_⟩;rw[h3,←h7,←h6,←Array.length_toList,List.take_length]
theorem Xmw{w:World}{g:Nat}{l:List (List Int)}{ys:List Value}{n:Nat}(hr:Row w g 78 (bv l.flatten++ys))(hn:l.length=n)(h32:∀k ∈ l,k.length=32){B:Nat}(hB:g<B):KeysIn w B (some ⟨g,0,none⟩) n l:=
 ⟨hn,h32,⟨by rw[bL,Xdh l h32,hn],fun i u hu=>⟨_,rfl,hB,by
  rw[Xa5,hr.cell,Nat.zero_add,List.getElem?_append_left (List.getElem?_eq_some_iff.1 hu).1];exact hu⟩⟩⟩
theorem sameR(A B:Option Addr)(n c d:Nat)(l:List (List Value))(w:World)(S T:Nat)(hx:CsIn 34 w S A n l)(hy:CsIn 34 w T B n l)(ho:∀k ∈ l,IsR k)(hn:n≤maxLen) :
 Calls Tryz.prog 57 #[.slice A n c,.slice B n d] w fun e w'=>e=.returned (.bool true)∧∃k,w'=w.drewN k:=by
 unfold maxLen at hn;have HX:=Hd hx;have HY:=Hd hy;have HO:=Hd ho;clear hx hy ho;go_enter Tryz.func57,Tryz.ntmps57
 go_wp2;go_loopw [5] (fun i wr=>∃k j:Nat,k≤n∧i=.int .i64 k∧wr=w.drewN j) (fun i _=>n - (intOf i).toNat)
 case atStart=>exact⟨0,0,Nat.zero_le _,rfl,rfl⟩
 case round =>
  obtain⟨k,j,hk,rfl,rfl⟩:=hrel;by_cases hlt:k<n
  ·obtain⟨a,x,rfl,ha,hxl,_,ca⟩:=HX.out.get hlt (by omega);obtain⟨b,y,rfl,hb,hyl,_,cb⟩:=HY.out.get hlt (by omega);obtain rfl:x=y:=by rw[hxl]at hyl;exact Option.some.inj hyl
   have hxo:=HO.out x (List.mem_of_getElem? hxl);have NQ:=fun w=>hxo.neq w
   have HSZ:=Hd hxo.size;have CA:=Hd ca;have CB:=Hd cb;clear ca cb hxl hyl hxo;go_wp2;refine wp_region_quiet_lit (by kernel_rfl) (by kernel_rfl) ?_;repeat (first
    | ((with_reducible show wpQuiet _ _ _ _ (⟨some 20,_,_,_,_,_⟩::_) _);go_must(refine Xa6 (by kernel_rfl) 101 (.tmp 19) rfl (a.add (k*34)) x _ Tryz.underlying101 rfl HSZ.out (by rintro _ ⟨nq,rfl⟩;exact CA.out) ?_ ?_;go_simp;go_simp))
    | ((with_reducible show wpQuiet _ _ _ _ (⟨some 24,_,_,_,_,_⟩::_) _);go_must(refine Xa6 (by kernel_rfl) 101 (.tmp 23) rfl (b.add (k*34)) x _ Tryz.underlying101 rfl HSZ.out (by rintro _ ⟨nq,rfl⟩;exact CB.out) ?_ ?_;go_simp;go_simp))
    | go_big_quiet_step (fail))
   refine wpQuiet_nil ?_;intro nq;go_wp2;go_roundw
   case rel=>exact⟨k+1,j+nq,by omega,by go_num,by simp⟩
   case measure=>simp[intOf];omega
  ·go_wp2;go_ret;exact⟨rfl,j,rfl⟩
theorem Xta{r:LRole}(h:r.key.length=32):IsR r.cells:=⟨Xc3 h,Xd3 r,fun w=>by rw[Xup h h];simp,Xfp h⟩
theorem Xki{l:List Value}(hl:l.length=32):∃f:Fin 32→Value,l=List.ofFn f:=⟨fun i=>l.getD i undef,by
 refine List.ext_getElem (by simpa using hl) fun i h1 h2=>?_
 rw[List.getElem_ofFn,List.getD_eq_getElem?_getD,List.getElem?_eq_getElem h1];rfl⟩
theorem Xf2{l:List Value}(hl:l.length=32)(a b:Bool):Tryz.prog.built 101 [(0,.agg l.toArray),(1,.bool a),(2,.bool b)]=some (l++[Value.bool a,.bool b]).toArray:=by
 obtain⟨f,rfl⟩:=Xki hl;kernel_rfl
theorem Xii{l:List Value}(hl:l.length=32)(b:Bool):Tryz.prog.built 101 [(0,.agg l.toArray),(2,.bool b)]=some (l++[Value.bool false,.bool b]).toArray:=by
 obtain⟨f,rfl⟩:=Xki hl;kernel_rfl
theorem Xhg{l:List Value}(hl:l.length=32)(b:Bool):Tryz.prog.built 101 [(0,.agg l.toArray),(1,.bool b)]=some (l++[Value.bool b,.bool false]).toArray:=by
 obtain⟨f,rfl⟩:=Xki hl;kernel_rfl
theorem Xcf{l:List Value}(hl:l.length=32):Tryz.prog.built 101 [(0,.agg l.toArray)]=some (l++[Value.bool false,.bool false]).toArray:=by
 obtain⟨f,rfl⟩:=Xki hl;kernel_rfl
theorem Xtg{l:List LRole}(h:∀r ∈ l,RoleOk r):∀k ∈ l.map LRole.cells,IsR k:=fun k hk=>by
 obtain⟨r,hr,rfl⟩:=List.mem_map.1 hk;exact Xta (h r hr).1
theorem Xew(B:Option Addr)(m d:Nat)(h f:List Value)(h1:h.length=34)(h2:f.length=34):Tryz.prog.built 162 [(0,.slice B m d),(1,.agg h.toArray),(2,.agg f.toArray)]=some (sheetC (.slice B m d) h f).toArray:=by
 obtain⟨u,rfl⟩:∃u:Fin 34→Value,h=List.ofFn u:=⟨fun i=>h.getD i undef,by
  refine List.ext_getElem (by simpa using h1) fun i h3 h4=>?_
  rw[List.getElem_ofFn,List.getD_eq_getElem?_getD,List.getElem?_eq_getElem h3];rfl⟩
 obtain⟨g,rfl⟩:∃u:Fin 34→Value,f=List.ofFn u:=⟨fun i=>f.getD i undef,by
  refine List.ext_getElem (by simpa using h2) fun i h3 h4=>?_
  rw[List.getElem_ofFn,List.getD_eq_getElem?_getD,List.getElem?_eq_getElem h3];rfl⟩
 kernel_rfl
theorem Xql(p base:Nat)(A B:Option Addr)(n c m d:Nat)(ps:List Value)(w0 w:World)(h:BookW w0 p base A n c ps w)(hn:n≤1000000) :
 Calls Tryz.prog 62 #[.pointer (some ⟨p,0,none⟩),.slice B m d] w fun e w'=>∃z1 z2 A' c',e=.returned (.tuple #[])∧IsR z1∧IsR z2 ∧
  BookW w0 p base A' (n+1) c' (ps++[.iface 162 (.agg (sheetC (.slice B m d) z1 z2).toArray)]) w':=by
 obtain⟨i0,hi,hz0,hz1,hz2⟩:=info_parts Xga;have HI:=Hd (And.intro hi (And.intro hz0 (And.intro hz1 hz2)));have HM:Hid (∀z:List Int,z.length=32→IsR (bv z++[Value.bool false,.bool false])):=Hd fun z hz=>Xta (r:=⟨z,false,false⟩) hz
 have HN:=Hd (Xk4 p A n c w h.row hn);have H0:=Hd (h.drewN 1);clear h hi hz0 hz1 hz2;go_enter Tryz.func62,Tryz.ntmps62
 go_wp2_with fail;refine HN.out.mono ?_;rintro e w1 ⟨rfl,rfl⟩;go_wp2_with fail;refine wp_region_held (S:=fun _=>True) (by kernel_rfl) ?_;try(change wpAnyH _ _ _ _ _ _ _ _ (World.drew _))
 refine Tk 0 rfl ?_ trivial ?_ ⟨?_,rfl⟩
 ·intro w _;go_simp;try with_reducible rfl
 try simp only[nm]
 refine Tk 1 rfl ?_ trivial ?_ ⟨?_,rfl⟩
 ·intro w _;go_simp;try with_reducible rfl
 try simp only[nm]
 refine Tk 2 rfl ?_ trivial ?_ ⟨?_,rfl⟩
 ·intro w _;go_simp;try with_reducible rfl
 try simp only[nm]
 refine Tk 3 rfl ?_ trivial ?_ ⟨?_,rfl⟩
 ·intro w _;go_simp;try with_reducible rfl
 try simp only[nm]
 refine Tk 5 rfl ?_ trivial ?_ ⟨?_,rfl⟩
 ·intro w _;go_simp;try with_reducible rfl
 try simp only[nm]
 refine Tk 6 rfl ?_ trivial ?_ ⟨?_,rfl⟩
 ·intro w _;go_simp;try with_reducible rfl
 try simp only[nm]
 refine Tk 9 rfl ?_ trivial ?_ ⟨?_,rfl⟩
 ·intro w _;go_simp;try with_reducible rfl
 try simp only[nm]
 refine wpAnyH_ready (rs:=[4,7]) (by kernel_rfl) (by simp) ?_;refine allL rfl (by kernel_rfl) (fun K hK=>?_) (allL rfl (by kernel_rfl) (fun K hK=>?_) (AllReadyH.nil))
 ·have c1:w.drew.cell? ⟨p,0,none⟩=some (.slice A n c):=H0.out.row.cell 0;go_simp;clear c1;refine hK _ _ trivial ?_;clear hK K;try simp only[nm]
  refine Rl 7 rfl fun K hK=>?_
  go_simp;refine(Xdv _ _ _).mono ?_;rintro e w12 ⟨z1,rfl,hz1,hb⟩;have H12:=Hd (H0.out.below hb);clear hb;simp only[];refine hK _ _ trivial ?_;clear hK K;try simp only[nm]
  refine Tl 8 (v:=.agg (bv z1++[Value.bool false,.bool false]).toArray) rfl (Or.inl ⟨by rfl,fun w _=>?_⟩) trivial ?_
  ·exact Xak w _ _ _ rfl (by simp only[List.map_toArray,List.map_cons,List.map_nil];exact Xcf (l:=bv z1) (by rw[bL,hz1]))
  try simp only[nm]
  refine Rl 10 rfl fun K hK=>?_
  go_simp;refine(Xdv _ _ _).mono ?_;rintro e w23 ⟨z2,rfl,hz2,hb⟩;have H23:=Hd (H12.out.below hb);clear hb;simp only[];refine hK _ _ trivial ?_;clear hK K;try simp only[nm]
  refine Tl 11 (v:=.agg (bv z2++[Value.bool false,.bool false]).toArray) rfl (Or.inl ⟨by rfl,fun w _=>?_⟩) trivial ?_
  ·exact Xak w _ _ _ rfl (by simp only[List.map_toArray,List.map_cons,List.map_nil];exact Xcf (l:=bv z2) (by rw[bL,hz2]))
  try simp only[nm]
  refine Tl 12 (v:=.agg (sheetC (.slice B m d) (bv z1++[Value.bool false,.bool false]) (bv z2++[Value.bool false,.bool false])).toArray) rfl (Or.inl ⟨by rfl,fun w _=>?_⟩) trivial ?_
  ·exact Xak w _ _ _ rfl (by simp only[List.map_toArray,List.map_cons,List.map_nil];exact Xew B m d _ _ (by rw[List.length_append,bL,hz1];rfl) (by rw[List.length_append,bL,hz2];rfl))
  try simp only[nm]
  refine Tk 13 rfl ?_ trivial ?_ ⟨?_,rfl⟩
  ·intro w _;go_simp;try with_reducible rfl
  try simp only[nm]
  refine Rl 14 rfl fun K hK=>?_
  go_simp;refine hK _ _ trivial ?_;clear hK K;try simp only[nm]
  have HB4:=Hd (H23.out.alloc (.cells [Value.iface 162 (.agg (sheetC (.slice B m d) (bv z1++[Value.bool false,.bool false]) (bv z2++[Value.bool false,.bool false])).toArray)].toArray 115));have hsee:=(Row.new w23 115 [Value.iface 162 (.agg (sheetC (.slice B m d) (bv z1++[Value.bool false,.bool false]) (bv z2++[Value.bool false,.bool false])).toArray)]).sees0;have HSEE:=Hd hsee;clear hsee;refine Rl 15 rfl fun K hK=>?_
  refine Xam (.tmp 11) (.tmp 21) rfl Tryz.underlying58 HI.out.1 HI.out.2.1 HI.out.2.2.1 HI.out.2.2.2 rfl rfl HB4.out.own rfl HSEE.out (by simp[Value.oneCell']) (by unfold maxLen;omega) (by omega) HB4.out.lt ?_;intro v5 w5 ho5 hg5 hat5;obtain⟨A5,c5,rfl⟩:=Xcd ho5;refine hK _ _ trivial ?_;clear hK K;try simp only[nm]
  have hr5:=HB4.out.row.grown hg5 (Xbf HB4.out.own HB4.out.row (by decide));have e5:w5.cell? ⟨p,0,none⟩=some (.slice A n c):=hr5.cell 0;have g5:=hr5.frozen 0;refine Tk 16 rfl ?_ trivial ?_ ⟨?_,rfl⟩
  ·intro w _;go_simp;try with_reducible rfl
  try simp only[nm]
  refine Tk 17 rfl ?_ trivial ?_ ⟨?_,rfl⟩
  ·intro w _;go_simp;try with_reducible rfl
  try simp only[nm]
  refine Rl 18 rfl fun K hK=>?_
  go_simp;refine hK _ _ trivial ?_;clear hK K;try simp only[nm]
  refine wpAnyH_done (by kernel_rfl) ?_ _;have HE:=Hd (HB4.out.last hr5 ho5 hg5);clear e5 g5 hr5 ho5 hg5 hat5;go_wp2_with fail;go_end0
  exact⟨_,_,A5,c5,rfl,HM.out z1 hz1,HM.out z2 hz2,HE.out⟩
 ·go_simp;refine(Xdv _ _ _).mono ?_;rintro e w11 ⟨z1,rfl,hz1,hb⟩;have H11:=Hd (H0.out.below hb);clear hb;simp only[];refine hK _ _ trivial ?_;clear hK K;try simp only[nm]
  refine Tl 8 (v:=.agg (bv z1++[Value.bool false,.bool false]).toArray) rfl (Or.inl ⟨by rfl,fun w _=>?_⟩) trivial ?_
  ·exact Xak w _ _ _ rfl (by simp only[List.map_toArray,List.map_cons,List.map_nil];exact Xcf (l:=bv z1) (by rw[bL,hz1]))
  try simp only[nm]
  refine wpAnyH_ready (rs:=[4,10]) (by kernel_rfl) (by simp) ?_;refine allL rfl (by kernel_rfl) (fun K hK=>?_) (allL rfl (by kernel_rfl) (fun K hK=>?_) (AllReadyH.nil))
  ·have c2:w11.cell? ⟨p,0,none⟩=some (.slice A n c):=H11.out.row.cell 0;go_simp;clear c2;refine hK _ _ trivial ?_;clear hK K;try simp only[nm]
   refine Rl 10 rfl fun K hK=>?_
   go_simp;refine(Xdv _ _ _).mono ?_;rintro e w23 ⟨z2,rfl,hz2,hb⟩;have H23:=Hd (H11.out.below hb);clear hb;simp only[];refine hK _ _ trivial ?_;clear hK K;try simp only[nm]
   refine Tl 11 (v:=.agg (bv z2++[Value.bool false,.bool false]).toArray) rfl (Or.inl ⟨by rfl,fun w _=>?_⟩) trivial ?_
   ·exact Xak w _ _ _ rfl (by simp only[List.map_toArray,List.map_cons,List.map_nil];exact Xcf (l:=bv z2) (by rw[bL,hz2]))
   try simp only[nm]
   refine Tl 12 (v:=.agg (sheetC (.slice B m d) (bv z1++[Value.bool false,.bool false]) (bv z2++[Value.bool false,.bool false])).toArray) rfl (Or.inl ⟨by rfl,fun w _=>?_⟩) trivial ?_
   ·exact Xak w _ _ _ rfl (by simp only[List.map_toArray,List.map_cons,List.map_nil];exact Xew B m d _ _ (by rw[List.length_append,bL,hz1];rfl) (by rw[List.length_append,bL,hz2];rfl))
   try simp only[nm]
   refine Tk 13 rfl ?_ trivial ?_ ⟨?_,rfl⟩
   ·intro w _;go_simp;try with_reducible rfl
   try simp only[nm]
   refine Rl 14 rfl fun K hK=>?_
   go_simp;refine hK _ _ trivial ?_;clear hK K;try simp only[nm]
   have HB4:=Hd (H23.out.alloc (.cells [Value.iface 162 (.agg (sheetC (.slice B m d) (bv z1++[Value.bool false,.bool false]) (bv z2++[Value.bool false,.bool false])).toArray)].toArray 115));have hsee:=(Row.new w23 115 [Value.iface 162 (.agg (sheetC (.slice B m d) (bv z1++[Value.bool false,.bool false]) (bv z2++[Value.bool false,.bool false])).toArray)]).sees0;have HSEE:=Hd hsee;clear hsee;refine Rl 15 rfl fun K hK=>?_
   refine Xam (.tmp 11) (.tmp 21) rfl Tryz.underlying58 HI.out.1 HI.out.2.1 HI.out.2.2.1 HI.out.2.2.2 rfl rfl HB4.out.own rfl HSEE.out (by simp[Value.oneCell']) (by unfold maxLen;omega) (by omega) HB4.out.lt ?_;intro v5 w5 ho5 hg5 hat5;obtain⟨A5,c5,rfl⟩:=Xcd ho5;refine hK _ _ trivial ?_;clear hK K;try simp only[nm]
   have hr5:=HB4.out.row.grown hg5 (Xbf HB4.out.own HB4.out.row (by decide));have e5:w5.cell? ⟨p,0,none⟩=some (.slice A n c):=hr5.cell 0;have g5:=hr5.frozen 0;refine Tk 16 rfl ?_ trivial ?_ ⟨?_,rfl⟩
   ·intro w _;go_simp;try with_reducible rfl
   try simp only[nm]
   refine Tk 17 rfl ?_ trivial ?_ ⟨?_,rfl⟩
   ·intro w _;go_simp;try with_reducible rfl
   try simp only[nm]
   refine Rl 18 rfl fun K hK=>?_
   go_simp;refine hK _ _ trivial ?_;clear hK K;try simp only[nm]
   refine wpAnyH_done (by kernel_rfl) ?_ _;have HE:=Hd (HB4.out.last hr5 ho5 hg5);clear e5 g5 hr5 ho5 hg5 hat5;go_wp2_with fail;go_end0
   exact⟨_,_,A5,c5,rfl,HM.out z1 hz1,HM.out z2 hz2,HE.out⟩
  ·go_simp;refine(Xdv _ _ _).mono ?_;rintro e w22 ⟨z2,rfl,hz2,hb⟩;have H22:=Hd (H11.out.below hb);clear hb;simp only[];refine hK _ _ trivial ?_;clear hK K;try simp only[nm]
   refine Tl 11 (v:=.agg (bv z2++[Value.bool false,.bool false]).toArray) rfl (Or.inl ⟨by rfl,fun w _=>?_⟩) trivial ?_
   ·exact Xak w _ _ _ rfl (by simp only[List.map_toArray,List.map_cons,List.map_nil];exact Xcf (l:=bv z2) (by rw[bL,hz2]))
   try simp only[nm]
   refine Tl 12 (v:=.agg (sheetC (.slice B m d) (bv z1++[Value.bool false,.bool false]) (bv z2++[Value.bool false,.bool false])).toArray) rfl (Or.inl ⟨by rfl,fun w _=>?_⟩) trivial ?_
   ·exact Xak w _ _ _ rfl (by simp only[List.map_toArray,List.map_cons,List.map_nil];exact Xew B m d _ _ (by rw[List.length_append,bL,hz1];rfl) (by rw[List.length_append,bL,hz2];rfl))
   try simp only[nm]
   refine Tk 13 rfl ?_ trivial ?_ ⟨?_,rfl⟩
   ·intro w _;go_simp;try with_reducible rfl
   try simp only[nm]
   refine wpAnyH_ready (rs:=[4,14]) (by kernel_rfl) (by simp) ?_;refine allL rfl (by kernel_rfl) (fun K hK=>?_) (allL rfl (by kernel_rfl) (fun K hK=>?_) (AllReadyH.nil))
   ·have c3:w22.cell? ⟨p,0,none⟩=some (.slice A n c):=H22.out.row.cell 0;go_simp;clear c3;refine hK _ _ trivial ?_;clear hK K;try simp only[nm]
    refine Rl 14 rfl fun K hK=>?_
    go_simp;refine hK _ _ trivial ?_;clear hK K;try simp only[nm]
    have HB4:=Hd (H22.out.alloc (.cells [Value.iface 162 (.agg (sheetC (.slice B m d) (bv z1++[Value.bool false,.bool false]) (bv z2++[Value.bool false,.bool false])).toArray)].toArray 115));have hsee:=(Row.new w22 115 [Value.iface 162 (.agg (sheetC (.slice B m d) (bv z1++[Value.bool false,.bool false]) (bv z2++[Value.bool false,.bool false])).toArray)]).sees0;have HSEE:=Hd hsee;clear hsee;refine Rl 15 rfl fun K hK=>?_
    refine Xam (.tmp 11) (.tmp 21) rfl Tryz.underlying58 HI.out.1 HI.out.2.1 HI.out.2.2.1 HI.out.2.2.2 rfl rfl HB4.out.own rfl HSEE.out (by simp[Value.oneCell']) (by unfold maxLen;omega) (by omega) HB4.out.lt ?_;intro v5 w5 ho5 hg5 hat5;obtain⟨A5,c5,rfl⟩:=Xcd ho5;refine hK _ _ trivial ?_;clear hK K;try simp only[nm]
    have hr5:=HB4.out.row.grown hg5 (Xbf HB4.out.own HB4.out.row (by decide));have e5:w5.cell? ⟨p,0,none⟩=some (.slice A n c):=hr5.cell 0;have g5:=hr5.frozen 0;refine Tk 16 rfl ?_ trivial ?_ ⟨?_,rfl⟩
    ·intro w _;go_simp;try with_reducible rfl
    try simp only[nm]
    refine Tk 17 rfl ?_ trivial ?_ ⟨?_,rfl⟩
    ·intro w _;go_simp;try with_reducible rfl
    try simp only[nm]
    refine Rl 18 rfl fun K hK=>?_
    go_simp;refine hK _ _ trivial ?_;clear hK K;try simp only[nm]
    refine wpAnyH_done (by kernel_rfl) ?_ _;have HE:=Hd (HB4.out.last hr5 ho5 hg5);clear e5 g5 hr5 ho5 hg5 hat5;go_wp2_with fail;go_end0
    exact⟨_,_,A5,c5,rfl,HM.out z1 hz1,HM.out z2 hz2,HE.out⟩
   ·go_simp;refine hK _ _ trivial ?_;clear hK K;try simp only[nm]
    have HB3:=Hd (H22.out.alloc (.cells [Value.iface 162 (.agg (sheetC (.slice B m d) (bv z1++[Value.bool false,.bool false]) (bv z2++[Value.bool false,.bool false])).toArray)].toArray 115));have hsee:=(Row.new w22 115 [Value.iface 162 (.agg (sheetC (.slice B m d) (bv z1++[Value.bool false,.bool false]) (bv z2++[Value.bool false,.bool false])).toArray)]).sees0;have HSEE:=Hd hsee;clear hsee;refine Rl 4 rfl fun K hK=>?_
    have c4:(w22.alloc (.cells [Value.iface 162 (.agg (sheetC (.slice B m d) (bv z1++[Value.bool false,.bool false]) (bv z2++[Value.bool false,.bool false])).toArray)].toArray 115)).cell? ⟨p,0,none⟩=some (.slice A n c):=HB3.out.row.cell 0;go_simp;clear c4;refine hK _ _ trivial ?_;clear hK K;try simp only[nm]
    refine Rl 15 rfl fun K hK=>?_
    refine Xam (.tmp 11) (.tmp 21) rfl Tryz.underlying58 HI.out.1 HI.out.2.1 HI.out.2.2.1 HI.out.2.2.2 rfl rfl HB3.out.own rfl HSEE.out (by simp[Value.oneCell']) (by unfold maxLen;omega) (by omega) HB3.out.lt ?_;intro v5 w5 ho5 hg5 hat5;obtain⟨A5,c5,rfl⟩:=Xcd ho5;refine hK _ _ trivial ?_;clear hK K;try simp only[nm]
    have hr5:=HB3.out.row.grown hg5 (Xbf HB3.out.own HB3.out.row (by decide));have e5:w5.cell? ⟨p,0,none⟩=some (.slice A n c):=hr5.cell 0;have g5:=hr5.frozen 0;refine Tk 16 rfl ?_ trivial ?_ ⟨?_,rfl⟩
    ·intro w _;go_simp;try with_reducible rfl
    try simp only[nm]
    refine Tk 17 rfl ?_ trivial ?_ ⟨?_,rfl⟩
    ·intro w _;go_simp;try with_reducible rfl
    try simp only[nm]
    refine Rl 18 rfl fun K hK=>?_
    go_simp;refine hK _ _ trivial ?_;clear hK K;try simp only[nm]
    refine wpAnyH_done (by kernel_rfl) ?_ _;have HE:=Hd (HB3.out.last hr5 ho5 hg5);clear e5 g5 hr5 ho5 hg5 hat5;go_wp2_with fail;go_end0
    exact⟨_,_,A5,c5,rfl,HM.out z1 hz1,HM.out z2 hz2,HE.out⟩
inductive Kd where
 | b
 | k
 | s
 | r
inductive Sg where
 | b (h f:Int)
 | k (h f:List Int)
 | s (h f:List Int)
 | r (h f:List Value)
def Sg.et:Sg→TypeId
 | .b _ _=>5
 | .k _ _=>78
 | .s _ _=>104
 | .r _ _=>101
def Sg.sz:Sg→Nat
 | .b _ _=>1
 | .k _ _=>32
 | .s _ _=>64
 | .r _ _=>34
def Sg.here:Sg→Nat→List Value
 | .b h _,n=>List.replicate n (.int .u8 h)
 | .k h _,n=>keyRow n h
 | .s h _,n=>keyRow n h
 | .r h _,n=>rowOf n h
def Sg.far:Sg→Nat→List Value
 | .b _ f,n=>List.replicate n (.int .u8 f)
 | .k _ f,n=>keyRow n f
 | .s _ f,n=>keyRow n f
 | .r _ f,n=>rowOf n f
def Sg.pay:Sg→Value→Value
 | .b h f,l=>.agg #[l,.int .u8 h,.int .u8 f]
 | .k h f,l=>.agg (sheetCells l h f).toArray
 | .s h f,l=>.agg (sheetCells l h f).toArray
 | .r h f,l=>.agg (sheetC l h f).toArray
def Sg.ty:Sg→TypeId
 | .b _ _=>110
 | .k _ _=>208
 | .s _ _=>164
 | .r _ _=>162
def Sg.Wf:Sg→Prop
 | .b _ _=>True
 | .k h f=>h.length=32∧f.length=32
 | .s h f=>h.length=64∧f.length=64
 | .r h f=>IsR h∧IsR f
def Sg.signFn:Sg→FuncId
 | .b _ _=>191
 | .k _ _=>197
 | .s _ _=>195
 | .r _ _=>193
def Sg.ownFn:Sg→FuncId
 | .b _ _=>190
 | .k _ _=>196
 | .s _ _=>194
 | .r _ _=>192
structure Pg2 where
 A:Option Nat
 n:Nat
 c:Nat
 s:Sg
def Pg2.list(p:Pg2):Value:=.slice (p.A.map fun g=>⟨g,0,none⟩) p.n p.c
def Pg2.val(p:Pg2):Value:=.iface p.s.ty (p.s.pay p.list)
def Pg2.Fit(w:World)(q:Pg2)(a b:Prop):Prop:=
 match q.A with
 | none=>q.n=0∧q.c=0
 | some g=>q.n≤q.c∧q.c≤9223372036854775807∧∃xs ys zs,Row w g q.s.et (xs++(ys++zs))∧xs.length=q.n*q.s.sz∧ys.length=(q.c - q.n)*q.s.sz∧(34<q.s.sz→zs=[])∧(a→xs=q.s.here q.n)∧(b→ys=q.s.far (q.c - q.n))
theorem Pg2.Fit.keep{w w':World}{q:Pg2}{a b:Prop}{r:Option Nat}(h:q.Fit w a b)(hg:w.grownBy w' r)(hne:∀g,q.A=some g→some g≠r):q.Fit w' a b:=by
 obtain⟨A,n,c,s⟩:=q;cases A with
 | none=>exact h
 | some g =>
  obtain⟨h1,h2,xs,ys,zs,hr,h3⟩:=h;exact⟨h1,h2,xs,ys,zs,hr.grown hg (hne g rfl),h3⟩
theorem Xmz(b:Bool)(h f:Int)(w:World) :
 Calls Tryz.prog 191 #[.agg #[.slice none 0 0,.int .u8 h,.int .u8 f],.bool b] w fun e w'=>e=.returned (.tuple #[])∧w.grownBy w' none:=by
 have G0:=World.grownBy_alloc w (.cells #[Value.slice none 0 0,.int .u8 h,.int .u8 f] 110) none;cases b
 ·go_enter Tryz.func191,Tryz.ntmps191
  go_wp2;go_loop [4] (fun i=>i=.int .i64 0) (fun _=>0)
  case atStart=>rfl
  case round =>
   subst hrel;go_wp2;refine bodyPost_ret (results_none rfl _ _ _) rfl ?_;exact⟨rfl,G0⟩
 ·go_enter Tryz.func191,Tryz.ntmps191
  go_wp2;go_loop [6] (fun i=>i=.int .i64 0) (fun _=>0)
  case atStart=>rfl
  case round =>
   subst hrel;go_wp2;go_end0
   exact⟨rfl,G0⟩
theorem Xwt(h f:Int)(w:World) :
 Calls Tryz.prog 190 #[.agg #[.slice none 0 0,.int .u8 h,.int .u8 f]] w fun e w'=>e=.returned (.bool true)∧w.grownBy w' none:=by
 have G0:=World.grownBy_alloc w (.cells #[Value.slice none 0 0,.int .u8 h,.int .u8 f] 110) none;go_enter Tryz.func190,Tryz.ntmps190
 go_wp2;go_loop [3] (fun i=>i=.int .i64 0) (fun _=>0)
 case atStart=>rfl
 case round =>
  subst hrel;go_wp2;go_loop [5] (fun i=>i=.int .i64 0) (fun _=>0)
  case atStart=>rfl
  case round =>
   subst hrel;go_wp2;go_ret;exact⟨rfl,G0⟩
theorem Xo0(q:Pg2)(w:World)(a b:Prop)(h:q.Fit w a b)(hs:q.s.Wf) :
 Calls Tryz.prog q.s.signFn #[q.s.pay q.list,.bool false] w fun e w'=>e=.returned (.tuple #[])∧q.Fit w' True b∧w.grownBy w' q.A:=by
 obtain⟨A,n,c,s⟩:=q;cases A with
 | none =>
  obtain⟨rfl,rfl⟩:=h;cases s with
  | b hh ff =>
   refine(Xmz false hh ff w).mono ?_;rintro e w' ⟨rfl,hg⟩;exact⟨rfl,⟨rfl,rfl⟩,hg⟩
  | k hh ff =>
   refine(Xl0 false hh ff w).mono ?_;rintro e w' ⟨rfl,hg⟩;exact⟨rfl,⟨rfl,rfl⟩,hg⟩
  | s hh ff =>
   refine(Xkz false hh ff w).mono ?_;rintro e w' ⟨rfl,hg⟩;exact⟨rfl,⟨rfl,rfl⟩,hg⟩
  | r hh ff =>
   refine(Xky false hh ff w).mono ?_;rintro e w' ⟨rfl,hg⟩;exact⟨rfl,⟨rfl,rfl⟩,hg⟩
 | some g =>
  obtain⟨h1,h2,xs,ys,zs,hr,h3,h4,hz,h5,h6⟩:=h;have h1:n≤c:=h1;cases s with
  | b hh ff =>
   simp only[Sg.sz,Nat.mul_one]at h3 h4;refine(Xmh g n c hh ff (xs++(ys++zs)) w hr (by simp;omega) h1 h2).mono ?_;rintro e w' ⟨rfl,hr',hg⟩;refine⟨rfl,⟨h1,h2,List.replicate n (.int .u8 hh),ys,zs,?_,by simp[Sg.sz],by simpa [Sg.sz]using h4,hz,fun _=>rfl,h6⟩,hg⟩;rwa [List.drop_append_of_le_length (by omega),List.drop_of_length_le (by omega),List.nil_append]at hr'
  | k hh ff =>
   have h3':xs.length=n*32:=h3;have h4':ys.length=(c - n)*32:=h4;refine(Xlz g n c hh ff (xs++(ys++zs)) w hr (by simp only[List.length_append];omega) h1 h2 hs.1 hs.2).mono ?_;rintro e w' ⟨rfl,hr',hg⟩;refine⟨rfl,⟨h1,h2,keyRow n hh,ys,zs,?_,Xc7 n hs.1,h4,hz,fun _=>rfl,h6⟩,hg⟩;rwa [List.drop_append_of_le_length (by omega),List.drop_of_length_le (by omega),List.nil_append]at hr'
  | s hh ff =>
   obtain rfl:=hz (by show 34<64;omega);rw[List.append_nil]at hr;have h3':xs.length=n*64:=h3;have h4':ys.length=(c - n)*64:=h4;refine(Xme g n c hh ff (xs++ys) w hr (by rw[List.length_append];omega) h1 h2 hs.1 hs.2).mono ?_;rintro e w' ⟨rfl,hr',hg⟩;refine⟨rfl,⟨h1,h2,keyRow n hh,ys,[],?_,Xcm n hs.1,h4,fun _=>rfl,fun _=>rfl,h6⟩,hg⟩;rw[List.append_nil];rwa [List.drop_append_of_le_length (by omega),List.drop_of_length_le (by omega),List.nil_append]at hr'
  | r hh ff =>
   have h3':xs.length=n*34:=h3;have h4':ys.length=(c - n)*34:=h4;refine(Xml g n c hh ff (xs++(ys++zs)) w hr (by simp only[List.length_append];omega) h1 h2 hs.1 hs.2).mono ?_;rintro e w' ⟨rfl,hr',hg⟩;refine⟨rfl,⟨h1,h2,rowOf n hh,ys,zs,?_,Xcr n hs.1.len,h4,hz,fun _=>rfl,h6⟩,hg⟩;rwa [List.drop_append_of_le_length (by omega),List.drop_of_length_le (by omega),List.nil_append]at hr'
theorem Xpr(q:Pg2)(w:World)(a b:Prop)(h:q.Fit w a b)(hs:q.s.Wf) :
 Calls Tryz.prog q.s.signFn #[q.s.pay q.list,.bool true] w fun e w'=>e=.returned (.tuple #[])∧q.Fit w' a True∧w.grownBy w' q.A:=by
 obtain⟨A,n,c,s⟩:=q;cases A with
 | none =>
  obtain⟨rfl,rfl⟩:=h;cases s with
  | b hh ff =>
   refine(Xmz true hh ff w).mono ?_;rintro e w' ⟨rfl,hg⟩;exact⟨rfl,⟨rfl,rfl⟩,hg⟩
  | k hh ff =>
   refine(Xl0 true hh ff w).mono ?_;rintro e w' ⟨rfl,hg⟩;exact⟨rfl,⟨rfl,rfl⟩,hg⟩
  | s hh ff =>
   refine(Xkz true hh ff w).mono ?_;rintro e w' ⟨rfl,hg⟩;exact⟨rfl,⟨rfl,rfl⟩,hg⟩
  | r hh ff =>
   refine(Xky true hh ff w).mono ?_;rintro e w' ⟨rfl,hg⟩;exact⟨rfl,⟨rfl,rfl⟩,hg⟩
 | some g =>
  obtain⟨h1,h2,xs,ys,zs,hr,h3,h4,hz,h5,h6⟩:=h;have h1:n≤c:=h1;cases s with
  | b hh ff =>
   simp only[Sg.sz,Nat.mul_one]at h3 h4;refine(Xpj g n c hh ff xs (ys++zs) w hr h3 (by simp;omega) h1 h2).mono ?_;rintro e w' ⟨rfl,hr',hg⟩;rw[List.drop_append_of_le_length (by omega),List.drop_of_length_le (by omega),List.nil_append]at hr';exact⟨rfl,⟨h1,h2,xs,_,zs,hr',by simpa [Sg.sz]using h3,by simp[Sg.sz],hz,h5,fun _=>rfl⟩,hg⟩
  | k hh ff =>
   have h4':ys.length=(c - n)*32:=h4;refine(Xot g n c hh ff xs (ys++zs) w hr h3 (by rw[List.length_append];omega) h1 h2 hs.1 hs.2).mono ?_;rintro e w' ⟨rfl,hr',hg⟩;rw[List.drop_append_of_le_length (by omega),List.drop_of_length_le (by omega),List.nil_append]at hr';exact⟨rfl,⟨h1,h2,xs,_,zs,hr',h3,Xc7 _ hs.2,hz,h5,fun _=>rfl⟩,hg⟩
  | s hh ff =>
   obtain rfl:=hz (by show 34<64;omega);rw[List.append_nil]at hr;refine(Xpd g n c hh ff xs ys w hr h3 h4 h1 h2 hs.1 hs.2).mono ?_;rintro e w' ⟨rfl,hr',hg⟩;exact⟨rfl,⟨h1,h2,xs,_,[],by rwa [List.append_nil],h3,Xcm _ hs.2,fun _=>rfl,h5,fun _=>rfl⟩,hg⟩
  | r hh ff =>
   have h4':ys.length=(c - n)*34:=h4;refine(Xob g n c hh ff xs (ys++zs) w hr h3 (by rw[List.length_append];omega) h1 h2 hs.1 hs.2).mono ?_;rintro e w' ⟨rfl,hr',hg⟩;rw[List.drop_append_of_le_length (by omega),List.drop_of_length_le (by omega),List.nil_append]at hr';exact⟨rfl,⟨h1,h2,xs,_,zs,hr',h3,Xcr _ hs.2.len,hz,h5,fun _=>rfl⟩,hg⟩
theorem Xqq(q:Pg2)(w:World)(h:q.Fit w True True)(hs:q.s.Wf) :
 Calls Tryz.prog q.s.ownFn #[q.s.pay q.list] w fun e w'=>e=.returned (.bool true)∧w.grownBy w' none:=by
 obtain⟨A,n,c,s⟩:=q;cases A with
 | none =>
  obtain⟨rfl,rfl⟩:=h;cases s with
  | b hh ff=>exact Xwt hh ff w
  | k hh ff=>exact Xv1 hh ff w
  | s hh ff=>exact Xtu hh ff w
  | r hh ff=>exact Xvd hh ff w
 | some g =>
  obtain⟨h1,h2,xs,ys,zs,hr,h3,h4,hz,h5,h6⟩:=h;rw[h5 trivial,h6 trivial]at hr;cases s with
  | b hh ff=>exact Xsq g n c hh ff zs w hr h1 h2
  | k hh ff=>exact Xqm g n c hh ff zs w hr h1 h2 hs.1 hs.2
  | s hh ff =>
   obtain rfl:=hz (by show 34<64;omega);rw[List.append_nil]at hr;exact Xsh g n c hh ff w hr h1 h2 hs.1 hs.2
  | r hh ff=>exact Xsz g n c hh ff zs w hr h1 h2 hs.1 hs.2
structure Touched(P:List Pg2)(w w':World):Prop where
 os:w'.os=w.os
 tape:w'.tape=w.tape
 output:w'.output=w.output
 size:w.heap.size≤w'.heap.size
 block:∀k,k<w.heap.size→(∀q ∈ P,q.A≠some k)→w'.heap[k]?=w.heap[k]?
theorem Touched.refl(P:List Pg2)(w:World):Touched P w w:=⟨rfl,rfl,rfl,Lr _,fun _ _ _=>rfl⟩
theorem Touched.step{P:List Pg2}{w a b:World}{r:Option Nat}(h:Touched P w a)(hg:a.grownBy b r)(hr:∀g,r=some g→∃q ∈ P,q.A=some g):Touched P w b:=
 ⟨hg.os.trans h.os,hg.tape.trans h.tape,hg.output.trans h.output,Lq h.size hg.size,fun k hk hne=>by
  rw[hg.block k (Nat.lt_of_lt_of_le hk h.size) (fun e=>by obtain⟨q,hq,e'⟩:=hr k e.symm;exact hne q hq e'),h.block k hk hne]⟩
structure BookAt(w:World)(p:Nat)(base:Nat)(A:Option Addr)(c:Nat)(P:List Pg2)(ka kb:Nat):Prop where
 row:Row w p 60 [.slice A P.length c]
 own:w.ownsRow base 115 1 (.slice A P.length c) P.length (P.map Pg2.val)
 fit:∀i (hi:i<P.length),P[i].Fit w (i<ka) (i<kb)
def Parted(P:List Pg2):Prop:=∀i j (hi:i<P.length) (hj:j<P.length) g,P[i].A=some g→P[j].A=some g→i=j
theorem Xvr{w:World}{g g' t t':Nat}{xs ys:List Value}(h:Row w g t xs)(h':Row w g' t' ys)(hne:t≠t'):g≠g':=by
 rintro rfl;have a:=h.is;rw[h'.is]at a;injection a with a
 injection a with _ a
 exact hne a.symm
theorem Xt5{w:World}{q:Pg2}{a b:Prop}{g:Nat}(h:q.Fit w a b)(hg:q.A=some g):∃xs,Row w g q.s.et xs:=by
 obtain⟨A,n,c,s⟩:=q;cases hg
 obtain⟨_,_,xs,ys,zs,hr,_⟩:=h;exact⟨_,hr⟩
theorem Xw8(s:Sg):60≠s.et:=by
 cases s with
 | b=>exact(by decide:(60:Nat)≠5)
 | k=>exact(by decide:(60:Nat)≠78)
 | s=>exact(by decide:(60:Nat)≠104)
 | r=>exact(by decide:(60:Nat)≠101)
theorem Xx3(s:Sg):115≠s.et:=by
 cases s with
 | b=>exact(by decide:(115:Nat)≠5)
 | k=>exact(by decide:(115:Nat)≠78)
 | s=>exact(by decide:(115:Nat)≠104)
 | r=>exact(by decide:(115:Nat)≠101)
theorem BookAt.signed{w w':World}{p base:Nat}{A:Option Addr}{c:Nat}{P:List Pg2}{ka kb:Nat}(h:BookAt w p base A c P ka kb)(hP:Parted P){k:Nat}(hk:k<P.length){a b:Prop}
 (hf:P[k].Fit w' a b) (hg:w.grownBy w' P[k].A) {ka' kb':Nat} (h1:(k<ka')→a) (h2:(k<kb')→b) (h3:∀i,i≠k→(i<ka'→i<ka)) (h4:∀i,i≠k→(i<kb'→i<kb)):BookAt w' p base A c P ka' kb':=by
 have fitk:=h.fit k hk;refine⟨h.row.grown hg ?_,h.own.kept hg ?_,fun i hi=>?_⟩
 ·intro e;obtain⟨xs,hr⟩:=Xt5 fitk e.symm;exact Xvr h.row hr (Xw8 _) rfl
 ·cases e:P[k].A with
  | none=>cases (Value.slice A P.length c).ownBlock <;> simp
  | some g =>
   obtain⟨xs,hr⟩:=Xt5 fitk e;exact .inr (fun e'=>Xbf h.own hr (Xx3 _) e'.symm)
 ·by_cases hik:i=k
  ·subst hik;obtain⟨⟨A',n',c',s'⟩,hq⟩:∃q,q=P[i]:=⟨_,rfl⟩;rw[←hq]at hf ⊢;cases A' with
   | none=>exact hf
   | some g =>
    obtain⟨e1,e2,xs,ys,zs,hr,e3,e4,ez,e5,e6⟩:=hf;exact⟨e1,e2,xs,ys,zs,hr,e3,e4,ez,fun x=>e5 (h1 x),fun x=>e6 (h2 x)⟩
  ·have:=(h.fit i hi).keep hg (fun g e e'=>hik (hP i k hi hk g e e'.symm));obtain⟨⟨A',n',c',s'⟩,hq⟩:∃q,q=P[i]:=⟨_,rfl⟩;rw[←hq]at this ⊢;cases A' with
   | none=>exact this
   | some g =>
    obtain⟨e1,e2,xs,ys,zs,hr,e3,e4,ez,e5,e6⟩:=this;exact⟨e1,e2,xs,ys,zs,hr,e3,e4,ez,fun x=>e5 (h3 i hik x),fun x=>e6 (h4 i hik x)⟩
theorem BookAt.page{w:World}{p base:Nat}{A:Option Addr}{c:Nat}{P:List Pg2}{ka kb:Nat}(h:BookAt w p base A c P ka kb){k:Nat}(hk:k<P.length):∃a,A=some a∧w.cell? (a.add k)=some P[k].val:=by
 have hl:=h.own;obtain⟨a,u,e,_,hx,hc⟩:=(Sees.of_own hl).at_ hk;refine⟨a,e,?_⟩;rw[hc];rw[List.getElem?_map,List.getElem?_eq_getElem hk]at hx;exact hx.symm
theorem Xo7 (l h f : Value) (w : World) : (method 387 110 (.agg #[l, h, f]) "ferryhouse/ferryhouselaw01.sign").run Tryz.prog w = .ok (191, .agg #[l, h, f]) w := by kernel_rfl
theorem Xra (l h f : Value) (w : World) : (method 387 110 (.agg #[l, h, f]) "ferryhouse/ferryhouselaw01.own").run Tryz.prog w = .ok (190, .agg #[l, h, f]) w := by kernel_rfl
theorem Xok (v : Array Value) (w : World) : (method 387 208 (.agg v) "ferryhouse/ferryhouselaw01.sign").run Tryz.prog w = .ok (197, .agg v) w := by kernel_rfl
theorem Xnx (v : Array Value) (w : World) : (method 387 164 (.agg v) "ferryhouse/ferryhouselaw01.sign").run Tryz.prog w = .ok (195, .agg v) w := by kernel_rfl
theorem Xo4 (v : Array Value) (w : World) : (method 387 162 (.agg v) "ferryhouse/ferryhouselaw01.sign").run Tryz.prog w = .ok (193, .agg v) w := by kernel_rfl
theorem Xso (v : Array Value) (w : World) : (method 387 208 (.agg v) "ferryhouse/ferryhouselaw01.own").run Tryz.prog w = .ok (196, .agg v) w := by kernel_rfl
theorem Xsi (v : Array Value) (w : World) : (method 387 164 (.agg v) "ferryhouse/ferryhouselaw01.own").run Tryz.prog w = .ok (194, .agg v) w := by kernel_rfl
theorem Xrd (v : Array Value) (w : World) : (method 387 162 (.agg v) "ferryhouse/ferryhouselaw01.own").run Tryz.prog w = .ok (192, .agg v) w := by kernel_rfl
theorem Xll (s : Sg) (l : Value) (w : World) : (method 387 s.ty (s.pay l) "ferryhouse/ferryhouselaw01.sign").run Tryz.prog w = .ok (s.signFn, s.pay l) w := by
 cases s with
 | b h f=>exact Xo7 _ _ _ w
 | k h f=>exact Xok _ w
 | s h f=>exact Xnx _ w
 | r h f=>exact Xo4 _ w
theorem Xv8 (s : Sg) (l : Value) (w : World) : (method 387 s.ty (s.pay l) "ferryhouse/ferryhouselaw01.own").run Tryz.prog w = .ok (s.ownFn, s.pay l) w := by
 cases s with
 | b h f=>exact Xra _ _ _ w
 | k h f=>exact Xso _ w
 | s h f=>exact Xsi _ w
 | r h f=>exact Xrd _ w
theorem Xln(s:Sg)(args:Array Value)(w:World):(callFunc s.signFn args).run Tryz.prog w=.ok (.enter s.signFn args) w:=by
 cases s with
 | b=>exact(by kernel_rfl:(callFunc 191 args).run Tryz.prog w=.ok (.enter 191 args) w)
 | k=>exact(by kernel_rfl:(callFunc 197 args).run Tryz.prog w=.ok (.enter 197 args) w)
 | s=>exact(by kernel_rfl:(callFunc 195 args).run Tryz.prog w=.ok (.enter 195 args) w)
 | r=>exact(by kernel_rfl:(callFunc 193 args).run Tryz.prog w=.ok (.enter 193 args) w)
theorem Xu5(s:Sg)(args:Array Value)(w:World):(callFunc s.ownFn args).run Tryz.prog w=.ok (.enter s.ownFn args) w:=by
 cases s with
 | b=>exact(by kernel_rfl:(callFunc 190 args).run Tryz.prog w=.ok (.enter 190 args) w)
 | k=>exact(by kernel_rfl:(callFunc 196 args).run Tryz.prog w=.ok (.enter 196 args) w)
 | s=>exact(by kernel_rfl:(callFunc 194 args).run Tryz.prog w=.ok (.enter 194 args) w)
 | r=>exact(by kernel_rfl:(callFunc 192 args).run Tryz.prog w=.ok (.enter 192 args) w)
theorem Xpk(p:Nat)(A:Option Addr)(n c:Nat)(w:World)(h:Row w p 60 [.slice A n c])(hn:120<n) :
 Calls Tryz.prog 22 #[.pointer (some ⟨p,0,none⟩)] w fun e w'=>e=.returned (.bool true)∧w=w':=by
 have c0:w.cell? ⟨p,0,none⟩=some (.slice A n c):=h.cell 0;clear h;go_enter Tryz.func22,Tryz.ntmps22
 go_wp2_with fail;go_ret;exact⟨rfl,rfl⟩
theorem apart(p base:Nat)(A:Option Addr)(c:Nat)(P:List Pg2)(w:World)(h:BookAt w p base A c P 0 0)(hP:Parted P)(hW:∀q ∈ P,q.s.Wf)(hn:P.length≤120) :
 Calls Tryz.prog 22 #[.pointer (some ⟨p,0,none⟩)] w fun e w'=>e=.returned (.bool true)∧Touched P w w':=by
 have c0:w.cell? ⟨p,0,none⟩=some (.slice A P.length c):=h.row.cell 0;obtain⟨n,hN⟩:∃n,P.length=n:=⟨_,rfl⟩;have HN:=Hd hN;rw[hN]at c0;clear hN;have H:=Hd h;have HW:=Hd hW;have hn:n≤120:=by rw[←HN.out];exact hn
 clear h hW;go_enter Tryz.func22,Tryz.ntmps22
 go_wp2_with fail;go_loopw [3] (fun i wr=>∃k:Nat,k≤n∧i=.int .i64 k∧BookAt wr p base A c P k 0∧Touched P w wr) (fun i _=>n - (intOf i).toNat)
 case atStart=>exact⟨0,Nat.zero_le _,rfl,H.out,Touched.refl _ _⟩
 case round =>
  obtain⟨k,hk,rfl,hbk,ht⟩:=hrel;have HB:=Hd hbk;clear c0 H;have c0:wr.cell? ⟨p,0,none⟩=some (.slice A P.length c):=hbk.row.cell 0;rw[HN.out]at c0;by_cases hlt:k<n
  ·have hkP:k<P.length:=by rw[HN.out];exact hlt
   obtain⟨a,rfl,hc⟩:=hbk.page hkP;have HC:=Hd (Xo0 P[k] wr _ _ (HB.out.fit k hkP) (HW.out _ (List.getElem_mem hkP)));have ms:=Xll P[k].s P[k].list;have cf:=Xln P[k].s;simp only[Pg2.val]at hc;clear hbk;generalize P[k].s.ty=T at *;generalize P[k].s.pay P[k].list=V at *;generalize P[k].s.signFn=FN at *;go_wp2_with fail;refine HC.out.mono ?_;rintro e w2 ⟨rfl,hf,hg⟩;go_wp2_with fail;go_roundw
   case rel=>exact⟨k+1,by omega,by go_num,HB.out.signed hP hkP hf hg (fun _=>trivial) (fun h=>h) (fun i hi h=>by omega) (fun i _ h=>h),ht.step hg (fun g e=>⟨P[k],List.getElem_mem hkP,e⟩)⟩
   case measure=>simp[intOf];omega
  ·have hkn:k=n:=by omega
   have HB1:Hid (BookAt wr p base A c P n 0):=by rw[←hkn];exact HB.out
   clear hbk HB hkn;go_wp2_with fail;go_loopw [4] (fun i wr=>∃k:Nat,k≤n∧i=.int .i64 k∧BookAt wr p base A c P n k∧Touched P w wr) (fun i _=>n - (intOf i).toNat)
   case atStart=>exact⟨0,Nat.zero_le _,rfl,HB1.out,ht⟩
   case round =>
    clear c0 HB1 ht;obtain⟨k,hk,rfl,hbk,ht⟩:=hrel;have HB:=Hd hbk;rename World=>wr0
    obtain⟨wr,hwr⟩:∃wr,wr=wr0:=⟨_,rfl⟩;subst hwr;have c0:wr.cell? ⟨p,0,none⟩=some (.slice A P.length c):=hbk.row.cell 0;rw[HN.out]at c0;by_cases hlt:k<n
    ·have hkP:k<P.length:=by rw[HN.out];exact hlt
     obtain⟨a,rfl,hc⟩:=hbk.page hkP;have HC:=Hd (Xpr P[k] wr _ _ (HB.out.fit k hkP) (HW.out _ (List.getElem_mem hkP)));have ms:=Xll P[k].s P[k].list;have cf:=Xln P[k].s;simp only[Pg2.val]at hc;clear hbk;generalize P[k].s.ty=T at *;generalize P[k].s.pay P[k].list=V at *;generalize P[k].s.signFn=FN at *;go_wp2_with fail;refine HC.out.mono ?_;rintro e w2 ⟨rfl,hf,hg⟩;go_wp2_with fail;go_roundw
     case rel=>exact⟨k+1,by omega,by go_num,HB.out.signed hP hkP hf hg (fun h=>h) (fun _=>trivial) (fun i _ h=>h) (fun i hi h=>by omega),ht.step hg (fun g e=>⟨P[k],List.getElem_mem hkP,e⟩)⟩
     case measure=>simp[intOf];omega
    ·have hkn:k=n:=by omega
     have HB1:Hid (BookAt wr p base A c P n n):=by
      have:=HB.out;rw[hkn]at this;exact this
     clear hbk HB hkn;go_wp2_with fail;go_loopw [5] (fun i wr=>∃k:Nat,k≤n∧i=.int .i64 k∧BookAt wr p base A c P n n∧Touched P w wr) (fun i _=>n - (intOf i).toNat)
     case atStart=>exact⟨0,Nat.zero_le _,rfl,HB1.out,ht⟩
     case round =>
      clear c0 HB1 ht;obtain⟨k,hk,rfl,hbk,ht⟩:=hrel;have HB:=Hd hbk;rename World=>wr0
      obtain⟨wr,hwr⟩:∃wr,wr=wr0:=⟨_,rfl⟩;subst hwr;have c0:wr.cell? ⟨p,0,none⟩=some (.slice A P.length c):=hbk.row.cell 0;rw[HN.out]at c0;by_cases hlt:k<n
      ·have hkP:k<P.length:=by rw[HN.out];exact hlt
       obtain⟨a,rfl,hc⟩:=hbk.page hkP;have HC:=Hd (Xqq P[k] wr (by have:=HB.out.fit k hkP;simpa [HN.out,hlt]using this) (HW.out _ (List.getElem_mem hkP)));have ms:=Xv8 P[k].s P[k].list;have cf:=Xu5 P[k].s;simp only[Pg2.val]at hc;clear hbk;generalize P[k].s.ty=T at *;generalize P[k].s.pay P[k].list=V at *;generalize P[k].s.ownFn=FN at *;go_wp2_with fail;refine HC.out.mono ?_;rintro e w2 ⟨rfl,hg⟩;go_wp2_with fail;go_roundw
       case rel =>
        refine⟨k+1,by omega,by go_num,⟨HB.out.row.grown hg (by simp),HB.out.own.kept hg (by cases (Value.slice (some a) P.length c).ownBlock <;> simp),fun i hi=>(HB.out.fit i hi).keep hg (by simp)⟩,ht.step hg (fun g e=>by cases e)⟩
       case measure=>simp[intOf];omega
      ·clear hbk;go_wp2_with fail;go_ret;exact⟨rfl,ht⟩
end Go.Proofs.YtdgbodljmdcagaaGreatDoor
