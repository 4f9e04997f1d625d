import Derived.Test.YtaljfbbieefooaaGreatDoorM9
import Derived.Shelf.SlMaps.Clone
import Derived.LaidMore
import Derived.Laws.Append
import Derived.Laws.AppendOwn
set_option maxRecDepth 100000
set_option maxHeartbeats 16000000
set_option linter.unusedSimpArgs false
set_option linter.unusedVariables false
namespace Go.Proofs.YtaljfbbieefooaaGreatDoor
open Go.ChangeShapes Go.WideShapes Go.RowKit
theorem Xhb:Tryz.prog.cellsOf 93=34:=by kernel_rfl
theorem Xqk:Tryz.prog.bytesOf 93=34:=by kernel_rfl
theorem Xvu{sz:Nat}{w:World}{B:Nat}{A:Option Addr}{n:Nat}{l:List (List Value)}(h0:0<sz)(hn:l.length=n)(h:∀(i:Nat) x,l[i]?=some x→x.length=sz∧∃a,A=some a∧a.block<B∧∀j u,x[j]?=some u→w.cell? (a.add (i*sz+j))=some u):CsIn sz w B A n l:=by
 have he:∀k ∈ l,k.length=sz:=fun k hk=>by
  obtain⟨i,hi,rfl⟩:=List.getElem_of_mem hk;exact(h i _ (List.getElem?_eq_getElem hi)).1
 refine⟨hn,he,by rw[Xc3 he,hn],fun i u hu=>?_⟩;have hi:=(List.getElem?_eq_some_iff.1 hu).1;rw[Xc3 he]at hi;have hk:i / sz<l.length:=(Nat.div_lt_iff_lt_mul h0).2 hi;obtain⟨h1,a,rfl,h2,h3⟩:=h (i / sz) _ (List.getElem?_eq_getElem hk);refine⟨_,rfl,h2,?_⟩;have hj:i % sz<sz:=Nat.mod_lt _ h0;obtain⟨v,hv⟩:∃v,(l[i / sz])[i % sz]?=some v:=⟨_,List.getElem?_eq_getElem (by rw[h1];exact hj)⟩;have hf:=Xbl sz l (i / sz) _ (fun i y hy=>he y (List.mem_of_getElem? hy)) (List.getElem?_eq_getElem hk) _ _ hv;have hmm:i / sz*sz+i % sz=i:=by rw[Nat.mul_comm];exact Nat.div_add_mod i sz
 rw[hmm,hu]at hf;obtain rfl:=Option.some.inj hf;have:=h3 _ _ hv;rwa [hmm]at this
section
variable{H:Type}{enc:TypeId × Value→H}{w:World}{base b0:Nat}{held:Bool}
theorem Xq2{fuel:Nat}{cs:List Value}{x:DataW H × List MemPlace}(hf:DataW.trod enc Tryz.prog w base (fun _=>true) held fuel 93 cs=some x)(e3:cs.length=34):∃r:LRole,cs=r.cells∧RoleOk r:=by
 obtain⟨y0,y1,y2,k,_,hl,t0,t1,t2⟩:=Go.Deep.trod_struct3 Tryz.underlying93 hf;have t0':DataW.trod enc Tryz.prog w base (fun _=>true) held k 62 (cs.take 32)=some y0:=by simpa [Xcw]using t0
 obtain⟨z,hz,hz1,hz2⟩:=Xhi Tryz.underlying62 Xcw t0';obtain⟨c1,c2,hc12⟩:∃c1 c2,cs.drop 32=[c1,c2]:=Xue (by rw[List.length_drop,e3]);have hcs:cs=bv z++[c1,c2]:=by rw[←hz,←hc12,List.take_append_drop]
 have t1':DataW.trod enc Tryz.prog w base (fun _=>true) held k 4 [c1]=some y1:=by
  have:=t1;simp only[Xi3]at this;rw[hc12]at this;exact this
 have t2':DataW.trod enc Tryz.prog w base (fun _=>true) held k 4 [c2]=some y2:=by
  have:=t2;simp only[Xi3]at this;rw[show(33:Nat)=32+1 from rfl,←List.drop_drop,hc12]at this;exact this
 obtain⟨b1,hb1,_⟩:=DataW.trod_bool Tryz.underlying4 t1';obtain⟨b2,hb2,_⟩:=DataW.trod_bool Tryz.underlying4 t2';obtain rfl:c1=.bool b1:=by simpa using hb1
 obtain rfl:c2=.bool b2:=by simpa using hb2
 exact⟨⟨z,b1,b2⟩,hcs,hz1,hz2⟩
theorem Xkd{A:Option Addr}{n c:Nat}{d:DataW H}{p:List MemPlace}(h:DataW.Trod enc Tryz.prog w base (fun _=>true) held 35 (.slice A n c) d p)(hw:Wt 35 d) :
 ∃l,n≤c∧c≤maxLen∧RolesIn w w.heap.size A n l∧l.length≤140737488355328:=by
 obtain⟨fuel,hf⟩:=h;obtain⟨A',n',c',hcs,h1,h2,h3,h4⟩:=Xe2 (cs:=[.slice A n c]) Tryz.underlying35 (by rw[Xhb];omega) hf hw;obtain⟨rfl,rfl,rfl⟩:A=A'∧n=n'∧c=c':=by simpa using hcs
 rw[Xqk]at h3;have:=Xff;obtain⟨l,hl,hp⟩:=Xd4 (α:=LRole) (p:=fun i z=>RoleOk z∧∃a,A=some a∧a.block<w.heap.size∧∀j u,z.cells[j]?=some u→w.cell? (a.add (i*34+j))=some u) n fun i hi=>by
  obtain⟨a,cs',y,m,e1,e2,e3,e4,e5,_⟩:=h4 i hi;rw[Xhb]at e3 e4;obtain⟨z,rfl,hz⟩:=Xq2 e5 e3;exact⟨z,hz,a,e1,e2,e4⟩
 subst hl;refine⟨l,h1,h2,⟨Xvu (by omega) (by simp) fun i x hx=>?_,fun r hr=>?_⟩,by omega⟩
 ·rw[List.getElem?_map]at hx;obtain⟨r,hr,rfl⟩:=Option.map_eq_some_iff.1 hx;exact⟨Xc5 (hp i r hr).1.1,(hp i r hr).2⟩
 ·obtain⟨i,hi,rfl⟩:=List.getElem_of_mem hr;exact(hp i _ (List.getElem?_eq_getElem hi)).1
end
theorem Xdz{z:Int}(h:(Lit.int .u64 z).wf=true):0≤z∧z<18446744073709551616:=by
 have h':(decide ((0:Int)≤z)&&decide (z≤18446744073709551615))=true:=h;rw[Bool.and_eq_true,decide_eq_true_iff,decide_eq_true_iff]at h';omega
theorem Xfc:Tryz.prog.cellsOf 69=34:=by kernel_rfl
theorem Xh4:Tryz.prog.cellsOf 36=1:=by kernel_rfl
theorem Xvw{α:Type}{xs:List α}(h:xs.length=3):∃a b c,xs=[a,b,c]:=by
 match xs,h with
 | [a,b,c],_=>exact⟨a,b,c,rfl⟩
section
variable{H:Type}{enc:TypeId × Value→H}{w:World}{base b0:Nat}{held:Bool}
theorem Xt1{fuel:Nat}{cs:List Value}{x:DataW H × List MemPlace}(hf:DataW.trod enc Tryz.prog w base (fun _=>true) held fuel 69 cs=some x):∃a:LAcc,cs=a.cells∧AccOk a:=by
 obtain⟨xs,n,_,hx,hl,hlen,ht⟩:=DataW.trod_struct Tryz.underlying69 hf;rw[Xfc]at hl;obtain⟨y0,y1,y2,rfl⟩:=Xvw hlen;have t0:DataW.trod enc Tryz.prog w base (fun _=>true) held n 36 ((cs.drop 0).take 1)=some y0:=by rw[←Xh4];exact ht 0 _ rfl
 have t1:DataW.trod enc Tryz.prog w base (fun _=>true) held n 62 ((cs.drop 1).take 32)=some y1:=by rw[←Xcw];exact ht 1 _ rfl
 have t2:DataW.trod enc Tryz.prog w base (fun _=>true) held n 36 ((cs.drop 33).take 1)=some y2:=by rw[←Xh4];exact ht 2 _ rfl
 have hsplit:cs=(cs.drop 0).take 1++((cs.drop 1).take 32++(cs.drop 33).take 1):=by
  have e5:cs.drop 33=(cs.drop 33).take 1:=(List.take_of_length_le (by rw[List.length_drop];omega)).symm;rw[←e5,←cut cs 1 32 33 rfl,←cut cs 0 1 1 rfl];rfl
 obtain⟨c0,hc0⟩:=Xfx (cs:=(cs.drop 0).take 1) (by simp;omega);obtain⟨c2,hc2⟩:=Xfx (cs:=(cs.drop 33).take 1) (by simp;omega);rw[hc0]at t0;rw[hc2]at t2;obtain⟨i0,hi0,_,wi0⟩:=DataW.trod_int Tryz.underlying36 t0;obtain rfl:c0=.int .u64 i0:=by simpa using hi0
 obtain⟨i2,hi2,_,wi2⟩:=DataW.trod_int Tryz.underlying36 t2;obtain rfl:c2=.int .u64 i2:=by simpa using hi2
 obtain⟨z,hz,hz1,hz2⟩:=Xhi Tryz.underlying62 Xcw t1;refine⟨⟨i0,z,i2⟩,?_,⟨Xdz wi0,⟨hz1,hz2⟩,Xdz wi2⟩⟩;rw[hsplit,hc0,hz,hc2];rfl
theorem Xrj{sz:Nat}{w:World}{B:Nat}{A:Option Addr}{n:Nat}{l:List (List Value)}(h0:0<sz)(hn:l.length=n)(h:∀(i:Nat) x,l[i]?=some x→x.length=sz∧∃a,A=some a∧a.block<B∧∀j u,x[j]?=some u→w.cell? (a.add (i*sz+j))=some u):CsIn sz w B A n l:=by
 have he:∀k ∈ l,k.length=sz:=fun k hk=>by
  obtain⟨i,hi,rfl⟩:=List.getElem_of_mem hk;exact(h i _ (List.getElem?_eq_getElem hi)).1
 refine⟨hn,he,by rw[Xc3 he,hn],fun i u hu=>?_⟩;have hi:=(List.getElem?_eq_some_iff.1 hu).1;rw[Xc3 he]at hi;have hk:i / sz<l.length:=(Nat.div_lt_iff_lt_mul h0).2 hi;obtain⟨h1,a,rfl,h2,h3⟩:=h (i / sz) _ (List.getElem?_eq_getElem hk);refine⟨_,rfl,h2,?_⟩;have hj:i % sz<sz:=Nat.mod_lt _ h0;obtain⟨v,hv⟩:∃v,(l[i / sz])[i % sz]?=some v:=⟨_,List.getElem?_eq_getElem (by rw[h1];exact hj)⟩;have hf:=Xbl sz l (i / sz) _ (fun i y hy=>he y (List.mem_of_getElem? hy)) (List.getElem?_eq_getElem hk) _ _ hv;have hmm:i / sz*sz+i % sz=i:=by rw[Nat.mul_comm];exact Nat.div_add_mod i sz
 rw[hmm,hu]at hf;obtain rfl:=Option.some.inj hf;have:=h3 _ _ hv;rwa [hmm]at this
end
section
variable{H:Type}{enc:TypeId × Value→H}{w:World}{base b0:Nat}{held:Bool}
theorem Xla{fuel:Nat}{c0:Value}{x:DataW H × List MemPlace}(hf:DataW.trod enc Tryz.prog w base (fun _=>true) held fuel 41 [c0]=some x)(hw:Wt 41 x.1) :
 ∃A n c l,c0=.slice A n c∧(n≤c∧c≤maxLen)∧AccsIn w w.heap.size A n l:=by
 obtain⟨A,n,c,hcs,h1,h2,h3,h4⟩:=Xe2 (cs:=[c0]) Tryz.underlying41 (by rw[Xfc];omega) hf hw;obtain rfl:c0=.slice A n c:=by simpa using hcs
 obtain⟨l,hl,hp⟩:=Xd4 (α:=LAcc) (p:=fun i z=>AccOk z∧∃a,A=some a∧a.block<w.heap.size∧∀j u,z.cells[j]?=some u→w.cell? (a.add (i*34+j))=some u) n fun i hi=>by
  obtain⟨a,cs',y,m,e1,e2,e3,e4,e5,_⟩:=h4 i hi;rw[Xfc]at e3 e4;obtain⟨z,rfl,hz⟩:=Xt1 e5;exact⟨z,hz,a,e1,e2,e4⟩
 subst hl;refine⟨A,l.length,c,l,rfl,⟨h1,h2⟩,⟨rfl,fun r hr=>?_,(Xrj (sz:=34) (l:=l.map LAcc.cells) (by omega) (by simp) fun i x hx=>?_).sees⟩⟩
 ·obtain⟨i,hi,rfl⟩:=List.getElem_of_mem hr;exact(hp i _ (List.getElem?_eq_getElem hi)).1
 ·rw[List.getElem?_map]at hx;obtain⟨r,hr,rfl⟩:=Option.map_eq_some_iff.1 hx;exact⟨Xbt (hp i r hr).1.o.1,(hp i r hr).2⟩
end
theorem Xon:Tryz.prog.bytesOf 69=48:=by kernel_rfl
theorem Xrg:Tryz.prog.cellsOf 22=1:=by kernel_rfl
theorem Xrd:Tryz.prog.cellsOf 34=40:=by kernel_rfl
theorem Xqi:Tryz.prog.cellsOf 35=1:=by kernel_rfl
theorem Xjq:Tryz.prog.cellsOf 38=3:=by kernel_rfl
theorem Xg4:Tryz.prog.cellsOf 36=1:=by kernel_rfl
theorem Xss:Tryz.prog.cellsOf 3=1:=by kernel_rfl
theorem Xr7:Tryz.prog.cellsOf 40=48:=by kernel_rfl
structure RdOk(x:LReady):Prop where
 wf:x.tx.Wf
 sized:Sized x.tx.m
 sl:x.tx.sigs.length≤140737488355328
 bs:AllBytes x.bytes
 bl:x.bytes.length≤140737488355328
 rl:x.roles.length≤140737488355328
 u:0≤x.u∧x.u<18446744073709551616
 p:0≤x.p∧x.p<18446744073709551616
 bad : -9223372036854775808≤x.bad∧x.bad<9223372036854775808
 fee:0≤x.fee∧x.fee<18446744073709551616
 cost:0≤x.cost∧x.cost<18446744073709551616
 pri:0≤x.pri∧x.pri<18446744073709551616
theorem Xsp{z:Int}(h:(Lit.int .i64 z).wf=true) : -9223372036854775808≤z∧z<9223372036854775808:=by
 have h':(decide ((-9223372036854775808:Int)≤z)&&decide (z≤9223372036854775807))=true:=h;rw[Bool.and_eq_true,decide_eq_true_iff,decide_eq_true_iff]at h';omega
section
variable{H:Type}{enc:TypeId × Value→H}{w:World}{base b0:Nat}{held:Bool}
theorem Xmx{y0 y1 y2 y3 y4 y5 y6:DataW H}(h:Wt 40 (.agg [y0,y1,y2,y3,y4,y5,y6])):Wt 22 y0∧Wt 34 y1∧Wt 35 y2:=by
 refine⟨fun n hn=>h n ?_,fun n hn=>h n ?_,fun n hn=>h n ?_⟩ <;> simp only[DataW.weights,Tryz.underlying40] <;> simp[DataW.weightsEach,hn]
theorem Xew{t:TypeId}{q:IntKind}{n:Nat}{cs:List Value}{x:DataW H × List MemPlace}(ht:Tryz.prog.underlying t=some (.int q))(h:DataW.trod enc Tryz.prog w base (fun _=>true) held n t cs=some x)(hl:cs.length=1):∃z,cs=[.int q z]∧(Lit.int q z).wf=true:=by
 obtain⟨v,rfl⟩:=Xfx hl;obtain⟨z,hz,_,hz'⟩:=DataW.trod_int ht h;exact⟨z,by simpa using hz,hz'⟩
theorem Xjl{fuel:Nat}{cs:List Value}{x:DataW H × List MemPlace}(hf:DataW.trod enc Tryz.prog w base (fun _=>true) held fuel 38 cs=some x):∃u p b,cs=[.int .u64 u,.int .u64 p,.int .i64 b]∧(0≤u∧u<18446744073709551616)∧(0≤p∧p<18446744073709551616)∧(-9223372036854775808≤b∧b<9223372036854775808):=by
 obtain⟨xs,n,_,hx,hl,hlen,ht⟩:=DataW.trod_struct Tryz.underlying38 hf;rw[Xjq]at hl;obtain⟨y0,y1,y2,rfl⟩:∃a b c,xs=[a,b,c]:=by
  match xs,hlen with
  | [a,b,c],_=>exact⟨a,b,c,rfl⟩
 match cs,hl with
 | [a,b,c],_ =>
 have t0:DataW.trod enc Tryz.prog w base (fun _=>true) held n 36 (([a,b,c].drop 0).take 1)=some y0:=by rw[←Xg4];exact ht 0 _ rfl
 have t1:DataW.trod enc Tryz.prog w base (fun _=>true) held n 36 (([a,b,c].drop 1).take 1)=some y1:=by rw[←Xg4];exact ht 1 _ rfl
 have t2:DataW.trod enc Tryz.prog w base (fun _=>true) held n 3 (([a,b,c].drop 2).take 1)=some y2:=by rw[←Xss];exact ht 2 _ rfl
 obtain⟨u,e0,w0⟩:=Xew Tryz.underlying36 t0 rfl;obtain⟨p,e1,w1⟩:=Xew Tryz.underlying36 t1 rfl;obtain⟨z,e2,w2⟩:=Xew Tryz.underlying3 t2 rfl;have e0':[a]=[Value.int .u64 u]:=e0;have e1':[b]=[Value.int .u64 p]:=e1;have e2':[c]=[Value.int .i64 z]:=e2;injection e0' with e0' _
 injection e1' with e1' _
 injection e2' with e2' _
 subst e0' e1' e2';exact⟨u,p,z,rfl,Xdz w0,Xdz w1,Xsp w2⟩
theorem cut15(cs:List Value)(a n:Nat):cs.drop a=(cs.drop a).take n++cs.drop (a+n):=by
 rw[←List.drop_drop];exact(List.take_append_drop n (cs.drop a)).symm
theorem Xjp{fuel:Nat}{c0:Value}{x:DataW H × List MemPlace}(hf:DataW.trod enc Tryz.prog w base (fun _=>true) held fuel 35 [c0]=some x)(hw:Wt 35 x.1) :
 ∃A n c l,c0=.slice A n c∧(n≤c∧c≤maxLen)∧RolesIn w w.heap.size A n l∧l.length≤140737488355328:=by
 obtain⟨A,n,c,hcs,h1,h2,h3,h4⟩:=Xe2 (cs:=[c0]) Tryz.underlying35 (by rw[Xhb];omega) hf hw;obtain rfl:c0=.slice A n c:=by simpa using hcs
 obtain⟨l,k1,k2,k3,k4⟩:=Xkd (A:=A) (n:=n) (c:=c) (d:=x.1) (p:=x.2) ⟨fuel,hf⟩ hw;exact⟨A,n,c,l,rfl,⟨k1,k2⟩,k3,k4⟩
theorem Xj5{A:Option Addr}{n c:Nat}{d:DataW H}{p:List MemPlace}(h:DataW.Trod enc Tryz.prog w base (fun _=>true) held 41 (.slice A n c) d p)(hw:Wt 41 d) :
 ∃l,n≤c∧c≤maxLen∧AccsIn w w.heap.size A n l∧l.length≤140737488355328:=by
 obtain⟨fuel,hf⟩:=h;obtain⟨A',n',c',hcs,h1,h2,h3,h4⟩:=Xe2 (cs:=[.slice A n c]) Tryz.underlying41 (by rw[Xfc];omega) hf hw;obtain⟨rfl,rfl,rfl⟩:A=A'∧n=n'∧c=c':=by simpa using hcs
 rw[Xon]at h3;have:=Xff;obtain⟨A2,n2,c2,l,e2,k1,k2⟩:=Xla (c0:=.slice A n c) hf hw;obtain⟨rfl,rfl,rfl⟩:A=A2∧n=n2∧c=c2:=by simpa using e2
 exact⟨l,h1,h2,k2,by rw[k2.len];omega⟩
theorem Xk6{r:Reach}{v:Value}{d:DataW H}{p:List MemPlace}(hv:Value.okWide Tryz.prog w r b0 40 v)(h:DataW.Trod enc Tryz.prog w base (fun _=>true) held 40 v d p)(hw:Wt 40 d) :
 ∃(q:YRaw) (x:LReady),v=.agg (q.cells x).toArray∧ReadyIn w w.heap.size q x∧RdOk x:=by
 simp only[Value.okWide,Tryz.underlying40]at hv;obtain⟨arr,rfl,h2,_⟩:=hv;obtain⟨fuel,hf⟩:=h;obtain⟨xs,n,_,hx,hl,hlen,ht⟩:=DataW.trod_struct Tryz.underlying40 hf;rw[Xr7]at hl;obtain⟨y0,y1,y2,y3,y4,y5,y6,rfl⟩:∃a b c d e f g,xs=[a,b,c,d,e,f,g]:=by
  match xs,hlen with
  | [a,b,c,d,e,f,g],_=>exact⟨a,b,c,d,e,f,g,rfl⟩
 have hx1:d=.agg [y0.1,y1.1,y2.1,y3.1,y4.1,y5.1,y6.1]:=by simpa using congrArg Prod.fst hx
 rw[hx1]at hw;obtain⟨w0,w1,w2⟩:=Xmx hw;obtain⟨cs,hcs⟩:∃cs,cs=(Value.agg arr).cells.toList:=⟨_,rfl⟩;rw[←hcs]at ht hl;have t0:DataW.trod enc Tryz.prog w base (fun _=>true) held n 22 ((cs.drop 0).take 1)=some y0:=by rw[←Xrg];exact ht 0 _ rfl
 have t1:DataW.trod enc Tryz.prog w base (fun _=>true) held n 34 ((cs.drop 1).take 40)=some y1:=by rw[←Xrd];exact ht 1 _ rfl
 have t2:DataW.trod enc Tryz.prog w base (fun _=>true) held n 35 ((cs.drop 41).take 1)=some y2:=by rw[←Xqi];exact ht 2 _ rfl
 have t3:DataW.trod enc Tryz.prog w base (fun _=>true) held n 38 ((cs.drop 42).take 3)=some y3:=by rw[←Xjq];exact ht 3 _ rfl
 have t4:DataW.trod enc Tryz.prog w base (fun _=>true) held n 36 ((cs.drop 45).take 1)=some y4:=by rw[←Xg4];exact ht 4 _ rfl
 have t5:DataW.trod enc Tryz.prog w base (fun _=>true) held n 36 ((cs.drop 46).take 1)=some y5:=by rw[←Xg4];exact ht 5 _ rfl
 have t6:DataW.trod enc Tryz.prog w base (fun _=>true) held n 36 ((cs.drop 47).take 1)=some y6:=by rw[←Xg4];exact ht 6 _ rfl
 have ln:∀a n,a+n≤48→((cs.drop a).take n).length=n:=fun a n h=>by rw[List.length_take,List.length_drop];omega
 obtain⟨v0,hv0⟩:=Xfx (ln 0 1 (by omega));obtain⟨v2,hv2⟩:=Xfx (ln 41 1 (by omega));rw[hv0]at t0;rw[hv2]at t2;obtain⟨bs,b1,b2,b3⟩:=Xdt t0 w0;obtain⟨BA,bc,rfl,s1,s2,s3⟩:=b1.is;obtain⟨s,t,e1,x1,x2,x3,x4⟩:=Xj1 t1 w1;obtain⟨RA,rn,rc,rl,rfl,r1,r2,r3⟩:=Xjp t2 w2;obtain⟨u,pp,bb,e3,u1,u2,u3⟩:=Xjl t3;obtain⟨fe,e4,f4⟩:=Xew Tryz.underlying36 t4 (ln 45 1 (by omega));obtain⟨co,e5,f5⟩:=Xew Tryz.underlying36 t5 (ln 46 1 (by omega));obtain⟨pr,e6,f6⟩:=Xew Tryz.underlying36 t6 (ln 47 1 (by omega));have hsplit:cs=[.slice BA bs.length bc]++(s.cells t++([.slice RA rn rc]++([.int .u64 u,.int .u64 pp,.int .i64 bb]++([.int .u64 fe]++([.int .u64 co]++[.int .u64 pr]))))):=by
  rw[←hv0,←e1,←hv2,←e3,←e4,←e5,←e6];have h48:cs.drop 47=(cs.drop 47).take 1:=(List.take_of_length_le (by rw[List.length_drop];omega)).symm;rw[←h48,←cut15 cs 46 1,←cut15 cs 45 1,←cut15 cs 42 3,←cut15 cs 41 1,←cut15 cs 1 40,←cut15 cs 0 1];rfl
 refine⟨⟨BA,bs.length,bc,s,RA,rn,rc⟩,⟨bs,t,rl,u,pp,bb,fe,co,pr⟩,?_,⟨s1,⟨s2,s3⟩,x1,r2,r1⟩,⟨x2,x3,x4,b2,b3,r3,u1,u2,u3,Xdz f4,Xdz f5,Xdz f6⟩⟩;have:arr=(arr.toList).toArray:=by simp
 have e:arr.toList=cs:=hcs.symm;rw[this,e,hsplit];rfl
end
open Go.RowKit
def y1:List LLook:=[⟨xk 9,[2],[0,1]⟩]
def y2:List LLook:=[⟨xk 9,[],[3]⟩]
def k0:List Int:=List.replicate 32 0
def k3:List Int:=3::List.replicate 31 0
def kn(x:List Int):Bool:=decide (x=k0)||decide (x=k3)
theorem Xmm:Tryz.prog.built 62 []=some (bv k0).toArray:=by kernel_rfl
theorem Xmp:Tryz.prog.built 62 [(0,.int .u8 3)]=some (bv k3).toArray:=by kernel_rfl
theorem Xc6(w:World):Calls Tryz.prog 40 #[] w fun e w'=>e=.returned (.agg (bv k0).toArray)∧Below w.heap.size w w':=by
 go_enter Tryz.func40,Tryz.ntmps40
 go_wp2_with (first
  | ((with_reducible show wpList _ _ _ (⟨some 1,_,_,_,_,_⟩::_) _ _);go_must(refine wpList_plain rfl fun K hK=>Xae _ _ _ rfl (by simp only[List.map_toArray,List.map_nil];exact Xmm) (hK _ _ ?_)))
  | ((with_reducible show wpList _ _ _ (⟨none,Op.store 62 _ _,_,_,_,_⟩::_) _ _);go_must(refine Xa2 rfl 62 (.tmp 0) (.tmp 1) rfl (bv k0) Xan (Xbj _) rfl ?_ ?_ ?_;go_simp;go_simp;intro w1 hr1 hb1 hz1;have HR1:=Hd hr1;have HB1:=Hd hb1;clear hr1 hb1)))
 refine bodyPost_ret (results_cell_row (h:=rfl) _ w1 w.heap.size 62 _ (0,0) _ (by rfl) HR1.out.is Tryz.underlying62 rfl Xan) rfl ?_;exact⟨rfl,HB1.out⟩
theorem Xhu(w:World):Calls Tryz.prog 77 #[] w fun e w'=>e=.returned (.agg (bv k3).toArray)∧Below w.heap.size w w':=by
 go_enter Tryz.func77,Tryz.ntmps77
 go_wp2_with (first
  | ((with_reducible show wpList _ _ _ (⟨some 1,_,_,_,_,_⟩::_) _ _);go_must(refine wpList_plain rfl fun K hK=>Xae _ _ _ rfl (by simp only[List.map_toArray,List.map_cons,List.map_nil];exact Xmp) (hK _ _ ?_)))
  | ((with_reducible show wpList _ _ _ (⟨none,Op.store 62 _ _,_,_,_,_⟩::_) _ _);go_must(refine Xa2 rfl 62 (.tmp 0) (.tmp 1) rfl (bv k3) Xan (Xbj _) rfl ?_ ?_ ?_;go_simp;go_simp;intro w1 hr1 hb1 hz1;have HR1:=Hd hr1;have HB1:=Hd hb1;clear hr1 hb1)))
 refine bodyPost_ret (results_cell_row (h:=rfl) _ w1 w.heap.size 62 _ (0,0) _ (by rfl) HR1.out.is Tryz.underlying62 rfl Xan) rfl ?_;exact⟨rfl,HB1.out⟩
structure LOut where
 fail:Int
 at_:Int
 units:Int
 fee:Int
 space:Int
 ch:List LHold
structure S15 where
 now:List LAcc
 units:Int
 space:Int
def prog15(x:LReady)(a:LIn):List Int:=(rol14 x.roles a.p).key
def step15(x:LReady)(i:Nat)(a:LIn)(s:S15):Int × S15:=
 if x.u<150∨x.u - 150<s.units then(20,⟨s.now,x.u,s.space⟩)
 else if (i:Int)=x.bad then(21,⟨s.now,s.units+150,s.space⟩)
 else if prog15 x a=k0 then
  if (do14 s.now x.roles a.acc a.dat).e=0 then(0,⟨(do14 s.now x.roles a.acc a.dat).l,s.units+150,s.space+(do14 s.now x.roles a.acc a.dat).n⟩)
  else((do14 s.now x.roles a.acc a.dat).e,⟨s.now,s.units+150,s.space⟩)
 else if prog15 x a=k3 then(0,⟨s.now,s.units+150,s.space⟩)
 else(19,⟨s.now,s.units+150,s.space⟩)
def go15(x:LReady):List LIn→Nat→S15→Int × Int × S15
 | [],_,s=>(0,-1,s)
 | a::r,i,s=>if (step15 x i a s).1=0 then go15 x r (i+1) (step15 x i a s).2 else((step15 x i a s).1,(i:Int),(step15 x i a s).2)
def chg15:List LRole→List LAcc→List LHold
 | r::rs,a::l=>if r.wr then⟨r.key,a⟩::chg15 rs l else chg15 rs l
 | _,_=>[]
def out0:LOut:=⟨0,0,0,0,0,[]⟩
def run15(x:LReady)(l:List LAcc):LOut × Int:=
 if l.length≠x.roles.length then(out0,1)
 else if ∃a ∈ x.tx.m.ins,(x.roles.length:Int)≤a.p then(out0,1)
 else if (go15 x x.tx.m.ins 0 ⟨l,0,0⟩).1=0 then
  (⟨0,-1,(go15 x x.tx.m.ins 0 ⟨l,0,0⟩).2.2.units,x.fee,(go15 x x.tx.m.ins 0 ⟨l,0,0⟩).2.2.space,chg15 x.roles (go15 x x.tx.m.ins 0 ⟨l,0,0⟩).2.2.now⟩,0)
 else(⟨(go15 x x.tx.m.ins 0 ⟨l,0,0⟩).1,(go15 x x.tx.m.ins 0 ⟨l,0,0⟩).2.1,(go15 x x.tx.m.ins 0 ⟨l,0,0⟩).2.2.units,x.fee,0,chg15 x.roles l⟩,0)
theorem Xbp{w:World}{base base' size n:Nat}{e:TypeId}{v:Value}{xs:List Value}(h:w.ownsRow base e size v n xs)(hb:base'≤base):w.ownsRow base' e size v n xs:=by
 refine⟨h.1,?_⟩;rcases h.2 with h2 | ⟨g,cap,cur,h1,h2,h3⟩
 ·exact .inl h2
 ·exact .inr ⟨g,cap,cur,h1,Lq hb h2,h3⟩
theorem Xdg{l m:List Value}(hl:l.length=32)(hm:m.length=34):Tryz.prog.built 74 [(0,.agg l.toArray),(1,.agg m.toArray)]=some (l++m).toArray:=by
 obtain⟨f,rfl⟩:=Xpc hl;obtain⟨g,rfl⟩:∃u:Fin 34→Value,m=List.ofFn u:=⟨fun i=>m.getD i undef,by
  refine List.ext_getElem (by simpa using hm) fun i h3 h4=>?_
  rw[List.getElem_ofFn,List.getD_eq_getElem?_getD,List.getElem?_eq_getElem h3];rfl⟩
 kernel_rfl
def holC(L:List LHold):List Value:=(L.map LHold.cells).flatten
theorem Xk4(L:List LHold)(x:LHold):holC (L++[x])=holC L++x.cells:=by simp[holC]
theorem Xgi:∀{k:Nat} {rs:List LRole} {l:List LAcc} {r:LRole} {a:LAcc},rs[k]?=some r→l[k]?=some a→chg15 (rs.take (k+1)) (l.take (k+1))=chg15 (rs.take k) (l.take k)++(if r.wr then[⟨r.key,a⟩]else[])
 | 0,r'::rs,a'::l,r,a,hr,ha=>by
  have h1:r'=r:=by simpa using hr
  have h2:a'=a:=by simpa using ha
  subst h1 h2;simp[chg15]
 | k+1,r'::rs,a'::l,r,a,hr,ha=>by
  have ih:=Xgi (k:=k) (rs:=rs) (l:=l) (r:=r) (a:=a) (by simpa using hr) (by simpa using ha);simp only[List.take_succ_cons,chg15];rw[ih];split
  ·rfl
  ·rfl
 | 0,[],_,r,a,hr,_=>by cases hr
 | 0,_::_,[],r,a,_,ha=>by cases ha
 | k+1,[],_,r,a,hr,_=>by cases hr
 | k+1,_::_,[],r,a,_,ha=>by cases ha
theorem Xda:∀(rs:List LRole) (l:List LAcc),(chg15 rs l).length≤l.length
 | [],_=>by simp[chg15]
 | _::_,[]=>by simp[chg15]
 | r::rs,a::l=>by
  have ih:=Xda rs l;unfold chg15;split
  ·simpa using ih
  ·exact Nat.le_succ_of_le ih
def ChgDone(w:World)(L:List LHold)(e:Ending)(w':World):Prop:=∃v,e=.returned v∧w'.ownsRow w.heap.size 74 66 v L.length (holC L)∧Below w.heap.size w w'
theorem Xf7(q:YRaw)(x:LReady)(B:Nat)(LA:Option Addr)(ln lc:Nat)(l:List LAcc)(w:World)(h:ReadyIn w B q x)(hl:AccsIn w B LA ln l)(hlc:ln≤lc)(hn:ln=q.rn)(hB:B≤w.heap.size)(hln:ln≤100000):Calls Tryz.prog 31 #[.agg (q.cells x).toArray,.slice LA ln lc] w (ChgDone w (chg15 x.roles l)):=by
 have HB:=Hd hB;have H32:=Hd h.tx.m.recent;have HIN:=Hd (fun(V:World) (hb:Below w.heap.size w V)=>h.below (hb.mono hB));have HLN:=Hd (fun(V:World) (hb:Below w.heap.size w V)=>hl.below (hb.mono hB));have HLL:=Hd hl.len;have HRL:=Hd h.rs.len;have HNN:=Hd hn;have R1:=Hd (Row.new w 40 (q.cells x));have B1:=Hd ((Br w.heap.size w).alloc (Lr _) (.cells (q.cells x).toArray 40));obtain⟨g,hg⟩:∃g,g=w.heap.size:=⟨_,rfl⟩;have HG:Hid (w.heap.size=g):=Hd hg.symm;rw[←hg]at R1;clear h hl hB hn hg;generalize hW:w.alloc (.cells (q.cells x).toArray 40)=W at *;have HW:=Hd hW;clear hW;go_enter Tryz.func31,Tryz.ntmps31
 go_upto_region 2 with fail
 try rw[HG.out]
 rw[HW.out];clear HG HW;obtain⟨base,hbase⟩:∃b,b=W.heap.size:=⟨_,rfl⟩;have HGB:Hid (g<base∧w.heap.size≤base):=Hd (by rw[hbase];exact⟨R1.out.lt,B1.out.size⟩);go_wp2_with fail;go_loopw [5,6] (fun o i wr=>∃k:Nat,k≤ln∧i=.int .i64 k∧wr.ownsRow base 74 66 o (chg15 (x.roles.take k) (l.take k)).length (holC (chg15 (x.roles.take k) (l.take k)))∧Below base W wr∧base≤wr.heap.size) (fun _ i _=>ln - (intOf i).toNat)
 case atStart=>exact⟨0,Nat.zero_le _,rfl,by rw[List.take_zero];exact Xaq _ _ _ _,Br _ _,Nat.le_of_eq hbase⟩
 case round =>
  obtain⟨k,hk,rfl,hown,hbw,hsz⟩:=hrel;have O:=Hd hown;have BW:=Hd hbw;have SZ:=Hd hsz;clear hown hbw hsz;rename World=>wr
  have BA:Hid (Below w.heap.size w wr):=Hd (B1.out.trans (BW.out.mono HGB.out.2));have RR:=Hd (R1.out.below BW.out HGB.out.1);by_cases hlt:k<ln
  ·have hlt':(k:Int)<ln:=by omega
   have hk100:k<100000:=by omega
   obtain⟨ra,y,era,hrb,hy,hyo,hyc⟩:=(HIN.out wr BA.out).rs.get (k:=k) (by rw[←HNN.out];exact hlt);obtain⟨la,z,ela,hlb,hz,hzo,hzc⟩:=(HLN.out wr BA.out).get hlt;have HSN:=Hd (Xgi hy hz);have HYC:=Hd hyc;have HZC:=Hd hzc;have HYO:=Hd hyo;have HZO:=Hd hzo;have HBL:Hid (ra.block<base∧la.block<base):=Hd ⟨Nat.lt_of_lt_of_le hrb (Lq HB.out HGB.out.2),Nat.lt_of_lt_of_le hlb (Lq HB.out HGB.out.2)⟩;have hrk:(k:Int)<q.rn:=by rw[←HNN.out];exact hlt'
   have c41:wr.cell? ⟨g,41,none⟩=some (.slice (some ra) q.rn q.rc):=by
    rw[←era];exact(RR.out.cell 41).trans (Xaj H32.out 0)
   have cw:wr.cell? ⟨(ra.add (k*34)).block,(ra.add (k*34)).off+33,none⟩=some (.bool y.wr):=hyc 33 _ (Xcr hyo.1);subst ela;clear era hrb hy hyo hyc hlb hz hzo hzc;cases hw:y.wr with
   | false =>
    rw[hw]at cw HSN;go_wp2_with fail;go_roundw
    case rel=>exact⟨k+1,by omega,by go_num,by rw[HSN.out];simpa using O.out,BW.out,SZ.out⟩
    case measure=>simp[intOf];omega
   | true =>
    rw[hw]at cw HSN;rw[if_pos rfl]at HSN;go_upto_region 6 with fail
    have HC41:=Hd c41;clear c41 cw;have HKK:Hid ((LHold.mk y.key z).cells.length=66):=Hd (Xf3 HYO.out.1 HZO.out.o.1);have HBU:=Hd (Xdg (l:=bv y.key) (m:=z.cells) (by rw[bL,HYO.out.1]) (Xbt HZO.out.o.1));refine wp_region_held_drew (S:=fun V=>Below base wr V) (by kernel_rfl) (Br base wr).drew (fun _=>?_);have O:=Hd (show wr.drew.ownsRow base 74 66 u5 _ _ from O.out);have BD:=Hd (Br base wr).drew;have SZ:Hid (base≤wr.drew.heap.size):=Hd SZ.out;generalize wr.drew=wd at *;refine Tk 0 rfl ?_ BD.out ?_ ⟨?_,rfl⟩
    ·intro w hw;(try dsimp only at hw);go_simp;try with_reducible rfl
    try simp only[nm]
    refine Tk 1 rfl ?_ BD.out ?_ ⟨?_,rfl⟩
    ·intro w hw;(try dsimp only at hw);go_simp;try with_reducible rfl
    try simp only[nm]
    refine Tk 2 rfl ?_ BD.out ?_ ⟨?_,rfl⟩
    ·intro w hw;try dsimp only at hw
     have c41:=(hw.cell (p:=⟨g,41,none⟩) HGB.out.1).trans HC41.out;go_simp;try with_reducible rfl
    try simp only[nm]
    refine Tk 3 rfl ?_ BD.out ?_ ⟨?_,rfl⟩
    ·intro w hw;(try dsimp only at hw);go_simp;try with_reducible rfl
    try simp only[nm]
    refine Tk 4 rfl ?_ BD.out ?_ ⟨?_,rfl⟩
    ·intro w hw;(try dsimp only at hw);go_simp;try with_reducible rfl
    try simp only[nm]
    refine Tk 5 rfl ?_ BD.out ?_ ⟨?_,rfl⟩
    ·intro w hw;(try dsimp only at hw);go_simp;try with_reducible rfl
    try simp only[nm]
    refine Tl 6 (v:=.agg (bv y.key).toArray) rfl (Or.inl ⟨by rfl,fun wz hwz=>Xa4 wz 62 (.tmp 24) rfl (ra.add (k*34)) (bv y.key) _ Tryz.underlying62 rfl (by rw[Xan,bL,HYO.out.1]) (fun j u hu=>(hwz.cell (by rw[Xad,Xad];exact HBL.out.1)).trans (HYC.out j u (by unfold LRole.cells;rw[List.getElem?_append_left (List.getElem?_eq_some_iff.1 hu).1];exact hu))) (by go_simp)⟩) BD.out ?_;try simp only[nm]
    refine Tk 7 rfl ?_ BD.out ?_ ⟨?_,rfl⟩
    ·intro w hw;(try dsimp only at hw);go_simp;try with_reducible rfl
    try simp only[nm]
    refine Tk 8 rfl ?_ BD.out ?_ ⟨?_,rfl⟩
    ·intro w hw;(try dsimp only at hw);go_simp;try with_reducible rfl
    try simp only[nm]
    refine Tk 9 rfl ?_ BD.out ?_ ⟨?_,rfl⟩
    ·intro w hw;(try dsimp only at hw);go_simp;try with_reducible rfl
    try simp only[nm]
    refine Tl 10 (v:=.agg z.cells.toArray) rfl (Or.inl ⟨by rfl,fun wz hwz=>Xa4 wz 69 (.tmp 28) rfl (la.add (k*34)) z.cells _ Tryz.underlying69 rfl (Xam HZO.out.o.1) (fun j u hu=>(hwz.cell (by rw[Xad,Xad];exact HBL.out.2)).trans (HZC.out j u hu)) (by go_simp)⟩) BD.out ?_;try simp only[nm]
    refine Tl 11 (v:=.agg (LHold.mk y.key z).cells.toArray) rfl (Or.inl ⟨by rfl,fun wz hwz=>Xa9 wz _ _ _ rfl (by simp only[List.map_toArray,List.map_cons,List.map_nil];exact HBU.out)⟩) BD.out ?_;try simp only[nm]
    refine Rl 12 rfl fun K hK=>?_
    refine Xb6 47 74 (.tmp 30) rfl (LHold.mk y.key z).cells _ 66 80 Tryz.underlying47 Xmn zszHo (by omega) (by omega) HKK.out (by go_simp) ?_;have BE:=Hd (BD.out.alloc SZ.out (.cells (LHold.mk y.key z).cells.toArray 74));refine hK.out _ _ BE.out ?_;clear hK K;try simp only[nm]
    refine Rl 13 rfl fun K hK=>?_
    refine Xc4 (.tmp 19) (.tmp 31) 47 rfl base 74 _ 66 80 Tryz.underlying47 Xmn zszHo (by omega) u5 _ _ (LHold.mk y.key z).cells 1 HKK.out (Xjj _) rfl (by go_simp) O.out (by go_simp) SZ.out (by have:=Xda (x.roles.take k) (l.take k);have:=List.length_take_le k l;unfold maxLen;omega) (by have:=Xda (x.roles.take k) (l.take k);have:=List.length_take_le k l;omega) (fun v9 w9 ho9 hg9=>?_);have B9:=Hd (BD.out.trans (hg9.below O.out SZ.out));have O9:=Hd ho9;clear ho9 hg9 BE;refine hK.out _ _ B9.out ?_;clear hK K;try simp only[nm]
    refine Tk 14 rfl ?_ B9.out ?_ ⟨?_,rfl⟩
    ·intro w hw;(try dsimp only at hw);go_simp;try with_reducible rfl
    try simp only[nm]
    refine wpAnyH_done (by kernel_rfl) ?_ _;go_wp2_with fail;go_roundw
    case rel=>exact⟨k+1,by omega,by go_num,by rw[HSN.out,Xk4,List.length_append];exact O9.out,BW.out.trans B9.out,by have h1:=BW.out.size;have h2:=B9.out.size;rw[hbase];exact Lq h1 h2⟩
    case measure=>simp[intOf];omega
  ·obtain rfl:k=ln:=by omega
   have e1:x.roles.take k=x.roles:=List.take_of_length_le (by rw[HRL.out,←HNN.out];exact Lr _);have e2:l.take k=l:=List.take_of_length_le (by rw[HLL.out];exact Lr _);have O2:=O.out;rw[e1,e2]at O2;have O3:=Hd O2;clear e1 e2 O2 O;go_wp2_with fail;go_ret;exact⟨_,rfl,Xbp O3.out HGB.out.2,BA.out⟩
theorem sameHo(A B:Option Addr)(n c d:Nat)(l:List (List Value))(w:World)(S T:Nat)(hx:CsIn 66 w S A n l)(hy:CsIn 66 w T B n l)(ho:∀k ∈ l,IsHo k)(hn:n≤maxLen) :
 Calls Tryz.prog 32 #[.slice A n c,.slice B n d] w fun e w'=>e=.returned (.bool true)∧∃k,w'=w.drewN k:=by
 unfold maxLen at hn;have HX:=Hd hx;have HY:=Hd hy;have HO:=Hd ho;clear hx hy ho;go_enter Tryz.func32,Tryz.ntmps32
 go_wp2;go_loopw [5] (fun i wr=>∃k j:Nat,k≤n∧i=.int .i64 k∧wr=w.drewN j) (fun i _=>n - (intOf i).toNat)
 case atStart=>exact⟨0,0,Nat.zero_le _,rfl,rfl⟩
 case round =>
  obtain⟨k,j,hk,rfl,rfl⟩:=hrel;by_cases hlt:k<n
  ·obtain⟨a,x,rfl,ha,hxl,_,ca⟩:=HX.out.get hlt (by omega);obtain⟨b,y,rfl,hb,hyl,_,cb⟩:=HY.out.get hlt (by omega);obtain rfl:x=y:=by rw[hxl]at hyl;exact Option.some.inj hyl
   have hxo:=HO.out x (List.mem_of_getElem? hxl);have NQ:=fun w=>hxo.neq w
   have HSZ:=Hd hxo.size;have CA:=Hd ca;have CB:=Hd cb;clear ca cb hxl hyl hxo;go_wp2;refine wp_region_quiet_lit (by kernel_rfl) (by kernel_rfl) ?_;repeat (first
    | ((with_reducible show wpQuiet _ _ _ _ (⟨some 20,_,_,_,_,_⟩::_) _);go_must(refine Xai (by kernel_rfl) 74 (.tmp 19) rfl (a.add (k*66)) x _ Tryz.underlying74 rfl HSZ.out (by rintro _ ⟨nq,rfl⟩;exact CA.out) ?_ ?_;go_simp;go_simp))
    | ((with_reducible show wpQuiet _ _ _ _ (⟨some 24,_,_,_,_,_⟩::_) _);go_must(refine Xai (by kernel_rfl) 74 (.tmp 23) rfl (b.add (k*66)) x _ Tryz.underlying74 rfl HSZ.out (by rintro _ ⟨nq,rfl⟩;exact CB.out) ?_ ?_;go_simp;go_simp))
    | go_big_quiet_step (fail))
   refine wpQuiet_nil ?_;intro nq;go_wp2;go_roundw
   case rel=>exact⟨k+1,j+nq,by omega,by go_num,by simp⟩
   case measure=>simp[intOf];omega
  ·go_wp2;go_ret;exact⟨rfl,j,rfl⟩
def LOut.cells(o:LOut)(v:Value):List Value:=[.int .i64 o.fail,.int .i64 o.at_,.int .u64 o.units,.int .u64 o.fee,.int .u64 o.space,v]
theorem Xag(o:LOut)(v:Value):(Tryz.prog.info? 49).map (·.size)=some (o.cells v).length:=by kernel_rfl
theorem Xbk:(Tryz.prog.info? 49).map (·.zero)=some (some (.agg (out0.cells (.slice none 0 0)).toArray)):=by kernel_rfl
theorem Xb5(o:LOut){v:Value}(hv:v.oneCell'=true):∀u ∈ o.cells v,u.oneCell'=true:=by
 intro u hu;unfold LOut.cells at hu;simp only[List.mem_cons,List.not_mem_nil,or_false]at hu;rcases hu with rfl | rfl | rfl | rfl | rfl | rfl
 ·rfl
 ·rfl
 ·rfl
 ·rfl
 ·rfl
 ·exact hv
def HolsOk(l:List LHold):Prop:=∀x ∈ l,x.k.length=32∧x.a.o.length=32
theorem Xp6(o:LOut)(A B:Option Addr)(n c d:Nat)(S T:Nat)(w:World)(hx:CsIn 66 w S A n (o.ch.map LHold.cells))(hS:S≤w.heap.size)(hy:CsIn 66 w T B n (o.ch.map LHold.cells))(hT:T≤w.heap.size)(ho:HolsOk o.ch)(hn:n≤maxLen) :
 Calls Tryz.prog 10 #[.agg (o.cells (.slice A n c)).toArray,.agg (o.cells (.slice B n d)).toArray] w fun e w'=>e=.returned (.bool true)∧Below w.heap.size w w':=by
 have hb0:=((Br w.heap.size w).alloc (Lr _) (.cells (o.cells (.slice A n c)).toArray 49)).alloc (by simp) (.cells (o.cells (.slice B n d)).toArray 49);have R1:=Hd ((Row.new w 49 (o.cells (.slice A n c))).alloc (.cells (o.cells (.slice B n d)).toArray 49));have R2:=Hd (Row.new' (w.alloc (.cells (o.cells (.slice A n c)).toArray 49)) 49 (o.cells (.slice B n d)) (g:=w.heap.size+1) (by simp));have HB0:=Hd hb0;have HIS:Hid (∀k ∈ o.ch.map LHold.cells,IsHo k):=Hd fun k hk=>by
  obtain⟨x,hx,rfl⟩:=List.mem_map.1 hk;exact Xpg (ho x hx).1 (ho x hx).2
 have HSM:=Hd (sameHo A B n c d _ _ S T (hx.below (hb0.mono hS)) (hy.below (hb0.mono hT)) HIS.out hn);obtain⟨g2,hg2⟩:∃g,g=w.heap.size+1:=⟨_,rfl⟩;obtain⟨g1,hg1⟩:∃g,g=w.heap.size:=⟨_,rfl⟩;have HG2:Hid (w.heap.size+1=g2):=Hd hg2.symm;have HG1:Hid (w.heap.size=g1):=Hd hg1.symm;rw[←hg2]at R2;rw[←hg1]at R1;clear hb0 hg2 hg1 hx hy hS hT ho hn;have R2':Hid (Row ((w.alloc (.cells (o.cells (.slice A n c)).toArray 49)).alloc (.cells (o.cells (.slice B n d)).toArray 49)) g2 49 (o.cells (.slice B n d))):=Hd R2.out;clear R2;generalize hW:(w.alloc (.cells (o.cells (.slice A n c)).toArray 49)).alloc (.cells (o.cells (.slice B n d)).toArray 49)=W at *;have HW:=Hd hW;clear hW;go_enter Tryz.func10,Tryz.ntmps10
 go_upto_region 1 with fail
 try rw[HG2.out]
 try rw[HG1.out]
 rw[HW.out];clear HG2 HG1 HW;have a0:W.cell? ⟨g1,0,none⟩=some (.int .i64 o.fail):=R1.out.cell 0;have a1:W.cell? ⟨g1,1,none⟩=some (.int .i64 o.at_):=R1.out.cell 1;have a2:W.cell? ⟨g1,2,none⟩=some (.int .u64 o.units):=R1.out.cell 2;have a3:W.cell? ⟨g1,3,none⟩=some (.int .u64 o.fee):=R1.out.cell 3;have a4:W.cell? ⟨g1,4,none⟩=some (.int .u64 o.space):=R1.out.cell 4;have a5:W.cell? ⟨g1,5,none⟩=some (.slice A n c):=R1.out.cell 5;have b0:W.cell? ⟨g2,0,none⟩=some (.int .i64 o.fail):=R2'.out.cell 0;have b1:W.cell? ⟨g2,1,none⟩=some (.int .i64 o.at_):=R2'.out.cell 1;have b2:W.cell? ⟨g2,2,none⟩=some (.int .u64 o.units):=R2'.out.cell 2;have b3:W.cell? ⟨g2,3,none⟩=some (.int .u64 o.fee):=R2'.out.cell 3;have b4:W.cell? ⟨g2,4,none⟩=some (.int .u64 o.space):=R2'.out.cell 4;have b5:W.cell? ⟨g2,5,none⟩=some (.slice B n d):=R2'.out.cell 5;go_wp2_with fail;refine HSM.out.mono ?_;rintro e w1 ⟨rfl,k,hw1⟩;have B1:Hid (Below w.heap.size w w1):=Hd (by rw[hw1];exact below_drewN HB0.out k);clear hw1;go_wp2_with fail;go_ret;exact⟨rfl,B1.out⟩
theorem Xhv(w:World):Calls Tryz.prog 28 #[] w fun e w'=>e=.returned (.agg (bv k0).toArray)∧Below w.heap.size w w':=by
 go_enter Tryz.func28,Tryz.ntmps28
 go_wp2_with (first
  | ((with_reducible show wpList _ _ _ (⟨some 1,_,_,_,_,_⟩::_) _ _);go_must(refine wpList_plain rfl fun K hK=>Xae _ _ _ rfl (by simp only[List.map_toArray,List.map_nil];exact Xmm) (hK _ _ ?_)))
  | ((with_reducible show wpList _ _ _ (⟨none,Op.store 62 _ _,_,_,_,_⟩::_) _ _);go_must(refine Xa2 rfl 62 (.tmp 0) (.tmp 1) rfl (bv k0) Xan (Xbj _) rfl ?_ ?_ ?_;go_simp;go_simp;intro w1 hr1 hb1 hz1;have HR1:=Hd hr1;have HB1:=Hd hb1;clear hr1 hb1)))
 refine bodyPost_ret (results_cell_row (h:=rfl) _ w1 w.heap.size 62 _ (0,0) _ (by rfl) HR1.out.is Tryz.underlying62 rfl Xan) rfl ?_;exact⟨rfl,HB1.out⟩
theorem Xi5(w:World):Calls Tryz.prog 30 #[] w fun e w'=>e=.returned (.agg (bv k3).toArray)∧Below w.heap.size w w':=by
 go_enter Tryz.func30,Tryz.ntmps30
 go_wp2_with (first
  | ((with_reducible show wpList _ _ _ (⟨some 1,_,_,_,_,_⟩::_) _ _);go_must(refine wpList_plain rfl fun K hK=>Xae _ _ _ rfl (by simp only[List.map_toArray,List.map_cons,List.map_nil];exact Xmp) (hK _ _ ?_)))
  | ((with_reducible show wpList _ _ _ (⟨none,Op.store 62 _ _,_,_,_,_⟩::_) _ _);go_must(refine Xa2 rfl 62 (.tmp 0) (.tmp 1) rfl (bv k3) Xan (Xbj _) rfl ?_ ?_ ?_;go_simp;go_simp;intro w1 hr1 hb1 hz1;have HR1:=Hd hr1;have HB1:=Hd hb1;clear hr1 hb1)))
 refine bodyPost_ret (results_cell_row (h:=rfl) _ w1 w.heap.size 62 _ (0,0) _ (by rfl) HR1.out.is Tryz.underlying62 rfl Xan) rfl ?_;exact⟨rfl,HB1.out⟩
theorem Xu9(x y z:Int):(Tryz.prog.info? 38).map (·.size)=some ([.int .u64 x,.int .u64 y,.int .i64 z]:List Value).length:=by kernel_rfl
def xq(a:Int):List Int:=a::List.replicate 31 0
def e7:List LRole:=[⟨xq 1,true,true⟩,⟨xq 2,true,false⟩,⟨xq 4,false,true⟩,⟨k0,false,false⟩]
def q8(g:Nat)(A:Option Addr)(n c:Nat):Raw:=⟨some ⟨g,0,none⟩,3,3,A,n,c,none,0,0⟩
theorem Xtk:Tryz.prog.stoodInHeld 38=false:=by kernel_rfl
theorem Xpz:Tryz.prog.underlying 38=some (.struct (Tryz.prog.fieldsOf 38)):=by kernel_rfl
theorem Xuk(a b:Int)(w:World):(Op.equalIn 9999 36 (.int .u64 a) (.int .u64 b)).run Tryz.prog w=.ok (a==b) w:=by
 have:=run_equalIn_int (P:=Tryz.prog) w 9998 36 .u64 .u64 a b Tryz.underlying36;rwa [show(9998+1:Nat)=9999 from rfl]at this
theorem Xvz(a b:Int)(w:World):(Op.equalIn 9999 3 (.int .i64 a) (.int .i64 b)).run Tryz.prog w=.ok (a==b) w:=by
 have:=run_equalIn_int (P:=Tryz.prog) w 9998 3 .i64 .i64 a b Tryz.underlying3;rwa [show(9998+1:Nat)=9999 from rfl]at this
theorem Xom(X Y:Array Value)(w:World){a b c a' b' c':Int}(pa:(part 36 X 0).run Tryz.prog w=.ok (.int .u64 a) w)(pa':(part 36 Y 0).run Tryz.prog w=.ok (.int .u64 a') w)
 (pb:(part 36 X 1).run Tryz.prog w=.ok (.int .u64 b) w) (pb':(part 36 Y 1).run Tryz.prog w=.ok (.int .u64 b') w) (pc:(part 3 X 2).run Tryz.prog w=.ok (.int .i64 c) w) (pc':(part 3 Y 2).run Tryz.prog w=.ok (.int .i64 c') w) :
 (Op.eqFields 9999 X Y (Tryz.prog.fieldsOf 38).toList).run Tryz.prog w=.ok ((a==a')&&(b==b')&&(c==c')) w:=by
 simp only[Program.fieldsOf,Tryz.underlying38];have h1:=Xuk;have h2:=Xvz;simp only[Op.eqFields,ne_eq,String.reduceEq,not_false_eq_true,if_true,Sem.run_bind,pa,pa',Result.andThen_ok,h1];cases (a==a')
 ·simp
 ·simp only[Bool.not_true,Bool.false_eq_true,if_false,pb,pb',Sem.run_bind,Result.andThen_ok,h1];cases (b==b')
  ·simp
  ·simp only[Bool.not_true,Bool.false_eq_true,if_false,pc,pc',Sem.run_bind,Result.andThen_ok,h2];cases (c==c') <;> simp
theorem Xs9(x y z x' y' z':Int)(w:World):(Op.equalIn 10000 38 (.agg ([.int .u64 x,.int .u64 y,.int .i64 z]:List Value).toArray) (.agg ([.int .u64 x',.int .u64 y',.int .i64 z']:List Value).toArray)).run Tryz.prog w=.ok ((x==x')&&(y==y')&&(z==z')) w:=by
 rw[show(10000:Nat)=9999+1 from rfl,run_equalIn_struct w 9999 38 _ _ Xpz Xtk];exact Xom _ _ w (run_part_plain (P:=Tryz.prog) w (by kernel_rfl) rfl) (run_part_plain (P:=Tryz.prog) w (by kernel_rfl) rfl) (run_part_plain (P:=Tryz.prog) w (by kernel_rfl) rfl) (run_part_plain (P:=Tryz.prog) w (by kernel_rfl) rfl) (run_part_plain (P:=Tryz.prog) w (by kernel_rfl) rfl) (run_part_plain (P:=Tryz.prog) w (by kernel_rfl) rfl)
theorem Xv2(x y z:Int)(w:World):(binOp .eql 38 (.agg ([.int .u64 x,.int .u64 y,.int .i64 z]:List Value).toArray) (.agg ([.int .u64 x,.int .u64 y,.int .i64 z]:List Value).toArray)).run Tryz.prog w=.ok (.bool true) w:=by
 rw[run_eql_struct,Xs9];simp
theorem InsIn.take{w:World}{B n k:Nat}{A:Option Addr}{l:List LIn}(h:InsIn w B A n l)(hk:k≤n):InsIn w B A k (l.take k):=
 ⟨by rw[List.length_take,h.len];omega,fun i x hx=>by
  rw[List.getElem?_take]at hx;split at hx
  ·exact h.at_ i x hx
  ·cases hx⟩
section
variable{P:Program}{w:World}{o:Oper}{a:Act}
theorem Xsa(t e:TypeId)(x j:Operand)(sz:Nat)(ho:o.op=.slice t x none (some j) none)(ht:P.underlying t=some (.slice e))(hsz:(P.info? e).map (·.size)=some sz)
 (A:Option Addr) (n c k:Nat) (hx:a.eval x=.slice A n c) (hj:a.eval j=.int .i64 k) (hk:k≤c) :
 (execOp a.eval o).run P w=.ok (.value (.slice A k c)) w:=by
 obtain⟨ie,hie,hs1⟩:∃i,P.info? e=some i∧i.size=sz:=by
  cases h:P.info? e with
  | none=>rw[h]at hsz;cases hsz
  | some i=>rw[h]at hsz;exact⟨i,rfl,by simpa using hsz⟩
 have he:P.elem t=e:=by simp[Program.elem,ht]
 have ht':P.underlying t=some (.slice (P.elem t)):=by rw[he];exact ht
 have hso:(sizeOf e).run P w=.ok sz w:=by simp[sizeOf,typeInfo,hie,hs1]
 have h0:(0:Int)≤k:=by omega
 have h2:(k:Int)≤c:=by omega
 have ha:(if c=0 then A else A.map (·.add (0*sz)))=A:=by
  split
  ·rfl
  ·cases A with
   | none=>rfl
   | some ad=>simp[Addr.add]
 unfold execOp;simp only[ho,hx,hj,Option.map_some,Option.map_none];simp only[Sem.run_bind,run_sliceAt_slice w t _ _ _ _ ht',run_slice_h w t A n c ht' .i64 k h0 h2,he,hso,Result.andThen_ok,sliced,Int.toNat_natCast,Sem.run_pure,Nat.sub_zero,ha]
theorem Xl2{ops:Array Oper}{rest:List Oper}{Q:Exit→Act→World→Prop}(hgd:o.guard=none)(t e:TypeId)(x j:Operand)(sz:Nat)(ho:o.op=.slice t x none (some j) none)(ht:P.underlying t=some (.slice e))(hsz:(P.info? e).map (·.size)=some sz)
 (A:Option Addr) (n c k:Nat) (hx:a.eval x=.slice A n c) (hj:a.eval j=.int .i64 k) (hk:k≤c)
 (h:wpList P ops Q rest (a.put o.dst (.slice A k c)) w):wpList P ops Q (o::rest) a w:=
 wpList_plain hgd fun K hK=>by
  unfold Oper.wp;rw[Xsa t e x j sz ho ht hsz A n c k hx hj hk];exact hK _ _ h
end
def fldC(A:Option Addr)(n c:Nat)(sh:Bool):List Value:=[.slice A n c,.bool sh]
theorem pre14{w:World}{B n m:Nat}{A:Option Addr}{zs:List Int}(h:Sees w B A n (bv zs))(hm:m≤n):Sees w B A m (bv (zs.take m)):=by
 have hl:=h.len;rw[bL]at hl;refine⟨by rw[bL,List.length_take];omega,fun i u hu=>h.cell i u ?_⟩;rw[bv_getElem?]at hu ⊢;rw[List.getElem?_take]at hu;split at hu
 ·exact hu
 ·cases hu
theorem Xia(zs:List Int):∀(k m:Nat),k≤m→num (zs.take m) k=num zs k
 | 0,_,_=>rfl
 | k+1,m,h=>by
  have ih:=Xia zs k m (by omega);have hg:(zs.take m).getD k 0=zs.getD k 0:=by
   rw[List.getD_eq_getElem?_getD,List.getD_eq_getElem?_getD,List.getElem?_take,if_pos (by omega)]
  rw[num,num,ih,hg]
theorem Xn3{zs:List Int}(h:AllBytes zs)(m:Nat):AllBytes (zs.take m):=fun z hz=>h z (List.mem_of_mem_take hz)
theorem Xoj{zs:List Int}(h:AllBytes zs)(m:Nat):AllBytes (zs.drop m):=fun z hz=>h z (List.mem_of_mem_drop hz)
theorem Xo0{m:Nat}(h1:1≤m)(h8:m≤8):getN [] m=(0,5):=Xil h1 h8 (by simp;omega)
theorem Xjr(g:Nat)(A:Option Addr)(n c m:Nat)(sh:Bool)(w:World)(hr:Row w g 197 (fldC A n c sh))(hm:m≤n)(hnc:n≤c)(hc:c≤maxLen) :
 Calls Tryz.prog 106 #[.pointer (some ⟨g,0,none⟩),.int .i64 m] w fun e w'=>e=.returned (.slice A m c)∧w'=w.setCell ⟨g,0,none⟩ (.slice (tailAt A c m) (n - m) (c - m)):=by
 have c0:w.cell? ⟨g,0,none⟩=some (.slice A n c):=hr.cell 0;have f0:=hr.frozen 0;have hlt':¬(n:Int)<m:=by omega
 have HM:=Hd hm;have HMC:=Hd (Lq hm hnc);have HNC:=Hd hnc;have HC:=Hd hc;clear hr hm hnc hc;go_enter Tryz.func106,Tryz.ntmps106
 go_wp2_with (first
  | ((with_reducible show wpList _ _ _ (⟨some 21,_,_,_,_,_⟩::_) _ _);go_must(refine Xl2 rfl 22 5 (.tmp 19) (.tmp 20) 1 rfl Tryz.underlying22 Xb2 A n c m ?_ ?_ HMC.out ?_;go_simp;go_simp))
  | ((with_reducible show wpList _ _ _ (⟨some 28,_,_,_,_,_⟩::_) _ _);go_must(refine Xbe rfl 22 5 (.tmp 26) (.tmp 27) rfl Tryz.underlying22 Xb2 A n c m ?_ ?_ HM.out HNC.out HC.out ?_;go_simp;go_simp)))
 go_ret;exact⟨rfl,rfl⟩
theorem Xkf(g:Nat)(A:Option Addr)(n c m:Nat)(sh:Bool)(w:World)(hr:Row w g 197 (fldC A n c sh))(hm:n<m) :
 Calls Tryz.prog 106 #[.pointer (some ⟨g,0,none⟩),.int .i64 m] w fun e w'=>e=.returned (.slice none 0 0)∧w'=w.setCell ⟨g,1,none⟩ (.bool true):=by
 have c0:w.cell? ⟨g,0,none⟩=some (.slice A n c):=hr.cell 0;have c1:w.cell? ⟨g,1,none⟩=some (.bool sh):=hr.cell 1;have f1:=hr.frozen 1;have hlt':(n:Int)<m:=by omega
 clear hr hm;go_enter Tryz.func106,Tryz.ntmps106
 go_wp2_with fail;go_ret;exact⟨rfl,rfl⟩
theorem Xkz(g:Nat)(A:Option Addr)(n c m S:Nat)(sh:Bool)(zs:List Int)(w:World)(hr:Row w g 197 (fldC A n c sh))(hs:Sees w S A n (bv zs))(hS:S≤g)(hz:AllBytes zs)(h1:1≤m)(h8:m≤8)(hm:m≤n)(hnc:n≤c)(hc:c≤maxLen) :
 Calls Tryz.prog 97 #[.pointer (some ⟨g,0,none⟩),.int .i64 m] w fun e w'=>e=.returned (.int .u64 (num zs m))∧w'=w.setCell ⟨g,0,none⟩ (.slice (tailAt A c m) (n - m) (c - m)):=by
 have HN:=Hd (Xjr g A n c m sh w hr hm hnc hc);have hT:Turned w (w.setCell ⟨g,0,none⟩ (.slice (tailAt A c m) (n - m) (c - m))) g:=Xa6 w ⟨g,0,none⟩ _;have HG:=Hd (Xrc A m c (zs.take m) m _ S ((pre14 hs hm).below (hT.below hS)) (by omega) (Xb1 (Xn3 hz m)));rw[Xdj h1 h8 (by have:=hs.len;rw[bL]at this;rw[List.length_take];omega),Xia zs m m (Lr _)]at HG;generalize w.setCell ⟨g,0,none⟩ (.slice (tailAt A c m) (n - m) (c - m))=W at *;clear hr hs hS hz h1 h8 hm hnc hc hT;go_enter Tryz.func97,Tryz.ntmps97
 go_wp2_with fail;refine HN.out.mono ?_;rintro e w1 ⟨rfl,hw⟩;obtain rfl:=hw.symm;go_wp2_with fail;refine HG.out.mono ?_;rintro e w2 ⟨rfl,rfl⟩;go_wp2_with fail;go_ret;exact⟨rfl,rfl⟩
theorem Xl7(g:Nat)(A:Option Addr)(n c m:Nat)(sh:Bool)(w:World)(hr:Row w g 197 (fldC A n c sh))(h1:1≤m)(h8:m≤8)(hm:n<m) :
 Calls Tryz.prog 97 #[.pointer (some ⟨g,0,none⟩),.int .i64 m] w fun e w'=>e=.returned (.int .u64 0)∧w'=w.setCell ⟨g,1,none⟩ (.bool true):=by
 have HN:=Hd (Xkf g A n c m sh w hr hm);have HG:=Hd (Xrc none 0 0 [] m (w.setCell ⟨g,1,none⟩ (.bool true)) 0 ⟨rfl,fun i u hu=>by simp[bv,cv]at hu⟩ (Nat.zero_le _) (Xb1 (by intro z hz;cases hz)));rw[Xo0 h1 h8]at HG;generalize w.setCell ⟨g,1,none⟩ (.bool true)=W at *;clear hr h1 h8 hm;go_enter Tryz.func97,Tryz.ntmps97
 go_wp2_with fail;refine HN.out.mono ?_;rintro e w1 ⟨rfl,hw⟩;obtain rfl:=hw.symm;go_wp2_with fail;refine HG.out.mono ?_;rintro e w2 ⟨rfl,rfl⟩;go_wp2_with fail;go_ret;exact⟨rfl,rfl⟩
theorem Xey:(Tryz.prog.info? 62).map (·.zero)=some (some (.agg (bv key0).toArray)):=by kernel_rfl
theorem Xbd{o:List Int}(h:o.length=32):(Tryz.prog.info? 62).map (·.size)=some (bv o).length:=by rw[bL,h];exact Xan
theorem Xlt{o:List Int}(h:o.length=32):(bv key0).take 0++bv o++(bv key0).drop (0+(bv o).length)=bv o:=by
 rw[List.take_zero,List.nil_append,Nat.zero_add,List.drop_of_length_le (by rw[bL,bL,h];decide),List.append_nil]
theorem Xg0{W V:World}{g:Nat}(h:Turned W.drew V g):Turned W V g:=⟨h.os,h.tape,h.output,h.size,h.block⟩
theorem Xht{w w' V:World}{g B:Nat}(h:But g w w')(hb:Below B w' V)(hB:w.heap.size≤B):But g w V:=
 ⟨hb.os.trans h.os,hb.tape.trans h.tape,hb.output.trans h.output,Lq h.size hb.size,fun k hk hg=>(hb.block k (Nat.lt_of_lt_of_le hk hB)).trans (h.block k hk hg)⟩
theorem Xgu{w w' V:World}{g p:Nat}(h:But g w w')(ht:Turned w' V p)(hp:w.heap.size≤p):But g w V:=Xht h (ht.below hp) (Lr _)
theorem Xl0{w:World}{B n m:Nat}{A:Option Addr}{zs:List Int}(h:Sees w B A n (bv zs))(hm:m≤n)(h0:0<m):∃ad,A=some ad∧∀j u,(bv (zs.take m))[j]?=some u→w.cell? (ad.add j)=some u:=by
 have h1:=pre14 h hm;obtain⟨ad,u,e,_⟩:=h1.at_ (k:=0) h0;refine⟨ad,e,fun j u hu=>?_⟩;obtain⟨a,e2,_,hc⟩:=h1.cell j u hu;rw[e]at e2;cases e2
 exact hc
theorem Xt5(g:Nat)(A:Option Addr)(n c S:Nat)(sh:Bool)(zs:List Int)(w:World)(hr:Row w g 197 (fldC A n c sh))(hs:Sees w S A n (bv zs))(hS:S≤g)(hm:32≤n)(hnc:n≤c)(hc:c≤maxLen) :
 Calls Tryz.prog 98 #[.pointer (some ⟨g,0,none⟩)] w fun e w'=>e=.returned (.agg (bv (zs.take 32)).toArray)∧Row w' g 197 (fldC (tailAt A c 32) (n - 32) (c - 32) sh)∧But g w w':=by
 have hlt:=hr.lt;have HR:=Hd hr;have HS:=Hd hs;have HSG:=Hd hS;have HLT:=Hd hlt;have HM:=Hd hm;have HNC:=Hd hnc;have HC:=Hd hc;clear hm hnc hc;obtain⟨g2,hg2⟩:∃k,k=w.heap.size:=⟨_,rfl⟩;obtain⟨g3,hg3'⟩:∃k,k=(w.alloc (.cells (bv key0).toArray 62)).heap.size:=⟨_,rfl⟩;have HG2:Hid (w.heap.size=g2):=Hd hg2.symm;have HG3:Hid ((w.alloc (.cells (bv key0).toArray 62)).heap.size=g3):=Hd hg3'.symm;have hg3:g3=w.heap.size+1:=by rw[hg3'];simp
 clear hg3';have hb:=((Br w.heap.size w).alloc (Lr _) (.cells (bv key0).toArray 62)).alloc (by simp) (.cells (bv key0).toArray 62);have HB:=Hd hb;have R2:Hid (Row ((w.alloc (.cells (bv key0).toArray 62)).alloc (.cells (bv key0).toArray 62)) g2 62 (bv key0)):=Hd (by rw[hg2];exact(Row.new w 62 (bv key0)).alloc _);have R3:Hid (Row ((w.alloc (.cells (bv key0).toArray 62)).alloc (.cells (bv key0).toArray 62)) g3 62 (bv key0)):=Hd (Row.new' _ 62 _ (by rw[hg3];simp));have NG:Hid (g2≠g∧g3≠g∧g2≠g3):=Hd (by omega);have HG23:Hid (g<g3∧g2<g3∧w.heap.size≤g3∧w.heap.size≤g2):=Hd (by omega);have RF:=Hd (hr.below hb hlt);have HSW:=Hd (hs.below (hb.mono (Nat.le_of_lt (Nat.lt_of_le_of_lt hS hlt))));clear hg2 hg3 hb hr hs hS hlt HR HS;generalize hW:(w.alloc (.cells (bv key0).toArray 62)).alloc (.cells (bv key0).toArray 62)=W at *;have HW:=Hd hW;clear hW;go_enter Tryz.func98,Tryz.ntmps98
 go_upto_region 2 with(first
  | ((with_reducible show wpList _ _ _ (⟨some 2,_,_,_,_,_⟩::_) _ _);go_must(refine Xa0 rfl 62 rfl (bv key0) Xey ?_))
  | ((with_reducible show wpList _ _ _ (⟨some 3,_,_,_,_,_⟩::_) _ _);go_must(refine Xa0 rfl 62 rfl (bv key0) Xey ?_)))
 rw[HG3.out,HG2.out,HW.out];clear HG3 HG2 HW;have HN:=Hd (Xjr g A n c 32 sh W.drew RF.out.drew HM.out HNC.out HC.out);obtain⟨ad,hA,hsrc⟩:=Xl0 HSW.out HM.out (by decide);have HSRC:=Hd hsrc;have HTL:Hid ((zs.take 32).length=32):=Hd (by have:=HSW.out.len;have:=HM.out;rw[bL]at *;rw[List.length_take];omega);subst hA;clear hsrc;have hT:Turned W (W.drew.setCell ⟨g,0,none⟩ (.slice (tailAt (some ad) c 32) (n - 32) (c - 32))) g:=Xg0 (Xa6 W.drew ⟨g,0,none⟩ _);have HT:=Hd hT;have RF2:Hid (Row (W.drew.setCell ⟨g,0,none⟩ (.slice (tailAt (some ad) c 32) (n - 32) (c - 32))) g 197 (fldC (tailAt (some ad) c 32) (n - 32) (c - 32) sh)):=Hd (RF.out.drew.set_ 0 _);have HSR2:Hid (∀j u,(bv (zs.take 32))[j]?=some u→(W.drew.setCell ⟨g,0,none⟩ (.slice (tailAt (some ad) c 32) (n - 32) (c - 32))).cell? (ad.add j)=some u):=Hd fun j u hu=>by
  obtain⟨a,e,hb,hc⟩:=((pre14 HSW.out HM.out).below (hT.below HSG.out)).cell j u hu;cases e
  exact hc
 clear hT;generalize W.drew.setCell ⟨g,0,none⟩ (.slice (tailAt (some ad) c 32) (n - 32) (c - 32))=W1 at *;have BW:=Hd (But.trans (But.of_below HB.out g) (But.of_turned HT.out));have R22:=Hd (HT.out.row R2.out NG.out.1);have R32:=Hd (HT.out.row R3.out NG.out.2.1);clear R2 R3 RF HT HB;refine wp_region_held_drew (S:=(fun V=>True)) (by kernel_rfl) trivial (fun _=>?_);refine Tk 0 rfl ?_ trivial ?_ ⟨?_,rfl⟩
 ·intro w hw;(try dsimp only at hw);go_simp;try with_reducible rfl
 try simp only[nm]
 refine Tk 1 rfl ?_ trivial ?_ ⟨?_,rfl⟩
 ·intro w hw;(try dsimp only at hw);go_simp;try with_reducible rfl
 try simp only[nm]
 refine Rl 2 rfl fun K hK=>?_
 go_simp;refine HN.out.mono ?_;rintro e w1 ⟨rfl,hw⟩;obtain rfl:=hw.symm;clear hw HN;refine hK.out _ _ trivial ?_;clear hK K;try simp only[nm]
 refine Rl 3 rfl fun K hK=>?_
 refine Xfp (.tmp 4) (.tmp 6) 22 22 5 rfl Tryz.underlying22 Xb2 g3 0 32 32 ad 32 c (by go_simp) (by go_simp) (bv key0) 62 R32.out (bv (zs.take 32)) (by rw[bL,HTL.out];rfl) HSR2.out (by rw[bL,bL,HTL.out];decide) (Xbj _) (fun w3 hr3 ht3=>?_);rw[Xlt HTL.out]at hr3;have R33:=Hd hr3;have B3:=Hd (ht3.below (Lr g3));have R23:=Hd (R22.out.below B3.out HG23.out.2.1);have RF3:=Hd (RF2.out.below B3.out HG23.out.1);have BT:=Hd (Xht BW.out B3.out HG23.out.2.2.1);clear hr3 ht3 R22 R32 RF2 BW;refine hK.out _ _ trivial ?_;clear hK K;try simp only[nm]
 refine wpAnyH_done (by kernel_rfl) ?_ _;go_wp2_with (first
  | ((with_reducible show wpList _ _ _ (⟨some 8,_,_,_,_,_⟩::_) _ _);go_must(refine Xa1 rfl 62 (.tmp 3) rfl g3 62 (bv (zs.take 32)) _ Tryz.underlying62 rfl (Xbd HTL.out) R33.out ?_ ?_;go_simp))
  | ((with_reducible show wpList _ _ _ (⟨none,Op.store 62 _ _,_,_,_,_⟩::_) _ _);go_must(refine Xab rfl 62 (.tmp 2) (.tmp 8) rfl g2 (bv key0) (bv (zs.take 32)) R23.out (Xbd HTL.out) (by rw[bL,bL,HTL.out];rfl) (Xbj _) ?_ ?_ ?_;go_simp;go_simp;intro w4 hr4 ht4;have R4:=Hd hr4;have T4:=Hd ht4;clear hr4 ht4)))
 refine bodyPost_ret (results_cell_row (h:=rfl) _ w4 g2 62 _ (0,0) _ (by rfl) R4.out.is Tryz.underlying62 rfl (Xbd HTL.out)) rfl ?_;exact⟨rfl,T4.out.row RF3.out (Ne.symm NG.out.1),Xgu BT.out T4.out HG23.out.2.2.2⟩
theorem Xkr{cur:List Value}:splice cur 0 []=cur:=by simp[splice]
theorem Xtu(g:Nat)(A:Option Addr)(n c S:Nat)(sh:Bool)(zs:List Int)(w:World)(hr:Row w g 197 (fldC A n c sh))(hs:Sees w S A n (bv zs))(hS:S≤g)(hm:n<32) :
 Calls Tryz.prog 98 #[.pointer (some ⟨g,0,none⟩)] w fun e w'=>e=.returned (.agg (bv key0).toArray)∧Row w' g 197 (fldC A n c true)∧But g w w':=by
 have hlt:=hr.lt;have HR:=Hd hr;have HS:=Hd hs;have HSG:=Hd hS;have HLT:=Hd hlt;have HM:=Hd hm;clear hm;obtain⟨g2,hg2⟩:∃k,k=w.heap.size:=⟨_,rfl⟩;obtain⟨g3,hg3'⟩:∃k,k=(w.alloc (.cells (bv key0).toArray 62)).heap.size:=⟨_,rfl⟩;have HG2:Hid (w.heap.size=g2):=Hd hg2.symm;have HG3:Hid ((w.alloc (.cells (bv key0).toArray 62)).heap.size=g3):=Hd hg3'.symm;have hg3:g3=w.heap.size+1:=by rw[hg3'];simp
 clear hg3';have hb:=((Br w.heap.size w).alloc (Lr _) (.cells (bv key0).toArray 62)).alloc (by simp) (.cells (bv key0).toArray 62);have HB:=Hd hb;have R2:Hid (Row ((w.alloc (.cells (bv key0).toArray 62)).alloc (.cells (bv key0).toArray 62)) g2 62 (bv key0)):=Hd (by rw[hg2];exact(Row.new w 62 (bv key0)).alloc _);have R3:Hid (Row ((w.alloc (.cells (bv key0).toArray 62)).alloc (.cells (bv key0).toArray 62)) g3 62 (bv key0)):=Hd (Row.new' _ 62 _ (by rw[hg3];simp));have NG:Hid (g2≠g∧g3≠g∧g2≠g3):=Hd (by omega);have HG23:Hid (g<g3∧g2<g3∧w.heap.size≤g3∧w.heap.size≤g2):=Hd (by omega);have RF:=Hd (hr.below hb hlt);have HSW:=Hd (hs.below (hb.mono (Nat.le_of_lt (Nat.lt_of_le_of_lt hS hlt))));clear hg2 hg3 hb hr hs hS hlt HR HS;generalize hW:(w.alloc (.cells (bv key0).toArray 62)).alloc (.cells (bv key0).toArray 62)=W at *;have HW:=Hd hW;clear hW;go_enter Tryz.func98,Tryz.ntmps98
 go_upto_region 2 with(first
  | ((with_reducible show wpList _ _ _ (⟨some 2,_,_,_,_,_⟩::_) _ _);go_must(refine Xa0 rfl 62 rfl (bv key0) Xey ?_))
  | ((with_reducible show wpList _ _ _ (⟨some 3,_,_,_,_,_⟩::_) _ _);go_must(refine Xa0 rfl 62 rfl (bv key0) Xey ?_)))
 rw[HG3.out,HG2.out,HW.out];clear HG3 HG2 HW;have HN:=Hd (Xkf g A n c 32 sh W.drew RF.out.drew HM.out);have hT:Turned W (W.drew.setCell ⟨g,1,none⟩ (.bool true)) g:=Xg0 (Xa6 W.drew ⟨g,1,none⟩ _);have HT:=Hd hT;have RF2:Hid (Row (W.drew.setCell ⟨g,1,none⟩ (.bool true)) g 197 (fldC A n c true)):=Hd (RF.out.drew.set_ 1 _);clear hT;generalize W.drew.setCell ⟨g,1,none⟩ (.bool true)=W1 at *;have BW:=Hd (But.trans (But.of_below HB.out g) (But.of_turned HT.out));have R22:=Hd (HT.out.row R2.out NG.out.1);have R32:=Hd (HT.out.row R3.out NG.out.2.1);clear R2 R3 RF HT HB;refine wp_region_held_drew (S:=(fun V=>True)) (by kernel_rfl) trivial (fun _=>?_);refine Tk 0 rfl ?_ trivial ?_ ⟨?_,rfl⟩
 ·intro w hw;(try dsimp only at hw);go_simp;try with_reducible rfl
 try simp only[nm]
 refine Tk 1 rfl ?_ trivial ?_ ⟨?_,rfl⟩
 ·intro w hw;(try dsimp only at hw);go_simp;try with_reducible rfl
 try simp only[nm]
 refine Rl 2 rfl fun K hK=>?_
 go_simp;refine HN.out.mono ?_;rintro e w1 ⟨rfl,hw⟩;obtain rfl:=hw.symm;clear hw HN;refine hK.out _ _ trivial ?_;clear hK K;try simp only[nm]
 refine Rl 3 rfl fun K hK=>?_
 refine Xi8 (by rfl) (.tmp 4) (.tmp 6) 22 22 rfl 5 Tryz.underlying22 Xb2 (some ⟨g3,0,none⟩) none 32 32 0 0 (by go_simp) (by go_simp) g3 0 (bv key0) 62 R32.out.is [] rfl (fun h=>absurd h (by decide)) (by simp) (by simp) g3 W1 (Br _ _) (Lr _) (fun w3 hr3 ht3=>?_);have R33:Hid (Row w3 g3 62 (bv key0)):=Hd ⟨by have:=hr3.out;rw[Xkr]at this;exact this⟩;have B3:=Hd ht3;have R23:=Hd (R22.out.below B3.out HG23.out.2.1);have RF3:=Hd (RF2.out.below B3.out HG23.out.1);have BT:=Hd (Xht BW.out B3.out HG23.out.2.2.1);clear hr3 ht3 R22 R32 RF2 BW;refine hK.out _ _ trivial ?_;clear hK K;try simp only[nm]
 refine wpAnyH_done (by kernel_rfl) ?_ _;go_wp2_with (first
  | ((with_reducible show wpList _ _ _ (⟨some 8,_,_,_,_,_⟩::_) _ _);go_must(refine Xa1 rfl 62 (.tmp 3) rfl g3 62 (bv key0) _ Tryz.underlying62 rfl (Xbd Xb3.1) R33.out ?_ ?_;go_simp))
  | ((with_reducible show wpList _ _ _ (⟨none,Op.store 62 _ _,_,_,_,_⟩::_) _ _);go_must(refine Xab rfl 62 (.tmp 2) (.tmp 8) rfl g2 (bv key0) (bv key0) R23.out (Xbd Xb3.1) rfl (Xbj _) ?_ ?_ ?_;go_simp;go_simp;intro w4 hr4 ht4;have R4:=Hd hr4;have T4:=Hd ht4;clear hr4 ht4)))
 refine bodyPost_ret (results_cell_row (h:=rfl) _ w4 g2 62 _ (0,0) _ (by rfl) R4.out.is Tryz.underlying62 rfl (Xbd Xb3.1)) rfl ?_;exact⟨rfl,T4.out.row RF3.out (Ne.symm NG.out.1),Xgu BT.out T4.out HG23.out.2.2.2⟩
def numS(zs:List Int)(sh:Bool)(m:Nat):Int:=if m≤zs.length then num zs m else 0
def keyS(zs:List Int):List Int:=if 32≤zs.length then zs.take 32 else key0
def resS(zs:List Int)(m:Nat):List Int:=if m≤zs.length then zs.drop m else zs
def shS(zs:List Int)(sh:Bool)(m:Nat):Bool:=if m≤zs.length then sh else true
structure FIn(w:World)(g S:Nat)(zs:List Int)(sh:Bool):Prop where
 is:∃A c,Row w g 197 (fldC A zs.length c sh)∧Sees w S A zs.length (bv zs)∧zs.length≤c∧c≤maxLen
 all:AllBytes zs
theorem FIn.lt{w:World}{g S:Nat}{zs:List Int}{sh:Bool}(h:FIn w g S zs sh):g<w.heap.size:=by
 obtain⟨A,c,hr,_⟩:=h.is;exact hr.lt
theorem FIn.keep{w w':World}{g S:Nat}{zs:List Int}{sh:Bool}(h:FIn w g S zs sh)(hS:S≤g){p:Nat}(hb:But p w w')(hp:p≠g)(hSp:S≤p):FIn w' g S zs sh:=by
 obtain⟨A,c,hr,hs,r⟩:=h.is;exact⟨⟨A,c,hb.row hr (Ne.symm hp),hs.below (hb.below hSp (Nat.le_of_lt (Nat.lt_of_le_of_lt hS hr.lt))),r⟩,h.all⟩
theorem Xkx{w w':World}{g S n c m:Nat}{sh:Bool}{A:Option Addr}{zs:List Int}(hr:Row w' g 197 (fldC (tailAt A c m) (n - m) (c - m) sh))(hs:Sees w S A n (bv zs))(hz:AllBytes zs)(hm:m≤n)(hnc:n≤c)(hc:c≤maxLen)(hb:Below S w w'):FIn w' g S (zs.drop m) sh:=by
 have hl:=hs.len;rw[bL]at hl;have h1:=(hs.tail hm hnc).below hb;have e:(zs.drop m).length=n - m:=by rw[List.length_drop,hl]
 refine⟨⟨tailAt A c m,c - m,by rw[e];exact hr,by rw[e];simpa [bv,cv]using h1,by rw[e];omega,by omega⟩,Xoj hz m⟩
theorem Xct(g S m:Nat)(sh:Bool)(zs:List Int)(w:World)(h:FIn w g S zs sh)(hS:S≤g)(h1:1≤m)(h8:m≤8) :
 Calls Tryz.prog 97 #[.pointer (some ⟨g,0,none⟩),.int .i64 m] w fun e w'=>e=.returned (.int .u64 (numS zs sh m))∧FIn w' g S (resS zs m) (shS zs sh m)∧But g w w':=by
 obtain⟨A,c,hr,hs,hnc,hc⟩:=h.is;unfold numS resS shS;by_cases hm:m≤zs.length
 ·rw[if_pos hm,if_pos hm,if_pos hm];refine(Xkz g A zs.length c m S sh zs w hr hs hS h.all h1 h8 hm hnc hc).mono ?_;rintro e w' ⟨rfl,rfl⟩;have ht:=Xa6 w ⟨g,0,none⟩ (.slice (tailAt A c m) (zs.length - m) (c - m));exact⟨rfl,Xkx (hr.set_ 0 _) hs h.all hm hnc hc (ht.below hS),But.of_turned ht⟩
 ·rw[if_neg hm,if_neg hm,if_neg hm];refine(Xl7 g A zs.length c m sh w hr h1 h8 (by omega)).mono ?_;rintro e w' ⟨rfl,rfl⟩;have ht:=Xa6 w ⟨g,1,none⟩ (.bool true);exact⟨rfl,⟨⟨A,c,hr.set_ 1 _,hs.below (ht.below hS),hnc,hc⟩,h.all⟩,But.of_turned ht⟩
theorem key14(g S:Nat)(sh:Bool)(zs:List Int)(w:World)(h:FIn w g S zs sh)(hS:S≤g) :
 Calls Tryz.prog 98 #[.pointer (some ⟨g,0,none⟩)] w fun e w'=>e=.returned (.agg (bv (keyS zs)).toArray)∧FIn w' g S (resS zs 32) (shS zs sh 32)∧But g w w':=by
 obtain⟨A,c,hr,hs,hnc,hc⟩:=h.is;have hlt:=hr.lt;unfold keyS resS shS;by_cases hm:32≤zs.length
 ·rw[if_pos hm,if_pos hm,if_pos hm];refine(Xt5 g A zs.length c S sh zs w hr hs hS hm hnc hc).mono ?_;rintro e w' ⟨rfl,hr',hb⟩;exact⟨rfl,Xkx hr' hs h.all hm hnc hc (hb.below hS (by omega)),hb⟩
 ·rw[if_neg hm,if_neg hm,if_neg hm];refine(Xtu g A zs.length c S sh zs w hr hs hS (by omega)).mono ?_;rintro e w' ⟨rfl,hr',hb⟩;exact⟨rfl,⟨⟨A,c,hr',hs.below (hb.below hS (by omega)),hnc,hc⟩,h.all⟩,hb⟩
theorem Xdh(zs:List Int):(keyS zs).length=32:=by
 unfold keyS;split
 ·rw[List.length_take];omega
 ·rfl
structure Rd14 where
 y:LAsk
 ok:Bool
def end14(y:LAsk)(zs:List Int)(sh:Bool):Rd14:=⟨y,!sh&&decide (zs.length=0)⟩
def rd14(zs:List Int):Rd14:=
 let t:=numS zs false 4
 let z1:=resS zs 4
 let s1:=shS zs false 4
 if t=0 then end14 ⟨0,numS z1 s1 8,numS (resS z1 8) (shS z1 s1 8) 8,keyS (resS (resS z1 8) 8)⟩ (resS (resS (resS z1 8) 8) 32) (shS (resS (resS z1 8) 8) (shS (resS z1 8) (shS z1 s1 8) 8) 32)
 else if t=1 then end14 ⟨1,0,0,keyS z1⟩ (resS z1 32) (shS z1 s1 32)
 else if t=2 then end14 ⟨2,numS z1 s1 8,0,key0⟩ (resS z1 8) (shS z1 s1 8)
 else if t=8 then end14 ⟨8,0,numS z1 s1 8,key0⟩ (resS z1 8) (shS z1 s1 8)
 else⟨ask0,false⟩
theorem Xbr(zs:List Int):(rd14 zs).ok=(dat14 zs).isSome∧∀x,dat14 zs=some x→(rd14 zs).y=x:=by
 unfold rd14 dat14;by_cases h4:zs.length<4
 ·have e1:numS zs false 4=0:=by unfold numS;rw[if_neg (by omega)]
  have e2:resS zs 4=zs:=by unfold resS;rw[if_neg (by omega)]
  have e3:resS zs 8=zs:=by unfold resS;rw[if_neg (by omega)]
  have e4:shS zs (shS zs false 4) 8=true:=by unfold shS;rw[if_neg (by omega:¬8≤zs.length)]
  have e5:∀b,shS zs b 8=true:=fun b=>by unfold shS;rw[if_neg (by omega)]
  have e6:∀b,shS zs b 32=true:=fun b=>by unfold shS;rw[if_neg (by omega)]
  rw[if_pos h4];dsimp only
  rw[e1,if_pos rfl,e2];simp only[e3,e6];exact⟨rfl,fun x hx=>by cases hx⟩
 ·have e1:numS zs false 4=num zs 4:=by unfold numS;rw[if_pos (by omega)]
  have e2:resS zs 4=zs.drop 4:=by unfold resS;rw[if_pos (by omega)]
  have e3:shS zs false 4=false:=by unfold shS;rw[if_pos (by omega)]
  rw[if_neg h4];dsimp only
  rw[e1,e2,e3];have hl:(zs.drop 4).length=zs.length - 4:=List.length_drop;by_cases t0:num zs 4=0
  ·rw[if_pos t0];by_cases hn:zs.length=52
   ·have a1:8≤(zs.drop 4).length:=by omega
    have f1:resS (zs.drop 4) 8=zs.drop 12:=by unfold resS;rw[if_pos a1,List.drop_drop]
    have l2:(zs.drop 12).length=40:=by rw[List.length_drop];omega
    have f2:resS (zs.drop 12) 8=zs.drop 20:=by unfold resS;rw[if_pos (by omega),List.drop_drop]
    have l3:(zs.drop 20).length=32:=by rw[List.length_drop];omega
    have f3:resS (zs.drop 20) 32=zs.drop 52:=by unfold resS;rw[if_pos (by omega),List.drop_drop]
    have l4:(zs.drop 52).length=0:=by rw[List.length_drop];omega
    rw[f1,f2,f3,if_pos ⟨t0,hn⟩];have g1:shS (zs.drop 4) false 8=false:=by unfold shS;rw[if_pos a1]
    have g2:shS (zs.drop 12) false 8=false:=by unfold shS;rw[if_pos (by omega)]
    have g3:shS (zs.drop 20) false 32=false:=by unfold shS;rw[if_pos (by omega)]
    rw[g1,g2,g3];have n1:numS (zs.drop 4) false 8=num (zs.drop 4) 8:=by unfold numS;rw[if_pos a1]
    have n2:numS (zs.drop 12) false 8=num (zs.drop 12) 8:=by unfold numS;rw[if_pos (by omega)]
    have k3:keyS (zs.drop 20)=zs.drop 20:=by unfold keyS;rw[if_pos (by omega),List.take_of_length_le (by omega)]
    rw[n1,n2,k3];exact⟨by simp[end14,l4],fun x hx=>by cases hx;rfl⟩
   ·have q0:¬(num zs 4=0∧zs.length=52):=fun h=>hn h.2
    have q1:¬(num zs 4=1∧zs.length=36):=fun h=>by omega
    have q2:¬(num zs 4=2∧zs.length=12):=fun h=>by omega
    have q8:¬(num zs 4=8∧zs.length=12):=fun h=>by omega
    rw[if_neg q0,if_neg q1,if_neg q2,if_neg q8];refine⟨?_,fun x hx=>by cases hx⟩;show(!_&&decide _)=false
    by_cases a1:8≤(zs.drop 4).length
    ·have f1:resS (zs.drop 4) 8=zs.drop 12:=by unfold resS;rw[if_pos a1,List.drop_drop]
     have l2:(zs.drop 12).length=zs.length - 12:=List.length_drop;rw[f1];by_cases a2:8≤(zs.drop 12).length
     ·have f2:resS (zs.drop 12) 8=zs.drop 20:=by unfold resS;rw[if_pos a2,List.drop_drop]
      have l3:(zs.drop 20).length=zs.length - 20:=List.length_drop;rw[f2];by_cases a3:32≤(zs.drop 20).length
      ·have f3:resS (zs.drop 20) 32=zs.drop 52:=by unfold resS;rw[if_pos a3,List.drop_drop]
       rw[f3,decide_eq_false (by rw[List.length_drop];omega),Bool.and_false]
      ·have:∀b,shS (zs.drop 20) b 32=true:=fun b=>by unfold shS;rw[if_neg a3]
       rw[this];rfl
     ·have f2:resS (zs.drop 12) 8=zs.drop 12:=by unfold resS;rw[if_neg a2]
      have:∀b,shS (zs.drop 12) b 32=true:=fun b=>by unfold shS;rw[if_neg (by omega)]
      rw[f2,this];rfl
    ·have f1:resS (zs.drop 4) 8=zs.drop 4:=by unfold resS;rw[if_neg a1]
     have:∀b,shS (zs.drop 4) b 32=true:=fun b=>by unfold shS;rw[if_neg (by omega)]
     rw[f1,f1,this];rfl
  ·have q0:¬(num zs 4=0∧zs.length=52):=fun h=>t0 h.1
   rw[if_neg t0,if_neg q0];by_cases t1:num zs 4=1
   ·rw[if_pos t1];by_cases a1:32≤(zs.drop 4).length
    ·have f1:resS (zs.drop 4) 32=zs.drop 36:=by unfold resS;rw[if_pos a1,List.drop_drop]
     have g1:shS (zs.drop 4) false 32=false:=by unfold shS;rw[if_pos a1]
     rw[f1,g1];by_cases hn:zs.length=36
     ·rw[if_pos ⟨t1,hn⟩];have k1:keyS (zs.drop 4)=zs.drop 4:=by unfold keyS;rw[if_pos a1,List.take_of_length_le (by omega)]
      have l4:(zs.drop 36).length=0:=by rw[List.length_drop];omega
      rw[k1];exact⟨by simp[end14,l4],fun x hx=>by cases hx;rfl⟩
     ·have q1:¬(num zs 4=1∧zs.length=36):=fun h=>hn h.2
      have q2:¬(num zs 4=2∧zs.length=12):=fun h=>by omega
      have q8:¬(num zs 4=8∧zs.length=12):=fun h=>by omega
      rw[if_neg q1,if_neg q2,if_neg q8];refine⟨?_,fun x hx=>by cases hx⟩;show(!false&&decide _)=false
      rw[decide_eq_false (by rw[List.length_drop];omega)];rfl
    ·have g1:shS (zs.drop 4) false 32=true:=by unfold shS;rw[if_neg a1]
     have q1:¬(num zs 4=1∧zs.length=36):=fun h=>by omega
     have q2:¬(num zs 4=2∧zs.length=12):=fun h=>by omega
     have q8:¬(num zs 4=8∧zs.length=12):=fun h=>by omega
     rw[if_neg q1,if_neg q2,if_neg q8,g1];exact⟨rfl,fun x hx=>by cases hx⟩
   ·have q1:¬(num zs 4=1∧zs.length=36):=fun h=>t1 h.1
    rw[if_neg t1,if_neg q1];have eight:∀(y y':LAsk) (b:Prop) [Decidable b],(8≤(zs.drop 4).length→y=y')→(b↔zs.length=12)→(end14 y (resS (zs.drop 4) 8) (shS (zs.drop 4) false 8)).ok=(if b then some y' else(none:Option LAsk)).isSome∧∀x,(if b then some y' else(none:Option LAsk))=some x→(end14 y (resS (zs.drop 4) 8) (shS (zs.drop 4) false 8)).y=x:=by
     intro y y' b _ hy hb;by_cases a1:8≤(zs.drop 4).length
     ·have f1:resS (zs.drop 4) 8=zs.drop 12:=by unfold resS;rw[if_pos a1,List.drop_drop]
      have g1:shS (zs.drop 4) false 8=false:=by unfold shS;rw[if_pos a1]
      rw[f1,g1,hy a1];by_cases hn:zs.length=12
      ·rw[if_pos (hb.2 hn)];have l4:(zs.drop 12).length=0:=by rw[List.length_drop];omega
       exact⟨by simp[end14,l4],fun x hx=>by cases hx;rfl⟩
      ·rw[if_neg (fun h=>hn (hb.1 h))];refine⟨?_,fun x hx=>by cases hx⟩;show(!false&&decide _)=false
       rw[decide_eq_false (by rw[List.length_drop];omega)];rfl
     ·have g1:shS (zs.drop 4) false 8=true:=by unfold shS;rw[if_neg a1]
      rw[if_neg (fun h=>by have:=hb.1 h;omega),g1];exact⟨rfl,fun x hx=>by cases hx⟩
    have n1:8≤(zs.drop 4).length→numS (zs.drop 4) false 8=num (zs.drop 4) 8:=fun a1=>by unfold numS;rw[if_pos a1]
    by_cases t2:num zs 4=2
    ·rw[if_pos t2];have:=eight ⟨2,numS (zs.drop 4) false 8,0,key0⟩ ⟨2,num (zs.drop 4) 8,0,key0⟩ (num zs 4=2∧zs.length=12) (fun a1=>by rw[n1 a1]) ⟨fun h=>h.2,fun h=>⟨t2,h⟩⟩;by_cases hn:num zs 4=2∧zs.length=12
     ·rw[if_pos hn]at this ⊢;exact this
     ·rw[if_neg hn]at this ⊢;have q8:¬(num zs 4=8∧zs.length=12):=fun h=>by omega
      rw[if_neg q8];exact this
    ·have q2:¬(num zs 4=2∧zs.length=12):=fun h=>t2 h.1
     rw[if_neg t2,if_neg q2];by_cases t8:num zs 4=8
     ·rw[if_pos t8];exact eight ⟨8,0,numS (zs.drop 4) false 8,key0⟩ ⟨8,0,num (zs.drop 4) 8,key0⟩ (num zs 4=8∧zs.length=12) (fun a1=>by rw[n1 a1]) ⟨fun h=>h.2,fun h=>⟨t8,h⟩⟩
     ·have q8:¬(num zs 4=8∧zs.length=12):=fun h=>t8 h.1
      rw[if_neg t8,if_neg q8];exact⟨rfl,fun x hx=>by cases hx⟩
end Go.Proofs.YtaljfbbieefooaaGreatDoor
