import Derived.Test.YtaljfbbieefooaaGreatDoorM4
import Derived.Deep.DeepCutAuto
set_option maxRecDepth 100000
set_option maxHeartbeats 16000000
set_option linter.unusedSimpArgs false
set_option linter.unusedVariables false
namespace Go.Proofs.YtaljfbbieefooaaGreatDoor
open Go.RowKit
structure TwB(w:World)(lo hi:Nat)(v:Value)(l:List Int):Prop where
 len:l.length≤65535
 is:∃g,v=.slice (some ⟨g,0,none⟩) l.length (l.length+3)∧lo≤g∧g<hi∧Row w g 5 (bv (l++List.replicate 3 165))
def InT(w:World)(lo hi:Nat)(cs:List Value)(x:LIn):Prop:=∃va vd mid,cs=inCells x.p va vd∧lo≤mid∧mid≤hi∧TwB w lo mid va x.acc∧TwB w mid hi vd x.dat
def LookT(w:World)(lo hi:Nat)(cs:List Value)(x:LLook):Prop:=∃va vd mid,cs=bv x.tab++[va,vd]∧x.tab.length=32∧lo≤mid∧mid≤hi∧TwB w lo mid va x.wr∧TwB w mid hi vd x.rd
theorem TwB.stay{w w':World}{lo hi:Nat}{v:Value}{l:List Int}(h:TwB w lo hi v l)(hk:∀k,lo≤k→k<hi→w'.heap[k]?=w.heap[k]?):TwB w' lo hi v l:=by
 obtain⟨h0,g,h1,h2,h3,h4⟩:=h;exact⟨h0,g,h1,h2,h3,⟨(hk g h2 h3).trans h4.is⟩⟩
theorem TwB.more{w:World}{lo hi lo' hi':Nat}{v:Value}{l:List Int}(h:TwB w lo hi v l)(hl:lo'≤lo)(hh:hi≤hi'):TwB w lo' hi' v l:=by
 obtain⟨h0,g,h1,h2,h3,h4⟩:=h;exact⟨h0,g,h1,by omega,by omega,h4⟩
theorem TwB.own{w:World}{lo hi:Nat}{v:Value}{l:List Int}(h:TwB w lo hi v l):OwnR w lo hi v l:=by
 obtain⟨h0,g,rfl,h2,h3,h4⟩:=h;refine⟨⟨by simp[bL],.inr ⟨g,_,_,rfl,h2,h4.is,by omega,by unfold maxLen;omega,by simp[bL],?_⟩⟩,fun k hk=>?_,h0⟩
 ·simp only[Nat.mul_one];rw[Xes,List.take_left' (bL _)]
 ·cases hk
  exact h3
theorem TwB.one{w:World}{lo hi:Nat}{v:Value}{l:List Int}(h:TwB w lo hi v l):v.oneCell'=true:=by
 obtain⟨_,_,rfl,_⟩:=h;rfl
theorem InT.inV{w:World}{lo hi:Nat}{cs:List Value}{x:LIn}(h:InT w lo hi cs x):InV w lo hi cs x:=by
 obtain⟨va,vd,mid,h1,h2,h3,h4,h5⟩:=h;exact⟨va,vd,mid,h1,h2,h3,h4.own,h5.own⟩
theorem LookT.lookV{w:World}{lo hi:Nat}{cs:List Value}{x:LLook}(h:LookT w lo hi cs x):LookV w lo hi cs x:=by
 obtain⟨va,vd,mid,h1,h2,h3,h4,h5,h6⟩:=h;exact⟨va,vd,mid,h1,h2,h3,h4,h5.own,h6.own⟩
theorem Xcg:Stays InT:=by
 rintro w w' lo hi cs x hk ⟨va,vd,mid,h1,h2,h3,h4,h5⟩;exact⟨va,vd,mid,h1,h2,h3,h4.stay fun k a b=>hk k a (by omega),h5.stay fun k a b=>hk k (by omega) b⟩
theorem Xbq:Stays LookT:=by
 rintro w w' lo hi cs x hk ⟨va,vd,mid,h1,h0,h2,h3,h4,h5⟩;exact⟨va,vd,mid,h1,h0,h2,h3,h4.stay fun k a b=>hk k a (by omega),h5.stay fun k a b=>hk k (by omega) b⟩
theorem LVR.imp{α:Type}{EV EV':World→Nat→Nat→List Value→α→Prop}{e size:Nat}{w:World}{lo hi:Nat}{v:Value}{l:List α}(h:LVR EV e size w lo hi v l)(hi':∀w lo hi cs x,EV w lo hi cs x→EV' w lo hi cs x):LVR EV' e size w lo hi v l:=by
 obtain⟨w0,css,L,R,h1,h2⟩:=h;exact⟨w0,css,L,R,⟨h1.own,h1.len,h1.rise,fun i cs x hx hy=>by
  obtain⟨a,b,c,d,e⟩:=h1.each i cs x hx hy;exact⟨a,b,c,hi' _ _ _ _ _ d,e⟩⟩,h2⟩
theorem Xtz{w:World}{g n c lo:Nat}{l:List (List Int)}{ys:List Value}(hr:Row w g 62 (bv l.flatten++ys))(hn:l.length=n)(h32:∀k ∈ l,k.length=32)(hlo:lo≤g)(hnc:n≤c)(hc:c≤maxLen)(hl:n*32+ys.length=c*32) :
 LVR KeyV 62 32 w lo w.heap.size (.slice (some ⟨g,0,none⟩) n c) l:=by
 have hf:(bv l.flatten).length=n*32:=by rw[bL,Xc7 l h32,hn]
 have hfl:(l.map bv).flatten=bv l.flatten:=by
  unfold bv cv;rw[List.map_flatten]
 refine LVR.of (css:=l.map bv) (L:=fun _=>w.heap.size) (R:=fun _=>w.heap.size) ⟨?_,by simp,fun _ _=>Lr _,fun i cs x hi hx=>?_⟩
 ·rw[hn];refine⟨by rw[hfl,hf],.inr ⟨g,c,_,rfl,hlo,hr.is,hnc,hc,by simp[hf,hl],?_⟩⟩;simp only[];rw[hfl,List.take_left' hf]
 ·rw[List.getElem?_map,hx]at hi;cases hi
  have:=hr.lt;refine⟨by omega,Lr _,Lr _,⟨rfl,h32 x (List.mem_of_getElem? hx)⟩,fun g' hg'=>?_⟩;cases hg'
  exact .inl this
theorem Xjc(p:Int)(A1 A2:Option Addr)(n1 c1 n2 c2:Nat):Tryz.prog.built 61 [(0,.int .u8 p),(1,.slice A1 n1 c1),(2,.slice A2 n2 c2)]=some (inCells p (.slice A1 n1 c1) (.slice A2 n2 c2)).toArray:=by kernel_rfl
structure TwS(mb:Nat)(a:Addr)(k n ic:Nat)(p:Int)(v1 v2:Value)(w:World):Prop where
 c:w.cell? ⟨mb,37,none⟩=some (.slice (some a) n ic)
 c0:w.cell? (a.add (k*3))=some (.int .u8 p)
 c1:w.cell? ⟨(a.add (k*3)).block,(a.add (k*3)).off+1,none⟩=some v1
 c2:w.cell? ⟨(a.add (k*3)).block,(a.add (k*3)).off+2,none⟩=some v2
theorem TwS.keep{mb k n ic B:Nat}{a:Addr}{p:Int}{v1 v2:Value}{w w':World}(h:TwS mb a k n ic p v1 v2 w)(hm:mb<B)(ha:a.block<B)(hb:Below B w w'):TwS mb a k n ic p v1 v2 w':=
 have h':(a.add (k*3)).block<B:=by rw[Xad];exact ha
 ⟨(hb.cell (p:=⟨mb,37,none⟩) hm).trans h.c,(hb.cell h').trans h.c0,(hb.cell (p:=⟨(a.add (k*3)).block,(a.add (k*3)).off+1,none⟩) h').trans h.c1,(hb.cell (p:=⟨(a.add (k*3)).block,(a.add (k*3)).off+2,none⟩) h').trans h.c2⟩
theorem TwS.far{mb k n ic g o:Nat}{a:Addr}{p:Int}{v1 v2 u:Value}{w:World}(h:TwS mb a k n ic p v1 v2 w)(hm:g≠mb)(ha:g≠a.block):TwS mb a k n ic p v1 v2 (w.setCell ⟨g,o,none⟩ u):=
 have h':g≠(a.add (k*3)).block:=by rw[Xad];exact ha
 ⟨(World.cell?_setCell_far w ⟨g,o,none⟩ ⟨mb,37,none⟩ u hm).trans h.c,(World.cell?_setCell_far w ⟨g,o,none⟩ (a.add (k*3)) u h').trans h.c0,(World.cell?_setCell_far w ⟨g,o,none⟩ ⟨(a.add (k*3)).block,(a.add (k*3)).off+1,none⟩ u h').trans h.c1,(World.cell?_setCell_far w ⟨g,o,none⟩ ⟨(a.add (k*3)).block,(a.add (k*3)).off+2,none⟩ u h').trans h.c2⟩
theorem Xa4{P:Program}{a:Act}{o:Oper}(w:World)(ty:TypeId)(x:Operand)(ho:o.op=.load ty x)(p:Addr)(cs:List Value)(d:TypeDesc)(hu:P.underlying ty=some d)(hd:d.isRow=true)(hi:(P.info? ty).map (·.size)=some cs.length)
 (hc:∀j v,cs[j]?=some v→w.cell? (p.add j)=some v) (hx:a.eval x=.pointer (some p)):(execOp a.eval o).run P w=.ok (.value (.agg cs.toArray)) w:=by
 unfold execOp;simp only[ho,hx,Sem.run_bind,Sem.run_pure,Xc0 w p ty cs d hc hu hd hi,Result.andThen_ok]
theorem Xfh(l:List Value)(hl:l.length=32)(A1 A2:Option Addr)(n1 c1 n2 c2:Nat):Tryz.prog.built 64 [(0,.agg l.toArray),(1,.slice A1 n1 c1),(2,.slice A2 n2 c2)]=some (l++[Value.slice A1 n1 c1,.slice A2 n2 c2]).toArray:=by
 obtain⟨f,rfl⟩:∃f:Fin 32→Value,l=List.ofFn f:=⟨fun i=>l.getD i undef,by
  refine List.ext_getElem (by simpa using hl) fun i h1 h2=>?_
  rw[List.getElem_ofFn,List.getD_eq_getElem?_getD,List.getElem?_eq_getElem h1];rfl⟩
 kernel_rfl
section
variable{w:World}{B k:Nat}{a:Addr}{x:LLook}{va vd:Value}
theorem LookAt.tab0(h:LookAt w B a k x va vd):∀j u,(bv x.tab)[j]?=some u→w.cell? ((a.add (k*34)).add j)=some u:=fun j u hu =>
 h.cells j u (by rw[List.getElem?_append_left (List.getElem?_eq_some_iff.1 hu).1];exact hu)
theorem LookAt.cell32(h:LookAt w B a k x va vd):w.cell? ⟨(a.add (k*34)).block,(a.add (k*34)).off+32,none⟩=some va:=
 h.cells 32 va (by rw[List.getElem?_append_right (by rw[bL,h.len];exact Lr _),bL,h.len];rfl)
theorem LookAt.cell33(h:LookAt w B a k x va vd):w.cell? ⟨(a.add (k*34)).block,(a.add (k*34)).off+33,none⟩=some vd:=
 h.cells 33 vd (by rw[List.getElem?_append_right (by rw[bL,h.len];omega),bL,h.len];rfl)
end
theorem LookAt.keep{w w':World}{B k:Nat}{a:Addr}{x:LLook}{va vd:Value}(h:LookAt w B a k x va vd)(ha:a.block<B)(hk:∀p:Addr,p.block<B→w'.cell? p=w.cell? p):LookAt w' B a k x va vd:=
 ⟨fun j u hu=>(hk _ (by rw[Xad,Xad];exact ha)).trans (h.cells j u hu),h.len,h.wr.keep hk,h.rd.keep hk⟩
structure TwL(mb:Nat)(a:Addr)(k n ic:Nat)(tb:List Int)(v1 v2:Value)(w:World):Prop where
 c:w.cell? ⟨mb,38,none⟩=some (.slice (some a) n ic)
 tab:∀j u,(bv tb)[j]?=some u→w.cell? ((a.add (k*34)).add j)=some u
 c1:w.cell? ⟨(a.add (k*34)).block,(a.add (k*34)).off+32,none⟩=some v1
 c2:w.cell? ⟨(a.add (k*34)).block,(a.add (k*34)).off+33,none⟩=some v2
theorem TwL.keep{mb k n ic B:Nat}{a:Addr}{p:List Int}{v1 v2:Value}{w w':World}(h:TwL mb a k n ic p v1 v2 w)(hm:mb<B)(ha:a.block<B)(hb:Below B w w'):TwL mb a k n ic p v1 v2 w':=
 have h':(a.add (k*34)).block<B:=by rw[Xad];exact ha
 ⟨(hb.cell (p:=⟨mb,38,none⟩) hm).trans h.c,fun j u hu=>(hb.cell (p:=(a.add (k*34)).add j) (by rw[Xad];exact h')).trans (h.tab j u hu),(hb.cell (p:=⟨(a.add (k*34)).block,(a.add (k*34)).off+32,none⟩) h').trans h.c1,(hb.cell (p:=⟨(a.add (k*34)).block,(a.add (k*34)).off+33,none⟩) h').trans h.c2⟩
theorem TwL.far{mb k n ic g o:Nat}{a:Addr}{p:List Int}{v1 v2 u:Value}{w:World}(h:TwL mb a k n ic p v1 v2 w)(hm:g≠mb)(ha:g≠a.block):TwL mb a k n ic p v1 v2 (w.setCell ⟨g,o,none⟩ u):=
 have h':g≠(a.add (k*34)).block:=by rw[Xad];exact ha
 ⟨(World.cell?_setCell_far w ⟨g,o,none⟩ ⟨mb,38,none⟩ u hm).trans h.c,fun j v hv=>(World.cell?_setCell_far w ⟨g,o,none⟩ ((a.add (k*34)).add j) u (by rw[Xad];exact h')).trans (h.tab j v hv),(World.cell?_setCell_far w ⟨g,o,none⟩ ⟨(a.add (k*34)).block,(a.add (k*34)).off+32,none⟩ u h').trans h.c1,(World.cell?_setCell_far w ⟨g,o,none⟩ ⟨(a.add (k*34)).block,(a.add (k*34)).off+33,none⟩ u h').trans h.c2⟩
def TwinDone(w:World)(q:Raw)(m:LMsg)(e:Ending)(w':World):Prop:=
 ∃(gk:Nat) (q':Raw) (a1 b1 b2:Nat),e=.returned (.agg (q'.cells m).toArray)∧q'.KA=some ⟨gk,0,none⟩∧q'.kn=q.kn∧q'.kc=q.kn+3∧w.heap.size≤gk∧gk<a1∧Row w' gk 62 (bv m.keys.flatten++keyRow 3 mk0) ∧
  a1≤b1∧b1≤b2∧b2≤w'.heap.size∧LVR KeyV 62 32 w' gk a1 (.slice q'.KA q'.kn q'.kc) m.keys∧LVR InT 61 3 w' a1 b1 (.slice q'.IA q'.n q'.ic) m.ins∧LVR LookT 64 34 w' b1 b2 (.slice q'.LA q'.ln q'.lc) m.looks∧Below w.heap.size w w'
theorem Xnm{w:World}{g t:Nat}{v0:Bool}{s r o:Int}{K I L:Value}{h:List Int}(hr:Row w g t (mcells v0 s r o K h I L))(hl:h.length=32)(x y z:Value) :
 Row (((w.setCell ⟨g,4,none⟩ x).setCell ⟨g,37,none⟩ y).setCell ⟨g,38,none⟩ z) g t (mcells v0 s r o x h y z)∧But g w (((w.setCell ⟨g,4,none⟩ x).setCell ⟨g,37,none⟩ y).setCell ⟨g,38,none⟩ z)∧(((w.setCell ⟨g,4,none⟩ x).setCell ⟨g,37,none⟩ y).setCell ⟨g,38,none⟩ z).heap.size=w.heap.size:=by
 have h1:=Xa6 w ⟨g,4,none⟩ x;have h2:=Xa6 (w.setCell ⟨g,4,none⟩ x) ⟨g,37,none⟩ y;have h3:=Xa6 ((w.setCell ⟨g,4,none⟩ x).setCell ⟨g,37,none⟩ y) ⟨g,38,none⟩ z;exact⟨Xk3 (Xkt (mset4 hr x) hl y) hl z,((But.of_turned h1).trans (But.of_turned h2)).trans (But.of_turned h3),by rw[h3.size,h2.size,h1.size]⟩
theorem Xl4(q:Raw)(m:LMsg)(B:Nat)(w:World)(hm:MsgIn w B q m)(hB:B≤w.heap.size)
 (hk:m.keys.length≤65535) (hi:m.ins.length≤65535) (hl:m.looks.length≤65535) (hix:∀i ∈ m.ins,i.acc.length≤65535∧i.dat.length≤65535) (hlx:∀l ∈ m.looks,l.wr.length≤65535∧l.rd.length≤65535) :
 Calls Tryz.prog 47 #[.agg (q.cells m).toArray] w (TwinDone w q m):=by
 obtain⟨KA,kn,kc,IA,n,ic,LA,ln,lc⟩:=q;have hrow:=Row.new w 32 (Raw.cells ⟨KA,kn,kc,IA,n,ic,LA,ln,lc⟩ m);have hb0:=(Br w.heap.size w).alloc (Lr _) (.cells (Raw.cells ⟨KA,kn,kc,IA,n,ic,LA,ln,lc⟩ m).toArray 32);have hlen:=Xby (q:=⟨KA,kn,kc,IA,n,ic,LA,ln,lc⟩) hm.recent;have hmr:=MsgRow.of hrow hm.recent;have HCM:=Hd (Xuw ⟨KA,kn,kc,IA,n,ic,LA,ln,lc⟩ m);have HONE:=Hd (Xhf (q:=⟨KA,kn,kc,IA,n,ic,LA,ln,lc⟩) (m:=m));obtain⟨cs,hcs⟩:∃cs,cs=Raw.cells ⟨KA,kn,kc,IA,n,ic,LA,ln,lc⟩ m:=⟨_,rfl⟩;rw[←hcs]at hrow hb0 hlen hmr HCM HONE ⊢;clear hcs;have HSZ:=Hd (show(Tryz.prog.info? 32).map (·.size)=some cs.length by rw[Xcv,hlen]);have HLEN:=Hd hlen;have HROW:=Hd hrow;have HMR:=Hd hmr;have HM:=Hd hm;have HB0:=Hd hb0;have HIX:=Hd (And.intro hix hlx);have k1:=hm.kn;have k2:=hm.n;have k3:=hm.ln;have hkn:=hm.keys.len;have hin:=hm.ins.len;have hln:=hm.looks.len;dsimp only at k1 k2 k3 hkn hin hln
 have HNN:=Hd (And.intro hkn (And.intro hin hln));rw[hkn]at hk;rw[hin]at hi;rw[hln]at hl;unfold maxLen at k1 k2 k3;clear hlen hm hb0 hrow hmr hix hlx hkn hin hln;go_enter Tryz.func47,Tryz.ntmps47
 go_upto_region 1 with fail
 change Code.wp _ _ _ _ ((w.alloc (.cells cs.toArray 32)).alloc (.cells mzero.toArray 32))
 have hr0:=Row.new (w.alloc (.cells cs.toArray 32)) 32 mzero;have hz:((w.alloc (.cells cs.toArray 32)).alloc (.cells mzero.toArray 32)).heap.size=w.heap.size+2:=by simp
 have hb1:=HB0.out.alloc HB0.out.size (.cells mzero.toArray 32);have hrm:=HROW.out.alloc (.cells mzero.toArray 32);have hmr:=HMR.out.keep (B:=w.heap.size+1) (by omega) ((Br (w.heap.size+1) (w.alloc (.cells cs.toArray 32))).alloc (by simp) (.cells mzero.toArray 32));rw[show(w.alloc (.cells cs.toArray 32)).heap.size=w.heap.size+1 by simp]at hr0;generalize ((w.alloc (.cells cs.toArray 32)).alloc (.cells mzero.toArray 32))=W1 at *;clear HROW HMR HB0;have HR0:=Hd hr0;have HZ1:=Hd hz;have HB1:=Hd hb1;have HRM:=Hd hrm;have HMR:=Hd hmr;clear hr0 hz hb1 hrm hmr;generalize hT:w.heap.size+2=tb at *;have HT:=Hd hT;clear hT;go_wp2_with (first
  | ((with_reducible show wpList _ _ _ (⟨some 6,_,_,_,_,_⟩::_) _ _);go_must(refine Xa1 rfl 32 (.tmp 1) rfl w.heap.size 32 cs _ Tryz.underlying32 rfl HSZ.out HRM.out ?_ ?_;go_simp))
  | ((with_reducible show wpList _ _ _ (⟨none,Op.store 32 _ _,_,_,_,_⟩::_) _ _);go_must(refine Xa2 rfl 32 (.tmp 3) (.tmp 6) rfl cs HSZ.out HONE.out (by rw[HLEN.out];rfl) ?_ ?_ ?_;go_simp;go_simp;intro w2 hr2 hb2 hz2;have HR2:=Hd hr2;have HB2:=Hd hb2;have HZ2:=Hd hz2;have c4:=(HMR.out.keep (by have:=HZ1.out;have:=HT.out;omega) hb2).c4;dsimp only at c4;clear hr2 hb2 hz2)))
 clear c4;have HB02:Hid (Below w.heap.size w w2):=Hd (HB1.out.trans (HB2.out.mono HB1.out.size));have HG2:Hid (w.heap.size+1<W1.heap.size∧W1.heap.size<w2.heap.size):=Hd ⟨by have:=HZ1.out;have:=HT.out;omega,by have:=HZ2.out;omega⟩;have H32:=Hd HM.out.recent;refine(Xtp KA kn kc m.keys w2 B (HM.out.keys.below (HB02.out.mono hB)) (by have:=HB02.out.size;omega) (by omega)).mono ?_;rintro e w3 ⟨gk,rfl,hgk,hrk,hb3⟩;have hr3:Row w3 W1.heap.size 32 (mcells m.v0 m.s m.r m.o (.slice KA kn kc) m.recent (.slice IA n ic) (.slice LA ln lc)):=by
  have:=HR2.out.below hb3 HG2.out.2;rwa [HCM.out]at this
 have HB03:Hid (Below w.heap.size w w3):=Hd (HB02.out.trans (hb3.mono HB02.out.size));have HRM3:=Hd ((HMR.out.keep (B:=W1.heap.size) (by have:=HG2.out;omega) HB2.out).keep (B:=w2.heap.size) (by have:=HG2.out;omega) hb3);have HRZ3:=Hd ((HR0.out.below HB2.out (by have:=HG2.out;omega)).below hb3 (by have:=HG2.out;omega));have c4:w3.cell? ⟨W1.heap.size,4,none⟩=some (.slice KA kn kc):=hr3.cell 4;have f4:=hr3.frozen 4;have c37:=mc37 hr3 H32.out;have f37:=hr3.frozen 37;have c38:=mc38 hr3 H32.out;have f38:=hr3.frozen 38;have HR3:=Hd hr3;have HRK:=Hd hrk;have HGK:=Hd (And.intro hgk (And.intro hrk.lt hb3.size));clear hr3 hrk hgk hb3 HR2 HMR HR0 HRM HB2 HB1;go_wp2_with fail;clear c4 f4 c37 f37 c38 f38;have h3s:=Xnm HR3.out H32.out (.slice (some ⟨gk,0,none⟩) kn (kn+3)) (.slice none 0 0) (.slice none 0 0);obtain⟨W5,hW5⟩:∃W5,W5=((w3.setCell ⟨W1.heap.size,4,none⟩ (.slice (some ⟨gk,0,none⟩) kn (kn+3))).setCell ⟨W1.heap.size,37,none⟩ (.slice none 0 0)).setCell ⟨W1.heap.size,38,none⟩ (.slice none 0 0):=⟨_,rfl⟩;rw[←hW5]at h3s ⊢;clear hW5;obtain⟨hr5,ht5,hz5⟩:=h3s;clear HR3;have HB5:Hid (Below w.heap.size w W5):=Hd (HB03.out.trans (ht5.below (by have:=HG2.out;omega) HB03.out.size));have HM5:=Hd (HM.out.below (HB5.out.mono hB));have HRM5:Hid (W5.cell? ⟨w.heap.size,37,none⟩=some (.slice IA n ic)∧W5.cell? ⟨w.heap.size,38,none⟩=some (.slice LA ln lc)):=Hd ⟨(World.cell?_of_block (ht5.block w.heap.size (by have:=HG2.out;have:=HGK.out;omega) (by have:=HG2.out;omega))).trans HRM3.out.c37,(World.cell?_of_block (ht5.block w.heap.size (by have:=HG2.out;have:=HGK.out;omega) (by have:=HG2.out;omega))).trans HRM3.out.c38⟩;have HRZ5:=Hd (ht5.row HRZ3.out (by have:=HG2.out;omega));have HRK5:=Hd (ht5.row HRK.out (by have:=HG2.out;have:=HGK.out;omega));have HR5:=Hd hr5;have HS5:Hid (w.heap.size+1<W1.heap.size∧W1.heap.size<gk∧gk<W5.heap.size):=Hd (by have:=HG2.out;have:=HGK.out;omega);clear hr5 ht5 hz5 HRM3 HRZ3 HRK HB03 HB02 HM;generalize W1.heap.size=tb at *;clear HG2 HGK HZ1 HZ2;have HOW0:=Hd (World.ownsRow_nil W5 W5.heap.size 61 3);go_loopw [4] (fun i wr=>∃(k:Nat) (V:Value) (css:List (List Value)) (L R:Nat→Nat),k≤n∧i=.int .i64 k∧Row wr tb 32 (mcells m.v0 m.s m.r m.o (.slice (some ⟨gk,0,none⟩) kn (kn+3)) m.recent V (.slice none 0 0))∧LV InT 61 3 wr W5.heap.size V (m.ins.take k) css L R∧But tb W5 wr) (fun i _=>n - (intOf i).toNat)
 case atStart=>exact⟨0,.slice none 0 0,[],fun _=>0,fun _=>0,Nat.zero_le _,rfl,HR5.out,LV.none HOW0.out,But.refl _ _⟩
 case round =>
 clear HR5 HOW0;obtain⟨k,V,css,L,R,hk,rfl,hr,hv,hb⟩:=hrel;have HR:=Hd hr;have HV:=Hd hv;have HB:=Hd hb;have c37:wr.cell? ⟨w.heap.size,37,none⟩=some (.slice IA n ic):=(World.cell?_of_block (hb.block w.heap.size (by have:=HS5.out;omega) (by have:=HS5.out;omega))).trans HRM5.out.1;clear hr hv hb;by_cases hlt:k<n
 ·obtain⟨a,x,va,vd,rfl,hab,hx,hat⟩:=HM5.out.ins.get hlt;replace hat:=hat.keep hab fun p hp=>World.cell?_of_block (HB.out.block p.block (by have:=HS5.out;omega) (by have:=HS5.out;omega))
  have hbe:=HIX.out.1 x (List.mem_of_getElem? hx);obtain⟨A1,c1,rfl,s1,_,_⟩:=hat.acc.is;obtain⟨A2,c2,rfl,s2,_,_⟩:=hat.dat.is;have HS0:Hid (TwS w.heap.size a k n ic x.p (.slice A1 x.acc.length c1) (.slice A2 x.dat.length c2) wr.drew):=Hd ⟨c37,by
   have h:=hat.cells 0 _ rfl;rw[Xc2,Nat.add_zero]at h;exact h,hat.cells 1 _ rfl,hat.cells 2 _ rfl⟩
  obtain⟨A0,c0,hV⟩:=HV.out.form;subst hV;have HT0:Hid (wr.drew.cell? ⟨tb,37,none⟩=some (.slice A0 (m.ins.take k).length c0)):=Hd (mc37 HR.out.drew H32.out);have hki:(k:Int)<n:=by omega
  have hk0:(0:Int)≤k:=by omega
  have HX:=Hd hx;have HBE:=Hd hbe;have S2:=Hd s2;have HBW:Hid (B≤wr.drew.heap.size∧tb<wr.drew.heap.size∧w.heap.size<wr.drew.heap.size∧a.block<wr.drew.heap.size):=Hd (by have:=HB.out.size;have:=HS5.out;show B≤wr.heap.size∧tb<wr.heap.size∧w.heap.size<wr.heap.size∧a.block<wr.heap.size;omega);have HC5:=Hd (Xd9 A1 x.acc.length c1 x.acc wr.drew B s1.drew HBW.out.1 (by omega));clear hat s1 s2 hx hbe;go_wp2_with fail;refine wp_region_held (S:=TwS w.heap.size a k n ic x.p (.slice A1 x.acc.length c1) (.slice A2 x.dat.length c2)) (by kernel_rfl) ?_;try(change wpAnyH _ _ _ _ _ _ _ _ (World.drew _))
  refine Tk 0 rfl ?_ HS0.out ?_ ⟨?_,rfl⟩
  ·intro w hw;obtain⟨q37,q0,q1,q2⟩:=hw;go_simp;try with_reducible rfl
  try simp only[nm]
  refine Tk 2 rfl ?_ HS0.out ?_ ⟨?_,rfl⟩
  ·intro w hw;obtain⟨q37,q0,q1,q2⟩:=hw;go_simp;try with_reducible rfl
  try simp only[nm]
  refine Tk 3 rfl ?_ HS0.out ?_ ⟨?_,rfl⟩
  ·intro w hw;obtain⟨q37,q0,q1,q2⟩:=hw;go_simp;try with_reducible rfl
  try simp only[nm]
  refine Tk 4 rfl ?_ HS0.out ?_ ⟨?_,rfl⟩
  ·intro w hw;obtain⟨q37,q0,q1,q2⟩:=hw;go_simp;try with_reducible rfl
  try simp only[nm]
  refine Tk 5 rfl ?_ HS0.out ?_ ⟨?_,rfl⟩
  ·intro w hw;obtain⟨q37,q0,q1,q2⟩:=hw;go_simp;try with_reducible rfl
  try simp only[nm]
  refine Tk 6 rfl ?_ HS0.out ?_ ⟨?_,rfl⟩
  ·intro w hw;obtain⟨q37,q0,q1,q2⟩:=hw;go_simp;try with_reducible rfl
  try simp only[nm]
  refine Tk 7 rfl ?_ HS0.out ?_ ⟨?_,rfl⟩
  ·intro w hw;obtain⟨q37,q0,q1,q2⟩:=hw;go_simp;try with_reducible rfl
  try simp only[nm]
  refine Tk 8 rfl ?_ HS0.out ?_ ⟨?_,rfl⟩
  ·intro w hw;obtain⟨q37,q0,q1,q2⟩:=hw;go_simp;try with_reducible rfl
  try simp only[nm]
  refine Tk 9 rfl ?_ HS0.out ?_ ⟨?_,rfl⟩
  ·intro w hw;obtain⟨q37,q0,q1,q2⟩:=hw;go_simp;try with_reducible rfl
  try simp only[nm]
  refine Tk 10 rfl ?_ HS0.out ?_ ⟨?_,rfl⟩
  ·intro w hw;obtain⟨q37,q0,q1,q2⟩:=hw;go_simp;try with_reducible rfl
  try simp only[nm]
  refine Tk 11 rfl ?_ HS0.out ?_ ⟨?_,rfl⟩
  ·intro w hw;obtain⟨q37,q0,q1,q2⟩:=hw;go_simp;try with_reducible rfl
  try simp only[nm]
  refine Tk 12 rfl ?_ HS0.out ?_ ⟨?_,rfl⟩
  ·intro w hw;obtain⟨q37,q0,q1,q2⟩:=hw;go_simp;try with_reducible rfl
  try simp only[nm]
  refine Tk 13 rfl ?_ HS0.out ?_ ⟨?_,rfl⟩
  ·intro w hw;obtain⟨q37,q0,q1,q2⟩:=hw;go_simp;try with_reducible rfl
  try simp only[nm]
  refine Tk 15 rfl ?_ HS0.out ?_ ⟨?_,rfl⟩
  ·intro w hw;obtain⟨q37,q0,q1,q2⟩:=hw;go_simp;try with_reducible rfl
  try simp only[nm]
  refine Tk 16 rfl ?_ HS0.out ?_ ⟨?_,rfl⟩
  ·intro w hw;obtain⟨q37,q0,q1,q2⟩:=hw;go_simp;try with_reducible rfl
  try simp only[nm]
  refine Tk 17 rfl ?_ HS0.out ?_ ⟨?_,rfl⟩
  ·intro w hw;obtain⟨q37,q0,q1,q2⟩:=hw;go_simp;try with_reducible rfl
  try simp only[nm]
  refine Tk 18 rfl ?_ HS0.out ?_ ⟨?_,rfl⟩
  ·intro w hw;obtain⟨q37,q0,q1,q2⟩:=hw;go_simp;try with_reducible rfl
  try simp only[nm]
  refine Tk 19 rfl ?_ HS0.out ?_ ⟨?_,rfl⟩
  ·intro w hw;obtain⟨q37,q0,q1,q2⟩:=hw;go_simp;try with_reducible rfl
  try simp only[nm]
  refine Tk 20 rfl ?_ HS0.out ?_ ⟨?_,rfl⟩
  ·intro w hw;obtain⟨q37,q0,q1,q2⟩:=hw;go_simp;try with_reducible rfl
  try simp only[nm]
  refine wpAnyH_ready (rs:=[1,14]) (by kernel_rfl) (by simp) ?_;refine allL rfl (by kernel_rfl) (fun K hK=>?_) (allL rfl (by kernel_rfl) (fun K hK=>?_) (AllReadyH.nil))
  ·have c37:=HT0.out;go_simp;clear c37;refine hK _ _ HS0.out ?_;clear hK K;try simp only[nm]
   refine Rl 14 rfl fun K hK=>?_
   go_simp;refine HC5.out.mono ?_;rintro e w6 ⟨g1,rfl,hg1,hr1,hb6⟩;have HB6:=Hd hb6;have HR61:=Hd hr1;have HS6:=Hd (HS0.out.keep HBW.out.2.2.1 HBW.out.2.2.2 hb6);have HT6:=Hd ((hb6.cell (p:=⟨tb,37,none⟩) HBW.out.2.1).trans HT0.out);have HG1:=Hd hg1;have HC6:=Hd (Xd9 A2 x.dat.length c2 x.dat w6 B (S2.out.drew.below (hb6.mono HBW.out.1)) (Lq HBW.out.1 hb6.size) (by have:=HBE.out;omega));clear hr1 hb6 hg1;simp only[];refine hK _ _ HS6.out ?_;clear hK K;try simp only[nm]
   refine Rl 21 rfl fun K hK=>?_
   go_simp;refine HC6.out.mono ?_;rintro e w7 ⟨g2,rfl,hg2,hr2,hb7⟩;have hb67:=HB6.out.trans (hb7.mono HB6.out.size);have HB7:=Hd hb67;have HS7:=Hd (HS0.out.keep HBW.out.2.2.1 HBW.out.2.2.2 hb67);have HT7:=Hd ((hb67.cell (p:=⟨tb,37,none⟩) HBW.out.2.1).trans HT0.out);have HR71:=Hd (HR61.out.below hb7 HR61.out.lt);have HR72:=Hd hr2;have HG12:=Hd (And.intro HG1.out (And.intro HR61.out.lt (And.intro hg2 hr2.lt)));clear hr2 hb7 hb67 hg2;simp only[];refine hK _ _ HS7.out ?_;clear hK K;try simp only[nm]
   have HOW:=Hd (Xas (w:=wr.drew) (w':=w7) HV.out.own HB7.out);have HON:Hid (∀u ∈ (inCells x.p (.slice (some ⟨g1,0,none⟩) x.acc.length (x.acc.length+3)) (.slice (some ⟨g2,0,none⟩) x.dat.length (x.dat.length+3))),u.oneCell'=true):=Hd (by simp[inCells,Value.oneCell']);have HLW:Hid (W5.heap.size≤w7.heap.size∧(m.ins.take k).length≤65535):=Hd ⟨Lq HB.out.size HB7.out.size,by rw[List.length_take];omega⟩;have HLT7:Hid (w.heap.size<w7.heap.size∧a.block<w7.heap.size):=Hd (by have:=HLW.out.1;have:=HS5.out;omega);refine Tl 22 (v:=.agg (inCells x.p (.slice (some ⟨g1,0,none⟩) x.acc.length (x.acc.length+3)) (.slice (some ⟨g2,0,none⟩) x.dat.length (x.dat.length+3))).toArray) rfl (Or.inl ⟨by rfl,fun w _=>Xa9 w _ _ _ rfl (by simp only[List.map_toArray,List.map_cons,List.map_nil];exact Xjc _ _ _ _ _ _ _)⟩) HS7.out ?_;try simp only[nm]
   refine Rl 23 rfl fun K hK=>?_
   refine Xb6 29 61 (.tmp 42) rfl (inCells x.p (.slice (some ⟨g1,0,none⟩) x.acc.length (x.acc.length+3)) (.slice (some ⟨g2,0,none⟩) x.dat.length (x.dat.length+3))) _ 3 56 Tryz.underlying29 Xeq Xgs (by omega) (by omega) rfl ?_ ?_
   ·go_simp
   refine hK _ _ (HS7.out.keep HLT7.out.1 HLT7.out.2 ((Br _ _).alloc (Lr _) _)) ?_;clear hK K;try simp only[nm]
   refine Rl 24 rfl fun K hK=>?_
   refine Xc4 (.tmp 21) (.tmp 43) 29 rfl W5.heap.size 61 _ 3 56 Tryz.underlying29 Xeq Xgs (by omega) (.slice A0 (m.ins.take k).length c0) (m.ins.take k).length css.flatten (inCells x.p (.slice (some ⟨g1,0,none⟩) x.acc.length (x.acc.length+3)) (.slice (some ⟨g2,0,none⟩) x.dat.length (x.dat.length+3))) 1 rfl HON.out rfl ?_ HOW.out ?_ HLW.out.1 (by have:=HLW.out.2;unfold maxLen;omega) (by have:=HLW.out.2;omega) ?_
   ·go_simp
   ·go_simp
   intro v8 w8 ho8 hg8;obtain⟨A8,c8,rfl⟩:=Xcn ho8;have hb8:=hg8.below HOW.out HLW.out.1;have HG8:=Hd hg8;have HO8:=Hd ho8;have HR8:=Hd ((HR.out.drew.below HB7.out HBW.out.2.1).below hb8 (by have:=HS5.out;omega));have HS8:=Hd (HS7.out.keep (by have:=HS5.out;omega) (by have:=HS5.out;omega) hb8);have e8:=mc37 HR8.out H32.out;have f8:=HR8.out.frozen 37;clear ho8 hg8;refine hK _ _ HS8.out ?_;clear hK K;try simp only[nm]
   refine Tk 25 rfl ?_ HS8.out ?_ ⟨?_,rfl⟩
   ·intro w hw;obtain⟨q37,q0,q1,q2⟩:=hw;go_simp;try with_reducible rfl
   try simp only[nm]
   refine Rl 26 rfl fun K hK=>?_
   go_simp;refine hK _ _ (HS8.out.far (by have:=HS5.out;omega) (by have:=HS5.out;omega)) ?_;clear hK K e8 f8;try simp only[nm]
   refine wpAnyH_done (by kernel_rfl) ?_ _;go_wp2_with fail;go_roundw
   case rel =>
    have hz6:wr.heap.size≤w6.heap.size:=HB6.out.size;have hz7:wr.heap.size≤w7.heap.size:=HB7.out.size;have hg12:=HG12.out;have hev:InT w7 wr.heap.size w7.heap.size (inCells x.p (.slice (some ⟨g1,0,none⟩) x.acc.length (x.acc.length+3)) (.slice (some ⟨g2,0,none⟩) x.dat.length (x.dat.length+3))) x:=by
     refine⟨_,_,w6.heap.size,rfl,hz6,by omega,⟨HBE.out.1,g1,rfl,hg12.1,hg12.2.1,HR71.out⟩,⟨HBE.out.2,g2,rfl,hg12.2.2.1,hg12.2.2.2,HR72.out⟩⟩
    have hbw:But tb wr w7:=(But.refl tb wr).drew.trans (But.of_below HB7.out tb);have hlv:=HV.out.snoc Xcg hbw (by have:=HS5.out;omega) HB.out.size hev HG8.out HO8.out;have htk:m.ins.take k++[x]=m.ins.take (k+1):=by rw[List.take_add_one,HX.out];rfl
    rw[htk]at hlv;have hT:=Xa6 w8 ⟨tb,37,none⟩ (.slice A8 ((m.ins.take k).length+1) c8);have hbt:=(But.grewV HG8.out HOW.out W5 (HB.out.trans hbw) (Lr _)).trans (But.of_turned hT);have hr9:=Xkt HR8.out H32.out (.slice A8 ((m.ins.take k).length+1) c8);rw[←List.length_take];exact⟨k+1,_,_,_,_,by omega,by go_num,hr9,hlv.but Xcg (But.of_turned hT) (by have:=HS5.out;show tb<W5.heap.size;omega),hbt⟩
   case measure=>simp[intOf];omega
  ·go_simp;refine HC5.out.mono ?_;rintro e w6 ⟨g1,rfl,hg1,hr1,hb6⟩;have HB6:=Hd hb6;have HR61:=Hd hr1;have HS6:=Hd (HS0.out.keep HBW.out.2.2.1 HBW.out.2.2.2 hb6);have HT6:=Hd ((hb6.cell (p:=⟨tb,37,none⟩) HBW.out.2.1).trans HT0.out);have HG1:=Hd hg1;have HC6:=Hd (Xd9 A2 x.dat.length c2 x.dat w6 B (S2.out.drew.below (hb6.mono HBW.out.1)) (Lq HBW.out.1 hb6.size) (by have:=HBE.out;omega));clear hr1 hb6 hg1;simp only[];refine hK _ _ HS6.out ?_;clear hK K;try simp only[nm]
   refine wpAnyH_ready (rs:=[1,21]) (by kernel_rfl) (by simp) ?_;refine allL rfl (by kernel_rfl) (fun K hK=>?_) (allL rfl (by kernel_rfl) (fun K hK=>?_) (AllReadyH.nil))
   ·have c37:=HT6.out;go_simp;clear c37;refine hK _ _ HS6.out ?_;clear hK K;try simp only[nm]
    refine Rl 21 rfl fun K hK=>?_
    go_simp;refine HC6.out.mono ?_;rintro e w7 ⟨g2,rfl,hg2,hr2,hb7⟩;have hb67:=HB6.out.trans (hb7.mono HB6.out.size);have HB7:=Hd hb67;have HS7:=Hd (HS0.out.keep HBW.out.2.2.1 HBW.out.2.2.2 hb67);have HT7:=Hd ((hb67.cell (p:=⟨tb,37,none⟩) HBW.out.2.1).trans HT0.out);have HR71:=Hd (HR61.out.below hb7 HR61.out.lt);have HR72:=Hd hr2;have HG12:=Hd (And.intro HG1.out (And.intro HR61.out.lt (And.intro hg2 hr2.lt)));clear hr2 hb7 hb67 hg2;simp only[];refine hK _ _ HS7.out ?_;clear hK K;try simp only[nm]
    have HOW:=Hd (Xas (w:=wr.drew) (w':=w7) HV.out.own HB7.out);have HON:Hid (∀u ∈ (inCells x.p (.slice (some ⟨g1,0,none⟩) x.acc.length (x.acc.length+3)) (.slice (some ⟨g2,0,none⟩) x.dat.length (x.dat.length+3))),u.oneCell'=true):=Hd (by simp[inCells,Value.oneCell']);have HLW:Hid (W5.heap.size≤w7.heap.size∧(m.ins.take k).length≤65535):=Hd ⟨Lq HB.out.size HB7.out.size,by rw[List.length_take];omega⟩;have HLT7:Hid (w.heap.size<w7.heap.size∧a.block<w7.heap.size):=Hd (by have:=HLW.out.1;have:=HS5.out;omega);refine Tl 22 (v:=.agg (inCells x.p (.slice (some ⟨g1,0,none⟩) x.acc.length (x.acc.length+3)) (.slice (some ⟨g2,0,none⟩) x.dat.length (x.dat.length+3))).toArray) rfl (Or.inl ⟨by rfl,fun w _=>Xa9 w _ _ _ rfl (by simp only[List.map_toArray,List.map_cons,List.map_nil];exact Xjc _ _ _ _ _ _ _)⟩) HS7.out ?_;try simp only[nm]
    refine Rl 23 rfl fun K hK=>?_
    refine Xb6 29 61 (.tmp 42) rfl (inCells x.p (.slice (some ⟨g1,0,none⟩) x.acc.length (x.acc.length+3)) (.slice (some ⟨g2,0,none⟩) x.dat.length (x.dat.length+3))) _ 3 56 Tryz.underlying29 Xeq Xgs (by omega) (by omega) rfl ?_ ?_
    ·go_simp
    refine hK _ _ (HS7.out.keep HLT7.out.1 HLT7.out.2 ((Br _ _).alloc (Lr _) _)) ?_;clear hK K;try simp only[nm]
    refine Rl 24 rfl fun K hK=>?_
    refine Xc4 (.tmp 21) (.tmp 43) 29 rfl W5.heap.size 61 _ 3 56 Tryz.underlying29 Xeq Xgs (by omega) (.slice A0 (m.ins.take k).length c0) (m.ins.take k).length css.flatten (inCells x.p (.slice (some ⟨g1,0,none⟩) x.acc.length (x.acc.length+3)) (.slice (some ⟨g2,0,none⟩) x.dat.length (x.dat.length+3))) 1 rfl HON.out rfl ?_ HOW.out ?_ HLW.out.1 (by have:=HLW.out.2;unfold maxLen;omega) (by have:=HLW.out.2;omega) ?_
    ·go_simp
    ·go_simp
    intro v8 w8 ho8 hg8;obtain⟨A8,c8,rfl⟩:=Xcn ho8;have hb8:=hg8.below HOW.out HLW.out.1;have HG8:=Hd hg8;have HO8:=Hd ho8;have HR8:=Hd ((HR.out.drew.below HB7.out HBW.out.2.1).below hb8 (by have:=HS5.out;omega));have HS8:=Hd (HS7.out.keep (by have:=HS5.out;omega) (by have:=HS5.out;omega) hb8);have e8:=mc37 HR8.out H32.out;have f8:=HR8.out.frozen 37;clear ho8 hg8;refine hK _ _ HS8.out ?_;clear hK K;try simp only[nm]
    refine Tk 25 rfl ?_ HS8.out ?_ ⟨?_,rfl⟩
    ·intro w hw;obtain⟨q37,q0,q1,q2⟩:=hw;go_simp;try with_reducible rfl
    try simp only[nm]
    refine Rl 26 rfl fun K hK=>?_
    go_simp;refine hK _ _ (HS8.out.far (by have:=HS5.out;omega) (by have:=HS5.out;omega)) ?_;clear hK K e8 f8;try simp only[nm]
    refine wpAnyH_done (by kernel_rfl) ?_ _;go_wp2_with fail;go_roundw
    case rel =>
     have hz6:wr.heap.size≤w6.heap.size:=HB6.out.size;have hz7:wr.heap.size≤w7.heap.size:=HB7.out.size;have hg12:=HG12.out;have hev:InT w7 wr.heap.size w7.heap.size (inCells x.p (.slice (some ⟨g1,0,none⟩) x.acc.length (x.acc.length+3)) (.slice (some ⟨g2,0,none⟩) x.dat.length (x.dat.length+3))) x:=by
      refine⟨_,_,w6.heap.size,rfl,hz6,by omega,⟨HBE.out.1,g1,rfl,hg12.1,hg12.2.1,HR71.out⟩,⟨HBE.out.2,g2,rfl,hg12.2.2.1,hg12.2.2.2,HR72.out⟩⟩
     have hbw:But tb wr w7:=(But.refl tb wr).drew.trans (But.of_below HB7.out tb);have hlv:=HV.out.snoc Xcg hbw (by have:=HS5.out;omega) HB.out.size hev HG8.out HO8.out;have htk:m.ins.take k++[x]=m.ins.take (k+1):=by rw[List.take_add_one,HX.out];rfl
     rw[htk]at hlv;have hT:=Xa6 w8 ⟨tb,37,none⟩ (.slice A8 ((m.ins.take k).length+1) c8);have hbt:=(But.grewV HG8.out HOW.out W5 (HB.out.trans hbw) (Lr _)).trans (But.of_turned hT);have hr9:=Xkt HR8.out H32.out (.slice A8 ((m.ins.take k).length+1) c8);rw[←List.length_take];exact⟨k+1,_,_,_,_,by omega,by go_num,hr9,hlv.but Xcg (But.of_turned hT) (by have:=HS5.out;show tb<W5.heap.size;omega),hbt⟩
    case measure=>simp[intOf];omega
   ·go_simp;refine HC6.out.mono ?_;rintro e w7 ⟨g2,rfl,hg2,hr2,hb7⟩;have hb67:=HB6.out.trans (hb7.mono HB6.out.size);have HB7:=Hd hb67;have HS7:=Hd (HS0.out.keep HBW.out.2.2.1 HBW.out.2.2.2 hb67);have HT7:=Hd ((hb67.cell (p:=⟨tb,37,none⟩) HBW.out.2.1).trans HT0.out);have HR71:=Hd (HR61.out.below hb7 HR61.out.lt);have HR72:=Hd hr2;have HG12:=Hd (And.intro HG1.out (And.intro HR61.out.lt (And.intro hg2 hr2.lt)));clear hr2 hb7 hb67 hg2;simp only[];refine hK _ _ HS7.out ?_;clear hK K;try simp only[nm]
    have HOW:=Hd (Xas (w:=wr.drew) (w':=w7) HV.out.own HB7.out);have HON:Hid (∀u ∈ (inCells x.p (.slice (some ⟨g1,0,none⟩) x.acc.length (x.acc.length+3)) (.slice (some ⟨g2,0,none⟩) x.dat.length (x.dat.length+3))),u.oneCell'=true):=Hd (by simp[inCells,Value.oneCell']);have HLW:Hid (W5.heap.size≤w7.heap.size∧(m.ins.take k).length≤65535):=Hd ⟨Lq HB.out.size HB7.out.size,by rw[List.length_take];omega⟩;have HLT7:Hid (w.heap.size<w7.heap.size∧a.block<w7.heap.size):=Hd (by have:=HLW.out.1;have:=HS5.out;omega);refine Tl 22 (v:=.agg (inCells x.p (.slice (some ⟨g1,0,none⟩) x.acc.length (x.acc.length+3)) (.slice (some ⟨g2,0,none⟩) x.dat.length (x.dat.length+3))).toArray) rfl (Or.inl ⟨by rfl,fun w _=>Xa9 w _ _ _ rfl (by simp only[List.map_toArray,List.map_cons,List.map_nil];exact Xjc _ _ _ _ _ _ _)⟩) HS7.out ?_;try simp only[nm]
    refine wpAnyH_ready (rs:=[1,23]) (by kernel_rfl) (by simp) ?_;refine allL rfl (by kernel_rfl) (fun K hK=>?_) (allL rfl (by kernel_rfl) (fun K hK=>?_) (AllReadyH.nil))
    ·have c37:=HT7.out;go_simp;clear c37;refine hK _ _ HS7.out ?_;clear hK K;try simp only[nm]
     refine Rl 23 rfl fun K hK=>?_
     refine Xb6 29 61 (.tmp 42) rfl (inCells x.p (.slice (some ⟨g1,0,none⟩) x.acc.length (x.acc.length+3)) (.slice (some ⟨g2,0,none⟩) x.dat.length (x.dat.length+3))) _ 3 56 Tryz.underlying29 Xeq Xgs (by omega) (by omega) rfl ?_ ?_
     ·go_simp
     refine hK _ _ (HS7.out.keep HLT7.out.1 HLT7.out.2 ((Br _ _).alloc (Lr _) _)) ?_;clear hK K;try simp only[nm]
     refine Rl 24 rfl fun K hK=>?_
     refine Xc4 (.tmp 21) (.tmp 43) 29 rfl W5.heap.size 61 _ 3 56 Tryz.underlying29 Xeq Xgs (by omega) (.slice A0 (m.ins.take k).length c0) (m.ins.take k).length css.flatten (inCells x.p (.slice (some ⟨g1,0,none⟩) x.acc.length (x.acc.length+3)) (.slice (some ⟨g2,0,none⟩) x.dat.length (x.dat.length+3))) 1 rfl HON.out rfl ?_ HOW.out ?_ HLW.out.1 (by have:=HLW.out.2;unfold maxLen;omega) (by have:=HLW.out.2;omega) ?_
     ·go_simp
     ·go_simp
     intro v8 w8 ho8 hg8;obtain⟨A8,c8,rfl⟩:=Xcn ho8;have hb8:=hg8.below HOW.out HLW.out.1;have HG8:=Hd hg8;have HO8:=Hd ho8;have HR8:=Hd ((HR.out.drew.below HB7.out HBW.out.2.1).below hb8 (by have:=HS5.out;omega));have HS8:=Hd (HS7.out.keep (by have:=HS5.out;omega) (by have:=HS5.out;omega) hb8);have e8:=mc37 HR8.out H32.out;have f8:=HR8.out.frozen 37;clear ho8 hg8;refine hK _ _ HS8.out ?_;clear hK K;try simp only[nm]
     refine Tk 25 rfl ?_ HS8.out ?_ ⟨?_,rfl⟩
     ·intro w hw;obtain⟨q37,q0,q1,q2⟩:=hw;go_simp;try with_reducible rfl
     try simp only[nm]
     refine Rl 26 rfl fun K hK=>?_
     go_simp;refine hK _ _ (HS8.out.far (by have:=HS5.out;omega) (by have:=HS5.out;omega)) ?_;clear hK K e8 f8;try simp only[nm]
     refine wpAnyH_done (by kernel_rfl) ?_ _;go_wp2_with fail;go_roundw
     case rel =>
      have hz6:wr.heap.size≤w6.heap.size:=HB6.out.size;have hz7:wr.heap.size≤w7.heap.size:=HB7.out.size;have hg12:=HG12.out;have hev:InT w7 wr.heap.size w7.heap.size (inCells x.p (.slice (some ⟨g1,0,none⟩) x.acc.length (x.acc.length+3)) (.slice (some ⟨g2,0,none⟩) x.dat.length (x.dat.length+3))) x:=by
       refine⟨_,_,w6.heap.size,rfl,hz6,by omega,⟨HBE.out.1,g1,rfl,hg12.1,hg12.2.1,HR71.out⟩,⟨HBE.out.2,g2,rfl,hg12.2.2.1,hg12.2.2.2,HR72.out⟩⟩
      have hbw:But tb wr w7:=(But.refl tb wr).drew.trans (But.of_below HB7.out tb);have hlv:=HV.out.snoc Xcg hbw (by have:=HS5.out;omega) HB.out.size hev HG8.out HO8.out;have htk:m.ins.take k++[x]=m.ins.take (k+1):=by rw[List.take_add_one,HX.out];rfl
      rw[htk]at hlv;have hT:=Xa6 w8 ⟨tb,37,none⟩ (.slice A8 ((m.ins.take k).length+1) c8);have hbt:=(But.grewV HG8.out HOW.out W5 (HB.out.trans hbw) (Lr _)).trans (But.of_turned hT);have hr9:=Xkt HR8.out H32.out (.slice A8 ((m.ins.take k).length+1) c8);rw[←List.length_take];exact⟨k+1,_,_,_,_,by omega,by go_num,hr9,hlv.but Xcg (But.of_turned hT) (by have:=HS5.out;show tb<W5.heap.size;omega),hbt⟩
     case measure=>simp[intOf];omega
    ·refine Xb6 29 61 (.tmp 42) rfl (inCells x.p (.slice (some ⟨g1,0,none⟩) x.acc.length (x.acc.length+3)) (.slice (some ⟨g2,0,none⟩) x.dat.length (x.dat.length+3))) _ 3 56 Tryz.underlying29 Xeq Xgs (by omega) (by omega) rfl ?_ ?_
     ·go_simp
     refine hK _ _ (HS7.out.keep HLT7.out.1 HLT7.out.2 ((Br _ _).alloc (Lr _) _)) ?_;clear hK K;try simp only[nm]
     refine Rl 1 rfl fun K hK=>?_
     have c37:=((Br w7.heap.size w7).alloc (Lr _) (.cells (inCells x.p (.slice (some ⟨g1,0,none⟩) x.acc.length (x.acc.length+3)) (.slice (some ⟨g2,0,none⟩) x.dat.length (x.dat.length+3))).toArray 61)).cell (p:=⟨tb,37,none⟩) (show tb<w7.heap.size from Nat.lt_of_lt_of_le HBW.out.2.1 HB7.out.size) |>.trans HT7.out
     go_simp;clear c37;refine hK _ _ (HS7.out.keep HLT7.out.1 HLT7.out.2 ((Br _ _).alloc (Lr _) _)) ?_;clear hK K;try simp only[nm]
     refine Rl 24 rfl fun K hK=>?_
     refine Xc4 (.tmp 21) (.tmp 43) 29 rfl W5.heap.size 61 _ 3 56 Tryz.underlying29 Xeq Xgs (by omega) (.slice A0 (m.ins.take k).length c0) (m.ins.take k).length css.flatten (inCells x.p (.slice (some ⟨g1,0,none⟩) x.acc.length (x.acc.length+3)) (.slice (some ⟨g2,0,none⟩) x.dat.length (x.dat.length+3))) 1 rfl HON.out rfl ?_ HOW.out ?_ HLW.out.1 (by have:=HLW.out.2;unfold maxLen;omega) (by have:=HLW.out.2;omega) ?_
     ·go_simp
     ·go_simp
     intro v8 w8 ho8 hg8;obtain⟨A8,c8,rfl⟩:=Xcn ho8;have hb8:=hg8.below HOW.out HLW.out.1;have HG8:=Hd hg8;have HO8:=Hd ho8;have HR8:=Hd ((HR.out.drew.below HB7.out HBW.out.2.1).below hb8 (by have:=HS5.out;omega));have HS8:=Hd (HS7.out.keep (by have:=HS5.out;omega) (by have:=HS5.out;omega) hb8);have e8:=mc37 HR8.out H32.out;have f8:=HR8.out.frozen 37;clear ho8 hg8;refine hK _ _ HS8.out ?_;clear hK K;try simp only[nm]
     refine Tk 25 rfl ?_ HS8.out ?_ ⟨?_,rfl⟩
     ·intro w hw;obtain⟨q37,q0,q1,q2⟩:=hw;go_simp;try with_reducible rfl
     try simp only[nm]
     refine Rl 26 rfl fun K hK=>?_
     go_simp;refine hK _ _ (HS8.out.far (by have:=HS5.out;omega) (by have:=HS5.out;omega)) ?_;clear hK K e8 f8;try simp only[nm]
     refine wpAnyH_done (by kernel_rfl) ?_ _;go_wp2_with fail;go_roundw
     case rel =>
      have hz6:wr.heap.size≤w6.heap.size:=HB6.out.size;have hz7:wr.heap.size≤w7.heap.size:=HB7.out.size;have hg12:=HG12.out;have hev:InT w7 wr.heap.size w7.heap.size (inCells x.p (.slice (some ⟨g1,0,none⟩) x.acc.length (x.acc.length+3)) (.slice (some ⟨g2,0,none⟩) x.dat.length (x.dat.length+3))) x:=by
       refine⟨_,_,w6.heap.size,rfl,hz6,by omega,⟨HBE.out.1,g1,rfl,hg12.1,hg12.2.1,HR71.out⟩,⟨HBE.out.2,g2,rfl,hg12.2.2.1,hg12.2.2.2,HR72.out⟩⟩
      have hbw:But tb wr w7:=(But.refl tb wr).drew.trans (But.of_below HB7.out tb);have hlv:=HV.out.snoc Xcg hbw (by have:=HS5.out;omega) HB.out.size hev HG8.out HO8.out;have htk:m.ins.take k++[x]=m.ins.take (k+1):=by rw[List.take_add_one,HX.out];rfl
      rw[htk]at hlv;have hT:=Xa6 w8 ⟨tb,37,none⟩ (.slice A8 ((m.ins.take k).length+1) c8);have hbt:=(But.grewV HG8.out HOW.out W5 (HB.out.trans hbw) (Lr _)).trans (But.of_turned hT);have hr9:=Xkt HR8.out H32.out (.slice A8 ((m.ins.take k).length+1) c8);rw[←List.length_take];exact⟨k+1,_,_,_,_,by omega,by go_num,hr9,hlv.but Xcg (But.of_turned hT) (by have:=HS5.out;show tb<W5.heap.size;omega),hbt⟩
     case measure=>simp[intOf];omega
 ·obtain rfl:k=n:=by omega
  obtain⟨W6,hW6⟩:∃u:World,u=wr:=⟨_,rfl⟩;subst hW6;have htk:m.ins.take k=m.ins:=List.take_of_length_le (by have:=HNN.out.2.1;omega);have hv6:=HV.out;rw[htk]at hv6;obtain⟨IA',ic',hVf⟩:=hv6.form;subst hVf;have HIV:=Hd (LVR.of hv6);have HRI:=Hd HR.out;have HBI:=Hd HB.out;have HSW:Hid (w.heap.size+1<tb∧tb<gk∧gk<W5.heap.size∧W5.heap.size≤W6.heap.size∧B≤w.heap.size):=Hd (by have:=HS5.out;have:=HB.out.size;omega);clear hv6 HV HR HB htk css L R;go_wp2_with fail;clear c37;have HOWL:=Hd (World.ownsRow_nil W6 W6.heap.size 64 34);go_loopw [5] (fun i wr=>∃(k:Nat) (V:Value) (css:List (List Value)) (L R:Nat→Nat),k≤ln∧i=.int .i64 k∧Row wr tb 32 (mcells m.v0 m.s m.r m.o (.slice (some ⟨gk,0,none⟩) kn (kn+3)) m.recent (.slice IA' m.ins.length ic') V)∧LV LookT 64 34 wr W6.heap.size V (m.looks.take k) css L R∧But tb W6 wr) (fun i _=>ln - (intOf i).toNat)
  case atStart=>exact⟨0,.slice none 0 0,[],fun _=>0,fun _=>0,Nat.zero_le _,rfl,HRI.out,LV.none HOWL.out,But.refl _ _⟩
  case round =>
  clear HOWL HRI;obtain⟨k,V,css,L,R,hk,rfl,hr,hv,hb⟩:=hrel;have HR:=Hd hr;have HV:=Hd hv;have HBL:=Hd hb;have HB5W:=Hd (HBI.out.trans hb);have c37:wr.cell? ⟨w.heap.size,38,none⟩=some (.slice LA ln lc):=(World.cell?_of_block (HB5W.out.block w.heap.size (by have:=HSW.out;omega) (by have:=HSW.out;omega))).trans HRM5.out.2;clear hr hv hb;by_cases hlt:k<ln
  ·obtain⟨a,x,va,vd,rfl,hab,hx,hat⟩:=HM5.out.looks.get hlt;replace hat:=hat.keep hab fun p hp=>World.cell?_of_block (HB5W.out.block p.block (by have:=HSW.out;omega) (by have:=HSW.out;omega))
   have hbe:=HIX.out.2 x (List.mem_of_getElem? hx);obtain⟨A1,c1,rfl,s1,_,_⟩:=hat.wr.is;obtain⟨A2,c2,rfl,s2,_,_⟩:=hat.rd.is;have H32T:=Hd hat.len;have HS0:Hid (TwL w.heap.size a k ln lc x.tab (.slice A1 x.wr.length c1) (.slice A2 x.rd.length c2) wr.drew):=Hd ⟨c37,hat.tab0,hat.cell32,hat.cell33⟩;obtain⟨A0,c0,hV⟩:=HV.out.form;subst hV;have HT0:Hid (wr.drew.cell? ⟨tb,38,none⟩=some (.slice A0 (m.looks.take k).length c0)):=Hd (mc38 HR.out.drew H32.out);have hki:(k:Int)<ln:=by omega
   have hk0:(0:Int)≤k:=by omega
   have HX:=Hd hx;have HBE:=Hd hbe;have S2:=Hd s2;have HBW:Hid (B≤wr.drew.heap.size∧tb<wr.drew.heap.size∧w.heap.size<wr.drew.heap.size∧a.block<wr.drew.heap.size):=Hd (by have:=HBL.out.size;have:=HSW.out;show B≤wr.heap.size∧tb<wr.heap.size∧w.heap.size<wr.heap.size∧a.block<wr.heap.size;omega);have HC5:=Hd (Xd9 A1 x.wr.length c1 x.wr wr.drew B s1.drew HBW.out.1 (by omega));clear hat s1 s2 hx hbe;go_wp2_with fail;refine wp_region_held (S:=TwL w.heap.size a k ln lc x.tab (.slice A1 x.wr.length c1) (.slice A2 x.rd.length c2)) (by kernel_rfl) ?_;try(change wpAnyH _ _ _ _ _ _ _ _ (World.drew _))
   refine Tk 0 rfl ?_ HS0.out ?_ ⟨?_,rfl⟩
   ·intro w hw;obtain⟨q37,q0,q1,q2⟩:=hw;clear q0;go_simp;try with_reducible rfl
   try simp only[nm]
   refine Tk 2 rfl ?_ HS0.out ?_ ⟨?_,rfl⟩
   ·intro w hw;obtain⟨q37,q0,q1,q2⟩:=hw;clear q0;go_simp;try with_reducible rfl
   try simp only[nm]
   refine Tk 3 rfl ?_ HS0.out ?_ ⟨?_,rfl⟩
   ·intro w hw;obtain⟨q37,q0,q1,q2⟩:=hw;clear q0;go_simp;try with_reducible rfl
   try simp only[nm]
   refine Tk 4 rfl ?_ HS0.out ?_ ⟨?_,rfl⟩
   ·intro w hw;obtain⟨q37,q0,q1,q2⟩:=hw;clear q0;go_simp;try with_reducible rfl
   try simp only[nm]
   refine Tk 5 rfl ?_ HS0.out ?_ ⟨?_,rfl⟩
   ·intro w hw;obtain⟨q37,q0,q1,q2⟩:=hw;clear q0;go_simp;try with_reducible rfl
   try simp only[nm]
   refine Tk 6 rfl ?_ HS0.out ?_ ⟨?_,rfl⟩
   ·intro w hw;obtain⟨q37,q0,q1,q2⟩:=hw;clear q0;go_simp;try with_reducible rfl
   try simp only[nm]
   refine Tl 7 (v:=.agg (bv x.tab).toArray) rfl (Or.inl ⟨by rfl,?_⟩) HS0.out ?_
   ·intro w hw;refine Xa4 w 62 (.tmp 59) rfl (a.add (k*34)) (bv x.tab) _ Tryz.underlying62 rfl (Xeh H32T.out) hw.tab ?_;go_simp
   try simp only[nm]
   refine Tk 8 rfl ?_ HS0.out ?_ ⟨?_,rfl⟩
   ·intro w hw;obtain⟨q37,q0,q1,q2⟩:=hw;clear q0;go_simp;try with_reducible rfl
   try simp only[nm]
   refine Tk 9 rfl ?_ HS0.out ?_ ⟨?_,rfl⟩
   ·intro w hw;obtain⟨q37,q0,q1,q2⟩:=hw;clear q0;go_simp;try with_reducible rfl
   try simp only[nm]
   refine Tk 10 rfl ?_ HS0.out ?_ ⟨?_,rfl⟩
   ·intro w hw;obtain⟨q37,q0,q1,q2⟩:=hw;clear q0;go_simp;try with_reducible rfl
   try simp only[nm]
   refine Tk 11 rfl ?_ HS0.out ?_ ⟨?_,rfl⟩
   ·intro w hw;obtain⟨q37,q0,q1,q2⟩:=hw;clear q0;go_simp;try with_reducible rfl
   try simp only[nm]
   refine Tk 12 rfl ?_ HS0.out ?_ ⟨?_,rfl⟩
   ·intro w hw;obtain⟨q37,q0,q1,q2⟩:=hw;clear q0;go_simp;try with_reducible rfl
   try simp only[nm]
   refine Tk 13 rfl ?_ HS0.out ?_ ⟨?_,rfl⟩
   ·intro w hw;obtain⟨q37,q0,q1,q2⟩:=hw;clear q0;go_simp;try with_reducible rfl
   try simp only[nm]
   refine Tk 15 rfl ?_ HS0.out ?_ ⟨?_,rfl⟩
   ·intro w hw;obtain⟨q37,q0,q1,q2⟩:=hw;clear q0;go_simp;try with_reducible rfl
   try simp only[nm]
   refine Tk 16 rfl ?_ HS0.out ?_ ⟨?_,rfl⟩
   ·intro w hw;obtain⟨q37,q0,q1,q2⟩:=hw;clear q0;go_simp;try with_reducible rfl
   try simp only[nm]
   refine Tk 17 rfl ?_ HS0.out ?_ ⟨?_,rfl⟩
   ·intro w hw;obtain⟨q37,q0,q1,q2⟩:=hw;clear q0;go_simp;try with_reducible rfl
   try simp only[nm]
   refine Tk 18 rfl ?_ HS0.out ?_ ⟨?_,rfl⟩
   ·intro w hw;obtain⟨q37,q0,q1,q2⟩:=hw;clear q0;go_simp;try with_reducible rfl
   try simp only[nm]
   refine Tk 19 rfl ?_ HS0.out ?_ ⟨?_,rfl⟩
   ·intro w hw;obtain⟨q37,q0,q1,q2⟩:=hw;clear q0;go_simp;try with_reducible rfl
   try simp only[nm]
   refine Tk 20 rfl ?_ HS0.out ?_ ⟨?_,rfl⟩
   ·intro w hw;obtain⟨q37,q0,q1,q2⟩:=hw;clear q0;go_simp;try with_reducible rfl
   try simp only[nm]
   refine wpAnyH_ready (rs:=[1,14]) (by kernel_rfl) (by simp) ?_;refine allL rfl (by kernel_rfl) (fun K hK=>?_) (allL rfl (by kernel_rfl) (fun K hK=>?_) (AllReadyH.nil))
   ·have c37:=HT0.out;go_simp;clear c37;refine hK _ _ HS0.out ?_;clear hK K;try simp only[nm]
    refine Rl 14 rfl fun K hK=>?_
    go_simp;refine HC5.out.mono ?_;rintro e w6 ⟨g1,rfl,hg1,hr1,hb6⟩;have HB6:=Hd hb6;have HR61:=Hd hr1;have HS6:=Hd (HS0.out.keep HBW.out.2.2.1 HBW.out.2.2.2 hb6);have HT6:=Hd ((hb6.cell (p:=⟨tb,38,none⟩) HBW.out.2.1).trans HT0.out);have HG1:=Hd hg1;have HC6:=Hd (Xd9 A2 x.rd.length c2 x.rd w6 B (S2.out.drew.below (hb6.mono HBW.out.1)) (Lq HBW.out.1 hb6.size) (by have:=HBE.out;omega));clear hr1 hb6 hg1;simp only[];refine hK _ _ HS6.out ?_;clear hK K;try simp only[nm]
    refine Rl 21 rfl fun K hK=>?_
    go_simp;refine HC6.out.mono ?_;rintro e w7 ⟨g2,rfl,hg2,hr2,hb7⟩;have hb67:=HB6.out.trans (hb7.mono HB6.out.size);have HB7:=Hd hb67;have HS7:=Hd (HS0.out.keep HBW.out.2.2.1 HBW.out.2.2.2 hb67);have HT7:=Hd ((hb67.cell (p:=⟨tb,38,none⟩) HBW.out.2.1).trans HT0.out);have HR71:=Hd (HR61.out.below hb7 HR61.out.lt);have HR72:=Hd hr2;have HG12:=Hd (And.intro HG1.out (And.intro HR61.out.lt (And.intro hg2 hr2.lt)));clear hr2 hb7 hb67 hg2;simp only[];refine hK _ _ HS7.out ?_;clear hK K;try simp only[nm]
    have HOW:=Hd (Xas (w:=wr.drew) (w':=w7) HV.out.own HB7.out);have HON:Hid (∀u ∈ (bv x.tab++[Value.slice (some ⟨g1,0,none⟩) x.wr.length (x.wr.length+3),Value.slice (some ⟨g2,0,none⟩) x.rd.length (x.rd.length+3)]),u.oneCell'=true):=Hd (Xj6 x.tab rfl rfl);have HIC:Hid ((bv x.tab++[Value.slice (some ⟨g1,0,none⟩) x.wr.length (x.wr.length+3),Value.slice (some ⟨g2,0,none⟩) x.rd.length (x.rd.length+3)]).length=34):=Hd (by simp[bL,H32T.out]);have HLW:Hid (W6.heap.size≤w7.heap.size∧(m.looks.take k).length≤65535):=Hd ⟨Lq HBL.out.size HB7.out.size,by rw[List.length_take];omega⟩;have HLT7:Hid (w.heap.size<w7.heap.size∧a.block<w7.heap.size):=Hd (by have:=HLW.out.1;have:=HSW.out;omega);refine Tl 22 (v:=.agg (bv x.tab++[Value.slice (some ⟨g1,0,none⟩) x.wr.length (x.wr.length+3),Value.slice (some ⟨g2,0,none⟩) x.rd.length (x.rd.length+3)]).toArray) rfl (Or.inl ⟨by rfl,fun w _=>Xa9 w _ _ _ rfl (by simp only[List.map_toArray,List.map_cons,List.map_nil];exact Xfh (bv x.tab) (by rw[bL,H32T.out]) _ _ _ _ _ _)⟩) HS7.out ?_;try simp only[nm]
    refine Rl 23 rfl fun K hK=>?_
    refine Xb6 30 64 (.tmp 75) rfl (bv x.tab++[Value.slice (some ⟨g1,0,none⟩) x.wr.length (x.wr.length+3),Value.slice (some ⟨g2,0,none⟩) x.rd.length (x.rd.length+3)]) _ 34 80 Tryz.underlying30 Xcp Xdf (by omega) (by omega) HIC.out ?_ ?_
    ·go_simp
    refine hK _ _ (HS7.out.keep HLT7.out.1 HLT7.out.2 ((Br _ _).alloc (Lr _) _)) ?_;clear hK K;try simp only[nm]
    refine Rl 24 rfl fun K hK=>?_
    refine Xc4 (.tmp 54) (.tmp 76) 30 rfl W6.heap.size 64 _ 34 80 Tryz.underlying30 Xcp Xdf (by omega) (.slice A0 (m.looks.take k).length c0) (m.looks.take k).length css.flatten (bv x.tab++[Value.slice (some ⟨g1,0,none⟩) x.wr.length (x.wr.length+3),Value.slice (some ⟨g2,0,none⟩) x.rd.length (x.rd.length+3)]) 1 HIC.out HON.out rfl ?_ HOW.out ?_ HLW.out.1 (by have:=HLW.out.2;unfold maxLen;omega) (by have:=HLW.out.2;omega) ?_
    ·go_simp
    ·go_simp
    intro v8 w8 ho8 hg8;obtain⟨A8,c8,rfl⟩:=Xcn ho8;have hb8:=hg8.below HOW.out HLW.out.1;have HG8:=Hd hg8;have HO8:=Hd ho8;have HR8:=Hd ((HR.out.drew.below HB7.out HBW.out.2.1).below hb8 (by have:=HSW.out;omega));have HS8:=Hd (HS7.out.keep (by have:=HSW.out;omega) (by have:=HSW.out;omega) hb8);have e8:=mc38 HR8.out H32.out;have f8:=HR8.out.frozen 38;clear ho8 hg8;refine hK _ _ HS8.out ?_;clear hK K;try simp only[nm]
    refine Tk 25 rfl ?_ HS8.out ?_ ⟨?_,rfl⟩
    ·intro w hw;obtain⟨q37,q0,q1,q2⟩:=hw;clear q0;go_simp;try with_reducible rfl
    try simp only[nm]
    refine Rl 26 rfl fun K hK=>?_
    go_simp;refine hK _ _ (HS8.out.far (by have:=HSW.out;omega) (by have:=HSW.out;omega)) ?_;clear hK K e8 f8;try simp only[nm]
    refine wpAnyH_done (by kernel_rfl) ?_ _;go_wp2_with fail;go_roundw
    case rel =>
     have hz6:wr.heap.size≤w6.heap.size:=HB6.out.size;have hz7:wr.heap.size≤w7.heap.size:=HB7.out.size;have hg12:=HG12.out;have hev:LookT w7 wr.heap.size w7.heap.size (bv x.tab++[Value.slice (some ⟨g1,0,none⟩) x.wr.length (x.wr.length+3),Value.slice (some ⟨g2,0,none⟩) x.rd.length (x.rd.length+3)]) x:=by
      refine⟨_,_,w6.heap.size,rfl,H32T.out,hz6,by omega,⟨HBE.out.1,g1,rfl,hg12.1,hg12.2.1,HR71.out⟩,⟨HBE.out.2,g2,rfl,hg12.2.2.1,hg12.2.2.2,HR72.out⟩⟩
     have hbw:But tb wr w7:=(But.refl tb wr).drew.trans (But.of_below HB7.out tb);have hlv:=HV.out.snoc Xbq hbw (by have:=HSW.out;omega) HBL.out.size hev HG8.out HO8.out;have htk:m.looks.take k++[x]=m.looks.take (k+1):=by rw[List.take_add_one,HX.out];rfl
     rw[htk]at hlv;have hT:=Xa6 w8 ⟨tb,38,none⟩ (.slice A8 ((m.looks.take k).length+1) c8);have hbt:=(But.grewV HG8.out HOW.out W6 (HBL.out.trans hbw) (Lr _)).trans (But.of_turned hT);have hr9:=Xk3 HR8.out H32.out (.slice A8 ((m.looks.take k).length+1) c8);rw[←List.length_take];exact⟨k+1,_,_,_,_,by omega,by go_num,hr9,hlv.but Xbq (But.of_turned hT) (by have:=HSW.out;show tb<W6.heap.size;omega),hbt⟩
    case measure=>simp[intOf];omega
   ·go_simp;refine HC5.out.mono ?_;rintro e w6 ⟨g1,rfl,hg1,hr1,hb6⟩;have HB6:=Hd hb6;have HR61:=Hd hr1;have HS6:=Hd (HS0.out.keep HBW.out.2.2.1 HBW.out.2.2.2 hb6);have HT6:=Hd ((hb6.cell (p:=⟨tb,38,none⟩) HBW.out.2.1).trans HT0.out);have HG1:=Hd hg1;have HC6:=Hd (Xd9 A2 x.rd.length c2 x.rd w6 B (S2.out.drew.below (hb6.mono HBW.out.1)) (Lq HBW.out.1 hb6.size) (by have:=HBE.out;omega));clear hr1 hb6 hg1;simp only[];refine hK _ _ HS6.out ?_;clear hK K;try simp only[nm]
    refine wpAnyH_ready (rs:=[1,21]) (by kernel_rfl) (by simp) ?_;refine allL rfl (by kernel_rfl) (fun K hK=>?_) (allL rfl (by kernel_rfl) (fun K hK=>?_) (AllReadyH.nil))
    ·have c37:=HT6.out;go_simp;clear c37;refine hK _ _ HS6.out ?_;clear hK K;try simp only[nm]
     refine Rl 21 rfl fun K hK=>?_
     go_simp;refine HC6.out.mono ?_;rintro e w7 ⟨g2,rfl,hg2,hr2,hb7⟩;have hb67:=HB6.out.trans (hb7.mono HB6.out.size);have HB7:=Hd hb67;have HS7:=Hd (HS0.out.keep HBW.out.2.2.1 HBW.out.2.2.2 hb67);have HT7:=Hd ((hb67.cell (p:=⟨tb,38,none⟩) HBW.out.2.1).trans HT0.out);have HR71:=Hd (HR61.out.below hb7 HR61.out.lt);have HR72:=Hd hr2;have HG12:=Hd (And.intro HG1.out (And.intro HR61.out.lt (And.intro hg2 hr2.lt)));clear hr2 hb7 hb67 hg2;simp only[];refine hK _ _ HS7.out ?_;clear hK K;try simp only[nm]
     have HOW:=Hd (Xas (w:=wr.drew) (w':=w7) HV.out.own HB7.out);have HON:Hid (∀u ∈ (bv x.tab++[Value.slice (some ⟨g1,0,none⟩) x.wr.length (x.wr.length+3),Value.slice (some ⟨g2,0,none⟩) x.rd.length (x.rd.length+3)]),u.oneCell'=true):=Hd (Xj6 x.tab rfl rfl);have HIC:Hid ((bv x.tab++[Value.slice (some ⟨g1,0,none⟩) x.wr.length (x.wr.length+3),Value.slice (some ⟨g2,0,none⟩) x.rd.length (x.rd.length+3)]).length=34):=Hd (by simp[bL,H32T.out]);have HLW:Hid (W6.heap.size≤w7.heap.size∧(m.looks.take k).length≤65535):=Hd ⟨Lq HBL.out.size HB7.out.size,by rw[List.length_take];omega⟩;have HLT7:Hid (w.heap.size<w7.heap.size∧a.block<w7.heap.size):=Hd (by have:=HLW.out.1;have:=HSW.out;omega);refine Tl 22 (v:=.agg (bv x.tab++[Value.slice (some ⟨g1,0,none⟩) x.wr.length (x.wr.length+3),Value.slice (some ⟨g2,0,none⟩) x.rd.length (x.rd.length+3)]).toArray) rfl (Or.inl ⟨by rfl,fun w _=>Xa9 w _ _ _ rfl (by simp only[List.map_toArray,List.map_cons,List.map_nil];exact Xfh (bv x.tab) (by rw[bL,H32T.out]) _ _ _ _ _ _)⟩) HS7.out ?_;try simp only[nm]
     refine Rl 23 rfl fun K hK=>?_
     refine Xb6 30 64 (.tmp 75) rfl (bv x.tab++[Value.slice (some ⟨g1,0,none⟩) x.wr.length (x.wr.length+3),Value.slice (some ⟨g2,0,none⟩) x.rd.length (x.rd.length+3)]) _ 34 80 Tryz.underlying30 Xcp Xdf (by omega) (by omega) HIC.out ?_ ?_
     ·go_simp
     refine hK _ _ (HS7.out.keep HLT7.out.1 HLT7.out.2 ((Br _ _).alloc (Lr _) _)) ?_;clear hK K;try simp only[nm]
     refine Rl 24 rfl fun K hK=>?_
     refine Xc4 (.tmp 54) (.tmp 76) 30 rfl W6.heap.size 64 _ 34 80 Tryz.underlying30 Xcp Xdf (by omega) (.slice A0 (m.looks.take k).length c0) (m.looks.take k).length css.flatten (bv x.tab++[Value.slice (some ⟨g1,0,none⟩) x.wr.length (x.wr.length+3),Value.slice (some ⟨g2,0,none⟩) x.rd.length (x.rd.length+3)]) 1 HIC.out HON.out rfl ?_ HOW.out ?_ HLW.out.1 (by have:=HLW.out.2;unfold maxLen;omega) (by have:=HLW.out.2;omega) ?_
     ·go_simp
     ·go_simp
     intro v8 w8 ho8 hg8;obtain⟨A8,c8,rfl⟩:=Xcn ho8;have hb8:=hg8.below HOW.out HLW.out.1;have HG8:=Hd hg8;have HO8:=Hd ho8;have HR8:=Hd ((HR.out.drew.below HB7.out HBW.out.2.1).below hb8 (by have:=HSW.out;omega));have HS8:=Hd (HS7.out.keep (by have:=HSW.out;omega) (by have:=HSW.out;omega) hb8);have e8:=mc38 HR8.out H32.out;have f8:=HR8.out.frozen 38;clear ho8 hg8;refine hK _ _ HS8.out ?_;clear hK K;try simp only[nm]
     refine Tk 25 rfl ?_ HS8.out ?_ ⟨?_,rfl⟩
     ·intro w hw;obtain⟨q37,q0,q1,q2⟩:=hw;clear q0;go_simp;try with_reducible rfl
     try simp only[nm]
     refine Rl 26 rfl fun K hK=>?_
     go_simp;refine hK _ _ (HS8.out.far (by have:=HSW.out;omega) (by have:=HSW.out;omega)) ?_;clear hK K e8 f8;try simp only[nm]
     refine wpAnyH_done (by kernel_rfl) ?_ _;go_wp2_with fail;go_roundw
     case rel =>
      have hz6:wr.heap.size≤w6.heap.size:=HB6.out.size;have hz7:wr.heap.size≤w7.heap.size:=HB7.out.size;have hg12:=HG12.out;have hev:LookT w7 wr.heap.size w7.heap.size (bv x.tab++[Value.slice (some ⟨g1,0,none⟩) x.wr.length (x.wr.length+3),Value.slice (some ⟨g2,0,none⟩) x.rd.length (x.rd.length+3)]) x:=by
       refine⟨_,_,w6.heap.size,rfl,H32T.out,hz6,by omega,⟨HBE.out.1,g1,rfl,hg12.1,hg12.2.1,HR71.out⟩,⟨HBE.out.2,g2,rfl,hg12.2.2.1,hg12.2.2.2,HR72.out⟩⟩
      have hbw:But tb wr w7:=(But.refl tb wr).drew.trans (But.of_below HB7.out tb);have hlv:=HV.out.snoc Xbq hbw (by have:=HSW.out;omega) HBL.out.size hev HG8.out HO8.out;have htk:m.looks.take k++[x]=m.looks.take (k+1):=by rw[List.take_add_one,HX.out];rfl
      rw[htk]at hlv;have hT:=Xa6 w8 ⟨tb,38,none⟩ (.slice A8 ((m.looks.take k).length+1) c8);have hbt:=(But.grewV HG8.out HOW.out W6 (HBL.out.trans hbw) (Lr _)).trans (But.of_turned hT);have hr9:=Xk3 HR8.out H32.out (.slice A8 ((m.looks.take k).length+1) c8);rw[←List.length_take];exact⟨k+1,_,_,_,_,by omega,by go_num,hr9,hlv.but Xbq (But.of_turned hT) (by have:=HSW.out;show tb<W6.heap.size;omega),hbt⟩
     case measure=>simp[intOf];omega
    ·go_simp;refine HC6.out.mono ?_;rintro e w7 ⟨g2,rfl,hg2,hr2,hb7⟩;have hb67:=HB6.out.trans (hb7.mono HB6.out.size);have HB7:=Hd hb67;have HS7:=Hd (HS0.out.keep HBW.out.2.2.1 HBW.out.2.2.2 hb67);have HT7:=Hd ((hb67.cell (p:=⟨tb,38,none⟩) HBW.out.2.1).trans HT0.out);have HR71:=Hd (HR61.out.below hb7 HR61.out.lt);have HR72:=Hd hr2;have HG12:=Hd (And.intro HG1.out (And.intro HR61.out.lt (And.intro hg2 hr2.lt)));clear hr2 hb7 hb67 hg2;simp only[];refine hK _ _ HS7.out ?_;clear hK K;try simp only[nm]
     have HOW:=Hd (Xas (w:=wr.drew) (w':=w7) HV.out.own HB7.out);have HON:Hid (∀u ∈ (bv x.tab++[Value.slice (some ⟨g1,0,none⟩) x.wr.length (x.wr.length+3),Value.slice (some ⟨g2,0,none⟩) x.rd.length (x.rd.length+3)]),u.oneCell'=true):=Hd (Xj6 x.tab rfl rfl);have HIC:Hid ((bv x.tab++[Value.slice (some ⟨g1,0,none⟩) x.wr.length (x.wr.length+3),Value.slice (some ⟨g2,0,none⟩) x.rd.length (x.rd.length+3)]).length=34):=Hd (by simp[bL,H32T.out]);have HLW:Hid (W6.heap.size≤w7.heap.size∧(m.looks.take k).length≤65535):=Hd ⟨Lq HBL.out.size HB7.out.size,by rw[List.length_take];omega⟩;have HLT7:Hid (w.heap.size<w7.heap.size∧a.block<w7.heap.size):=Hd (by have:=HLW.out.1;have:=HSW.out;omega);refine Tl 22 (v:=.agg (bv x.tab++[Value.slice (some ⟨g1,0,none⟩) x.wr.length (x.wr.length+3),Value.slice (some ⟨g2,0,none⟩) x.rd.length (x.rd.length+3)]).toArray) rfl (Or.inl ⟨by rfl,fun w _=>Xa9 w _ _ _ rfl (by simp only[List.map_toArray,List.map_cons,List.map_nil];exact Xfh (bv x.tab) (by rw[bL,H32T.out]) _ _ _ _ _ _)⟩) HS7.out ?_;try simp only[nm]
     refine wpAnyH_ready (rs:=[1,23]) (by kernel_rfl) (by simp) ?_;refine allL rfl (by kernel_rfl) (fun K hK=>?_) (allL rfl (by kernel_rfl) (fun K hK=>?_) (AllReadyH.nil))
     ·have c37:=HT7.out;go_simp;clear c37;refine hK _ _ HS7.out ?_;clear hK K;try simp only[nm]
      refine Rl 23 rfl fun K hK=>?_
      refine Xb6 30 64 (.tmp 75) rfl (bv x.tab++[Value.slice (some ⟨g1,0,none⟩) x.wr.length (x.wr.length+3),Value.slice (some ⟨g2,0,none⟩) x.rd.length (x.rd.length+3)]) _ 34 80 Tryz.underlying30 Xcp Xdf (by omega) (by omega) HIC.out ?_ ?_
      ·go_simp
      refine hK _ _ (HS7.out.keep HLT7.out.1 HLT7.out.2 ((Br _ _).alloc (Lr _) _)) ?_;clear hK K;try simp only[nm]
      refine Rl 24 rfl fun K hK=>?_
      refine Xc4 (.tmp 54) (.tmp 76) 30 rfl W6.heap.size 64 _ 34 80 Tryz.underlying30 Xcp Xdf (by omega) (.slice A0 (m.looks.take k).length c0) (m.looks.take k).length css.flatten (bv x.tab++[Value.slice (some ⟨g1,0,none⟩) x.wr.length (x.wr.length+3),Value.slice (some ⟨g2,0,none⟩) x.rd.length (x.rd.length+3)]) 1 HIC.out HON.out rfl ?_ HOW.out ?_ HLW.out.1 (by have:=HLW.out.2;unfold maxLen;omega) (by have:=HLW.out.2;omega) ?_
      ·go_simp
      ·go_simp
      intro v8 w8 ho8 hg8;obtain⟨A8,c8,rfl⟩:=Xcn ho8;have hb8:=hg8.below HOW.out HLW.out.1;have HG8:=Hd hg8;have HO8:=Hd ho8;have HR8:=Hd ((HR.out.drew.below HB7.out HBW.out.2.1).below hb8 (by have:=HSW.out;omega));have HS8:=Hd (HS7.out.keep (by have:=HSW.out;omega) (by have:=HSW.out;omega) hb8);have e8:=mc38 HR8.out H32.out;have f8:=HR8.out.frozen 38;clear ho8 hg8;refine hK _ _ HS8.out ?_;clear hK K;try simp only[nm]
      refine Tk 25 rfl ?_ HS8.out ?_ ⟨?_,rfl⟩
      ·intro w hw;obtain⟨q37,q0,q1,q2⟩:=hw;clear q0;go_simp;try with_reducible rfl
      try simp only[nm]
      refine Rl 26 rfl fun K hK=>?_
      go_simp;refine hK _ _ (HS8.out.far (by have:=HSW.out;omega) (by have:=HSW.out;omega)) ?_;clear hK K e8 f8;try simp only[nm]
      refine wpAnyH_done (by kernel_rfl) ?_ _;go_wp2_with fail;go_roundw
      case rel =>
       have hz6:wr.heap.size≤w6.heap.size:=HB6.out.size;have hz7:wr.heap.size≤w7.heap.size:=HB7.out.size;have hg12:=HG12.out;have hev:LookT w7 wr.heap.size w7.heap.size (bv x.tab++[Value.slice (some ⟨g1,0,none⟩) x.wr.length (x.wr.length+3),Value.slice (some ⟨g2,0,none⟩) x.rd.length (x.rd.length+3)]) x:=by
        refine⟨_,_,w6.heap.size,rfl,H32T.out,hz6,by omega,⟨HBE.out.1,g1,rfl,hg12.1,hg12.2.1,HR71.out⟩,⟨HBE.out.2,g2,rfl,hg12.2.2.1,hg12.2.2.2,HR72.out⟩⟩
       have hbw:But tb wr w7:=(But.refl tb wr).drew.trans (But.of_below HB7.out tb);have hlv:=HV.out.snoc Xbq hbw (by have:=HSW.out;omega) HBL.out.size hev HG8.out HO8.out;have htk:m.looks.take k++[x]=m.looks.take (k+1):=by rw[List.take_add_one,HX.out];rfl
       rw[htk]at hlv;have hT:=Xa6 w8 ⟨tb,38,none⟩ (.slice A8 ((m.looks.take k).length+1) c8);have hbt:=(But.grewV HG8.out HOW.out W6 (HBL.out.trans hbw) (Lr _)).trans (But.of_turned hT);have hr9:=Xk3 HR8.out H32.out (.slice A8 ((m.looks.take k).length+1) c8);rw[←List.length_take];exact⟨k+1,_,_,_,_,by omega,by go_num,hr9,hlv.but Xbq (But.of_turned hT) (by have:=HSW.out;show tb<W6.heap.size;omega),hbt⟩
      case measure=>simp[intOf];omega
     ·refine Xb6 30 64 (.tmp 75) rfl (bv x.tab++[Value.slice (some ⟨g1,0,none⟩) x.wr.length (x.wr.length+3),Value.slice (some ⟨g2,0,none⟩) x.rd.length (x.rd.length+3)]) _ 34 80 Tryz.underlying30 Xcp Xdf (by omega) (by omega) HIC.out ?_ ?_
      ·go_simp
      refine hK _ _ (HS7.out.keep HLT7.out.1 HLT7.out.2 ((Br _ _).alloc (Lr _) _)) ?_;clear hK K;try simp only[nm]
      refine Rl 1 rfl fun K hK=>?_
      have c37:=((Br w7.heap.size w7).alloc (Lr _) (.cells (bv x.tab++[Value.slice (some ⟨g1,0,none⟩) x.wr.length (x.wr.length+3),Value.slice (some ⟨g2,0,none⟩) x.rd.length (x.rd.length+3)]).toArray 64)).cell (p:=⟨tb,38,none⟩) (show tb<w7.heap.size from Nat.lt_of_lt_of_le HBW.out.2.1 HB7.out.size) |>.trans HT7.out
      go_simp;clear c37;refine hK _ _ (HS7.out.keep HLT7.out.1 HLT7.out.2 ((Br _ _).alloc (Lr _) _)) ?_;clear hK K;try simp only[nm]
      refine Rl 24 rfl fun K hK=>?_
      refine Xc4 (.tmp 54) (.tmp 76) 30 rfl W6.heap.size 64 _ 34 80 Tryz.underlying30 Xcp Xdf (by omega) (.slice A0 (m.looks.take k).length c0) (m.looks.take k).length css.flatten (bv x.tab++[Value.slice (some ⟨g1,0,none⟩) x.wr.length (x.wr.length+3),Value.slice (some ⟨g2,0,none⟩) x.rd.length (x.rd.length+3)]) 1 HIC.out HON.out rfl ?_ HOW.out ?_ HLW.out.1 (by have:=HLW.out.2;unfold maxLen;omega) (by have:=HLW.out.2;omega) ?_
      ·go_simp
      ·go_simp
      intro v8 w8 ho8 hg8;obtain⟨A8,c8,rfl⟩:=Xcn ho8;have hb8:=hg8.below HOW.out HLW.out.1;have HG8:=Hd hg8;have HO8:=Hd ho8;have HR8:=Hd ((HR.out.drew.below HB7.out HBW.out.2.1).below hb8 (by have:=HSW.out;omega));have HS8:=Hd (HS7.out.keep (by have:=HSW.out;omega) (by have:=HSW.out;omega) hb8);have e8:=mc38 HR8.out H32.out;have f8:=HR8.out.frozen 38;clear ho8 hg8;refine hK _ _ HS8.out ?_;clear hK K;try simp only[nm]
      refine Tk 25 rfl ?_ HS8.out ?_ ⟨?_,rfl⟩
      ·intro w hw;obtain⟨q37,q0,q1,q2⟩:=hw;clear q0;go_simp;try with_reducible rfl
      try simp only[nm]
      refine Rl 26 rfl fun K hK=>?_
      go_simp;refine hK _ _ (HS8.out.far (by have:=HSW.out;omega) (by have:=HSW.out;omega)) ?_;clear hK K e8 f8;try simp only[nm]
      refine wpAnyH_done (by kernel_rfl) ?_ _;go_wp2_with fail;go_roundw
      case rel =>
       have hz6:wr.heap.size≤w6.heap.size:=HB6.out.size;have hz7:wr.heap.size≤w7.heap.size:=HB7.out.size;have hg12:=HG12.out;have hev:LookT w7 wr.heap.size w7.heap.size (bv x.tab++[Value.slice (some ⟨g1,0,none⟩) x.wr.length (x.wr.length+3),Value.slice (some ⟨g2,0,none⟩) x.rd.length (x.rd.length+3)]) x:=by
        refine⟨_,_,w6.heap.size,rfl,H32T.out,hz6,by omega,⟨HBE.out.1,g1,rfl,hg12.1,hg12.2.1,HR71.out⟩,⟨HBE.out.2,g2,rfl,hg12.2.2.1,hg12.2.2.2,HR72.out⟩⟩
       have hbw:But tb wr w7:=(But.refl tb wr).drew.trans (But.of_below HB7.out tb);have hlv:=HV.out.snoc Xbq hbw (by have:=HSW.out;omega) HBL.out.size hev HG8.out HO8.out;have htk:m.looks.take k++[x]=m.looks.take (k+1):=by rw[List.take_add_one,HX.out];rfl
       rw[htk]at hlv;have hT:=Xa6 w8 ⟨tb,38,none⟩ (.slice A8 ((m.looks.take k).length+1) c8);have hbt:=(But.grewV HG8.out HOW.out W6 (HBL.out.trans hbw) (Lr _)).trans (But.of_turned hT);have hr9:=Xk3 HR8.out H32.out (.slice A8 ((m.looks.take k).length+1) c8);rw[←List.length_take];exact⟨k+1,_,_,_,_,by omega,by go_num,hr9,hlv.but Xbq (But.of_turned hT) (by have:=HSW.out;show tb<W6.heap.size;omega),hbt⟩
      case measure=>simp[intOf];omega
  ·obtain rfl:k=ln:=by omega
   have htk:m.looks.take k=m.looks:=List.take_of_length_le (by have:=HNN.out.2.2;omega);have hvl:=HV.out;rw[htk]at hvl;obtain⟨LA',lc',hVf⟩:=hvl.form;subst hVf;have HLV:=Hd (LVR.of hvl);clear hvl htk;have HKV:=Hd (Xtz HRK5.out (by rw[HNN.out.1]) HM5.out.keys.each (Lr gk) (by omega:kn≤kn+3) (by unfold maxLen;omega) (by rw[Xgg 3 rfl];omega));obtain⟨C9,hC9⟩:∃C,C=Raw.cells ⟨some ⟨gk,0,none⟩,kn,kn+3,IA',m.ins.length,ic',LA',m.looks.length,lc'⟩ m:=⟨_,rfl⟩;have HR9:Hid (Row wr tb 32 C9):=Hd (by rw[hC9];exact HR.out);have HC9:=Hd hC9;have hl9:C9.length=39:=by rw[hC9];exact Xby H32.out
   have HSZ9:=Hd (show(Tryz.prog.info? 32).map (·.size)=some C9.length by rw[Xcv,hl9]);have HL9:=Hd (show mzero.length=C9.length by rw[hl9];rfl);have HO9:=Hd (show ∀u ∈ C9,u.oneCell'=true by rw[hC9];exact Xhf);have HRZ9:=Hd (HB5W.out.row HRZ5.out (by have:=HSW.out;omega));clear hC9 hl9 HR HV;go_wp2_with (first
    | ((with_reducible show wpList _ _ _ (⟨some 79,_,_,_,_,_⟩::_) _ _);go_must(refine Xa1 rfl 32 (.tmp 3) rfl tb 32 C9 _ Tryz.underlying32 rfl HSZ9.out HR9.out ?_ ?_;go_simp))
    | ((with_reducible show wpList _ _ _ (⟨none,Op.store 32 _ _,_,_,_,_⟩::_) _ _);go_must(refine Xab rfl 32 (.tmp 2) (.tmp 79) rfl (w.heap.size+1) mzero C9 HRZ9.out HSZ9.out HL9.out HO9.out ?_ ?_ ?_;go_simp;go_simp;intro w9 hr9 ht9;have HR99:=Hd hr9;have HT9:=Hd ht9;clear hr9 ht9)))
   refine bodyPost_ret (results_cell_row (h:=rfl) _ w9 (w.heap.size+1) 32 _ (0,0) _ (by rfl) HR99.out.is Tryz.underlying32 rfl HSZ9.out) rfl ?_;have h1:=HSW.out;have h2:=HT9.out.size;have h3:=HBL.out.size;have hk9:=(HKV.out.but HB5W.out (by omega)).turned HT9.out (by omega);have hi9:=(HIV.out.but HBL.out (by omega)).turned HT9.out (by omega);have hl9:=HLV.out.turned HT9.out (by omega);have hrk:Row w9 gk 62 (bv m.keys.flatten++keyRow 3 mk0):=⟨(HT9.out.block gk (by omega)).trans (HB5W.out.row HRK5.out (by omega)).is⟩;have hb9:Below w.heap.size w w9:=(HB5.out.trans (HB5W.out.below (by omega) HB5.out.size)).trans (HT9.out.below (by omega));refine⟨gk,⟨some ⟨gk,0,none⟩,kn,kn+3,IA',m.ins.length,ic',LA',m.looks.length,lc'⟩,W5.heap.size,W6.heap.size,wr.heap.size,by rw[HC9.out],rfl,rfl,rfl,by omega,by omega,hrk,by omega,h3,by omega,hk9,hi9,hl9,hb9⟩
end Go.Proofs.YtaljfbbieefooaaGreatDoor
