import Derived.Test.YtdgbodljmdcagaaGreatDoorQ6
import Derived.Laws.Slices
set_option maxRecDepth 100000
set_option maxHeartbeats 16000000
set_option linter.unusedSimpArgs false
set_option linter.unusedVariables false
namespace Go.Proofs.YtdgbodljmdcagaaGreatDoor
open Go.RowKit
structure Sl where
 A:Option Nat
 n:Nat
 c:Nat
def Sl.val(x:Sl):Value:=.slice (x.A.map fun g=>⟨g,0,none⟩) x.n x.c
def Sg.isK:Sg→Kd
 | .b _ _=>.b
 | .k _ _=>.k
 | .s _ _=>.s
 | .r _ _=>.r
def Pg2.key(q:Pg2):Sl × Kd:=(⟨q.A,q.n,q.c⟩,q.s.isK)
def Bk(w0:World)(p base:Nat)(ks:List (Sl × Kd))(w:World):Prop:=
 ∃(P:List Pg2) (A:Option Addr) (c:Nat),P.map Pg2.key=ks∧(∀q ∈ P,q.s.Wf)∧BookW w0 p base A P.length c (P.map Pg2.val) w
section
variable{w0 w w':World}{p base B:Nat}{ks ks':List (Sl × Kd)}
theorem Bk.start(h:Bk w0 p base ks w):Bk w p base ks w:=by
 obtain⟨P,A,c,h1,h2,h3⟩:=h;exact⟨P,A,c,h1,h2,h3.start⟩
theorem Bk.trans(h:Bk w0 p base ks w)(h':Bk w p base ks' w'):Bk w0 p base ks' w':=by
 obtain⟨P,A,c,h1,h2,h3⟩:=h;obtain⟨P',A',c',h1',h2',h3'⟩:=h';exact⟨P',A',c',h1',h2',h3.trans h3'⟩
theorem Bk.alloc(h:Bk w0 p base ks w)(o:Obj):Bk w0 p base ks (w.alloc o):=by
 obtain⟨P,A,c,h1,h2,h3⟩:=h;exact⟨P,A,c,h1,h2,h3.alloc o⟩
theorem Bk.one(h:Bk w0 p base ks w):ButOne base p w0 w:=by
 obtain⟨P,A,c,h1,h2,h3⟩:=h;exact h3.one
theorem Bk.row{g t:Nat}{xs:List Value}(h:Bk w0 p base ks w)(hr:Row w0 g t xs)(hg:g≠p)(ht:t≠115):Row w g t xs:=by
 obtain⟨P,A,c,h1,h2,h3⟩:=h;exact h3.rowK hr hg ht
theorem Bk.plt(h:Bk w0 p base ks w):p<w.heap.size:=by
 obtain⟨P,A,c,h1,h2,h3⟩:=h;exact h3.row.lt
end
theorem bkKeys(p base:Nat)(ks:List (Sl × Kd))(x:Sl)(w0 w:World)(h:Bk w0 p base ks w)(hn:ks.length≤1000000) :
 Calls Tryz.prog 99 #[.pointer (some ⟨p,0,none⟩),x.val] w fun e w'=>e=.returned (.tuple #[])∧Bk w0 p base (ks++[(x,Kd.k)]) w':=by
 obtain⟨P,A,c,h1,h2,h3⟩:=h;subst h1;refine(Xv7 p base A _ P.length c x.n x.c _ w0 w h3 (by simpa using hn)).mono ?_;rintro e w' ⟨z1,z2,A',c',rfl,hz1,hz2,h4⟩;refine⟨rfl,P++[⟨x.A,x.n,x.c,.k z1 z2⟩],A',c',by simp[Pg2.key,Sg.isK],fun q hq=>?_,?_⟩
 ·rcases List.mem_append.1 hq with hq | hq
  ·exact h2 q hq
  ·obtain rfl:q=_:=List.mem_singleton.1 hq;exact⟨hz1,hz2⟩
 ·rw[List.length_append,List.map_append];exact h4
theorem bkSigs(p base:Nat)(ks:List (Sl × Kd))(x:Sl)(w0 w:World)(h:Bk w0 p base ks w)(hn:ks.length≤1000000) :
 Calls Tryz.prog 63 #[.pointer (some ⟨p,0,none⟩),x.val] w fun e w'=>e=.returned (.tuple #[])∧Bk w0 p base (ks++[(x,Kd.s)]) w':=by
 obtain⟨P,A,c,h1,h2,h3⟩:=h;subst h1;refine(Xut p base A _ P.length c x.n x.c _ w0 w h3 (by simpa using hn)).mono ?_;rintro e w' ⟨z1,z2,A',c',rfl,hz1,hz2,h4⟩;refine⟨rfl,P++[⟨x.A,x.n,x.c,.s z1 z2⟩],A',c',by simp[Pg2.key,Sg.isK],fun q hq=>?_,?_⟩
 ·rcases List.mem_append.1 hq with hq | hq
  ·exact h2 q hq
  ·obtain rfl:q=_:=List.mem_singleton.1 hq;exact⟨hz1,hz2⟩
 ·rw[List.length_append,List.map_append];exact h4
theorem Xw7(p base:Nat)(ks:List (Sl × Kd))(x:Sl)(w0 w:World)(h:Bk w0 p base ks w)(hn:ks.length≤1000000) :
 Calls Tryz.prog 62 #[.pointer (some ⟨p,0,none⟩),x.val] w fun e w'=>e=.returned (.tuple #[])∧Bk w0 p base (ks++[(x,Kd.r)]) w':=by
 obtain⟨P,A,c,h1,h2,h3⟩:=h;subst h1;refine(Xql p base A _ P.length c x.n x.c _ w0 w h3 (by simpa using hn)).mono ?_;rintro e w' ⟨z1,z2,A',c',rfl,hz1,hz2,h4⟩;refine⟨rfl,P++[⟨x.A,x.n,x.c,.r z1 z2⟩],A',c',by simp[Pg2.key,Sg.isK],fun q hq=>?_,?_⟩
 ·rcases List.mem_append.1 hq with hq | hq
  ·exact h2 q hq
  ·obtain rfl:q=_:=List.mem_singleton.1 hq;exact⟨hz1,hz2⟩
 ·rw[List.length_append,List.map_append];exact h4
def ety:Kd→TypeId
 | .b=>5
 | .k=>78
 | .s=>104
 | .r=>101
def esz:Kd→Nat
 | .b=>1
 | .k=>32
 | .s=>64
 | .r=>34
def SlFit(w:World)(y:Sl × Kd):Prop:=
 match y.1.A with
 | none=>y.1.n=0∧y.1.c=0
 | some g=>y.1.n≤y.1.c∧y.1.c≤9223372036854775807∧∃xs,Row w g (ety y.2) xs∧y.1.c*esz y.2≤xs.length∧(34<esz y.2→xs.length=y.1.c*esz y.2)
theorem SlFit.keep{w w':World}{y:Sl × Kd}(h:SlFit w y)(hk:∀g,y.1.A=some g→w'.heap[g]?=w.heap[g]?):SlFit w' y:=by
 obtain⟨⟨A,n,c⟩,kd⟩:=y;cases A with
 | none=>exact h
 | some g =>
  obtain⟨h1,h2,xs,hr,hl⟩:=h;exact⟨h1,h2,xs,⟨(hk g rfl).trans hr.is⟩,hl⟩
theorem Xjk{w:World}{base n size:Nat}{e:TypeId}{v:Value}{xs:List Value}(h:w.ownsRow base e size v n xs) :
 ∃x:Sl,v=x.val∧x.n=n∧(x.A=none→x.n=0∧x.c=0)∧∀g,x.A=some g→base≤g∧g<w.heap.size∧v.ownBlock=some g∧x.n≤x.c∧x.c≤9223372036854775807∧∃cur,Row w g e cur∧cur.length=x.c*size:=by
 rcases h.2 with⟨rfl,h2⟩ | ⟨g,cap,cur,rfl,hg,hh,r1,r2,r3,r4⟩
 ·exact⟨⟨none,0,0⟩,rfl,h2.symm,fun _=>⟨rfl,rfl⟩,fun g e=>by cases e⟩
 ·refine⟨⟨some g,n,cap⟩,rfl,rfl,?_,?_⟩
  ·intro e';cases e'
  intro g' e';cases e'
  exact⟨hg,(Array.getElem?_eq_some_iff.1 hh).1,rfl,r1,by unfold maxLen at r2;omega,cur.toList,⟨by simpa using hh⟩,by simpa using r3⟩
def blocks(ks:List (Sl × Kd)):List Nat:=ks.filterMap fun y=>y.1.A
theorem Xb0(a b:List (Sl × Kd)):blocks (a++b)=blocks a++blocks b:=by simp[blocks,List.filterMap_append]
theorem Xbb(y:Sl × Kd):∀g ∈ blocks [y],y.1.A=some g:=by
 intro g hg;unfold blocks at hg;rw[List.filterMap_cons]at hg;split at hg
 ·cases hg
 ·rename_i h
  simp at hg;rw[h,hg]
theorem Xh3(y:Sl × Kd):(blocks [y]).Pairwise (·<·):=by
 unfold blocks;rw[List.filterMap_cons];split <;> simp
theorem Xft{a b:List Nat}{m:Nat}(ha:a.Pairwise (·<·))(hb:b.Pairwise (·<·))(h1:∀x ∈ a,x<m)(h2:∀x ∈ b,m≤x):(a++b).Pairwise (·<·):=
 List.pairwise_append.2 ⟨ha,hb,fun x hx y hy=>by have:=h1 x hx;have:=h2 y hy;omega⟩
theorem Xqx{w:World}{lo hi:Nat}{v:Value}{l:List (List Int)}(h:LVR KeyV 78 32 w lo hi v l):∃x:Sl,v=x.val∧x.n=l.length∧SlFit w (x,Kd.k)∧∀g,x.A=some g→lo≤g∧g<hi:=by
 obtain⟨w0,css,L,R,h1,h2,h3,h4⟩:=h;obtain⟨x,hv,hn,hx0,hx1⟩:=Xjk h1.own;refine⟨x,hv,hn,?_,fun g hg=>?_⟩
 ·obtain⟨A,n,c⟩:=x;cases A with
  | none=>exact hx0 rfl
  | some g =>
   obtain⟨b1,b2,_,b4,b5,cur,b6,b7⟩:=hx1 g rfl;exact⟨b4,b5,cur,⟨(h4 g b1 (by omega)).trans b6.is⟩,Nat.le_of_eq b7.symm,fun _=>b7⟩
 ·have:=hx1 g hg;omega
theorem Xkh{R:Nat→Nat→Prop}:∀{P:List Pg2} {i j:Nat} {g g':Nat},(P.filterMap fun q=>q.A).Pairwise R→i<j→(hi:i<P.length)→(hj:j<P.length)→P[i].A=some g→P[j].A=some g'→R g g'
 | [],i,j,g,g',_,_,hi,_,_,_=>absurd hi (by simp)
 | q::r,i,j,g,g',h,hij,hi,hj,e,e'=>by
  cases j with
  | zero=>omega
  | succ j =>
   have hj':j<r.length:=by simpa using hj
   have e'':r[j].A=some g':=by simpa using e'
   cases i with
   | zero =>
    have e0:q.A=some g:=e;rw[List.filterMap_cons,e0]at h;exact(List.pairwise_cons.1 h).1 g' (List.mem_filterMap.2 ⟨r[j],List.getElem_mem hj',e''⟩)
   | succ i =>
    have hr:(r.filterMap fun q=>q.A).Pairwise R:=by
     rw[List.filterMap_cons]at h;split at h
     ·exact h
     ·exact(List.pairwise_cons.1 h).2
    exact Xkh (i:=i) (j:=j) hr (by omega) (by simpa using hi) hj' (by simpa using e) e''
structure OnlyIn(bs:List Nat)(w w':World):Prop where
 os:w'.os=w.os
 tape:w'.tape=w.tape
 output:w'.output=w.output
 size:w.heap.size≤w'.heap.size
 block:∀k,k<w.heap.size→k ∉ bs→w'.heap[k]?=w.heap[k]?
theorem Xwy(p base:Nat)(ks:List (Sl × Kd))(w0 w:World)(h:Bk w0 p base ks w)(hf:∀y ∈ ks,SlFit w0 y)(hd:(blocks ks).Pairwise (·≠·))(hlow:∀g ∈ blocks ks,g<base∧g≠p) :
 Calls Tryz.prog 22 #[.pointer (some ⟨p,0,none⟩)] w fun e w'=>e=.returned (.bool true)∧OnlyIn (blocks ks) w w':=by
 have ho:=h.one;obtain⟨P,A,c,h1,h2,h3⟩:=h;by_cases hn:P.length≤120
 ·have hmem:∀q ∈ P,q.key ∈ ks:=fun q hq=>by rw[←h1];exact List.mem_map.2 ⟨q,hq,rfl⟩
  have hbl:∀q ∈ P,∀g,q.A=some g→g ∈ blocks ks:=fun q hq g hg=>List.mem_filterMap.2 ⟨q.key,hmem q hq,hg⟩
  have hfit:∀q ∈ P,q.Fit w False False:=by
   intro q hq;have hy:=hf _ (hmem q hq);have hl:=hbl q hq;obtain⟨A',n',c',s'⟩:=q;cases A' with
   | none=>exact hy
   | some g =>
    obtain⟨e1,e2,xs,hr,he,hek⟩:=hy;obtain⟨l2,l3⟩:=hlow g (hl g rfl);have hr':Row w g (ety s'.isK) xs:=⟨(ho.block g l2 l3).trans hr.is⟩;have hes:esz s'.isK=s'.sz:=by cases s' <;> rfl
    have het:ety s'.isK=s'.et:=by cases s' <;> rfl
    rw[het]at hr';rw[show(Pg2.key ⟨some g,n',c',s'⟩).2=s'.isK from rfl,hes]at he hek;have he':c'*s'.sz≤xs.length:=he;have hek':34<s'.sz→xs.length=c'*s'.sz:=hek;have e1':n'≤c':=e1;have hle:n'*s'.sz≤c'*s'.sz:=Nat.mul_le_mul_right _ e1';have hsum:c'*s'.sz=n'*s'.sz+(c' - n')*s'.sz:=by rw[←Nat.add_mul];congr 1;omega
    refine⟨e1,e2,xs.take (n'*s'.sz),(xs.drop (n'*s'.sz)).take ((c' - n')*s'.sz),(xs.drop (n'*s'.sz)).drop ((c' - n')*s'.sz),by rwa [List.take_append_drop,List.take_append_drop],?_,?_,?_,fun x=>x.elim,fun x=>x.elim⟩
    ·show(xs.take (n'*s'.sz)).length=n'*s'.sz
     rw[List.length_take];exact Nat.min_eq_left (by omega)
    ·show((xs.drop (n'*s'.sz)).take ((c' - n')*s'.sz)).length=(c' - n')*s'.sz
     rw[List.length_take,List.length_drop];exact Nat.min_eq_left (by omega)
    ·intro hz;have:=hek' hz;exact List.drop_of_length_le (by rw[List.length_drop];omega)
  refine(apart p base A c P w ⟨h3.row,h3.own,fun i hi=>?_⟩ ?_ h2 hn).mono ?_
  ·have:=hfit P[i] (List.getElem_mem hi);simpa using this
  ·have hd':(P.filterMap fun q=>q.A).Pairwise (·≠·):=by
    have:blocks ks=P.filterMap fun q=>q.A:=by
     rw[←h1];unfold blocks;rw[List.filterMap_map];rfl
    rw[←this];exact hd
   intro i j hi hj g e e';rcases Nat.lt_trichotomy i j with hij | hij | hij
   ·exact absurd rfl (Xkh hd' hij hi hj e e')
   ·exact hij
   ·exact absurd rfl (Xkh hd' hij hj hi e' e)
  ·rintro e w' ⟨rfl,ht⟩;exact⟨rfl,ht.os,ht.tape,ht.output,ht.size,fun k hk hn=>ht.block k hk fun q hq e=>hn (hbl q hq k e)⟩
 ·refine(Xpk p A P.length c w h3.row (by omega)).mono ?_;rintro e w' ⟨rfl,rfl⟩;exact⟨rfl,rfl,rfl,rfl,Lr _,fun _ _ _=>rfl⟩
theorem Xws(p base B:Nat)(ks:List (Sl × Kd))(w0 w:World)(h:Bk w0 p base ks w)(hf:∀y ∈ ks,SlFit w0 y)(hd:(blocks ks).Pairwise (·≠·))(hlow:∀g ∈ blocks ks,B≤g∧g<base∧g≠p)(hB:B≤w.heap.size) :
 Calls Tryz.prog 22 #[.pointer (some ⟨p,0,none⟩)] w fun e w'=>e=.returned (.bool true)∧Below B w w':=
 (Xwy p base ks w0 w h hf hd fun g hg=>(hlow g hg).2).mono fun e w' ⟨he,ht⟩=>⟨he,ht.os,ht.tape,ht.output,ht.size,fun k hk=>ht.block k (Nat.lt_of_lt_of_le hk hB) fun hm=>by have:=(hlow k hm).1;omega⟩
theorem Bk.new(w:World):Bk (w.alloc (.cells #[.slice none 0 0] 60)) w.heap.size w.heap.size [] (w.alloc (.cells #[.slice none 0 0] 60)):=by
 refine⟨[],none,0,rfl,by simp,?_⟩;exact⟨Row.new w 60 [.slice none 0 0],World.ownsRow_nil _ _ _ _,ButOne.refl _ _ _,by simp,fun _ _ _ _=>rfl⟩
theorem Xgp(p base:Nat)(ks:List (Sl × Kd))(x:Sl)(w0 w:World)(h:Bk w0 p base ks w)(hn:ks.length≤1000000) :
 Calls Tryz.prog 19 #[.pointer (some ⟨p,0,none⟩),x.val] w fun e w'=>e=.returned (.tuple #[])∧Bk w0 p base (ks++[(x,Kd.b)]) w':=by
 obtain⟨P,A,c,h1,h2,h3⟩:=h;subst h1;refine(Xp4 p base A _ P.length c x.n x.c _ w0 w h3 (by simpa using hn)).mono ?_;rintro e w' ⟨hh,ff,A',c',rfl,h4⟩;refine⟨rfl,P++[⟨x.A,x.n,x.c,.b hh ff⟩],A',c',by simp[Pg2.key,Sg.isK],fun q hq=>?_,?_⟩
 ·rcases List.mem_append.1 hq with hq | hq
  ·exact h2 q hq
  ·obtain rfl:q=_:=List.mem_singleton.1 hq;trivial
 ·rw[List.length_append,List.map_append];exact h4
def flat(f:Nat→Sl × Sl)(n:Nat):List (Sl × Kd):=(List.range n).flatMap fun i=>[((f i).1,Kd.b),((f i).2,Kd.b)]
theorem Xfr(f:Nat→Sl × Sl)(n:Nat):flat f (n+1)=flat f n++[((f n).1,Kd.b)]++[((f n).2,Kd.b)]:=by
 unfold flat;rw[List.range_succ,List.flatMap_append];simp
theorem Xfx(f:Nat→Sl × Sl):∀n,(flat f n).length=2*n
 | 0=>rfl
 | n+1=>by rw[Xfr,List.length_append,List.length_append,Xfx f n];simp;omega
def pagesOf(K:Sl)(iv:Nat→Sl × Sl)(n:Nat)(lv:Nat→Sl × Sl)(m:Nat):List (Sl × Kd):=[(K,Kd.k)]++flat iv n++flat lv m
def TwoAt(w:World)(B size o:Nat)(x:Sl)(f:Nat→Sl × Sl):Prop:=
 ∀i,i<x.n→∃g,x.A=some g∧g<B∧w.cell? ⟨g,i*size+o,none⟩=some (f i).1.val∧w.cell? ⟨g,i*size+(o+1),none⟩=some (f i).2.val
theorem TwoAt.keep{w w':World}{B size o:Nat}{x:Sl}{f:Nat→Sl × Sl}(h:TwoAt w B size o x f)(hb:Below B w w'):TwoAt w' B size o x f:=fun i hi=>by
 obtain⟨g,h1,h2,h3,h4⟩:=h i hi;exact⟨g,h1,h2,(hb.cell h2).trans h3,(hb.cell h2).trans h4⟩
theorem Xmm(p base B:Nat)(ks:List (Sl × Kd))(C:List Value)(K I L:Sl)(iv lv:Nat→Sl × Sl)(w0 w:World)(h:Bk w0 p base ks w)
 (h4:C[4]?=some K.val) (h37:C[37]?=some I.val) (h38:C[38]?=some L.val) (hI:TwoAt w B 3 1 I iv) (hL:TwoAt w B 34 32 L lv) (hB:B≤base) (hp:B≤p) (hn:ks.length+3+2*I.n+2*L.n≤1000000) :
 Calls Tryz.prog 64 #[.pointer (some ⟨p,0,none⟩),.agg C.toArray] w fun e w'=>e=.returned (.tuple #[])∧Bk w0 p base (ks++pagesOf K iv I.n lv L.n) w':=by
 have HW:=Hd h;have hplt:=h.plt;have H1:=Hd ((h.alloc (.cells C.toArray 40)).start);have RM:=Hd (Row.new w 40 C);have hBs:B≤w.heap.size:=by
  obtain⟨P,A,c,_,_,h3⟩:=h;have:=h3.lt;omega
 have HI:=Hd (hI.keep ((Br B w).alloc hBs (.cells C.toArray 40)));have HL:=Hd (hL.keep ((Br B w).alloc hBs (.cells C.toArray 40)));have C4:=Hd h4;have C37:=Hd h37;have C38:=Hd h38;have HB:=Hd (And.intro hB hp);have c4:(w.alloc (.cells C.toArray 40)).cell? ⟨w.heap.size,4,none⟩=some K.val:=by rw[RM.out.cell];exact h4
 have hkn:ks.length≤1000000:=by omega
 clear h hI hL h4 h37 h38 hB hp;have HTR:Hid (∀ks' w',Bk (w.alloc (.cells C.toArray 40)) p base ks' w'→Bk w0 p base ks' w'):=Hd fun ks' w' h'=>(HW.out.alloc _).trans h'
 go_enter Tryz.func64,Tryz.ntmps64
 unfold Sl.val at c4;go_wp2_with fail;refine(bkKeys p base ks K _ _ H1.out hkn).mono ?_;rintro e w1 ⟨rfl,hb1⟩;have HB1:=Hd hb1;clear hb1 c4 H1;generalize w.alloc (.cells C.toArray 40)=W at *;obtain⟨mb,hmb⟩:∃mb,w.heap.size=mb:=⟨_,rfl⟩;rw[hmb]at RM ⊢;have hne:mb≠p:=by omega
 have c37:w1.cell? ⟨mb,37,none⟩=some (.slice (I.A.map fun g=>⟨g,0,none⟩) I.n I.c):=by
  rw[(HB1.out.row RM.out hne (by decide)).cell];exact C37.out
 clear hplt hmb;go_wp2_with fail;go_loopw [4] (fun i wr=>∃k:Nat,k≤I.n∧i=.int .i64 k∧Bk W p base (ks++[(K,Kd.k)]++flat iv k) wr) (fun i _=>I.n - (intOf i).toNat)
 case atStart=>exact⟨0,Nat.zero_le _,rfl,by simpa [flat]using HB1.out⟩
 case round =>
  obtain⟨k,hk,rfl,hb⟩:=hrel;clear HB1;have HBk:=Hd hb;have hlen:(ks++[(K,Kd.k)]++flat iv k).length+1≤1000000:=by
   rw[List.length_append,Xfx];simp;omega
  by_cases hlt:k<I.n
  ·obtain⟨g,hg,hgB,e1,e2⟩:=HI.out k hlt;have cX:wr.cell? ⟨mb,37,none⟩=some (.slice (some ⟨g,0,none⟩) I.n I.c):=by
    rw[(hb.row RM.out hne (by decide)).cell,C37.out];unfold Sl.val;rw[hg];rfl
   have v1:wr.cell? ⟨g,k*3+1,none⟩=some (.slice ((iv k).1.A.map fun g=>⟨g,0,none⟩) (iv k).1.n (iv k).1.c):=((hb.one.below HB.out.1 HB.out.2).cell hgB).trans e1;have E2:=Hd e2;have HLEN:=Hd hlen;clear hb e1 e2 hlen;go_wp2_with fail;refine(Xgp p base _ (iv k).1 W wr HBk.out (by have:=HLEN.out;omega)).mono ?_;rintro e w2 ⟨rfl,hb2⟩;have cY:w2.cell? ⟨mb,37,none⟩=some (.slice (some ⟨g,0,none⟩) I.n I.c):=by
    rw[(hb2.row RM.out hne (by decide)).cell,C37.out];unfold Sl.val;rw[hg];rfl
   have v2:w2.cell? ⟨g,k*3+2,none⟩=some (.slice ((iv k).2.A.map fun g=>⟨g,0,none⟩) (iv k).2.n (iv k).2.c):=((hb2.one.below HB.out.1 HB.out.2).cell hgB).trans E2.out;have HBk2:=Hd hb2;clear hb2 cX v1;go_wp2_with fail;refine(Xgp p base _ (iv k).2 W w2 HBk2.out (by rw[List.length_append];have:=HLEN.out;simpa using this)).mono ?_;rintro e w3 ⟨rfl,hb3⟩;have HBk3:=Hd hb3;clear hb3 cY v2;go_wp2_with fail;go_roundw
   case rel =>
    refine⟨k+1,by omega,by go_num,?_⟩;have:=HBk3.out;rw[Xfr];simpa only[List.append_assoc]using this
   case measure=>simp[intOf];omega
  ·have hkn2:k=I.n:=by omega
   have HE:=Hd (show Bk W p base (ks++([(K,Kd.k)]++flat iv I.n)) wr by rw[←List.append_assoc];rw[←hkn2];exact hb);have cX:wr.cell? ⟨mb,37,none⟩=some (.slice (I.A.map fun g=>⟨g,0,none⟩) I.n I.c):=by
    rw[(hb.row RM.out hne (by decide)).cell];exact C37.out
   clear hb HBk hlen hkn2;obtain⟨wq,hwq⟩:∃u:World,u=wr:=⟨_,rfl⟩;subst hwq;have c38:wq.cell? ⟨mb,38,none⟩=some (.slice (L.A.map fun g=>⟨g,0,none⟩) L.n L.c):=by
    rw[(HE.out.row RM.out hne (by decide)).cell];exact C38.out
   go_wp2_with fail;go_loopw [5] (fun i wr=>∃k:Nat,k≤L.n∧i=.int .i64 k∧Bk W p base (ks++([(K,Kd.k)]++flat iv I.n)++flat lv k) wr) (fun i _=>L.n - (intOf i).toNat)
   case atStart=>exact⟨0,Nat.zero_le _,rfl,by simpa [flat]using HE.out⟩
   case round =>
    obtain⟨k,hk,rfl,hb⟩:=hrel;clear HE;have HBk:=Hd hb;have hlen:(ks++([(K,Kd.k)]++flat iv I.n)++flat lv k).length+1≤1000000:=by
     rw[List.length_append,Xfx];rw[List.length_append,List.length_append,Xfx];simp;omega
    by_cases hlt:k<L.n
    ·obtain⟨g,hg,hgB,e1,e2⟩:=HL.out k hlt;have cX:wr.cell? ⟨mb,38,none⟩=some (.slice (some ⟨g,0,none⟩) L.n L.c):=by
      rw[(hb.row RM.out hne (by decide)).cell,C38.out];unfold Sl.val;rw[hg];rfl
     have v1:wr.cell? ⟨g,k*34+32,none⟩=some (.slice ((lv k).1.A.map fun g=>⟨g,0,none⟩) (lv k).1.n (lv k).1.c):=((hb.one.below HB.out.1 HB.out.2).cell hgB).trans e1;have E2:=Hd e2;have HLEN:=Hd hlen;clear hb e1 e2 hlen;go_wp2_with fail;refine(Xgp p base _ (lv k).1 W wr HBk.out (by have:=HLEN.out;omega)).mono ?_;rintro e w2 ⟨rfl,hb2⟩;have cY:w2.cell? ⟨mb,38,none⟩=some (.slice (some ⟨g,0,none⟩) L.n L.c):=by
      rw[(hb2.row RM.out hne (by decide)).cell,C38.out];unfold Sl.val;rw[hg];rfl
     have v2:w2.cell? ⟨g,k*34+33,none⟩=some (.slice ((lv k).2.A.map fun g=>⟨g,0,none⟩) (lv k).2.n (lv k).2.c):=((hb2.one.below HB.out.1 HB.out.2).cell hgB).trans E2.out;have HBk2:=Hd hb2;clear hb2 cX v1;go_wp2_with fail;refine(Xgp p base _ (lv k).2 W w2 HBk2.out (by rw[List.length_append];have:=HLEN.out;simpa using this)).mono ?_;rintro e w3 ⟨rfl,hb3⟩;have HBk3:=Hd hb3;clear hb3 cY v2;go_wp2_with fail;go_roundw
     case rel =>
      refine⟨k+1,by omega,by go_num,?_⟩;have:=HBk3.out;rw[Xfr];simpa only[List.append_assoc]using this
     case measure=>simp[intOf];omega
    ·have hkn2:k=L.n:=by omega
     have HE:=Hd (show Bk W p base (ks++([(K,Kd.k)]++flat iv I.n)++flat lv L.n) wr by rw[←hkn2];exact hb);have cX:wr.cell? ⟨mb,38,none⟩=some (.slice (L.A.map fun g=>⟨g,0,none⟩) L.n L.c):=by
      rw[(hb.row RM.out hne (by decide)).cell];exact C38.out
     clear hb HBk hlen hkn2;go_wp2_with fail;go_end0
     refine⟨rfl,HTR.out _ _ ?_⟩;have:=HE.out;unfold pagesOf;simpa only[List.append_assoc]using this
structure Pairs(w:World)(lo hi n:Nat)(f:Nat→Sl × Sl):Prop where
 fit:∀i,i<n→SlFit w ((f i).1,Kd.b)∧SlFit w ((f i).2,Kd.b)
 rise:∃L M R:Nat→Nat,(∀i,i<n→lo≤L i∧L i≤M i∧M i≤R i∧R i≤hi∧(∀g,(f i).1.A=some g→L i≤g∧g<M i)∧∀g,(f i).2.A=some g→M i≤g∧g<R i)∧∀i,i+1<n→R i≤L (i+1)
theorem Pairs.blocks{w:World}{lo hi n:Nat}{f:Nat→Sl × Sl}(h:Pairs w lo hi n f)(hlh:lo≤hi):∀k,k≤n→(blocks (flat f k)).Pairwise (·<·)∧(∀g ∈ blocks (flat f k),lo≤g∧g<hi):=by
 obtain⟨L,M,R,h1,h2⟩:=h.rise;have key:∀k,k≤n→(Go.Proofs.YtdgbodljmdcagaaGreatDoor.blocks (flat f k)).Pairwise (·<·)∧(∀g ∈ Go.Proofs.YtdgbodljmdcagaaGreatDoor.blocks (flat f k),lo≤g∧g<hi)∧∀g ∈ Go.Proofs.YtdgbodljmdcagaaGreatDoor.blocks (flat f k),∀i,k=i+1→g<R i:=by
  intro k;induction k with
  | zero =>
   intro _;have e:Go.Proofs.YtdgbodljmdcagaaGreatDoor.blocks (flat f 0)=[]:=rfl;rw[e];exact⟨List.Pairwise.nil,by simp,by simp⟩
  | succ k ih =>
   intro hk;obtain⟨i1,i2,i3⟩:=ih (by omega);obtain⟨j1,j2,j3,j4,j5,j6⟩:=h1 k (by omega);have hlow:∀g ∈ Go.Proofs.YtdgbodljmdcagaaGreatDoor.blocks (flat f k),g<L k:=by
    intro g hg;cases k with
    | zero=>cases hg
    | succ k =>
     have:=i3 g hg k rfl;have:=h2 k (by omega);omega
   have m1:∀g ∈ Go.Proofs.YtdgbodljmdcagaaGreatDoor.blocks [((f k).1,Kd.b)],L k≤g∧g<M k:=fun g hg=>j5 g (Xbb _ g hg)
   have m2:∀g ∈ Go.Proofs.YtdgbodljmdcagaaGreatDoor.blocks [((f k).2,Kd.b)],M k≤g∧g<R k:=fun g hg=>j6 g (Xbb _ g hg)
   rw[Xfr,Xb0,Xb0];refine⟨Xft (Xft i1 (Xh3 _) hlow fun g hg=>(m1 g hg).1) (Xh3 _) (m:=M k) (fun g hg=>?_) fun g hg=>(m2 g hg).1,fun g hg=>?_,fun g hg i hi=>?_⟩
   ·rcases List.mem_append.1 hg with hg | hg
    ·have:=hlow g hg;omega
    ·exact(m1 g hg).2
   ·rcases List.mem_append.1 hg with hg | hg
    ·rcases List.mem_append.1 hg with hg | hg
     ·exact i2 g hg
     ·have:=m1 g hg;omega
    ·have:=m2 g hg;omega
   ·obtain rfl:k=i:=by omega
    rcases List.mem_append.1 hg with hg | hg
    ·rcases List.mem_append.1 hg with hg | hg
     ·have:=hlow g hg;omega
     ·have:=m1 g hg;omega
    ·exact(m2 g hg).2
 intro k hk;exact⟨(key k hk).1,(key k hk).2.1⟩
theorem Xul{f:Nat→Sl × Sl}{n:Nat}{y:Sl × Kd}(h:y ∈ flat f n):∃i,i<n∧(y=((f i).1,Kd.b)∨y=((f i).2,Kd.b)):=by
 unfold flat at h;obtain⟨i,hi,hy⟩:=List.mem_flatMap.1 h;exact⟨i,List.mem_range.1 hi,by simpa using hy⟩
theorem Pairs.fits{w:World}{lo hi n:Nat}{f:Nat→Sl × Sl}(h:Pairs w lo hi n f):∀y ∈ flat f n,SlFit w y:=fun y hy=>by
 obtain⟨i,hi,rfl | rfl⟩:=Xul hy
 ·exact(h.fit i hi).1
 ·exact(h.fit i hi).2
theorem OwnR.sl{w:World}{lo hi:Nat}{v:Value}{l:List Int}(h:OwnR w lo hi v l):∃x:Sl,v=x.val∧SlFit w (x,Kd.b)∧∀g,x.A=some g→lo≤g∧g<hi:=by
 obtain⟨x,hv,hn,h0,h1⟩:=Xjk h.own;refine⟨x,hv,?_,fun g hg=>⟨(h1 g hg).1,h.lt g (h1 g hg).2.2.1⟩⟩;obtain⟨A,n,c⟩:=x;cases A with
 | none=>exact h0 rfl
 | some g =>
  obtain⟨_,_,_,h2,h3,cur,h4,h5⟩:=h1 g rfl;exact⟨h2,h3,cur,h4,by rw[h5];exact Lr _,fun _=>by rw[h5];rfl⟩
theorem Xvf{w:World}{lo hi:Nat}{v:Value}{l:List LIn}(h:LVR InV 131 3 w lo hi v l):∃(x:Sl) (f:Nat→Sl × Sl),v=x.val∧x.n=l.length∧TwoAt w hi 3 1 x f∧Pairs w lo hi l.length f:=by
 obtain⟨w0,css,L,R,h1,h2,h3,h4⟩:=h;obtain⟨x,hv,hn,hx0,hx1⟩:=Xjk h1.own;have hl:∀(i:Nat) y,css[i]?=some y→y.length=3:=fun i y hy=>by
  have hi2:=(List.getElem?_eq_some_iff.1 hy).1;rw[h1.len]at hi2;exact Xmr (h1.each i y _ hy (List.getElem?_eq_getElem hi2)).2.2.2.1
 have hE:∀i,∃p:(Sl × Sl) × Nat,i<l.length→∃cs,css[i]?=some cs∧cs[1]?=some p.1.1.val∧cs[2]?=some p.1.2.val∧lo≤L i∧L i≤p.2∧p.2≤R i∧R i≤hi∧SlFit w (p.1.1,Kd.b)∧SlFit w (p.1.2,Kd.b)∧(∀g,p.1.1.A=some g→L i≤g∧g<p.2)∧∀g,p.1.2.A=some g→p.2≤g∧g<R i:=by
  intro i;by_cases hi':i<l.length
  ·obtain⟨cs,hcs⟩:∃cs,css[i]?=some cs:=⟨_,List.getElem?_eq_getElem (by rw[h1.len];exact hi')⟩;obtain⟨k1,k2,k3,k4,k5⟩:=h1.each i cs _ hcs (List.getElem?_eq_getElem hi');obtain⟨va,vd,mid,rfl,m1,m2,m3,m4⟩:=k4;obtain⟨xa,rfl,fa,ga⟩:=m3.sl;obtain⟨xd,rfl,fd,gd⟩:=m4.sl;refine⟨((xa,xd),mid),fun _=>⟨_,hcs,rfl,rfl,k1,m1,m2,by omega,fa.keep fun g hg=>?_,fd.keep fun g hg=>?_,ga,gd⟩⟩
   ·have:=ga g hg;exact h4 g (by omega) (by omega)
   ·have:=gd g hg;exact h4 g (by omega) (by omega)
  ·exact⟨((⟨none,0,0⟩,⟨none,0,0⟩),0),fun h=>absurd h hi'⟩
 obtain⟨F,hF⟩:=Classical.skolem.1 hE;refine⟨x,fun i=>(F i).1,hv,hn,fun i hi'=>?_,⟨fun i hi'=>?_,L,fun i=>(F i).2,R,fun i hi'=>?_,h1.rise⟩⟩
 ·rw[hn]at hi';obtain⟨cs,c0,c1,c2,_⟩:=hF i hi';have hA:∃g,x.A=some g:=by
   cases hq:x.A with
   | none=>have:=(hx0 hq).1;omega
   | some g=>exact⟨g,rfl⟩
  obtain⟨g,hA⟩:=hA;obtain⟨b1,b2,b3,_⟩:=hx1 g hA;have e:∀j u,cs[j]?=some u→w.cell? ⟨g,i*3+j,none⟩=some u:=fun j u hu=>by
   have how:=h1.own;rw[hv]at how;unfold Sl.val at how;rw[hA,hn]at how;obtain⟨g',e1,_,_,_,h7⟩:=Xfj how (Xbh 3 css i cs hl c0 j u hu);cases e1
   rw[←h7];exact World.cell?_of_block (h4 g b1 (by omega))
  exact⟨g,hA,by omega,e 1 _ c1,e 2 _ c2⟩
 ·obtain⟨cs,c0,c1,c2,d1,d2,d3,d4,d5,d6,d7,d8⟩:=hF i hi';exact⟨d5,d6⟩
 ·obtain⟨cs,c0,c1,c2,d1,d2,d3,d4,d5,d6,d7,d8⟩:=hF i hi';exact⟨d1,d2,d3,d4,d7,d8⟩
theorem Xp7{w:World}{lo hi:Nat}{v:Value}{l:List LLook}(h:LVR LookV 124 34 w lo hi v l):∃(x:Sl) (f:Nat→Sl × Sl),v=x.val∧x.n=l.length∧TwoAt w hi 34 32 x f∧Pairs w lo hi l.length f:=by
 obtain⟨w0,css,L,R,h1,h2,h3,h4⟩:=h;obtain⟨x,hv,hn,hx0,hx1⟩:=Xjk h1.own;have hl:∀(i:Nat) y,css[i]?=some y→y.length=34:=fun i y hy=>by
  have hi2:=(List.getElem?_eq_some_iff.1 hy).1;rw[h1.len]at hi2;exact Xj8 (h1.each i y _ hy (List.getElem?_eq_getElem hi2)).2.2.2.1
 have hE:∀i,∃p:(Sl × Sl) × Nat,i<l.length→∃cs,css[i]?=some cs∧cs[32]?=some p.1.1.val∧cs[33]?=some p.1.2.val∧lo≤L i∧L i≤p.2∧p.2≤R i∧R i≤hi∧SlFit w (p.1.1,Kd.b)∧SlFit w (p.1.2,Kd.b)∧(∀g,p.1.1.A=some g→L i≤g∧g<p.2)∧∀g,p.1.2.A=some g→p.2≤g∧g<R i:=by
  intro i;by_cases hi':i<l.length
  ·obtain⟨cs,hcs⟩:∃cs,css[i]?=some cs:=⟨_,List.getElem?_eq_getElem (by rw[h1.len];exact hi')⟩;obtain⟨k1,k2,k3,k4,k5⟩:=h1.each i cs _ hcs (List.getElem?_eq_getElem hi');obtain⟨va,vd,mid,rfl,ht,m1,m2,m3,m4⟩:=k4;obtain⟨xa,rfl,fa,ga⟩:=m3.sl;obtain⟨xd,rfl,fd,gd⟩:=m4.sl;refine⟨((xa,xd),mid),fun _=>⟨_,hcs,by rw[List.getElem?_append_right (by rw[bL,ht];omega),bL,ht];rfl,by rw[List.getElem?_append_right (by rw[bL,ht];omega),bL,ht];rfl,k1,m1,m2,by omega,fa.keep fun g hg=>?_,fd.keep fun g hg=>?_,ga,gd⟩⟩
   ·have:=ga g hg;exact h4 g (by omega) (by omega)
   ·have:=gd g hg;exact h4 g (by omega) (by omega)
  ·exact⟨((⟨none,0,0⟩,⟨none,0,0⟩),0),fun h=>absurd h hi'⟩
 obtain⟨F,hF⟩:=Classical.skolem.1 hE;refine⟨x,fun i=>(F i).1,hv,hn,fun i hi'=>?_,⟨fun i hi'=>?_,L,fun i=>(F i).2,R,fun i hi'=>?_,h1.rise⟩⟩
 ·rw[hn]at hi';obtain⟨cs,c0,c1,c2,_⟩:=hF i hi';have hA:∃g,x.A=some g:=by
   cases hq:x.A with
   | none=>have:=(hx0 hq).1;omega
   | some g=>exact⟨g,rfl⟩
  obtain⟨g,hA⟩:=hA;obtain⟨b1,b2,b3,_⟩:=hx1 g hA;have e:∀j u,cs[j]?=some u→w.cell? ⟨g,i*34+j,none⟩=some u:=fun j u hu=>by
   have how:=h1.own;rw[hv]at how;unfold Sl.val at how;rw[hA,hn]at how;obtain⟨g',e1,_,_,_,h7⟩:=Xfj how (Xbh 34 css i cs hl c0 j u hu);cases e1
   rw[←h7];exact World.cell?_of_block (h4 g b1 (by omega))
  exact⟨g,hA,by omega,e 32 _ c1,e 33 _ c2⟩
 ·obtain⟨cs,c0,c1,c2,d1,d2,d3,d4,d5,d6,d7,d8⟩:=hF i hi';exact⟨d5,d6⟩
 ·obtain⟨cs,c0,c1,c2,d1,d2,d3,d4,d5,d6,d7,d8⟩:=hF i hi';exact⟨d1,d2,d3,d4,d7,d8⟩
theorem TwoAt.more{w:World}{B B' size o:Nat}{x:Sl}{f:Nat→Sl × Sl}(h:TwoAt w B size o x f)(hB:B≤B'):TwoAt w B' size o x f:=fun i hi=>by
 obtain⟨g,h1,h2,h3,h4⟩:=h i hi;exact⟨g,h1,by omega,h3,h4⟩
structure MsgPages(w:World)(lo hi:Nat)(q:Raw)(m:LMsg)(K I L:Sl)(iv lv:Nat→Sl × Sl):Prop where
 k:Value.slice q.KA q.kn q.kc=K.val
 i:Value.slice q.IA q.n q.ic=I.val
 l:Value.slice q.LA q.ln q.lc=L.val
 ti:TwoAt w hi 3 1 I iv
 tl:TwoAt w hi 34 32 L lv
 fits:∀y ∈ pagesOf K iv I.n lv L.n,SlFit w y
 rise:(blocks (pagesOf K iv I.n lv L.n)).Pairwise (·<·)
 low:∀g ∈ blocks (pagesOf K iv I.n lv L.n),lo≤g∧g<hi
 n:I.n=m.ins.length∧L.n=m.looks.length
theorem MsgV.pages{w:World}{lo hi:Nat}{q:Raw}{m:LMsg}(h:MsgV w lo hi q m):∃K I L iv lv,MsgPages w lo hi q m K I L iv lv:=by
 obtain⟨a1,b1,a2,b2,a3,b3,ho,h5,h6,h7⟩:=h.is;obtain⟨K,hK,_,fK,gK⟩:=Xqx h5;obtain⟨I,iv,hI,nI,tI,pI⟩:=Xvf h6;obtain⟨L,lv,hL,nL,tL,pL⟩:=Xp7 h7;obtain⟨rI,lI⟩:=pI.blocks (by omega) I.n (by omega);obtain⟨rL,lL⟩:=pL.blocks (by omega) L.n (by omega);have lK:∀g ∈ blocks [(K,Kd.k)],a1≤g∧g<b1:=fun g hg=>gK g (Xbb _ g hg)
 have hmem:∀g ∈ blocks (pagesOf K iv I.n lv L.n),lo≤g∧g<hi:=by
  intro g hg;unfold pagesOf at hg;rw[Xb0,Xb0]at hg;rcases List.mem_append.1 hg with hg | hg
  ·rcases List.mem_append.1 hg with hg | hg
   ·have:=lK g hg;omega
   ·have:=lI g hg;omega
  ·have:=lL g hg;omega
 refine⟨K,I,L,iv,lv,hK,hI,hL,tI.more (by omega),tL.more (by omega),fun y hy=>?_,?_,hmem,nI,nL⟩
 ·unfold pagesOf at hy;rcases List.mem_append.1 hy with hy | hy
  ·rcases List.mem_append.1 hy with hy | hy
   ·rw[List.mem_singleton.1 hy];exact fK
   ·rw[nI]at hy;exact pI.fits y hy
  ·rw[nL]at hy;exact pL.fits y hy
 ·unfold pagesOf;rw[Xb0,Xb0];refine Xft (m:=a3) (Xft (m:=a2) (Xh3 _) rI (fun g hg=>?_) fun g hg=>(lI g hg).1) rL (fun g hg=>?_) fun g hg=>(lL g hg).1
  ·have:=lK g hg;omega
  ·rcases List.mem_append.1 hg with hg | hg
   ·have:=lK g hg;omega
   ·have:=lI g hg;omega
section
variable{P:Program}{w:World}{o:Oper}{a:Act}
def tailAt(A:Option Addr)(c k:Nat):Option Addr:=if c=k then A else A.map (·.add k)
theorem Sees.tail{B:Nat}{A:Option Addr}{n c k:Nat}{xs:List Value}(h:Sees w B A n xs)(hk:k≤n)(hn:n≤c):Sees w B (tailAt A c k) (n - k) (xs.drop k):=by
 refine⟨by rw[List.length_drop,h.len],fun j u hu=>?_⟩;rw[List.getElem?_drop]at hu;obtain⟨ad,rfl,hb,hc⟩:=h.cell _ u hu;have h1:=(List.getElem?_eq_some_iff.1 hu).1;have h2:=h.len;refine⟨ad.add k,by unfold tailAt;rw[if_neg (by omega)];rfl,by rw[Xa7];exact hb,by rw[Xbr];exact hc⟩
theorem Xbp(t e:TypeId)(x i:Operand)(ho:o.op=.slice t x (some i) none none)(ht:P.underlying t=some (.slice e))(hsz:(P.info? e).map (·.size)=some 1)
 (A:Option Addr) (n c k:Nat) (hx:a.eval x=.slice A n c) (hi:a.eval i=.int .i64 k) (hk:k≤n) (hn:n≤c) (hc:c≤maxLen) :
 (execOp a.eval o).run P w=.ok (.value (.slice (tailAt A c k) (n - k) (c - k))) w:=by
 unfold maxLen at hc;obtain⟨ie,hie,hs1⟩:∃i,P.info? e=some i∧i.size=1:=by
  cases h:P.info? e with
  | none=>rw[h]at hsz;cases hsz
  | some i=>rw[h]at hsz;exact⟨i,rfl,by simpa using hsz⟩
 have he:P.elem t=e:=by simp[Program.elem,ht]
 have ht':P.underlying t=some (.slice (P.elem t)):=by rw[he];exact ht
 have hso:(sizeOf e).run P w=.ok 1 w:=by simp[sizeOf,typeInfo,hie,hs1]
 have h1:(0:Int)≤k:=by omega
 have h2:(k:Int)≤n:=by omega
 unfold execOp;simp only[ho,hx,hi,Option.map_some,Option.map_none];simp only[Sem.run_bind,run_sliceAt_slice w t _ _ _ _ ht',run_slice_l w t A n c ht' .i64 k h1 h2,he,hso,Result.andThen_ok,sliced,tailAt,Int.toNat_natCast,Nat.mul_one,Sem.run_pure]
theorem Xef{ops:Array Oper}{rest:List Oper}{Q:Exit→Act→World→Prop}(hgd:o.guard=none)(t e:TypeId)(x i:Operand)(ho:o.op=.slice t x (some i) none none)(ht:P.underlying t=some (.slice e))(hsz:(P.info? e).map (·.size)=some 1)
 (A:Option Addr) (n c k:Nat) (hx:a.eval x=.slice A n c) (hi:a.eval i=.int .i64 k) (hk:k≤n) (hn:n≤c) (hc:c≤maxLen)
 (h:wpList P ops Q rest (a.put o.dst (.slice (tailAt A c k) (n - k) (c - k))) w):wpList P ops Q (o::rest) a w:=
 wpList_plain hgd fun K hK=>by
  unfold Oper.wp;rw[Xbp t e x i ho ht hsz A n c k hx hi hk hn hc];exact hK _ _ h
end
def PutTxDone(w:World)(x:LTx)(e:Ending)(w':World):Prop:=
 (¬Fits x.m∧e=.returned (.tuple #[.slice none 0 0,.int .i64 1])∧Below w.heap.size w w') ∨
 (Fits x.m∧1232<(encTx x).length∧e=.returned (.tuple #[.slice none 0 0,.int .i64 3])∧Below w.heap.size w w') ∨
 (Fits x.m∧(encTx x).length≤1232∧(∃v,e=.returned (.tuple #[v,.int .i64 0])∧OwnB w' w.heap.size v (encTx x))∧Below w.heap.size w w')
theorem Xgz{l:List (List Int)}{k:Nat}{x:List Int}(h:l[k]?=some x):(l.take (k+1)).flatten=(l.take k).flatten++x:=by
 rw[List.take_add_one,List.flatten_append,h];simp
theorem Xtn{w:World}{base base' n size:Nat}{e:TypeId}{v:Value}{xs:List Value}(h:w.ownsRow base e size v n xs)(hb:base'≤base):w.ownsRow base' e size v n xs:=by
 refine⟨h.1,?_⟩;rcases h.2 with h2 | ⟨g,cap,cur,hv,hg,r⟩
 ·exact .inl h2
 ·exact .inr ⟨g,cap,cur,hv,by omega,r⟩
theorem putTx(s:TRaw)(x:LTx)(B:Nat)(w:World)(hm:TxIn w B s x)(hB:B≤w.heap.size)(hn:x.sigs.length≤65535)(hl:(enc x.m).length≤1000000) :
 Calls Tryz.prog 23 #[.agg (s.cells x).toArray] w (PutTxDone w x):=by
 obtain⟨SA,sn,sc,q⟩:=s;have hsl:=hm.sigs.len;dsimp only at hsl
 have hrow:=Row.new w 42 (TRaw.cells ⟨SA,sn,sc,q⟩ x);have hb0:=(Br w.heap.size w).alloc (Lr _) (.cells (TRaw.cells ⟨SA,sn,sc,q⟩ x).toArray 42);have c0:(w.alloc (.cells (TRaw.cells ⟨SA,sn,sc,q⟩ x).toArray 42)).cell? ⟨w.heap.size,0,none⟩=some (.slice SA sn sc):=hrow.cell 0;have HM0:=Hd (hm.below (hb0.mono hB));have HSM:=Hd (show(Tryz.prog.info? 40).map (·.size)=some (q.cells x.m).length by rw[Xat,Xaq hm.m.recent]);have HCM:=Hd (Xc1 (s:=⟨SA,sn,sc,q⟩) (x:=x));have HSC:=Hd hm.sn;have HRW:=Hd (show ∀cs:List Value,cs=TRaw.cells ⟨SA,sn,sc,q⟩ x→cs[0]?=some (.slice SA sn sc)from fun cs h=>by rw[h];rfl);obtain⟨cs,hcs⟩:∃cs,cs=TRaw.cells ⟨SA,sn,sc,q⟩ x:=⟨_,rfl⟩;rw[←hcs]at hrow hb0 c0 HM0 HCM ⊢;have HC0:=Hd (HRW.out cs hcs);clear HRW hcs;have HROW:=Hd hrow;have HB0:=Hd hb0;have HP:=Hd (Xnf none 0 0 [] (w.alloc (.cells cs.toArray 42)) 0 sn (Sees.nil _ _ _) (by omega) (by omega) (by omega) (by omega));clear hrow hb0 hm;go_enter Tryz.func23,Tryz.ntmps23
 go_wp2_with fail;refine HP.out.mono ?_;rintro e w1 ⟨g,rfl,hg,hr,hb1⟩;have HR1:=Hd hr;have HROW1:=Hd (HROW.out.below hb1 HROW.out.lt);have HB1:=Hd (HB0.out.trans (hb1.mono HB0.out.size));have HM1:=Hd (HM0.out.below (hb1.mono (Lq hB HB0.out.size)));have HG:=Hd hg;clear hr hb1 hg HP c0;go_wp2_with ((with_reducible show wpList _ _ _ (⟨some 23,_,_,_,_,_⟩::_) _ _);go_must(refine Xa3 rfl 40 (.tmp 22) rfl ⟨w.heap.size,1,none⟩ (q.cells x.m) _ Tryz.underlying40 rfl HSM.out (fun j v hv=>by rw[Xa5,HROW1.out.cell,HCM.out];exact hv) ?_ ?_;go_simp))
 by_cases hf:Fits x.m
 rotate_left
 ·refine(put_no q x.m B w1 HM1.out.m (Lq hB HB1.out.size) hf).mono ?_;rintro e w2 ⟨rfl,hb2⟩;go_wp2_with fail;go_ret2
  exact .inl ⟨hf,rfl,HB1.out.trans (hb2.mono HB1.out.size)⟩
 refine(put_ok q x.m B w1 HM1.out.m (Lq hB HB1.out.size) hf (by omega)).mono ?_;rintro e w2 ⟨g2,rest,rfl,hg2,hr2,hb2⟩;have hlen:=Xqz (x:=x) HM1.out.sigs.each;have hsl3:=Xcw (x.sigs.length:Int);have hrow2:=HROW1.out.below hb2 HROW1.out.lt;have hr12:=HR1.out.below hb2 HR1.out.lt;have c0:w2.cell? ⟨w.heap.size,0,none⟩=some (.slice SA sn sc):=(hrow2.cell 0).trans HC0.out;have HROW2:=Hd hrow2;have HR2:=Hd hr2;have HR12:=Hd hr12;have HB2:=Hd (HB1.out.trans (hb2.mono HB1.out.size));have HM2:=Hd (HM1.out.below (hb2.mono (Lq hB HB1.out.size)));have HSL:=Hd hsl;have hsn:sn≤sc∧sc≤maxLen:=HSC.out;unfold maxLen at hsn;rw[hsl]at hlen hsl3 hn;have HLEN:=Hd hlen;have hpar:(((short (sn:Int)).length:Nat):Int)+64*(sn:Int)+((enc x.m).length:Nat)=((encTx x).length:Nat):=by omega
 have HPAR:=Hd hpar;obtain⟨N1,hN1⟩:∃N,N=(short (sn:Int)).length:=⟨_,rfl⟩;obtain⟨N2,hN2⟩:∃N,N=(enc x.m).length:=⟨_,rfl⟩;have HN1:=Hd hN1;have HN2:=Hd hN2;simp only[Nat.zero_add,List.nil_append];rw[←hN1]at hlen hsl3 ⊢;rw[←hN2]at hlen hl ⊢;clear hb2 hr2 hrow2 hr12 HROW1 HM1 HR1 hN1 hN2 hg2 hpar;by_cases hbig:1232<(encTx x).length
 ·have hbig':(1232:Int)<N1+64*sn+N2:=by omega
  go_wp2_with fail;go_ret2
  exact .inr (.inl ⟨hf,hbig,rfl,HB2.out⟩)
 ·have hbig':¬(1232:Int)<N1+64*sn+N2:=by omega
  have HF:=Hd hf;have HBIG:=Hd hbig;have HS1:=Hd (show Sees w2 w2.heap.size (some ⟨g,0,none⟩) N1 (bv (short (sn:Int)))from HR12.out.sees_at (o:=0) (by rw[bL,←HN1.out]) (fun j u hu=>by rw[Nat.zero_add];exact hu));obtain⟨T,hT⟩:∃T,T=(encTx x).length:=⟨_,rfl⟩;have hT2:(N1:Int)+64*sn+N2=(T:Int):=by omega
  have hT3:T≤1232:=by omega
  have HT:=Hd hT;have HT2:=Hd hT2;clear hf hbig hT HPAR hlen hT2 hbig' hsl;have hbig':decide ((1232:Int)<N1+64*sn+N2)=false:=by have:=HT2.out;simp;omega
  obtain⟨i0,hi,hz0,hz1,hz2⟩:=info_parts Xb3;go_wp2_with (first
   | (at_make;go_must(refine wpList_make_own _ rfl (.const (.int .i64 0)) (.tmp 42) 22 rfl w2.heap.size 5 i0 _ 1 Tryz.underlying22 hi hz0 hz1 .i64 .i64 ((N1:Int)+64*sn+N2) T rfl ?_ HT2.out (by rw[hz2];omega) (by unfold maxLen;omega) (Lr _) ?_;go_simp;intro w3 hown hgrow;have HO3:Hid (OwnB w3 w2.heap.size (.slice (some ⟨w2.heap.size,0,none⟩) 0 T) []):=Hd hown;have hb3:Below w2.heap.size w2 w3:=(Br _ _).grown hgrow (Lr _) (fun k hk=>by cases hk);have HB3:=Hd hb3;have HS3:=Hd (HS1.out.below hb3);clear hown hgrow hb3))
   | (at_builtin;(with_reducible show wpList _ _ _ (⟨some 45,_,_,_,_,_⟩::_) _ _);go_loud (refine Xb8 rfl (.tmp 43) (.tmp 44) 22 rfl w2.heap.size Tryz.underlying22 Xb3 (.slice (some ⟨w2.heap.size,0,none⟩) 0 T) [] ?_ HO3.out w2.heap.size (some ⟨g,0,none⟩) N1 N1 (short (sn:Int)) ?_ HS3.out HB3.out.size ?_ ?_;go_simp;go_simp;(have:=HN1.out;simp only[List.nil_append];omega);intro v4 w4 ho4 hg4;have hb4:=HB3.out.trans (hg4.belowB HO3.out HB3.out.size);have HO4:Hid (OwnB w4 w2.heap.size v4 (short (sn:Int))):=Hd ho4;have HB4:=Hd hb4;have c0:w4.cell? ⟨w.heap.size,0,none⟩=some (.slice SA sn sc):=((HROW2.out.below hb4 HROW2.out.lt).cell 0).trans HC0.out;clear ho4 hg4 hb4)))
  clear c0 HO3 HS3 HB3 HR12 HS1 hi hz0 hz1 hz2;go_loopw [8,49] (fun v i wr=>∃k:Nat,k≤sn∧i=.int .i64 k∧OwnB wr w2.heap.size v (short (sn:Int)++(x.sigs.take k).flatten)∧Below w2.heap.size w2 wr) (fun v i _=>sn - (intOf i).toNat)
  case atStart =>
   refine⟨0,Nat.zero_le _,rfl,?_,HB4.out⟩;simpa only[List.take_zero,List.flatten_nil,List.append_nil]using HO4.out
  case round =>
  clear HO4 HB4;obtain⟨k,hk,rfl,ho,hb⟩:=hrel;have HOR:=Hd ho;have HBR:=Hd hb;clear ho hb;have hsz:=HBR.out.size;by_cases hlt:k<sn
  ·obtain⟨a,y,rfl,hab,hx,hat⟩:=HM2.out.sigs.get hlt;have HAT:=Hd (hat.keep hab fun p hp=>HBR.out.cell (Nat.lt_of_lt_of_le hp (Lq hB HB2.out.size)));have HX:=Hd hx;have HZ64:=Hd (show(Tryz.prog.info? 104).map (·.size)=some (bv y).length by rw[Xh1,bL,hat.len]);have hln:(short (sn:Int)++(x.sigs.take k).flatten).length+64≤2000000000:=by
    have h1:=Xde (x.sigs.take k) (fun z hz=>HM2.out.sigs.each z (List.mem_of_mem_take hz));have h2:(x.sigs.take k).length=k:=by rw[List.length_take];have:=HSL.out;omega
    have h3:=HN1.out;rw[List.length_append,h1,h2];omega
   have HLN:=Hd hln;have HYL:=Hd hat.len;clear hat hx hln;go_wp2_with (first
    | (with_reducible show wpList _ _ _ (⟨some 52,_,_,_,_,_⟩::_) _ _;go_must(refine Xa3 rfl 104 (.tmp 51) rfl (a.add (k*64)) (bv y) _ Tryz.underlying104 rfl HZ64.out HAT.out.cells ?_ ?_;go_simp))
    | (with_reducible show wpList _ _ _ (⟨none,Op.store 104 _ _,_,_,_,_⟩::_) _ _;go_must(refine Xa1 rfl 104 (.tmp 10) (.tmp 52) rfl (bv y) HZ64.out (Xae y) (by simp[bL,HYL.out]) ?_ ?_ ?_;go_simp;go_simp;intro w4 hr4 hb4 hz4;have hs4:Sees w4 w4.heap.size (some ⟨wr.heap.size,0,none⟩) 64 (bv y):=hr4.sees_at (o:=0) (by rw[bL,HYL.out]) (fun j u hu=>by rw[Nat.zero_add];exact hu);have ho4:=HOR.out.below hb4;clear hr4))
    | (at_builtin;go_must(refine Xb8 rfl (.tmp 53) (.tmp 54) 22 rfl w2.heap.size Tryz.underlying22 Xb3 _ _ ?_ ho4 _ _ 64 64 y ?_ hs4 (by omega) (by have q1:=HLN.out;have q2:=HYL.out;rw[List.length_append];omega) ?_;go_simp;go_simp;intro v5 w5 ho5 hg5;have HB5:=Hd ((HBR.out.trans (hb4.mono hsz)).trans (hg5.belowB ho4 (by omega)));have HO5:=Hd ho5;clear ho5 hg5)))
   go_roundw
   case rel =>
    refine⟨k+1,by omega,by go_num,?_,HB5.out⟩;rw[Xgz HX.out,←List.append_assoc];exact HO5.out
   case measure=>simp[intOf];omega
  ·have HOK:Hid (OwnB wr w2.heap.size u8 (short (sn:Int)++x.sigs.flatten)):=by
    have:=HOR.out;rw[List.take_of_length_le (by have:=HSL.out;omega)]at this;exact Hd this
   have hr2:=HR2.out.below HBR.out HR2.out.lt;have HS2:=Hd (show Sees wr wr.heap.size (some ⟨g2,0,none⟩) N2 (bv (enc x.m))from hr2.sees_at (o:=0) (by rw[bL,←HN2.out]) (fun j u hu=>by rw[Nat.zero_add,List.getElem?_append_left (List.getElem?_eq_some_iff.1 hu).1];exact hu));have hln:(short (sn:Int)++x.sigs.flatten++enc x.m).length≤1232:=by
    have h1:=HBIG.out;have h2:encTx x=short (sn:Int)++x.sigs.flatten++enc x.m:=by unfold encTx;rw[HSL.out];simp only[List.append_assoc]
    rw[h2]at h1;omega
   have HLN:=Hd hln;clear HOR hr2 hln;go_wp2_with (first
    | (at_builtin;go_must(refine Xb8 rfl (.tmp 57) (.tmp 58) 22 rfl w2.heap.size Tryz.underlying22 Xb3 u8 _ ?_ HOK.out wr.heap.size (some ⟨g2,0,none⟩) N2 N2 (enc x.m) ?_ HS2.out hsz (by have:=HLN.out;omega) ?_;go_simp;go_simp;intro v5 w5 ho5 hg5;have HB5:=Hd (HBR.out.trans (hg5.belowB HOK.out hsz));have HO5:=Hd ho5;clear ho5 hg5)))
   go_ret2
   refine .inr (.inr ⟨HF.out,by have:=HBIG.out;omega,⟨_,rfl,?_⟩,HB2.out.trans (HB5.out.mono HB2.out.size)⟩);have h2:encTx x=short (sn:Int)++x.sigs.flatten++enc x.m:=by unfold encTx;rw[HSL.out];simp only[List.append_assoc]
   rw[h2];exact Xtn HO5.out HB2.out.size
def rcells(sg:Value)(ms:List Value)(rest:Value):List Value:=sg::(ms++[rest])
theorem Xbl{sg:Value}{ms:List Value}{rest:Value}(h:ms.length=39):(rcells sg ms rest)[40]?=some rest:=by
 unfold rcells;rw[List.getElem?_cons_succ,List.getElem?_append_right (by omega),h];rfl
theorem Xd0{sg v:Value}{ms:List Value}{rest:Value}(h:ms.length=39):(rcells sg ms rest).set 40 v=rcells sg ms v:=by
 unfold rcells;rw[List.set_cons_succ,List.set_append_right _ _ (by omega),h];rfl
theorem Xm2{sg v:Value}{ms:List Value}{rest:Value}:(rcells sg ms rest).set 0 v=rcells v ms rest:=rfl
theorem Xar:mzero.length=39:=mlen Xbc
structure RdT(w:World)(p B:Nat)(sg:Value)(ms:List Value)(zs:List Int):Prop where
 is:∃A c,Row w p 201 (rcells sg ms (.slice A zs.length c))∧Sees w B A zs.length (bv zs)∧zs.length≤c∧c≤maxLen
structure SigsV(w:World)(lo hi:Nat)(v:Value)(l:List (List Int)):Prop where
 own:w.ownsRow lo 104 64 v l.length (bv l.flatten)
 lt:∀g,v.ownBlock=some g→g<hi
 each:∀y ∈ l,y.length=64
theorem Xcy{P:Program}{o:Oper}{a:Act}{w:World}{K:Act→World→Prop}{Q:Exit→Act→World→Prop}(hgd:o.guard=none)(d s:Operand)(dT sT:TypeId)
 (ho:o.op=.call { callee:=.builtin .copy,args:=#[d,s],argTypes:=#[dT,sT] }) (elem:TypeId) (hu:P.underlying dT=some (.slice elem)) (hsz:(P.info? elem).map (·.size)=some 1)
 (dp sp:Option Addr) (dLen dCap sLen sCap:Nat) (hd:a.eval d=.slice dp dLen dCap) (hs:a.eval s=.slice sp sLen sCap)
 (g off:Nat) (cur:List Value) (t:TypeId) (hg:w.heap[g]?=some (.cells cur.toArray t (0,0))) (cs:List Value) (hn:cs.length=Nat.min sLen dLen)
 (hpos:0<cs.length→dp=some ⟨g,off,none⟩∧∃ad,sp=some ad∧∀j v,cs[j]?=some v→w.cell? (ad.add j)=some v)
 (hfit:off+cs.length≤cur.length) (h1:∀v ∈ cs,v.oneCell'=true) (B:Nat) (w0:World) (hb:Below B w0 w) (hBg:B≤g)
 (h:∀w',Hid (w'.heap[g]?=some (.cells (splice cur off cs).toArray t (0,0)))→Below B w0 w'→K (a.put o.dst (goInt cs.length)) w'):Oper.wp P o a w K Q:=by
 have:=step_copy_splice (P:=P) (ops:=#[]) (E:=True) (Q:=Q) hgd d s dT sT ho elem hu hsz dp sp dLen dCap sLen sCap hd hs g off cur t hg cs hn hpos hfit h1 B w0 hb hBg h;rwa [if_pos (by simp[Region.wanted,hgd])]at this
def SigsRead(w:World)(p B:Nat)(zs:List Int)(e:Ending)(w':World):Prop:=
 (∃l r v,pSigs zs=.ok (l,r)∧e=.returned (.int .i64 0)∧SigsV w' w.heap.size w'.heap.size v l∧RdT w' p B v mzero r∧But p w w') ∨
 (∃c,pSigs zs=.error c∧e=.returned (.int .i64 c)∧But p w w')
theorem Xh5:(Tryz.prog.info? 104).map (fun i=>(i.zero,i.size,i.bytes))=some (some (.agg (zeros 64).toArray),64,64):=by kernel_rfl
theorem Xlv(p B:Nat)(zs:List Int)(w:World)(h:RdT w p B (.slice none 0 0) mzero zs)(hB:B≤p)(hz:AllBytes zs) :
 Calls Tryz.prog 137 #[.pointer (some ⟨p,0,none⟩)] w (SigsRead w p B zs):=by
 obtain⟨A,c,hr,hs,hnc,hc⟩:=h;have c40:w.cell? ⟨p,40,none⟩=some (.slice A zs.length c):=(hr.cell 40).trans (Xbl Xar);have f40:=hr.frozen 40;have G:=Hd (Xn3 A zs.length c zs w B hs (by omega) hz.bytes);have R:=Hd hr;have S:=Hd hs;have hmx:=hc;unfold maxLen at hmx;have HC:=Hd (And.intro hnc hc);have hplt:=hr.lt;clear hr hs;rcases Xdd zs hz with(he | he) | ⟨n,k,he,hn,hk1,hk2⟩
 ·have HP:Hid (pSigs zs=.error 4):=Hd (by unfold pSigs pList pShort;rw[he];rfl);rw[he]at G;go_enter Tryz.func137,Tryz.ntmps137
  go_wp2_with fail;refine G.out.mono ?_;rintro e w1 ⟨rfl,rfl⟩;go_wp2_with fail;go_ret;exact .inr ⟨4,HP.out,rfl,But.refl _ _⟩
 ·have HP:Hid (pSigs zs=.error 5):=Hd (by unfold pSigs pList pShort;rw[he];rfl);rw[he]at G;go_enter Tryz.func137,Tryz.ntmps137
  go_wp2_with fail;refine G.out.mono ?_;rintro e w1 ⟨rfl,rfl⟩;go_wp2_with fail;go_ret;exact .inr ⟨5,HP.out,rfl,But.refl _ _⟩
 ·have HP:Hid (pSigs zs=pMany (pTake 64) n (zs.drop k)):=Hd (by unfold pSigs pList pShort;rw[he];simp);rw[he]at G;have HT:=Hd (S.out.tail hk2 hnc);obtain⟨r,hr⟩:∃r,r=zs.drop k:=⟨_,rfl⟩;have hrl:zs.length - k=r.length:=by rw[hr,List.length_drop]
  have HRB:=Hd (show AllBytes r by rw[hr];exact hz.drop k);have e1:(bv zs).drop k=bv r:=by rw[hr];simp[bv,cv]
  rw[e1,hrl]at HT;rw[←hr]at HP;have hc2:r.length≤c - k:=by omega
  obtain⟨A1,hA1⟩:∃A1,A1=tailAt A c k:=⟨_,rfl⟩;obtain⟨c1,hc1⟩:∃c1,c1=c - k:=⟨_,rfl⟩;have hc3:c1≤9223372036854775807:=by omega
  rw[←hA1]at HT;rw[←hc1]at hc2;have HA1:=Hd hA1;have HC1:=Hd hc1;have HRL:=Hd hrl;clear hr e1 hA1 hc1 hrl he;have hk0:(0:Int)≤k:=by omega
  have hk2':(k:Int)≤zs.length:=by omega
  go_enter Tryz.func137,Tryz.ntmps137
  go_wp2_with fail;refine G.out.mono ?_;rintro e w1 ⟨rfl,rfl⟩;clear G;have hr2:Row (w.setCell ⟨p,40,none⟩ (.slice A1 r.length c1)) p 201 (rcells (.slice none 0 0) mzero (.slice A1 r.length c1)):=by
   have:=R.out.set_ 40 (.slice A1 r.length c1);rwa [Xd0 Xar]at this
  have HR2:=Hd hr2;have HB2:=Hd (But.of_turned (Xa2 w ⟨p,40,none⟩ (.slice A1 r.length c1)));have HS2:=Hd (HT.out.below ((Xa2 w ⟨p,40,none⟩ (.slice A1 r.length c1)).below (show B≤p from hB)));clear hr2;go_upto_region 5 with((with_reducible show wpList _ _ _ (⟨some 25,_,_,_,_,_⟩::_) _ _);go_must(refine Xef rfl 22 5 (.tmp 23) (.tmp 24) rfl Tryz.underlying22 Xcp A zs.length c k ?_ ?_ hk2 HC.out.1 HC.out.2 ?_;go_simp;go_simp;rw[HRL.out,←HA1.out,←HC1.out]))
  generalize (w.setCell ⟨p,40,none⟩ (.slice A1 r.length c1))=W at *;have d40:W.cell? ⟨p,40,none⟩=some (.slice A1 r.length c1):=(HR2.out.cell 40).trans (Xbl Xar);have d0:W.cell? ⟨p,0,none⟩=some (.slice none 0 0):=HR2.out.cell 0;have g0:=HR2.out.frozen 0;clear c40 f40;by_cases hsh:r.length<n*64
  ·have HE:=Hd (Xgn n hsh);have hsh':(r.length:Int)<n*64:=by omega
   go_wp2_with fail;go_ret;exact .inr ⟨5,HP.out.trans HE.out,rfl,HB2.out⟩
  ·obtain⟨l,hl1,hl2,hl3,hl4⟩:=Xhs n (by omega:n*64≤r.length);have HL:=Hd (And.intro hl1 (And.intro hl2 (And.intro hl3 hl4)));have hsh':¬(r.length:Int)<n*64:=by omega
   clear hl1 hl2 hl3 hl4;by_cases hn0:n=0
   ·subst hn0;go_wp2_with fail;go_loopw [50] (fun i wr=>i=.int .i64 0∧wr=W) (fun i _=>0)
    case atStart=>exact⟨rfl,rfl⟩
    case round =>
     obtain⟨rfl,rfl⟩:=hrel;go_wp2_with fail;go_ret;obtain⟨h1,h2,h3,h4⟩:=HL.out;obtain rfl:l=[]:=List.length_eq_zero_iff.1 h2;refine .inl ⟨[],r,.slice none 0 0,by rw[HP.out,h1];simp,rfl,⟨World.ownsRow_nil _ _ _ _,fun g hg=>(by cases hg),(by simp)⟩,⟨A1,c1,HR2.out,HS2.out,hc2,by unfold maxLen;omega⟩,HB2.out⟩
   ·have hz1':=HB2.out.size;have hn1:(0:Int)<n:=by omega
    have hWp:=HR2.out.lt;obtain⟨i0,hi,hz0,hz1,hz2⟩:=info_parts Xh5;go_upto_region 9 with(first
     | (at_make;go_must(refine wpList_make_full _ rfl (.tmp 39) (.tmp 39) 31 rfl W.heap.size 104 i0 _ 64 Tryz.underlying31 hi hz0 hz1 .i64 .i64 _ _ n ?_ ?_ rfl rfl (by rw[hz2];omega) (by unfold maxLen;omega) (Lr _) ?_;go_simp;go_simp;intro w1 hown hgrow;have hrow:=Row.of_ownN hown;have hb1:=(Br W.heap.size W).grown hgrow (Lr _) (fun k hk=>by cases hk);have f0:w1.cell? ⟨p,0,none⟩=some (.slice none 0 0):=hb1.cell hWp |>.trans d0;have h0:=(HR2.out.below hb1 hWp).frozen 0)))
    have hlen:=Xjp (.agg (zeros 64).toArray) (n*64);generalize (madeCells (Value.agg (zeros 64).toArray).cells (n*64)).toList=cs at *;have hr3:Row (w1.setCell ⟨p,0,none⟩ (.slice (some ⟨W.heap.size,0,none⟩) n n)) p 201 (rcells (.slice (some ⟨W.heap.size,0,none⟩) n n) mzero (.slice A1 r.length c1)):=by
     have:=(HR2.out.below hb1 hWp).set_ 0 (.slice (some ⟨W.heap.size,0,none⟩) n n);rwa [Xm2]at this
    have ht3:=Xa2 w1 ⟨p,0,none⟩ (.slice (some ⟨W.heap.size,0,none⟩) n n);have HG3:=Hd (ht3.row hrow (show W.heap.size≠p by omega));have HS3:=Hd ((HS2.out.below (hb1.mono (by omega))).below (ht3.below (show B≤p from hB)));have HB3:=Hd ((HB2.out.trans (But.of_below hb1 p)).trans (But.of_turned ht3));have HR3:=Hd hr3;have HLN:=Hd hlen;have HZW:Hid (W.heap.size<(w1.setCell ⟨p,0,none⟩ (.slice (some ⟨W.heap.size,0,none⟩) n n)).heap.size):=Hd (by have:=hrow.lt;have:=ht3.size;omega);clear hr3 ht3 hrow hown hgrow hb1 f0 h0 HS2 HR2 hlen hi hz0 hz1 hz2 i0 d0 g0 d40 R S HT;generalize (w1.setCell ⟨p,0,none⟩ (.slice (some ⟨W.heap.size,0,none⟩) n n))=w3 at *;have a0:w3.cell? ⟨p,0,none⟩=some (.slice (some ⟨W.heap.size,0,none⟩) n n):=HR3.out.cell 0;go_wp2_with fail;clear a0;go_loopw [50] (fun i wr=>∃j:Nat,j≤n∧i=.int .i64 j∧RdT wr p B (.slice (some ⟨W.heap.size,0,none⟩) n n) mzero (r.drop (j*64))∧Row wr W.heap.size 104 (bv (r.take (j*64))++cs.drop (j*64))∧But p w wr) (fun i _=>n - (intOf i).toNat)
    case atStart=>exact⟨0,Nat.zero_le _,rfl,by simpa using ⟨A1,c1,HR3.out,HS3.out,hc2,by unfold maxLen;omega⟩,by simpa [bv,cv]using HG3.out,HB3.out⟩
    case round =>
     clear HR3 HS3 HG3 HB3 HB2 HZW;obtain⟨j,hj,rfl,hrd,hg,hb⟩:=hrel;by_cases hlt:j<n
     ·obtain⟨A2,c2,hrv,hsv,hnc2,hmc2⟩:=hrd;obtain⟨R0,hR0⟩:∃R0,R0=r.drop (j*64):=⟨_,rfl⟩;rw[←hR0]at hrv hsv hnc2;obtain⟨N,hN⟩:∃N,N=R0.length:=⟨_,rfl⟩;rw[←hN]at hrv hsv hnc2;have hNr:N=r.length - j*64:=by rw[hN,hR0,List.length_drop]
      have hN64:64≤N:=by omega
      have HL64:Hid ((bv (R0.take 64)).length=64):=Hd (by rw[bL,List.length_take,←hN];omega);have htl:(r.take (j*64)).length=j*64:=by rw[List.length_take];omega
      have htake:r.take ((j+1)*64)=r.take (j*64)++R0.take 64:=by rw[hR0,show(j+1)*64=j*64+64 by omega,List.take_add]
      have hdrop:R0.drop 64=r.drop ((j+1)*64):=by rw[hR0,List.drop_drop,show j*64+64=(j+1)*64 by omega]
      obtain⟨V,hV⟩:∃V,V=wr.drew:=⟨_,rfl⟩;have HRV:Hid (Row V p 201 (rcells (.slice (some ⟨W.heap.size,0,none⟩) n n) mzero (.slice A2 N c2))):=Hd (by rw[hV];exact hrv.drew);have HGV:Hid (Row V W.heap.size 104 (bv (r.take (j*64))++cs.drop (j*64))):=Hd (by rw[hV];exact hg.drew);have HSV:Hid (Sees V B A2 N (bv R0)):=Hd (by rw[hV];exact hsv.drew);have HBV:Hid (But p w V):=Hd (by rw[hV];exact hb.drew);have HPW:=Hd hWp;have HBW:=Hd (show B≤W.heap.size by omega);have HC2:=Hd (And.intro hN64 (And.intro hnc2 hmc2));have HSP:Hid (splice (bv (r.take (j*64))++cs.drop (j*64)) (j*64) (bv (R0.take 64))=bv (r.take ((j+1)*64))++cs.drop ((j+1)*64)):=Hd (by
       have e1:(bv (r.take (j*64))).length=j*64:=by rw[bL,htl]
       unfold splice;rw[HL64.out,htake,Xbt,List.take_left' e1,show j*64+64=(bv (r.take (j*64))).length+64 by rw[e1],List.drop_length_add_append,List.drop_drop,show j*64+64=(j+1)*64 by omega,List.append_assoc])
      have HCP:Hid ((bv (R0.take 64)).length=Nat.min N 64∧(0<(bv (R0.take 64)).length→(some (⟨W.heap.size,j*64,none⟩:Addr))=some ⟨W.heap.size,j*64,none⟩∧∃ad,A2=some ad∧∀j v,(bv (R0.take 64))[j]?=some v→V.cell? (ad.add j)=some v)∧j*64+(bv (R0.take 64)).length≤(bv (r.take (j*64))++cs.drop (j*64)).length):=Hd ⟨by rw[HL64.out];show 64=min N 64;omega,fun _=>⟨rfl,by
       obtain⟨ad,u,e,_,_,_⟩:=HSV.out.at_ (k:=0) (by omega);refine⟨ad,e,fun i v hv=>?_⟩;have hi:=(List.getElem?_eq_some_iff.1 hv).1;rw[HL64.out]at hi;have hv':(bv R0)[i]?=some v:=by
        rw[bv_getElem?]at hv ⊢;rwa [List.getElem?_take_of_lt hi]at hv
       obtain⟨ad',e',_,hc'⟩:=HSV.out.cell i v hv';rw[e]at e';obtain rfl:=Option.some.inj e';exact hc'⟩,by
       have:=HLN.out;rw[HL64.out,List.length_append,bL,htl,List.length_drop,this];omega⟩
      have HFIN:Hid (∀w':World,Row w' p 201 (rcells (.slice (some ⟨W.heap.size,0,none⟩) n n) mzero (.slice (tailAt A2 c2 64) (N - 64) (c2 - 64)))→Sees w' B A2 N (bv R0)→RdT w' p B (.slice (some ⟨W.heap.size,0,none⟩) n n) mzero (r.drop ((j+1)*64))):=Hd fun w' h1 h2=>by
       have h3:=h2.tail (k:=64) hN64 hnc2;have e1:(bv R0).drop 64=bv (r.drop ((j+1)*64)):=by rw[←hdrop];simp[bv,cv]
       have e2:(r.drop ((j+1)*64)).length=N - 64:=by rw[←hdrop,List.length_drop,←hN]
       rw[e1]at h3;exact⟨tailAt A2 c2 64,c2 - 64,by rw[e2];exact h1,by rw[e2];exact h3,by rw[e2];omega,by omega⟩
      have HS:Hid (V.cell? ⟨p,0,none⟩=some (.slice (some ⟨W.heap.size,0,none⟩) n n)):=Hd (HRV.out.cell 0);unfold maxLen at hmc2;clear hrv hsv hg hb hR0 hN hNr htl htake hdrop;go_upto_region 12 with fail
      refine wp_region_held_drew (S:=fun V=>V.cell? ⟨p,0,none⟩=some (.slice (some ⟨W.heap.size,0,none⟩) n n)) (by kernel_rfl) (by rw[←hV];exact HS.out) (fun _=>?_);rw[←hV];clear hV;refine Tk 0 rfl ?_ HS.out ?_ ⟨?_,rfl⟩
      ·intro w hw;(try dsimp only at hw);go_simp;try with_reducible rfl
      try simp only[nm]
      refine Tk 1 rfl ?_ HS.out ?_ ⟨?_,rfl⟩
      ·intro w hw;(try dsimp only at hw);go_simp;try with_reducible rfl
      try simp only[nm]
      refine Tk 2 rfl ?_ HS.out ?_ ⟨?_,rfl⟩
      ·intro w hw;(try dsimp only at hw);go_simp;try with_reducible rfl
      try simp only[nm]
      refine Tk 3 rfl ?_ HS.out ?_ ⟨?_,rfl⟩
      ·intro w hw;(try dsimp only at hw);go_simp;try with_reducible rfl
      try simp only[nm]
      refine Tk 5 rfl ?_ HS.out ?_ ⟨?_,rfl⟩
      ·intro w hw;(try dsimp only at hw);go_simp;try with_reducible rfl
      try simp only[nm]
      refine Tk 6 rfl ?_ HS.out ?_ ⟨?_,rfl⟩
      ·intro w hw;(try dsimp only at hw);go_simp;try with_reducible rfl
      try simp only[nm]
      refine Tk 7 rfl ?_ HS.out ?_ ⟨?_,rfl⟩
      ·intro w hw;(try dsimp only at hw);go_simp;try with_reducible rfl
      try simp only[nm]
      refine Tk 8 rfl ?_ HS.out ?_ ⟨?_,rfl⟩
      ·intro w hw;(try dsimp only at hw);go_simp;try with_reducible rfl
      try simp only[nm]
      refine Tk 9 rfl ?_ HS.out ?_ ⟨?_,rfl⟩
      ·intro w hw;(try dsimp only at hw);go_simp;try with_reducible rfl
      try simp only[nm]
      refine Tk 10 rfl ?_ HS.out ?_ ⟨?_,rfl⟩
      ·intro w hw;(try dsimp only at hw);go_simp;try with_reducible rfl
      try simp only[nm]
      refine Tk 11 rfl ?_ HS.out ?_ ⟨?_,rfl⟩
      ·intro w hw;(try dsimp only at hw);go_simp;try with_reducible rfl
      try simp only[nm]
      refine Tk 12 rfl ?_ HS.out ?_ ⟨?_,rfl⟩
      ·intro w hw;(try dsimp only at hw);go_simp;try with_reducible rfl
      try simp only[nm]
      refine Tk 13 rfl ?_ HS.out ?_ ⟨?_,rfl⟩
      ·intro w hw;(try dsimp only at hw);go_simp;try with_reducible rfl
      try simp only[nm]
      refine Tk 14 rfl ?_ HS.out ?_ ⟨?_,rfl⟩
      ·intro w hw;(try dsimp only at hw);go_simp;try with_reducible rfl
      try simp only[nm]
      refine Tk 15 rfl ?_ HS.out ?_ ⟨?_,rfl⟩
      ·intro w hw;(try dsimp only at hw);go_simp;try with_reducible rfl
      try simp only[nm]
      refine Xc8 (i:=4) (j:=16) rfl rfl (by kernel_rfl) (by kernel_rfl) (by kernel_rfl) (fun K hK=>?_) (fun K hK=>?_)
      ·have q40:V.cell? ⟨p,40,none⟩=some (.slice A2 N c2):=(HRV.out.cell 40).trans (Xbl Xar);go_simp;refine hK.out _ _ HS.out ?_;clear hK K;try simp only[nm]
       clear q40;refine Rl 16 rfl fun K hK=>?_
       have q40:V.cell? ⟨p,40,none⟩=some (.slice A2 N c2):=(HRV.out.cell 40).trans (Xbl Xar);go_simp;refine hK.out _ _ HS.out ?_;clear hK K;try simp only[nm]
       clear q40;refine Rl 17 rfl fun K hK=>?_
       refine Xcy rfl (.tmp 65) (.tmp 69) 22 22 rfl 5 Tryz.underlying22 Xcp (some ⟨W.heap.size,j*64,none⟩) A2 64 64 N c2 ?_ ?_ W.heap.size (j*64) (bv (r.take (j*64))++cs.drop (j*64)) 104 HGV.out.is (bv (R0.take 64)) ?_ ?_ ?_ (Xae _) W.heap.size V (Br _ _) (Lr _) ?_
       ·go_simp
       ·go_simp
       ·exact HCP.out.1
       ·exact HCP.out.2.1
       ·exact HCP.out.2.2
       intro V2 hg2 hb2;have HRV2:=Hd (HRV.out.below hb2 HPW.out);have HGV2:Hid (Row V2 W.heap.size 104 (bv (r.take ((j+1)*64))++cs.drop ((j+1)*64))):=Hd ⟨by rw[hg2.out,HSP.out]⟩;have HSV2:=Hd (HSV.out.below (hb2.mono HBW.out));have HBV2:Hid (But p w V2):=Hd ⟨hb2.os.trans HBV.out.os,hb2.tape.trans HBV.out.tape,hb2.output.trans HBV.out.output,Lq HBV.out.size hb2.size,fun k hk hne=>(hb2.block k (by omega)).trans (HBV.out.block k hk hne)⟩;have HS2:Hid (V2.cell? ⟨p,0,none⟩=some (.slice (some ⟨W.heap.size,0,none⟩) n n)):=Hd (HRV2.out.cell 0);have hl64:goInt (bv (R0.take 64)).length=.int .i64 64:=by rw[HL64.out];rfl
       simp only[hl64];clear hg2 hb2 hl64;refine hK.out _ _ HS2.out ?_;clear hK K;try simp only[nm]
       refine Tl 18 (v:=.slice (tailAt A2 c2 64) (N - 64) (c2 - 64)) rfl (Or.inl ⟨by rfl,fun w hw=>?_⟩) HS2.out ?_
       ·exact Xbp 22 5 (.tmp 57) (.tmp 70) rfl Tryz.underlying22 Xcp A2 N c2 64 (by go_simp) (by go_simp) HC2.out.1 HC2.out.2.1 HC2.out.2.2
       try simp only[nm]
       refine Tk 19 rfl ?_ HS2.out ?_ ⟨?_,rfl⟩
       ·intro w hw;(try dsimp only at hw);go_simp;try with_reducible rfl
       try simp only[nm]
       refine Tk 20 rfl ?_ HS2.out ?_ ⟨?_,rfl⟩
       ·intro w hw;(try dsimp only at hw);go_simp;try with_reducible rfl
       try simp only[nm]
       have q40:V2.cell? ⟨p,40,none⟩=some (.slice A2 N c2):=(HRV2.out.cell 40).trans (Xbl Xar);have r40:=HRV2.out.frozen 40;refine Rl 21 rfl fun K hK=>?_
       go_simp;refine hK.out _ _ (by exact(HRV2.out.set_ 40 (.slice (tailAt A2 c2 64) (N - 64) (c2 - 64))).cell 0) ?_;clear hK K;try simp only[nm]
       clear q40 r40;refine wpAnyH_done (by kernel_rfl) ?_ _;go_wp2_with fail;go_roundw
       case rel =>
        have ht:=Xa2 V2 ⟨p,40,none⟩ (.slice (tailAt A2 c2 64) (N - 64) (c2 - 64));have hr:=HRV2.out.set_ 40 (.slice (tailAt A2 c2 64) (N - 64) (c2 - 64));rw[Xd0 Xar]at hr;exact⟨j+1,by omega,by go_num,HFIN.out _ hr (HSV2.out.below (ht.below (show B≤p from hB))),ht.row HGV2.out (show W.heap.size≠p by have:=HPW.out;omega),HBV2.out.trans (But.of_turned ht)⟩
       case measure=>simp[intOf];omega
      ·have q40:V.cell? ⟨p,40,none⟩=some (.slice A2 N c2):=(HRV.out.cell 40).trans (Xbl Xar);go_simp;refine hK.out _ _ HS.out ?_;clear hK K;try simp only[nm]
       clear q40;refine Xc8 (i:=4) (j:=17) rfl rfl (by kernel_rfl) (by kernel_rfl) (by kernel_rfl) (fun K hK=>?_) (fun K hK=>?_)
       ·have q40:V.cell? ⟨p,40,none⟩=some (.slice A2 N c2):=(HRV.out.cell 40).trans (Xbl Xar);go_simp;refine hK.out _ _ HS.out ?_;clear hK K;try simp only[nm]
        clear q40;refine Rl 17 rfl fun K hK=>?_
        refine Xcy rfl (.tmp 65) (.tmp 69) 22 22 rfl 5 Tryz.underlying22 Xcp (some ⟨W.heap.size,j*64,none⟩) A2 64 64 N c2 ?_ ?_ W.heap.size (j*64) (bv (r.take (j*64))++cs.drop (j*64)) 104 HGV.out.is (bv (R0.take 64)) ?_ ?_ ?_ (Xae _) W.heap.size V (Br _ _) (Lr _) ?_
        ·go_simp
        ·go_simp
        ·exact HCP.out.1
        ·exact HCP.out.2.1
        ·exact HCP.out.2.2
        intro V2 hg2 hb2;have HRV2:=Hd (HRV.out.below hb2 HPW.out);have HGV2:Hid (Row V2 W.heap.size 104 (bv (r.take ((j+1)*64))++cs.drop ((j+1)*64))):=Hd ⟨by rw[hg2.out,HSP.out]⟩;have HSV2:=Hd (HSV.out.below (hb2.mono HBW.out));have HBV2:Hid (But p w V2):=Hd ⟨hb2.os.trans HBV.out.os,hb2.tape.trans HBV.out.tape,hb2.output.trans HBV.out.output,Lq HBV.out.size hb2.size,fun k hk hne=>(hb2.block k (by omega)).trans (HBV.out.block k hk hne)⟩;have HS2:Hid (V2.cell? ⟨p,0,none⟩=some (.slice (some ⟨W.heap.size,0,none⟩) n n)):=Hd (HRV2.out.cell 0);have hl64:goInt (bv (R0.take 64)).length=.int .i64 64:=by rw[HL64.out];rfl
        simp only[hl64];clear hg2 hb2 hl64;refine hK.out _ _ HS2.out ?_;clear hK K;try simp only[nm]
        refine Tl 18 (v:=.slice (tailAt A2 c2 64) (N - 64) (c2 - 64)) rfl (Or.inl ⟨by rfl,fun w hw=>?_⟩) HS2.out ?_
        ·exact Xbp 22 5 (.tmp 57) (.tmp 70) rfl Tryz.underlying22 Xcp A2 N c2 64 (by go_simp) (by go_simp) HC2.out.1 HC2.out.2.1 HC2.out.2.2
        try simp only[nm]
        refine Tk 19 rfl ?_ HS2.out ?_ ⟨?_,rfl⟩
        ·intro w hw;(try dsimp only at hw);go_simp;try with_reducible rfl
        try simp only[nm]
        refine Tk 20 rfl ?_ HS2.out ?_ ⟨?_,rfl⟩
        ·intro w hw;(try dsimp only at hw);go_simp;try with_reducible rfl
        try simp only[nm]
        have q40:V2.cell? ⟨p,40,none⟩=some (.slice A2 N c2):=(HRV2.out.cell 40).trans (Xbl Xar);have r40:=HRV2.out.frozen 40;refine Rl 21 rfl fun K hK=>?_
        go_simp;refine hK.out _ _ (by exact(HRV2.out.set_ 40 (.slice (tailAt A2 c2 64) (N - 64) (c2 - 64))).cell 0) ?_;clear hK K;try simp only[nm]
        clear q40 r40;refine wpAnyH_done (by kernel_rfl) ?_ _;go_wp2_with fail;go_roundw
        case rel =>
         have ht:=Xa2 V2 ⟨p,40,none⟩ (.slice (tailAt A2 c2 64) (N - 64) (c2 - 64));have hr:=HRV2.out.set_ 40 (.slice (tailAt A2 c2 64) (N - 64) (c2 - 64));rw[Xd0 Xar]at hr;exact⟨j+1,by omega,by go_num,HFIN.out _ hr (HSV2.out.below (ht.below (show B≤p from hB))),ht.row HGV2.out (show W.heap.size≠p by have:=HPW.out;omega),HBV2.out.trans (But.of_turned ht)⟩
        case measure=>simp[intOf];omega
       ·refine Xcy rfl (.tmp 65) (.tmp 69) 22 22 rfl 5 Tryz.underlying22 Xcp (some ⟨W.heap.size,j*64,none⟩) A2 64 64 N c2 ?_ ?_ W.heap.size (j*64) (bv (r.take (j*64))++cs.drop (j*64)) 104 HGV.out.is (bv (R0.take 64)) ?_ ?_ ?_ (Xae _) W.heap.size V (Br _ _) (Lr _) ?_
        ·go_simp
        ·go_simp
        ·exact HCP.out.1
        ·exact HCP.out.2.1
        ·exact HCP.out.2.2
        intro V2 hg2 hb2;have HRV2:=Hd (HRV.out.below hb2 HPW.out);have HGV2:Hid (Row V2 W.heap.size 104 (bv (r.take ((j+1)*64))++cs.drop ((j+1)*64))):=Hd ⟨by rw[hg2.out,HSP.out]⟩;have HSV2:=Hd (HSV.out.below (hb2.mono HBW.out));have HBV2:Hid (But p w V2):=Hd ⟨hb2.os.trans HBV.out.os,hb2.tape.trans HBV.out.tape,hb2.output.trans HBV.out.output,Lq HBV.out.size hb2.size,fun k hk hne=>(hb2.block k (by omega)).trans (HBV.out.block k hk hne)⟩;have HS2:Hid (V2.cell? ⟨p,0,none⟩=some (.slice (some ⟨W.heap.size,0,none⟩) n n)):=Hd (HRV2.out.cell 0);have hl64:goInt (bv (R0.take 64)).length=.int .i64 64:=by rw[HL64.out];rfl
        simp only[hl64];clear hg2 hb2 hl64;refine hK.out _ _ HS2.out ?_;clear hK K;try simp only[nm]
        refine Rl 4 rfl fun K hK=>?_
        have q40:V2.cell? ⟨p,40,none⟩=some (.slice A2 N c2):=(HRV2.out.cell 40).trans (Xbl Xar);go_simp;refine hK.out _ _ HS2.out ?_;clear hK K;try simp only[nm]
        clear q40;refine Tl 18 (v:=.slice (tailAt A2 c2 64) (N - 64) (c2 - 64)) rfl (Or.inl ⟨by rfl,fun w hw=>?_⟩) HS2.out ?_
        ·exact Xbp 22 5 (.tmp 57) (.tmp 70) rfl Tryz.underlying22 Xcp A2 N c2 64 (by go_simp) (by go_simp) HC2.out.1 HC2.out.2.1 HC2.out.2.2
        try simp only[nm]
        refine Tk 19 rfl ?_ HS2.out ?_ ⟨?_,rfl⟩
        ·intro w hw;(try dsimp only at hw);go_simp;try with_reducible rfl
        try simp only[nm]
        refine Tk 20 rfl ?_ HS2.out ?_ ⟨?_,rfl⟩
        ·intro w hw;(try dsimp only at hw);go_simp;try with_reducible rfl
        try simp only[nm]
        have q40:V2.cell? ⟨p,40,none⟩=some (.slice A2 N c2):=(HRV2.out.cell 40).trans (Xbl Xar);have r40:=HRV2.out.frozen 40;refine Rl 21 rfl fun K hK=>?_
        go_simp;refine hK.out _ _ (by exact(HRV2.out.set_ 40 (.slice (tailAt A2 c2 64) (N - 64) (c2 - 64))).cell 0) ?_;clear hK K;try simp only[nm]
        clear q40 r40;refine wpAnyH_done (by kernel_rfl) ?_ _;go_wp2_with fail;go_roundw
        case rel =>
         have ht:=Xa2 V2 ⟨p,40,none⟩ (.slice (tailAt A2 c2 64) (N - 64) (c2 - 64));have hr:=HRV2.out.set_ 40 (.slice (tailAt A2 c2 64) (N - 64) (c2 - 64));rw[Xd0 Xar]at hr;exact⟨j+1,by omega,by go_num,HFIN.out _ hr (HSV2.out.below (ht.below (show B≤p from hB))),ht.row HGV2.out (show W.heap.size≠p by have:=HPW.out;omega),HBV2.out.trans (But.of_turned ht)⟩
        case measure=>simp[intOf];omega
     ·obtain rfl:j=n:=by omega
      go_wp2_with fail;go_ret;obtain⟨h1,h2,h3,h4⟩:=HL.out;have h5:cs.drop (j*64)=[]:=List.drop_of_length_le (by rw[HLN.out];exact Lr _);rw[h5,List.append_nil,←h4]at hg;have h6:(bv l.flatten).length=j*64:=by rw[bL,Xde l h3,h2]
      refine .inl ⟨l,r.drop (j*64),.slice (some ⟨W.heap.size,0,none⟩) j j,by rw[HP.out,h1],rfl,⟨⟨by rw[h6,h2],.inr ⟨W.heap.size,j,(bv l.flatten).toArray,by rw[h2],hz1',hg.is,by omega,by unfold maxLen;omega,by rw[List.size_toArray,h6],by rw[List.take_of_length_le (by simp[h6,h2])]⟩⟩,fun g hgg=>?_,h3⟩,hrd,hb⟩;cases hgg
      exact hg.lt
theorem Xss{zs r:List Int}(h:Left zs r):zs.drop (zs.length - r.length)=r:=by
 obtain⟨k,rfl⟩:=h;rw[List.length_drop];by_cases hk:k≤zs.length
 ·rw[show zs.length - (zs.length - k)=k by omega]
 ·rw[List.drop_eq_nil_of_le (show zs.length≤k by omega),List.drop_eq_nil_of_le (by omega)]
theorem Xbo{P:Program}{op:Oper}{a:Act}{w:World}{K:Act→World→Prop}{Q:Exit→Act→World→Prop}(ty:TypeId)(x y:Operand)(ho:op.op=.store ty x y)
 (g t o:Nat) (c cs:List Value) (hr:Row w g t c) (hi:(P.info? ty).map (·.size)=some cs.length) (hl:o+cs.length≤c.length) (h1:∀u ∈ cs,u.oneCell'=true)
 (hx:a.eval x=.pointer (some ⟨g,o,none⟩)) (hy:a.eval y=.agg cs.toArray)
 (h:∀w',Row w' g t (c.take o++cs++c.drop (o+cs.length))→Turned w w' g→K (a.put op.dst undef) w'):op.wp P a w K Q:=
 wp_store_mid ty x y ho g o cs.toArray hx hy (fun j hj=>⟨by
  have hj':j<cs.length:=by simpa using hj
  rw[hr.cell,List.getElem?_eq_getElem (by omega)];rfl,hr.frozen _⟩) (by simpa using hi) (all_oneCell_toArray h1)
  (h _ (by simpa using Xep cs w o c hr hl) (Xdk cs w o))
theorem Xly{sg rest:Value}{ms ns:List Value}(hm:ms.length=39)(hn:ns.length=39):(rcells sg ms rest).take 1++ns++(rcells sg ms rest).drop (1+ns.length)=rcells sg ns rest:=by
 unfold rcells;rw[hn,show 1+39=39+1 by omega,List.drop_succ_cons,List.take_succ_cons,List.take_zero,List.drop_left' hm];simp
def MsgRead(w:World)(p B:Nat)(sg:Value)(zs:List Int)(e:Ending)(w':World):Prop:=
 (∃m r q lo,pMsg zs=.ok (m,r)∧e=.returned (.int .i64 0)∧w.heap.size≤lo∧MsgV w' lo w'.heap.size q m∧RdT w' p B sg (q.cells m) r∧But p w w') ∨
 (∃c,pMsg zs=.error c∧e=.returned (.int .i64 c)∧But p w w')
theorem txmsg_(p B:Nat)(sg:Value)(zs:List Int)(w:World)(h:RdT w p B sg mzero zs)(hB:B≤p)(hz:AllBytes zs) :
 Calls Tryz.prog 138 #[.pointer (some ⟨p,0,none⟩)] w (MsgRead w p B sg zs):=by
 obtain⟨A,c,hr,hs,hnc,hc⟩:=h;have hplt:=hr.lt;have c40:w.cell? ⟨p,40,none⟩=some (.slice A zs.length c):=(hr.cell 40).trans (Xbl Xar);have G:=Hd (get_ A zs.length c B zs w hs (by omega) hnc hc hz);have R:=Hd hr;have S:=Hd hs;have HC:=Hd (And.intro hnc hc);have hmx:=hc;unfold maxLen at hmx;have HZ:=Hd hz;clear hr hs hz;go_enter Tryz.func138,Tryz.ntmps138
 go_wp2_with fail;refine G.out.mono ?_;rintro e w1 (⟨m,r,q,lo,hp,rfl,hlo,hv,hb1⟩ | ⟨x,hp,rfl,hb1⟩);rotate_left
 ·have hx:=Xhb HZ.out hp;have HP:=Hd hp;have HB1:=Hd hb1;clear hp hb1 c40;rcases hx with rfl | rfl
  all_goals
   go_wp2_with (((with_reducible show wpList _ _ _ (⟨none,Op.store 40 _ _,_,_,_,_⟩::_) _ _);go_must(refine Xa1 rfl 40 (.tmp 3) (.tmp 12) rfl mzero Xci Xbv rfl ?_ ?_ ?_;go_simp;go_simp;intro w2 hr2 hb2 hz2;have HR2:=Hd hr2;have HB2:=Hd hb2;clear hr2 hb2)))
   go_ret;exact .inr ⟨_,HP.out,rfl,(But.of_below HB1.out p).trans (But.of_below HB2.out p)⟩
 have hle:=(Xe0 _ _ _ hp).le;have hdr:=Xss (Xe0 _ _ _ hp);have HDR:=Hd (show(bv zs).drop (zs.length - r.length)=bv r by have:=congrArg bv hdr;rw[←this];simp[bv,cv]);obtain⟨T,hT⟩:∃T:Nat,T=zs.length - r.length:=⟨_,rfl⟩;have hTI:(zs.length:Int) - r.length=(T:Int):=by omega
 rw[hTI];rw[←hT]at HDR;have HTZ:=Hd (show T≤zs.length by omega);have hrl:zs.length - T=r.length:=by omega
 have HRL:=Hd hrl;have HSM:=Hd (show(Tryz.prog.info? 40).map (·.size)=some (q.cells m).length by rw[Xat,Xaq hv.recent]);have HL39:=Hd (Xaq (q:=q) hv.recent);have HV:=Hd hv;have HP:=Hd hp;have HLO:=Hd hlo;have HB1:=Hd hb1;have HR1:=Hd (R.out.below hb1 hplt);have HS1:=Hd (S.out.below (hb1.mono (by omega)));clear hle hdr hT hTI hrl hv hp hlo hb1 c40 G R S;go_upto_region 4 with(((with_reducible show wpList _ _ _ (⟨none,Op.store 40 _ _,_,_,_,_⟩::_) _ _);go_must(refine Xa1 rfl 40 (.tmp 3) (.tmp 12) rfl (q.cells m) HSM.out Xcz (by rw[HL39.out];rfl) ?_ ?_ ?_;go_simp;go_simp;intro w2 hr2 hb2 hz2;have HR2:=Hd hr2;have HB2:=Hd hb2;have HZ2:=Hd hz2;clear hr2 hb2 hz2)))
 obtain⟨V,hV⟩:∃V,V=w2.drew:=⟨_,rfl⟩;have hz1:=HB1.out.size;have HNE:=Hd (show p<w1.heap.size by omega);have HRV:Hid (Row V p 201 (rcells sg mzero (.slice A zs.length c))):=Hd (by rw[hV];exact(HR1.out.below HB2.out HNE.out).drew);have HMV:Hid (Row V w1.heap.size 40 (q.cells m)):=Hd (by rw[hV];exact HR2.out.drew);have HSV:Hid (Sees V B A zs.length (bv zs)):=Hd (by rw[hV];exact(HS1.out.below (HB2.out.mono (by omega))).drew);have HVV:Hid (MsgV V lo V.heap.size q m):=Hd (by rw[hV];exact(HV.out.stay (w':=w2.drew) (by have:=HB2.out.size;exact this) (fun k _ hk=>HB2.out.block k hk)).more (by have:=HB2.out.size;exact this));have HBV:Hid (But p w V):=Hd (by rw[hV];exact((But.of_below HB1.out p).trans (But.of_below HB2.out p)).drew);have HS:Hid (V.rangeAt w1.heap.size 0 (q.cells m)):=Hd fun j u hu=>by rw[HMV.out.cell,Nat.zero_add];exact hu
 refine wp_region_held_drew (S:=fun V=>V.rangeAt w1.heap.size 0 (q.cells m)) (by kernel_rfl) (by rw[←hV];exact HS.out) (fun _=>?_);rw[←hV];clear hV HV HR1 HR2 HS1;refine Tk 0 rfl ?_ HS.out ?_ ⟨?_,rfl⟩
 ·intro w hw;(try dsimp only at hw);go_simp;try with_reducible rfl
 try simp only[nm]
 refine Tk 1 rfl ?_ HS.out ?_ ⟨?_,rfl⟩
 ·intro w hw;(try dsimp only at hw);go_simp;try with_reducible rfl
 try simp only[nm]
 refine Tl 2 (v:=.agg (q.cells m).toArray) rfl (yieldsIf_load_mid (by rfl) 40 (.tmp 3) rfl w1.heap.size 0 (by go_simp) (q.cells m) _ (fun w hw=>hw) Tryz.underlying40 rfl HSM.out) HS.out ?_;try simp only[nm]
 refine Tk 3 rfl ?_ HS.out ?_ ⟨?_,rfl⟩
 ·intro w hw;(try dsimp only at hw);go_simp;try with_reducible rfl
 try simp only[nm]
 refine Tk 4 rfl ?_ HS.out ?_ ⟨?_,rfl⟩
 ·intro w hw;(try dsimp only at hw);go_simp;try with_reducible rfl
 try simp only[nm]
 refine Tk 5 rfl ?_ HS.out ?_ ⟨?_,rfl⟩
 ·intro w hw;(try dsimp only at hw);go_simp;try with_reducible rfl
 try simp only[nm]
 refine Tk 7 rfl ?_ HS.out ?_ ⟨?_,rfl⟩
 ·intro w hw;(try dsimp only at hw);go_simp;try with_reducible rfl
 try simp only[nm]
 have q40:V.cell? ⟨p,40,none⟩=some (.slice A zs.length c):=(HRV.out.cell 40).trans (Xbl Xar);refine Rl 6 rfl fun K hK=>?_
 go_simp;refine hK.out _ _ HS.out ?_;clear hK K;try simp only[nm]
 clear q40;refine Tl 8 (v:=.slice (tailAt A c T) (zs.length - T) (c - T)) rfl (Or.inl ⟨by rfl,fun w hw=>?_⟩) HS.out ?_
 ·exact Xbp 22 5 (.tmp 24) (.tmp 25) rfl Tryz.underlying22 Xcp A zs.length c T (by go_simp) (by go_simp) HTZ.out HC.out.1 HC.out.2
 try simp only[nm]
 refine Tk 9 rfl ?_ HS.out ?_ ⟨?_,rfl⟩
 ·intro w hw;(try dsimp only at hw);go_simp;try with_reducible rfl
 try simp only[nm]
 refine Tk 10 rfl ?_ HS.out ?_ ⟨?_,rfl⟩
 ·intro w hw;(try dsimp only at hw);go_simp;try with_reducible rfl
 try simp only[nm]
 refine Tk 11 rfl ?_ HS.out ?_ ⟨?_,rfl⟩
 ·intro w hw;(try dsimp only at hw);go_simp;try with_reducible rfl
 try simp only[nm]
 refine Rl 12 rfl fun K hK=>?_
 refine Xbo 40 (.tmp 29) (.tmp 20) rfl p 201 1 _ (q.cells m) HRV.out HSM.out (by rw[HL39.out];simp[rcells,Xar]) Xcz ?_ ?_ ?_
 ·go_simp
 ·go_simp
 intro V2 hr2 ht2;rw[Xly Xar HL39.out]at hr2;have HRV2:=Hd hr2;have HT2:=Hd ht2;have HS2:Hid (V2.rangeAt w1.heap.size 0 (q.cells m)):=Hd fun j u hu=>by rw[(ht2.row HMV.out (show w1.heap.size≠p by have:=HNE.out;omega)).cell,Nat.zero_add];exact hu
 clear hr2 ht2;refine hK.out _ _ HS2.out ?_;clear hK K;try simp only[nm]
 refine Tk 13 rfl ?_ HS2.out ?_ ⟨?_,rfl⟩
 ·intro w hw;(try dsimp only at hw);go_simp;try with_reducible rfl
 try simp only[nm]
 refine Tk 14 rfl ?_ HS2.out ?_ ⟨?_,rfl⟩
 ·intro w hw;(try dsimp only at hw);go_simp;try with_reducible rfl
 try simp only[nm]
 have q40:V2.cell? ⟨p,40,none⟩=some (.slice A zs.length c):=(HRV2.out.cell 40).trans (Xbl HL39.out);have r40:=HRV2.out.frozen 40;refine Rl 15 rfl fun K hK=>?_
 go_simp;refine hK.out _ _ (by exact fun j u hu=>by rw[((Xa2 V2 ⟨p,40,none⟩ _).row (HT2.out.row HMV.out (show w1.heap.size≠p by have:=HNE.out;omega)) (show w1.heap.size≠p by have:=HNE.out;omega)).cell,Nat.zero_add];exact hu) ?_;clear hK K;try simp only[nm]
 clear q40 r40;refine wpAnyH_done (by kernel_rfl) ?_ _;go_wp2_with fail;go_ret;have ht:=Xa2 V2 ⟨p,40,none⟩ (.slice (tailAt A c T) (zs.length - T) (c - T));have hr:=HRV2.out.set_ 40 (.slice (tailAt A c T) (zs.length - T) (c - T));rw[Xd0 HL39.out]at hr;have hs:=((HSV.out.below (HT2.out.below (show B≤p from hB))).below (ht.below (show B≤p from hB))).tail HTZ.out HC.out.1;rw[HDR.out]at hs;refine .inl ⟨m,r,q,lo,HP.out,rfl,HLO.out,?_,⟨tailAt A c T,c - T,?_,?_,?_,?_⟩,?_⟩
 ·have h1:=(HVV.out.turned HT2.out (by have:=HLO.out;omega)).turned ht (show p<lo by have:=HLO.out;omega);exact h1.more (by have e1:=HT2.out.size;have e2:=ht.size;omega)
 ·rw[←HRL.out];exact hr
 ·rw[←HRL.out];exact hs
 ·have:=HC.out;have:=HTZ.out;have:=HRL.out;omega
 ·have:=HC.out.2;omega
 ·exact(HBV.out.trans (But.of_turned HT2.out)).trans (But.of_turned ht)
end Go.Proofs.YtdgbodljmdcagaaGreatDoor
