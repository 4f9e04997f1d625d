import Derived.Test.YtaljfbbieefooaaGreatDoorM3
import Derived.Laws.Slices
set_option maxRecDepth 100000
set_option maxHeartbeats 16000000
set_option linter.unusedSimpArgs false
set_option linter.unusedVariables false
namespace Go.Proofs.YtaljfbbieefooaaGreatDoor
open Go.RowKit
structure Sl where
 A:Option Nat
 n:Nat
 c:Nat
def Sl.val(x:Sl):Value:=.slice (x.A.map fun g=>⟨g,0,none⟩) x.n x.c
def Sg.isK:Sg→Kd
 | .ho _ _=>.ho
def Pg2.key(q:Pg2):Sl × Kd:=(⟨q.A,q.n,q.c⟩,q.s.isK)
def Bk(w0:World)(p base:Nat)(ks:List (Sl × Kd))(w:World):Prop:=
 ∃(P:List Pg2) (A:Option Addr) (c:Nat),P.map Pg2.key=ks∧(∀q ∈ P,q.s.Wf)∧BookW w0 p base A P.length c (P.map Pg2.val) w
section
variable{w0 w w':World}{p base B:Nat}{ks ks':List (Sl × Kd)}
theorem Bk.trans(h:Bk w0 p base ks w)(h':Bk w p base ks' w'):Bk w0 p base ks' w':=by
 obtain⟨P,A,c,h1,h2,h3⟩:=h;obtain⟨P',A',c',h1',h2',h3'⟩:=h';exact⟨P',A',c',h1',h2',h3.trans h3'⟩
theorem Bk.alloc(h:Bk w0 p base ks w)(o:Obj):Bk w0 p base ks (w.alloc o):=by
 obtain⟨P,A,c,h1,h2,h3⟩:=h;exact⟨P,A,c,h1,h2,h3.alloc o⟩
theorem Bk.one(h:Bk w0 p base ks w):ButOne base p w0 w:=by
 obtain⟨P,A,c,h1,h2,h3⟩:=h;exact h3.one
theorem Bk.row{g t:Nat}{xs:List Value}(h:Bk w0 p base ks w)(hr:Row w0 g t xs)(hg:g≠p)(ht:t≠106):Row w g t xs:=by
 obtain⟨P,A,c,h1,h2,h3⟩:=h;exact h3.rowK hr hg ht
end
theorem Xnj(p base:Nat)(ks:List (Sl × Kd))(x:Sl)(w0 w:World)(h:Bk w0 p base ks w)(hn:ks.length≤1000000) :
 Calls Tryz.prog 38 #[.pointer (some ⟨p,0,none⟩),x.val] w fun e w'=>e=.returned (.tuple #[])∧Bk w0 p base (ks++[(x,Kd.ho)]) w':=by
 obtain⟨P,A,c,h1,h2,h3⟩:=h;subst h1;refine(Xke p base A _ P.length c x.n x.c _ w0 w h3 (by simpa using hn)).mono ?_;rintro e w' ⟨z1,z2,A',c',rfl,hz1,hz2,h4⟩;refine⟨rfl,P++[⟨x.A,x.n,x.c,.ho z1 z2⟩],A',c',by simp[Pg2.key,Sg.isK],fun q hq=>?_,?_⟩
 ·rcases List.mem_append.1 hq with hq | hq
  ·exact h2 q hq
  ·obtain rfl:q=_:=List.mem_singleton.1 hq;exact⟨hz1,hz2⟩
 ·rw[List.length_append,List.map_append];exact h4
def ety:Kd→TypeId
 | .ho=>74
def esz:Kd→Nat
 | .ho=>66
def SlFit(w:World)(y:Sl × Kd):Prop:=
 match y.1.A with
 | none=>y.1.n=0∧y.1.c=0
 | some g=>y.1.n≤y.1.c∧y.1.c≤9223372036854775807∧∃xs,Row w g (ety y.2) xs∧y.1.c*esz y.2≤xs.length∧(esz y.2=64→xs.length=y.1.c*esz y.2)
theorem SlFit.keep{w w':World}{y:Sl × Kd}(h:SlFit w y)(hk:∀g,y.1.A=some g→w'.heap[g]?=w.heap[g]?):SlFit w' y:=by
 obtain⟨⟨A,n,c⟩,kd⟩:=y;cases A with
 | none=>exact h
 | some g =>
  obtain⟨h1,h2,xs,hr,hl⟩:=h;exact⟨h1,h2,xs,⟨(hk g rfl).trans hr.is⟩,hl⟩
theorem own_sl{w:World}{base n size:Nat}{e:TypeId}{v:Value}{xs:List Value}(h:w.ownsRow base e size v n xs) :
 ∃x:Sl,v=x.val∧x.n=n∧(x.A=none→x.n=0∧x.c=0)∧∀g,x.A=some g→base≤g∧g<w.heap.size∧v.ownBlock=some g∧x.n≤x.c∧x.c≤9223372036854775807∧∃cur,Row w g e cur∧cur.length=x.c*size:=by
 rcases h.2 with⟨rfl,h2⟩ | ⟨g,cap,cur,rfl,hg,hh,r1,r2,r3,r4⟩
 ·exact⟨⟨none,0,0⟩,rfl,h2.symm,fun _=>⟨rfl,rfl⟩,fun g e=>by cases e⟩
 ·refine⟨⟨some g,n,cap⟩,rfl,rfl,?_,?_⟩
  ·intro e';cases e'
  intro g' e';cases e'
  exact⟨hg,(Array.getElem?_eq_some_iff.1 hh).1,rfl,r1,by unfold maxLen at r2;omega,cur.toList,⟨by simpa using hh⟩,by simpa using r3⟩
def blocks(ks:List (Sl × Kd)):List Nat:=ks.filterMap fun y=>y.1.A
theorem Xim(a b:List (Sl × Kd)):blocks (a++b)=blocks a++blocks b:=by simp[blocks,List.filterMap_append]
theorem Xf0(y:Sl × Kd):∀g ∈ blocks [y],y.1.A=some g:=by
 intro g hg;unfold blocks at hg;rw[List.filterMap_cons]at hg;split at hg
 ·cases hg
 ·rename_i h
  simp at hg;rw[h,hg]
theorem Xm9(y:Sl × Kd):(blocks [y]).Pairwise (·<·):=by
 unfold blocks;rw[List.filterMap_cons];split <;> simp
theorem Xsf{a b:List Nat}{m:Nat}(ha:a.Pairwise (·<·))(hb:b.Pairwise (·<·))(h1:∀x ∈ a,x<m)(h2:∀x ∈ b,m≤x):(a++b).Pairwise (·<·):=
 List.pairwise_append.2 ⟨ha,hb,fun x hx y hy=>by have:=h1 x hx;have:=h2 y hy;omega⟩
theorem Xjn{R:Nat→Nat→Prop}:∀{P:List Pg2} {i j:Nat} {g g':Nat},(P.filterMap fun q=>q.A).Pairwise R→i<j→(hi:i<P.length)→(hj:j<P.length)→P[i].A=some g→P[j].A=some g'→R g g'
 | [],i,j,g,g',_,_,hi,_,_,_=>absurd hi (by simp)
 | q::r,i,j,g,g',h,hij,hi,hj,e,e'=>by
  cases j with
  | zero=>omega
  | succ j =>
   have hj':j<r.length:=by simpa using hj
   have e'':r[j].A=some g':=by simpa using e'
   cases i with
   | zero =>
    have e0:q.A=some g:=e;rw[List.filterMap_cons,e0]at h;exact(List.pairwise_cons.1 h).1 g' (List.mem_filterMap.2 ⟨r[j],List.getElem_mem hj',e''⟩)
   | succ i =>
    have hr:(r.filterMap fun q=>q.A).Pairwise R:=by
     rw[List.filterMap_cons]at h;split at h
     ·exact h
     ·exact(List.pairwise_cons.1 h).2
    exact Xjn (i:=i) (j:=j) hr (by omega) (by simpa using hi) hj' (by simpa using e) e''
structure OnlyIn(bs:List Nat)(w w':World):Prop where
 os:w'.os=w.os
 tape:w'.tape=w.tape
 output:w'.output=w.output
 size:w.heap.size≤w'.heap.size
 block:∀k,k<w.heap.size→k ∉ bs→w'.heap[k]?=w.heap[k]?
theorem Xuv(p base:Nat)(ks:List (Sl × Kd))(w0 w:World)(h:Bk w0 p base ks w)(hf:∀y ∈ ks,SlFit w0 y)(hd:(blocks ks).Pairwise (·≠·))(hlow:∀g ∈ blocks ks,g<base∧g≠p) :
 Calls Tryz.prog 14 #[.pointer (some ⟨p,0,none⟩)] w fun e w'=>e=.returned (.bool true)∧OnlyIn (blocks ks) w w':=by
 have ho:=h.one;obtain⟨P,A,c,h1,h2,h3⟩:=h;by_cases hn:P.length≤120
 ·have hmem:∀q ∈ P,q.key ∈ ks:=fun q hq=>by rw[←h1];exact List.mem_map.2 ⟨q,hq,rfl⟩
  have hbl:∀q ∈ P,∀g,q.A=some g→g ∈ blocks ks:=fun q hq g hg=>List.mem_filterMap.2 ⟨q.key,hmem q hq,hg⟩
  have hfit:∀q ∈ P,q.Fit w False False:=by
   intro q hq;have hy:=hf _ (hmem q hq);have hl:=hbl q hq;obtain⟨A',n',c',s'⟩:=q;cases A' with
   | none=>exact hy
   | some g =>
    obtain⟨e1,e2,xs,hr,he,hek⟩:=hy;obtain⟨l2,l3⟩:=hlow g (hl g rfl);have hr':Row w g (ety s'.isK) xs:=⟨(ho.block g l2 l3).trans hr.is⟩;have hes:esz s'.isK=s'.sz:=by cases s' <;> rfl
    have het:ety s'.isK=s'.et:=by cases s' <;> rfl
    rw[het]at hr';rw[show(Pg2.key ⟨some g,n',c',s'⟩).2=s'.isK from rfl,hes]at he hek;have he':c'*s'.sz≤xs.length:=he;have hek':s'.sz=64→xs.length=c'*s'.sz:=hek;have e1':n'≤c':=e1;have hle:n'*s'.sz≤c'*s'.sz:=Nat.mul_le_mul_right _ e1';have hsum:c'*s'.sz=n'*s'.sz+(c' - n')*s'.sz:=by rw[←Nat.add_mul];congr 1;omega
    refine⟨e1,e2,xs.take (n'*s'.sz),(xs.drop (n'*s'.sz)).take ((c' - n')*s'.sz),(xs.drop (n'*s'.sz)).drop ((c' - n')*s'.sz),by rwa [List.take_append_drop,List.take_append_drop],?_,?_,?_,fun x=>x.elim,fun x=>x.elim⟩
    ·show(xs.take (n'*s'.sz)).length=n'*s'.sz
     rw[List.length_take];exact Nat.min_eq_left (by omega)
    ·show((xs.drop (n'*s'.sz)).take ((c' - n')*s'.sz)).length=(c' - n')*s'.sz
     rw[List.length_take,List.length_drop];exact Nat.min_eq_left (by omega)
    ·intro hz;have:=hek' hz;exact List.drop_of_length_le (by rw[List.length_drop];omega)
  refine(apart p base A c P w ⟨h3.row,h3.own,fun i hi=>?_⟩ ?_ h2 hn).mono ?_
  ·have:=hfit P[i] (List.getElem_mem hi);simpa using this
  ·have hd':(P.filterMap fun q=>q.A).Pairwise (·≠·):=by
    have:blocks ks=P.filterMap fun q=>q.A:=by
     rw[←h1];unfold blocks;rw[List.filterMap_map];rfl
    rw[←this];exact hd
   intro i j hi hj g e e';rcases Nat.lt_trichotomy i j with hij | hij | hij
   ·exact absurd rfl (Xjn hd' hij hi hj e e')
   ·exact hij
   ·exact absurd rfl (Xjn hd' hij hj hi e' e)
  ·rintro e w' ⟨rfl,ht⟩;exact⟨rfl,ht.os,ht.tape,ht.output,ht.size,fun k hk hn=>ht.block k hk fun q hq e=>hn (hbl q hq k e)⟩
 ·refine(Xoa p A P.length c w h3.row (by omega)).mono ?_;rintro e w' ⟨rfl,rfl⟩;exact⟨rfl,rfl,rfl,rfl,Lr _,fun _ _ _=>rfl⟩
theorem Xv7(p base B:Nat)(ks:List (Sl × Kd))(w0 w:World)(h:Bk w0 p base ks w)(hf:∀y ∈ ks,SlFit w0 y)(hd:(blocks ks).Pairwise (·≠·))(hlow:∀g ∈ blocks ks,B≤g∧g<base∧g≠p)(hB:B≤w.heap.size) :
 Calls Tryz.prog 14 #[.pointer (some ⟨p,0,none⟩)] w fun e w'=>e=.returned (.bool true)∧Below B w w':=
 (Xuv p base ks w0 w h hf hd fun g hg=>(hlow g hg).2).mono fun e w' ⟨he,ht⟩=>⟨he,ht.os,ht.tape,ht.output,ht.size,fun k hk=>ht.block k (Nat.lt_of_lt_of_le hk hB) fun hm=>by have:=(hlow k hm).1;omega⟩
theorem Xv5(p base B:Nat)(ks:List (Sl × Kd))(w0 w:World)(h:Bk w0 p base ks w)(hf:∀y ∈ ks,SlFit w0 y)(hd:(blocks ks).Pairwise (·<·))(hlow:∀g ∈ blocks ks,B≤g∧g<base∧g≠p)(hB:B≤w.heap.size) :
 Calls Tryz.prog 14 #[.pointer (some ⟨p,0,none⟩)] w fun e w'=>e=.returned (.bool true)∧Below B w w':=
 Xv7 p base B ks w0 w h hf (hd.imp fun h=>Nat.ne_of_lt h) hlow hB
theorem Bk.new(w:World):Bk (w.alloc (.cells #[.slice none 0 0] 54)) w.heap.size w.heap.size [] (w.alloc (.cells #[.slice none 0 0] 54)):=by
 refine⟨[],none,0,rfl,by simp,?_⟩;exact⟨Row.new w 54 [.slice none 0 0],World.ownsRow_nil _ _ _ _,ButOne.refl _ _ _,by simp,fun _ _ _ _=>rfl⟩
section
variable{P:Program}{w:World}{o:Oper}{a:Act}
def tailAt(A:Option Addr)(c k:Nat):Option Addr:=if c=k then A else A.map (·.add k)
theorem Sees.tail{B:Nat}{A:Option Addr}{n c k:Nat}{xs:List Value}(h:Sees w B A n xs)(hk:k≤n)(hn:n≤c):Sees w B (tailAt A c k) (n - k) (xs.drop k):=by
 refine⟨by rw[List.length_drop,h.len],fun j u hu=>?_⟩;rw[List.getElem?_drop]at hu;obtain⟨ad,rfl,hb,hc⟩:=h.cell _ u hu;have h1:=(List.getElem?_eq_some_iff.1 hu).1;have h2:=h.len;refine⟨ad.add k,by unfold tailAt;rw[if_neg (by omega)];rfl,by rw[Xad];exact hb,by rw[Xc2];exact hc⟩
theorem Xm8(t e:TypeId)(x i:Operand)(ho:o.op=.slice t x (some i) none none)(ht:P.underlying t=some (.slice e))(hsz:(P.info? e).map (·.size)=some 1)
 (A:Option Addr) (n c k:Nat) (hx:a.eval x=.slice A n c) (hi:a.eval i=.int .i64 k) (hk:k≤n) (hn:n≤c) (hc:c≤maxLen) :
 (execOp a.eval o).run P w=.ok (.value (.slice (tailAt A c k) (n - k) (c - k))) w:=by
 unfold maxLen at hc;obtain⟨ie,hie,hs1⟩:∃i,P.info? e=some i∧i.size=1:=by
  cases h:P.info? e with
  | none=>rw[h]at hsz;cases hsz
  | some i=>rw[h]at hsz;exact⟨i,rfl,by simpa using hsz⟩
 have he:P.elem t=e:=by simp[Program.elem,ht]
 have ht':P.underlying t=some (.slice (P.elem t)):=by rw[he];exact ht
 have hso:(sizeOf e).run P w=.ok 1 w:=by simp[sizeOf,typeInfo,hie,hs1]
 have h1:(0:Int)≤k:=by omega
 have h2:(k:Int)≤n:=by omega
 unfold execOp;simp only[ho,hx,hi,Option.map_some,Option.map_none];simp only[Sem.run_bind,run_sliceAt_slice w t _ _ _ _ ht',run_slice_l w t A n c ht' .i64 k h1 h2,he,hso,Result.andThen_ok,sliced,tailAt,Int.toNat_natCast,Nat.mul_one,Sem.run_pure]
theorem Xbe{ops:Array Oper}{rest:List Oper}{Q:Exit→Act→World→Prop}(hgd:o.guard=none)(t e:TypeId)(x i:Operand)(ho:o.op=.slice t x (some i) none none)(ht:P.underlying t=some (.slice e))(hsz:(P.info? e).map (·.size)=some 1)
 (A:Option Addr) (n c k:Nat) (hx:a.eval x=.slice A n c) (hi:a.eval i=.int .i64 k) (hk:k≤n) (hn:n≤c) (hc:c≤maxLen)
 (h:wpList P ops Q rest (a.put o.dst (.slice (tailAt A c k) (n - k) (c - k))) w):wpList P ops Q (o::rest) a w:=
 wpList_plain hgd fun K hK=>by
  unfold Oper.wp;rw[Xm8 t e x i ho ht hsz A n c k hx hi hk hn hc];exact hK _ _ h
end
theorem Xgv{l:List (List Int)}{k:Nat}{x:List Int}(h:l[k]?=some x):(l.take (k+1)).flatten=(l.take k).flatten++x:=by
 rw[List.take_add_one,List.flatten_append,h];simp
structure SigsV(w:World)(lo hi:Nat)(v:Value)(l:List (List Int)):Prop where
 own:w.ownsRow lo 117 64 v l.length (bv l.flatten)
 lt:∀g,v.ownBlock=some g→g<hi
 each:∀y ∈ l,y.length=64
theorem Xi8{P:Program}{o:Oper}{a:Act}{w:World}{K:Act→World→Prop}{Q:Exit→Act→World→Prop}(hgd:o.guard=none)(d s:Operand)(dT sT:TypeId)
 (ho:o.op=.call { callee:=.builtin .copy,args:=#[d,s],argTypes:=#[dT,sT] }) (elem:TypeId) (hu:P.underlying dT=some (.slice elem)) (hsz:(P.info? elem).map (·.size)=some 1)
 (dp sp:Option Addr) (dLen dCap sLen sCap:Nat) (hd:a.eval d=.slice dp dLen dCap) (hs:a.eval s=.slice sp sLen sCap)
 (g off:Nat) (cur:List Value) (t:TypeId) (hg:w.heap[g]?=some (.cells cur.toArray t (0,0))) (cs:List Value) (hn:cs.length=Nat.min sLen dLen)
 (hpos:0<cs.length→dp=some ⟨g,off,none⟩∧∃ad,sp=some ad∧∀j v,cs[j]?=some v→w.cell? (ad.add j)=some v)
 (hfit:off+cs.length≤cur.length) (h1:∀v ∈ cs,v.oneCell'=true) (B:Nat) (w0:World) (hb:Below B w0 w) (hBg:B≤g)
 (h:∀w',Hid (w'.heap[g]?=some (.cells (splice cur off cs).toArray t (0,0)))→Below B w0 w'→K (a.put o.dst (goInt cs.length)) w'):Oper.wp P o a w K Q:=by
 have:=step_copy_splice (P:=P) (ops:=#[]) (E:=True) (Q:=Q) hgd d s dT sT ho elem hu hsz dp sp dLen dCap sLen sCap hd hs g off cur t hg cs hn hpos hfit h1 B w0 hb hBg h;rwa [if_pos (by simp[Region.wanted,hgd])]at this
theorem Xta:(Tryz.prog.info? 117).map (fun i=>(i.zero,i.size,i.bytes))=some (some (.agg (zeros 64).toArray),64,64):=by kernel_rfl
theorem Xao{P:Program}{op:Oper}{a:Act}{w:World}{K:Act→World→Prop}{Q:Exit→Act→World→Prop}(ty:TypeId)(x y:Operand)(ho:op.op=.store ty x y)
 (g t o:Nat) (c cs:List Value) (hr:Row w g t c) (hi:(P.info? ty).map (·.size)=some cs.length) (hl:o+cs.length≤c.length) (h1:∀u ∈ cs,u.oneCell'=true)
 (hx:a.eval x=.pointer (some ⟨g,o,none⟩)) (hy:a.eval y=.agg cs.toArray)
 (h:∀w',Row w' g t (c.take o++cs++c.drop (o+cs.length))→Turned w w' g→K (a.put op.dst undef) w'):op.wp P a w K Q:=
 wp_store_mid ty x y ho g o cs.toArray hx hy (fun j hj=>⟨by
  have hj':j<cs.length:=by simpa using hj
  rw[hr.cell,List.getElem?_eq_getElem (by omega)];rfl,hr.frozen _⟩) (by simpa using hi) (all_oneCell_toArray h1)
  (h _ (by simpa using Xei cs w o c hr hl) (Xd3 cs w o))
structure TxV(w:World)(lo hi:Nat)(s:TRaw)(x:LTx):Prop where
 short:x.sigs.length≤65535
 is:∃mid,lo≤mid∧mid≤hi∧SigsV w lo mid (.slice s.SA s.sn s.sc) x.sigs∧MsgV w mid hi s.q x.m
theorem SigsV.stay{w w':World}{lo hi:Nat}{v:Value}{l:List (List Int)}(h:SigsV w lo hi v l)(hk:∀k,lo≤k→k<hi→w'.heap[k]?=w.heap[k]?):SigsV w' lo hi v l:=by
 refine⟨⟨h.own.1,?_⟩,h.lt,h.each⟩;rcases h.own.2 with h2 | ⟨g,cap,cur,hv,hg,hh,r⟩
 ·exact .inl h2
 ·exact .inr ⟨g,cap,cur,hv,hg,(hk g hg (h.lt g (by rw[hv];rfl))).trans hh,r⟩
theorem SigsV.form{w:World}{lo hi:Nat}{v:Value}{l:List (List Int)}(h:SigsV w lo hi v l):∃A c,v=.slice A l.length c:=by
 rcases h.own.2 with⟨rfl,h2⟩ | ⟨g,cap,cur,rfl,_⟩
 ·exact⟨_,_,by rw[h2]⟩
 ·exact⟨_,_,rfl⟩
theorem SigsV.in_{w:World}{lo hi:Nat}{A:Option Addr}{n c:Nat}{l:List (List Int)}(h:SigsV w lo hi (.slice A n c) l):SigsIn w hi A n l∧n≤c∧c≤maxLen:=by
 obtain⟨A',c',e⟩:=h.form;cases e
 refine⟨⟨rfl,h.each,⟨by rw[bL,Xcb l h.each],fun i u hu=>?_⟩⟩,Xjf h.own⟩;obtain⟨g,rfl,h1,h2,h3,h4⟩:=Xjk h.own hu;exact⟨_,rfl,h.lt g h1,by rw[Xa5,Nat.zero_add];exact h4⟩
theorem TxV.in_{w:World}{lo hi:Nat}{s:TRaw}{x:LTx}(h:TxV w lo hi s x):TxIn w hi s x:=by
 obtain⟨mid,h1,h2,h3,h4⟩:=h.is;obtain⟨h5,h6⟩:=h3.in_;exact⟨h5.more h2,h6,h4.in_⟩
theorem TxV.stay{w w':World}{lo hi:Nat}{s:TRaw}{x:LTx}(h:TxV w lo hi s x)(hz:w.heap.size≤w'.heap.size)(hk:∀k,lo≤k→k<hi→w'.heap[k]?=w.heap[k]?):TxV w' lo hi s x:=by
 obtain⟨mid,h1,h2,h3,h4⟩:=h.is;exact⟨h.short,mid,h1,h2,h3.stay fun k a b=>hk k a (by omega),h4.stay hz fun k a b=>hk k (by omega) b⟩
theorem TxV.more{w:World}{lo hi hi':Nat}{s:TRaw}{x:LTx}(h:TxV w lo hi s x)(hh:hi≤hi'):TxV w lo hi' s x:=by
 obtain⟨mid,h1,h2,h3,h4⟩:=h.is;exact⟨h.short,mid,h1,by omega,h3,h4.more hh⟩
section
variable{P:Program}
theorem Xaa{fn:Func}{p0 p1:Tmp}{t0:TypeId}(h:fn.results=#[.cell p0 t0,.tmp p1])(tmps:Array Value)(w:World)(a0:Addr)(v0 v1:Value)
 (h0:tmps.getD p0 undef=.pointer (some a0)) (h1:tmps.getD p1 undef=v1)
 (l0:(loadVar t0 a0).run P w=.ok v0 w) :
 (results fn tmps).run P w=.ok (.tuple #[v0,v1]) w:=by
 have h0':tmps[p0]?.getD undef=.pointer (some a0):=by simpa using h0
 have h1':tmps[p1]?.getD undef=v1:=by simpa using h1
 simp[results,h,h0',h1',asAddr,l0]
end
structure LReady where
 bytes:List Int
 tx:LTx
 roles:List LRole
 u:Int
 p:Int
 bad:Int
 fee:Int
 cost:Int
 pri:Int
structure YRaw where
 BA:Option Addr
 bn:Nat
 bc:Nat
 t:TRaw
 RA:Option Addr
 rn:Nat
 rc:Nat
def LReady.last(x:LReady):List Value:=[.int .u64 x.u,.int .u64 x.p,.int .i64 x.bad,.int .u64 x.fee,.int .u64 x.cost,.int .u64 x.pri]
def YRaw.cells(q:YRaw)(x:LReady):List Value:=.slice q.BA q.bn q.bc::(q.t.cells x.tx++(.slice q.RA q.rn q.rc::x.last))
structure ReadyIn(w:World)(B:Nat)(q:YRaw)(x:LReady):Prop where
 bs:Sees w B q.BA q.bn (bv x.bytes)
 bn:q.bn≤q.bc∧q.bc≤maxLen
 tx:TxIn w B q.t x.tx
 rs:RolesIn w B q.RA q.rn x.roles
 rn:q.rn≤q.rc∧q.rc≤maxLen
section
variable{w w':World}{B B':Nat}{q:YRaw}{x:LReady}
theorem ReadyIn.below(h:ReadyIn w B q x)(hb:Below B w w'):ReadyIn w' B q x:=⟨h.bs.below hb,h.bn,h.tx.below hb,h.rs.below hb,h.rn⟩
theorem ReadyIn.more(h:ReadyIn w B q x)(hB:B≤B'):ReadyIn w B' q x:=⟨h.bs.more hB,h.bn,h.tx.more hB,h.rs.more hB,h.rn⟩
theorem Xc9(h:x.tx.m.recent.length=32):(q.cells x).length=48:=by
 simp[YRaw.cells,Xbb h,LReady.last]
theorem Xeb{j:Nat}{u:Value}(h:(q.t.cells x.tx)[j]?=some u):(q.cells x)[1+j]?=some u:=by
 rw[Nat.add_comm];show(q.t.cells x.tx++_)[j]?=_
 rw[List.getElem?_append_left (List.getElem?_eq_some_iff.1 h).1];exact h
theorem Xaj(h:x.tx.m.recent.length=32)(j:Nat):(q.cells x)[41+j]?=(.slice q.RA q.rn q.rc::x.last)[j]?:=by
 rw[show 41+j=40+j+1 by omega];show(q.t.cells x.tx++_)[40+j]?=_
 rw[List.getElem?_append_right (by rw[Xbb h];omega),Xbb h,show 40+j - 40=j by omega]
theorem Xgl:∀u ∈ q.cells x,u.oneCell'=true:=by
 intro u hu;rcases List.mem_cons.1 hu with rfl | hu
 ·rfl
 rcases List.mem_append.1 hu with hu | hu
 ·exact Xf6 u hu
 ·simp only[LReady.last,List.mem_cons,List.not_mem_nil,or_false]at hu;rcases hu with rfl | rfl | rfl | rfl | rfl | rfl | rfl <;> rfl
end
def zReady:LReady:=⟨[],zTx,[],0,0,0,0,0,0⟩
def zYRaw:YRaw:=⟨none,0,0,zRaw,none,0,0⟩
def num:List Int→Nat→Int
 | _,0=>0
 | zs,k+1=>num zs k+zs.getD k 0*256 ^ k
theorem Xhe(zs:List Int)(hb:Bytes zs)(k:Nat):0≤num zs k∧num zs k<256 ^ k:=by
 induction k with
 | zero=>simp[num]
 | succ k ih =>
  have h:=hb k;have e:(256:Int) ^ (k+1)=256 ^ k*256:=Int.pow_succ ..;have hp:(0:Int)<256 ^ k:=Int.pow_pos (by omega);simp only[num];rw[e];have h1:0≤zs.getD k 0*256 ^ k:=Int.mul_nonneg h.1 (by omega);have h2:zs.getD k 0*256 ^ k≤255*256 ^ k:=Int.mul_le_mul_of_nonneg_right (by omega) (by omega);omega
theorem Xox(zs:List Int)(k:Nat):num zs (k+1)=zs.getD 0 0+256*num (zs.drop 1) k:=by
 induction k with
 | zero=>simp[num]
 | succ k ih =>
  rw[num,ih,num];have:(zs.drop 1).getD k 0=zs.getD (k+1) 0:=by simp[List.getD_eq_getElem?_getD]
  rw[this,Int.pow_succ,Int.mul_add,Int.add_assoc];congr 2
  rw[Int.mul_comm (256 ^ k) 256,←Int.mul_assoc,←Int.mul_assoc,Int.mul_comm 256]
theorem u64_in(x:Int)(h0:0≤x)(h1:x<18446744073709551616):IntKind.u64.wrap x=x:=by rw[IntKind.wrap_u64];omega
theorem Xs6(zs:List Int)(hb:Bytes zs)(k:Nat)(hk:k<8) :
 bits .or .u64 (num zs k) (IntKind.u64.wrap (IntKind.u64.wrap (zs.getD k 0)*2 ^ (8*k)))=num zs (k+1):=by
 have h:=hb k;have hn:=Xhe zs hb k;simp only[num];generalize zs.getD k 0=z at *;generalize num zs k=p at *;rw[u64_in z h.1 (by omega)];have key:∀e:Nat,e<64→(256:Int) ^ k=2 ^ e→8*k=e→bits .or .u64 p (IntKind.u64.wrap (z*2 ^ (8*k)))=p+z*256 ^ k:=by
  rintro e he h2 rfl;have hp:(0:Int)<2 ^ (8*k):=Int.pow_pos (by omega);have hz0:0≤z*2 ^ (8*k):=Int.mul_nonneg h.1 (by omega);have hz1:z*2 ^ (8*k)<18446744073709551616:=by
   have h3:z*2 ^ (8*k)≤255*2 ^ (8*k):=Int.mul_le_mul_of_nonneg_right (by omega) (by omega);have h4:(2:Int) ^ (8*k)≤2 ^ 56:=by exact_mod_cast Nat.pow_le_pow_right (by omega) (by omega)
   omega
  have hp1:p<18446744073709551616:=by
   have h4:(2:Int) ^ (8*k)≤2 ^ 56:=by exact_mod_cast Nat.pow_le_pow_right (by omega) (by omega)
   omega
  rw[u64_in _ hz0 hz1,Xpv (8*k) p _ hn.1 (by omega) hz0 (Int.mul_emod_left ..) hp1 hz1,h2]
 refine key (8*k) (by omega) ?_ rfl;rw[Int.pow_mul];rfl
def getN(zs:List Int)(many:Int):Int × Int:=
 if many<1∨8<many then(0,1)else if (zs.length:Int)<many then(0,5)else(num zs many.toNat,0)
theorem Xtm(m:Int)(w:World)(h0:1≤m)(h1:m≤8):Calls Tryz.prog 109 #[.int .i64 m] w fun e w'=>e=.returned (.bool true)∧w=w':=by
 go_enter Tryz.func109,Tryz.ntmps109
 go_wp2;go_ret;exact⟨rfl,rfl⟩
theorem Xvj(m:Int)(w:World)(h:m<1∨8<m):Calls Tryz.prog 109 #[.int .i64 m] w fun e w'=>e=.returned (.bool false)∧w=w':=by
 rcases h with h | h
 ·go_enter Tryz.func109,Tryz.ntmps109
  go_wp2;go_ret;exact⟨rfl,rfl⟩
 ·have h2:1≤m:=by omega
  have h3:decide (m≤8)=false:=by simp;omega
  go_enter Tryz.func109,Tryz.ntmps109
  go_wp2;go_ret;exact⟨rfl,rfl⟩
theorem Xrc(A:Option Addr)(n c:Nat)(zs:List Int)(m:Int)(w:World)(S:Nat)
 (hx:Sees w S A n (bv zs)) (hn:n≤maxLen) (hb:Bytes zs) :
 Calls Tryz.prog 105 #[.slice A n c,.int .i64 m] w fun e w'=>e=.returned (.tuple #[.int .u64 (getN zs m).1,.int .i64 (getN zs m).2])∧w=w':=by
 unfold maxLen at hn;have lx:=Hd (show zs.length=n by have:=hx.len;rwa [bL]at this);by_cases hm:m<1∨8<m
 ·have hg:getN zs m=(0,1):=by simp[getN,hm]
  have HG:=Hd hg;have HM:=Hd (Xvj m w hm);clear hg hm;go_enter Tryz.func105,Tryz.ntmps105
  go_wp2_with fail;refine HM.out.mono ?_;rintro e w1 ⟨rfl,rfl⟩;go_wp2;go_ret2
  exact⟨Xfr HG.out,rfl⟩
 ·have HF:=Hd (Xtm m w (by omega) (by omega));by_cases hl:(n:Int)<m
  ·have hg:getN zs m=(0,5):=by simp[getN,hm];rw[lx.out];exact hl
   have HG:=Hd hg;clear hg hm;go_enter Tryz.func105,Tryz.ntmps105
   go_wp2_with fail;refine HF.out.mono ?_;rintro e w1 ⟨rfl,rfl⟩;go_wp2;go_ret2
   exact⟨Xfr HG.out,rfl⟩
  ·obtain⟨mm,rfl⟩:=Int.eq_ofNat_of_zero_le (show 0≤m by omega);have hg:getN zs mm=(num zs mm,0):=by simp[getN,hm];rw[lx.out];omega
   have hm8:mm≤8:=by omega
   have hm1:1≤mm:=by omega
   have hmn:mm≤n:=by omega
   have HG:=Hd hg;clear hg hm hl;go_enter Tryz.func105,Tryz.ntmps105
   go_wp2_with fail;refine HF.out.mono ?_;rintro e w1 ⟨rfl,rfl⟩;go_wp2;go_loop [6,7,16] (fun v _ i=>∃(k:Nat),k≤mm∧i=.int .i64 k∧v=.int .u64 (num zs k)) (fun _ _ i=>mm - (intOf i).toNat)
   case atStart=>exact⟨0,Nat.zero_le _,rfl,rfl⟩
   case round =>
    obtain⟨k,hk,rfl,rfl⟩:=hrel;by_cases hlt:k<mm
    ·obtain⟨a,rfl,ha,hca⟩:=hx.byte (k:=k) (by omega);have HS:=Hd (Xs6 zs hb k (by omega));generalize zs.getD k 0=z at *;go_wp2;go_round
     case rel=>exact⟨k+1,by omega,by go_num,by rw[HS.out]⟩
     case measure=>simp[intOf];omega
    ·have HK:=Hd (show k=mm by omega);go_wp2;go_ret2
     exact⟨Xfr (by rw[HG.out,HK.out]),rfl⟩
def key0:List Int:=List.replicate 32 0
structure LAsk where
 tag:Int
 coins:Int
 space:Int
 owner:List Int
def dat14(b:List Int):Option LAsk:=
 if b.length<4 then none
 else if num b 4=0∧b.length=52 then some ⟨0,num (b.drop 4) 8,num (b.drop 12) 8,b.drop 20⟩
 else if num b 4=1∧b.length=36 then some ⟨1,0,0,b.drop 4⟩
 else if num b 4=2∧b.length=12 then some ⟨2,num (b.drop 4) 8,0,key0⟩
 else if num b 4=8∧b.length=12 then some ⟨8,0,num (b.drop 4) 8,key0⟩
 else none
def two14(x:LAsk):Prop:=x.tag=0∨x.tag=2
instance two14_dec (x:LAsk):Decidable (two14 x):=inferInstanceAs (Decidable (x.tag=0∨x.tag=2))
def need14(x:LAsk):Nat:=if two14 x then 2 else 1
def rol14(r:List LRole)(i:Int):LRole:=r.getD i.toNat ⟨[],false,false⟩
def chk14(m:Bool)(x:LRole):Int:=if m&&!x.sg then 14 else if !x.wr then 15 else 0
def plc14(x:LAsk)(r:List LRole)(acc:List Int):Int:=
 if acc.length<need14 x then 8
 else if ∃i ∈ acc,(r.length:Int)≤i then 8
 else if chk14 true (rol14 r (acc.getD 0 0))≠0 then chk14 true (rol14 r (acc.getD 0 0))
 else if two14 x then chk14 (decide (x.tag=0)) (rol14 r (acc.getD 1 0))
 else 0
def getA(l:List LAcc)(i:Nat):LAcc:=l.getD i blank13
def plain14(a:LAcc):Prop:=a.o=key0∧a.s=0
instance plain14_dec (a:LAcc):Decidable (plain14 a):=inferInstanceAs (Decidable (a.o=key0∧a.s=0))
structure Res14 where
 e:Int
 l:List LAcc
 n:Int
def bad14(e:Int):Res14:=⟨e,[],0⟩
def make14(l:List LAcc)(x:LAsk)(a b:Nat):Res14:=
 if getA l b≠blank13 then bad14 12
 else if ¬plain14 (getA l a)then bad14 16
 else if 1048576<x.space then bad14 3
 else if (getA l a).c<x.coins then bad14 17
 else⟨0,(l.set a ⟨(getA l a).c - x.coins,(getA l a).o,(getA l a).s⟩).set b ⟨x.coins,x.owner,x.space⟩,x.space⟩
def assign14(l:List LAcc)(x:LAsk)(a:Nat):Res14:=
 if (getA l a).o≠key0 then bad14 16 else⟨0,l.set a ⟨(getA l a).c,x.owner,(getA l a).s⟩,0⟩
def move14(l:List LAcc)(x:LAsk)(a b:Nat):Res14:=
 if ¬plain14 (getA l a)then bad14 16
 else if (getA l a).c<x.coins then bad14 17
 else if a=b then⟨0,l,0⟩
 else if 18446744073709551615 - x.coins<(getA l b).c then bad14 18
 else⟨0,(l.set a ⟨(getA l a).c - x.coins,(getA l a).o,(getA l a).s⟩).set b ⟨(getA l b).c+x.coins,(getA l b).o,(getA l b).s⟩,0⟩
def space14(l:List LAcc)(x:LAsk)(a:Nat):Res14:=
 if ¬plain14 (getA l a)then bad14 12
 else if 1048576<x.space then bad14 3
 else⟨0,l.set a ⟨(getA l a).c,(getA l a).o,x.space⟩,x.space⟩
def deed14(l:List LAcc)(x:LAsk)(a b:Nat):Res14:=
 if x.tag=0 then make14 l x a b else if x.tag=1 then assign14 l x a else if x.tag=2 then move14 l x a b else space14 l x a
def do14(l:List LAcc)(r:List LRole)(acc dat:List Int):Res14:=
 if l.length≠r.length then bad14 1
 else match dat14 dat with
 | none=>bad14 13
 | some x=>if plc14 x r acc≠0 then bad14 (plc14 x r acc)else deed14 l x (acc.getD 0 0).toNat (acc.getD (need14 x - 1) 0).toNat
structure AskOk(x:LAsk):Prop where
 tag:x.tag=0∨x.tag=1∨x.tag=2∨x.tag=8
 c:0≤x.coins∧x.coins<18446744073709551616
 s:0≤x.space∧x.space<18446744073709551616
 o:x.owner.length=32∧AllBytes x.owner
 one:x.tag=1→x.space=0
 two:x.tag=2→x.space=0
theorem Xb1{b:List Int}(h:AllBytes b):Bytes b:=fun i=>by
 rw[List.getD_eq_getElem?_getD];cases h1:b[i]? with
 | none=>simp
 | some z =>
  have:=h z (List.mem_of_getElem? h1);exact this
theorem Xjd{b:List Int}(h:AllBytes b)(k:Nat):0≤num (b.drop k) 8∧num (b.drop k) 8<18446744073709551616:=by
 have:=Xhe (b.drop k) (Xb1 fun z hz=>h z (List.mem_of_mem_drop hz)) 8;have e:(256:Int) ^ 8=18446744073709551616:=by decide
 rw[e]at this;exact this
theorem Xb3:key0.length=32∧AllBytes key0:=⟨rfl,fun z hz=>by rw[List.eq_of_mem_replicate hz];constructor <;> decide⟩
theorem Xmb:(0:Int)≤0∧(0:Int)≤1048576:=by decide
theorem Xh1:(0:Int)≤0∧(0:Int)<18446744073709551616:=by decide
theorem Xat{b:List Int}(h:AllBytes b){x:LAsk}(hx:dat14 b=some x):AskOk x:=by
 unfold dat14 at hx;have hd:∀k,AllBytes (b.drop k):=fun k z hz=>h z (List.mem_of_mem_drop hz)
 split at hx
 ·cases hx
 split at hx
 ·rename_i h1 h2
  cases hx
  exact⟨.inl rfl,Xjd h 4,Xjd h 12,⟨by rw[List.length_drop];omega,hd _⟩,fun e=>(by cases e),fun e=>(by cases e)⟩
 split at hx
 ·rename_i h1 h2 h3
  cases hx
  exact⟨.inr (.inl rfl),Xh1,Xh1,⟨by rw[List.length_drop];omega,hd _⟩,fun _=>rfl,fun e=>(by cases e)⟩
 split at hx
 ·cases hx
  exact⟨.inr (.inr (.inl rfl)),Xjd h 4,Xh1,Xb3,fun e=>(by cases e),fun _=>rfl⟩
 split at hx
 ·cases hx
  exact⟨.inr (.inr (.inr rfl)),Xh1,Xjd h 4,Xb3,fun e=>(by cases e),fun e=>(by cases e)⟩
 ·cases hx
theorem Xa8{l:List LAcc}(h:∀a ∈ l,AccOk a)(i:Nat):AccOk (getA l i):=by
 unfold getA;rw[List.getD_eq_getElem?_getD];cases h1:l[i]? with
 | none=>exact Xdd
 | some a=>exact h a (List.mem_of_getElem? h1)
theorem Xpt{l:List LAcc}{i:Nat}{a:LAcc}(h:l[i]?=some a):getA l i=a:=by
 unfold getA;rw[List.getD_eq_getElem?_getD,h];rfl
theorem Xph{l:List LAcc}{i:Nat}(h:i<l.length):l[i]?=some (getA l i):=by
 rw[List.getElem?_eq_getElem h];rw[Xpt (List.getElem?_eq_getElem h)]
theorem Xck{l:List LAcc}{i k:Nat}{a:LAcc}(hi:i<l.length):getA (l.set i a) k=if k=i then a else getA l k:=by
 unfold getA;rw[List.getD_eq_getElem?_getD,List.getD_eq_getElem?_getD,List.getElem?_set];by_cases e:i=k
 ·subst e;simp[hi]
 ·rw[if_neg e,if_neg (fun h=>e h.symm)]
theorem Xhk{l:List LAcc}(h:∀a ∈ l,AccOk a){i:Nat}{x:LAcc}(hx:AccOk x):∀a ∈ l.set i x,AccOk a:=fun a ha=>by
 rcases List.mem_or_eq_of_mem_set ha with ha | rfl
 ·exact h a ha
 ·exact hx
def sumA:List LAcc→Int
 | []=>0
 | x::r=>x.c+sumA r
theorem Xf5:∀{l:List LAcc} {i:Nat} (x:LAcc),i<l.length→sumA (l.set i x)=sumA l - (getA l i).c+x.c
 | [],i,x,h=>by simp at h
 | a::r,0,x,_=>by
  show x.c+sumA r=a.c+sumA r - a.c+x.c
  omega
 | a::r,i+1,x,h=>by
  have h':i<r.length:=by simpa using h
  have ih:=Xf5 (l:=r) x h';show a.c+sumA (r.set i x)=a.c+sumA r - (getA r i).c+x.c
  omega
structure Deed(l:List LAcc)(out:List LAcc)(n:Int)(a b:Nat)(sa sb:Bool):Prop where
 len:out.length=l.length
 ok:∀x ∈ out,AccOk x
 sum:sumA out=sumA l
 lim:0≤n∧n≤1048576
 off:∀k,k≠a→k≠b→getA out k=getA l k
 own:∀k,(getA l k).o≠key0→(getA l k).c≤(getA out k).c∧(getA out k).o=(getA l k).o
 sg:∀k,getA out k≠getA l k→(k=a∧sa=true)∨(k=b∧sb=true)∨((getA l k).c≤(getA out k).c∧(getA out k).o=(getA l k).o∧(getA out k).s=(getA l k).s)
 sp:∀k,(getA out k).s≠(getA l k).s→(getA l k).s=0∧(getA out k).s=n
theorem Xjm{a:LAcc}(h:¬¬plain14 a):a.o=key0∧a.s=0:=Classical.not_not.1 h
theorem Xq6{l:List LAcc}(hl:∀a ∈ l,AccOk a){x:LAsk}(hx:AskOk x){a b:Nat}(ha:a<l.length)(hb:b<l.length)(h0:(make14 l x a b).e=0) :
 Deed l (make14 l x a b).l (make14 l x a b).n a b true true:=by
 unfold make14 at h0 ⊢;split at h0
 ·cases h0
 rename_i h1
 split at h0
 ·cases h0
 rename_i h2
 split at h0
 ·cases h0
 rename_i h3
 split at h0
 ·cases h0
 rename_i h4
 rw[if_neg h1,if_neg h2,if_neg h3,if_neg h4];dsimp only
 have h1:getA l b=blank13:=Classical.not_not.1 h1;have h2:=Xjm h2;have oa:=Xa8 hl a;have hb':b<(l.set a ⟨(getA l a).c - x.coins,(getA l a).o,(getA l a).s⟩).length:=by rw[List.length_set];exact hb
 have ga:∀k,getA ((l.set a ⟨(getA l a).c - x.coins,(getA l a).o,(getA l a).s⟩).set b ⟨x.coins,x.owner,x.space⟩) k=if k=b then⟨x.coins,x.owner,x.space⟩else if k=a then⟨(getA l a).c - x.coins,(getA l a).o,(getA l a).s⟩else getA l k:=fun k=>by
  rw[Xck hb',Xck ha]
 have hcoin:a=b→x.coins=0:=fun e=>by
  subst e;rw[h1]at h4;have:=hx.c.1;simp only[blank13]at h4;omega
 have oo:AccOk ⟨x.coins,x.owner,x.space⟩:=⟨hx.c,hx.o,hx.s⟩;have oz:AccOk ⟨(getA l a).c - x.coins,(getA l a).o,(getA l a).s⟩:=⟨by have:=oa.c;have:=hx.c;constructor <;> simp only <;> omega,oa.o,oa.s⟩;refine⟨by simp,Xhk (Xhk hl oz) oo,?_,⟨hx.s.1,by show x.space≤1048576;omega⟩,fun k h5 h6=>by rw[ga,if_neg h6,if_neg h5],fun k hk=>?_,fun k hk=>?_,fun k hk=>?_⟩
 ·rw[Xf5 _ hb',Xf5 _ ha,Xck ha];by_cases e:b=a
  ·have:=hcoin e.symm;have hz:(getA l a).c=0:=by rw[←e,h1];rfl
   rw[if_pos e];simp only;omega
  ·rw[if_neg e,h1];simp only[blank13];omega
 ·rw[ga];by_cases e:k=b
  ·subst e;rw[h1]at hk;exact absurd rfl hk
  ·rw[if_neg e];by_cases e2:k=a
   ·subst e2;exact absurd h2.1 hk
   ·rw[if_neg e2];exact⟨Int.le_refl _,rfl⟩
 ·rw[ga]at hk;by_cases e:k=b
  ·exact .inr (.inl ⟨e,rfl⟩)
  ·by_cases e2:k=a
   ·exact .inl ⟨e2,rfl⟩
   ·rw[if_neg e,if_neg e2]at hk;exact absurd rfl hk
 ·rw[ga]at hk ⊢;by_cases e:k=b
  ·subst e;rw[if_pos rfl,h1];exact⟨rfl,rfl⟩
  ·rw[if_neg e]at hk;by_cases e2:k=a
   ·subst e2;rw[if_pos rfl]at hk;exact absurd rfl hk
   ·rw[if_neg e2]at hk;exact absurd rfl hk
theorem Xmi{l:List LAcc}(hl:∀a ∈ l,AccOk a){y:LAcc}{a b:Nat}(ha:a<l.length)(hy:AccOk y)(hc:y.c=(getA l a).c)(ho:(getA l a).o=key0){n:Int}(hn:0≤n∧n≤1048576)(hsp:y.s≠(getA l a).s→(getA l a).s=0∧y.s=n){sb:Bool} :
 Deed l (l.set a y) n a b true sb:=by
 have ga:∀k,getA (l.set a y) k=if k=a then y else getA l k:=fun k=>Xck ha
 refine⟨by simp,Xhk hl hy,by rw[Xf5 _ ha];omega,hn,fun k h5 _=>by rw[ga,if_neg h5],fun k hk=>?_,fun k hk=>?_,fun k hk=>?_⟩
 ·by_cases e:k=a
  ·subst e;exact absurd ho hk
  ·rw[ga,if_neg e];exact⟨Int.le_refl _,rfl⟩
 ·by_cases e:k=a
  ·exact .inl ⟨e,rfl⟩
  ·rw[ga,if_neg e]at hk;exact absurd rfl hk
 ·by_cases e:k=a
  ·subst e;rw[ga,if_pos rfl]at hk ⊢;exact hsp hk
  ·rw[ga,if_neg e]at hk;exact absurd rfl hk
theorem Xlp{l:List LAcc}(hl:∀a ∈ l,AccOk a){x:LAsk}(hx:AskOk x){a:Nat}(b:Nat)(ha:a<l.length)(h0:(assign14 l x a).e=0)(sb:Bool):Deed l (assign14 l x a).l (assign14 l x a).n a b true sb:=by
 unfold assign14 at h0 ⊢;split at h0
 ·cases h0
 rename_i h1
 rw[if_neg h1];dsimp only
 have oa:=Xa8 hl a;exact Xmi (n:=0) (y:=⟨(getA l a).c,x.owner,(getA l a).s⟩) hl ha ⟨oa.c,hx.o,oa.s⟩ rfl (Classical.not_not.1 h1) (by decide) fun h=>absurd rfl h
theorem Xos{l:List LAcc}(hl:∀a ∈ l,AccOk a){x:LAsk}(hx:AskOk x){a:Nat}(b:Nat)(ha:a<l.length)(h0:(space14 l x a).e=0)(sb:Bool):Deed l (space14 l x a).l (space14 l x a).n a b true sb:=by
 unfold space14 at h0 ⊢;split at h0
 ·cases h0
 rename_i h1
 split at h0
 ·cases h0
 rename_i h2
 rw[if_neg h1,if_neg h2];dsimp only
 have oa:=Xa8 hl a;have h1:=Xjm h1;exact Xmi (n:=x.space) (y:=⟨(getA l a).c,(getA l a).o,x.space⟩) hl ha ⟨oa.c,oa.o,hx.s⟩ rfl h1.1 ⟨hx.s.1,by show x.space≤1048576;omega⟩ fun _=>⟨h1.2,rfl⟩
theorem Xpy{l:List LAcc}(hl:∀a ∈ l,AccOk a){x:LAsk}(hx:AskOk x){a b:Nat}(ha:a<l.length)(hb:b<l.length)(h0:(move14 l x a b).e=0)(sb:Bool) :
 Deed l (move14 l x a b).l (move14 l x a b).n a b true sb:=by
 unfold move14 at h0 ⊢;split at h0
 ·cases h0
 rename_i h1
 split at h0
 ·cases h0
 rename_i h2
 rw[if_neg h1,if_neg h2];have h1:=Xjm h1;have oa:=Xa8 hl a;have ob:=Xa8 hl b;by_cases e:a=b
 ·rw[if_pos e];exact⟨rfl,hl,rfl,Xmb,fun _ _ _=>rfl,fun _ _=>⟨Int.le_refl _,rfl⟩,fun _ h=>absurd rfl h,fun _ h=>absurd rfl h⟩
 rw[if_neg e]at h0 ⊢;split at h0
 ·cases h0
 rename_i h3
 rw[if_neg h3];dsimp only
 have hb':b<(l.set a ⟨(getA l a).c - x.coins,(getA l a).o,(getA l a).s⟩).length:=by rw[List.length_set];exact hb
 have ga:∀k,getA ((l.set a ⟨(getA l a).c - x.coins,(getA l a).o,(getA l a).s⟩).set b ⟨(getA l b).c+x.coins,(getA l b).o,(getA l b).s⟩) k=if k=b then⟨(getA l b).c+x.coins,(getA l b).o,(getA l b).s⟩else if k=a then⟨(getA l a).c - x.coins,(getA l a).o,(getA l a).s⟩else getA l k:=fun k=>by
  rw[Xck hb',Xck ha]
 have hc:=hx.c;have oca:=oa.c;have ocb:=ob.c;have o1:AccOk ⟨(getA l b).c+x.coins,(getA l b).o,(getA l b).s⟩:=⟨by constructor <;> simp only <;> omega,ob.o,ob.s⟩;have o2:AccOk ⟨(getA l a).c - x.coins,(getA l a).o,(getA l a).s⟩:=⟨by constructor <;> simp only <;> omega,oa.o,oa.s⟩;refine⟨by simp,Xhk (Xhk hl o2) o1,?_,Xmb,fun k h5 h6=>by rw[ga,if_neg h6,if_neg h5],fun k hk=>?_,fun k hk=>?_,fun k hk=>?_⟩
 ·rw[Xf5 _ hb',Xf5 _ ha,Xck ha,if_neg (fun h=>e h.symm)];simp only;omega
 ·rw[ga];by_cases e1:k=b
  ·subst e1;rw[if_pos rfl];exact⟨by simp only;omega,rfl⟩
  ·rw[if_neg e1];by_cases e2:k=a
   ·subst e2;exact absurd h1.1 hk
   ·rw[if_neg e2];exact⟨Int.le_refl _,rfl⟩
 ·by_cases e1:k=b
  ·subst e1;right
   right
   rw[ga,if_pos rfl];exact⟨by simp only;omega,rfl,rfl⟩
  ·by_cases e2:k=a
   ·exact .inl ⟨e2,rfl⟩
   ·rw[ga,if_neg e1,if_neg e2]at hk;exact absurd rfl hk
 ·rw[ga]at hk;by_cases e1:k=b
  ·subst e1;rw[if_pos rfl]at hk;exact absurd rfl hk
  ·rw[if_neg e1]at hk;by_cases e2:k=a
   ·subst e2;rw[if_pos rfl]at hk;exact absurd rfl hk
   ·rw[if_neg e2]at hk;exact absurd rfl hk
def zAc:Value:=.agg blank13.cells.toArray
theorem infoAc:(Tryz.prog.info? 69).map (fun i=>(i.zero,i.size,i.bytes))=some (some zAc,34,48):=by kernel_rfl
theorem Xut{k:Nat}{l:List (List Value)}{x:List Value}{cs:List Value}(h:∀k ∈ l,k.length=34)(hx:l[k]?=some x) :
 ((l.take k).flatten++cs.drop (k*34)).take (k*34)++x++((l.take k).flatten++cs.drop (k*34)).drop (k*34+x.length)=(l.take (k+1)).flatten++cs.drop ((k+1)*34):=by
 have hk:=(List.getElem?_eq_some_iff.1 hx).1;have hl:(l.take k).flatten.length=k*34:=by
  rw[Xc3 (sz:=34) (fun y hy=>h y (List.mem_of_mem_take hy)),List.length_take];congr 1;omega
 have hxl:=h x (List.mem_of_getElem? hx);rw[List.take_left' hl,hxl,show k*34+34=(l.take k).flatten.length+34 by rw[hl],List.drop_length_add_append,List.drop_drop,List.take_add_one,hx,List.flatten_append,show k*34+34=(k+1)*34 by omega];simp
theorem sameAc(A B:Option Addr)(n c d:Nat)(l:List (List Value))(w:World)(S T:Nat)(hx:CsIn 34 w S A n l)(hy:CsIn 34 w T B n l)(ho:∀k ∈ l,IsAc k)(hn:n≤maxLen) :
 Calls Tryz.prog 69 #[.slice A n c,.slice B n d] w fun e w'=>e=.returned (.bool true)∧∃k,w'=w.drewN k:=by
 unfold maxLen at hn;have HX:=Hd hx;have HY:=Hd hy;have HO:=Hd ho;clear hx hy ho;go_enter Tryz.func69,Tryz.ntmps69
 go_wp2;go_loopw [5] (fun i wr=>∃k j:Nat,k≤n∧i=.int .i64 k∧wr=w.drewN j) (fun i _=>n - (intOf i).toNat)
 case atStart=>exact⟨0,0,Nat.zero_le _,rfl,rfl⟩
 case round =>
  obtain⟨k,j,hk,rfl,rfl⟩:=hrel;by_cases hlt:k<n
  ·obtain⟨a,x,rfl,ha,hxl,_,ca⟩:=HX.out.get hlt (by omega);obtain⟨b,y,rfl,hb,hyl,_,cb⟩:=HY.out.get hlt (by omega);obtain rfl:x=y:=by rw[hxl]at hyl;exact Option.some.inj hyl
   have hxo:=HO.out x (List.mem_of_getElem? hxl);have NQ:=fun w=>hxo.neq w
   have HSZ:=Hd hxo.size;have CA:=Hd ca;have CB:=Hd cb;clear ca cb hxl hyl hxo;go_wp2;refine wp_region_quiet_lit (by kernel_rfl) (by kernel_rfl) ?_;repeat (first
    | ((with_reducible show wpQuiet _ _ _ _ (⟨some 20,_,_,_,_,_⟩::_) _);go_must(refine Xai (by kernel_rfl) 69 (.tmp 19) rfl (a.add (k*34)) x _ Tryz.underlying69 rfl HSZ.out (by rintro _ ⟨nq,rfl⟩;exact CA.out) ?_ ?_;go_simp;go_simp))
    | ((with_reducible show wpQuiet _ _ _ _ (⟨some 24,_,_,_,_,_⟩::_) _);go_must(refine Xai (by kernel_rfl) 69 (.tmp 23) rfl (b.add (k*34)) x _ Tryz.underlying69 rfl HSZ.out (by rintro _ ⟨nq,rfl⟩;exact CB.out) ?_ ?_;go_simp;go_simp))
    | go_big_quiet_step (fail))
   refine wpQuiet_nil ?_;intro nq;go_wp2;go_roundw
   case rel=>exact⟨k+1,j+nq,by omega,by go_num,by simp⟩
   case measure=>simp[intOf];omega
  ·go_wp2;go_ret;exact⟨rfl,j,rfl⟩
theorem twinAc(A:Option Addr)(n c:Nat)(l:List (List Value))(z:List Value)(w:World)(S:Nat)
 (hx:CsIn 34 w S A n l) (ho:∀k ∈ l,IsAc k) (hS:S≤w.heap.size) (hn:n≤1000000000) (hz:IsAc z) :
 Calls Tryz.prog 22 #[.slice A n c,.agg z.toArray] w fun e w'=>∃g,e=.returned (.slice (some ⟨g,0,none⟩) n (n+3))∧w.heap.size≤g∧Row w' g 69 (l.flatten++rowOf 3 z)∧Below w.heap.size w w':=by
 have HX:=Hd hx;have HO:=Hd ho;have HZ:=Hd hz;have RB:=Hd (Row.new w 69 z);have hb0:Below w.heap.size w (w.alloc (Obj.cells z.toArray 69)):=(Br _ _).alloc (Lr _) _;have HB0:=Hd hb0;have z0:(w.alloc (Obj.cells z.toArray 69)).heap.size=w.heap.size+1:=by simp
 clear hx hb0 ho;go_enter Tryz.func22,Tryz.ntmps22
 go_upto_region 1 with fail
 generalize (w.alloc (Obj.cells z.toArray 69))=W at *;have ZW:=Hd z0;clear z0;go_wp2_with (first
  | (at_make;(obtain⟨i0,hi,hz0,hz1,hz2⟩:=info_parts infoAc);go_must(refine wpList_make_full _ rfl (.tmp 10) (.tmp 10) 41 rfl W.heap.size 69 i0 _ 34 Tryz.underlying41 hi hz0 hz1 .i64 .i64 _ _ (n+3) rfl rfl (by simp) (by simp) (by rw[hz2];omega) (by unfold maxLen;omega) (Lr _) ?_;intro w1 hown hgrow;have hrow:=Row.of_ownN hown;have hb1:=(Br W.heap.size W).grown hgrow (Lr _) (fun k hk=>by cases hk))))
 have hlen:=Xgx zAc ((n+3)*34);generalize (madeCells zAc.cells ((n+3)*34)).toList=cs at *;have HL:=Hd hlen;have R:=Hd hrow;have RB1:=Hd (RB.out.below hb1 (by have:=ZW.out;omega));have HB1:=Hd (HB0.out.trans (hb1.mono (by have:=ZW.out;omega)));have HZ1:Hid (W.heap.size<w1.heap.size):=Hd hrow.lt;clear hlen hrow hown hgrow hb1 RB HB0;have lenl:=HX.out.len;go_loopw [6] (fun i wr=>∃k:Nat,k≤n∧i=.int .i64 k∧Row wr W.heap.size 69 ((l.take k).flatten++cs.drop (k*34))∧Below W.heap.size w1 wr) (fun i _=>n - (intOf i).toNat)
 case atStart=>exact⟨0,Nat.zero_le _,rfl,by simpa using R.out,Br _ _⟩
 case round =>
 clear R;obtain⟨k,hk,rfl,hr,hb⟩:=hrel;have RR:=Hd hr;have HB:=Hd hb;clear hr hb;by_cases hlt:k<n
 ·obtain⟨a,x,rfl,hab,hxl,hxn,hat⟩:=HX.out.get hlt (by omega);have HX1:=Hd hxl;have HB2:=Hd (HB1.out.trans (HB.out.mono (by have:=ZW.out;omega)));have HAT:Hid (∀j u,x[j]?=some u→wr.cell? ((a.add (k*34)).add j)=some u):=Hd fun j u hu=>(HB2.out.cell (by rw[Xad,Xad];omega)).trans (hat j u hu)
  have HXO:=Hd (HO.out x (List.mem_of_getElem? hxl));have HSZ:=Hd HXO.out.size;have HCL:Hid (k*34+x.length≤((l.take k).flatten++cs.drop (k*34)).length):=by
   have h1:=HL.out;have h2:((l.take k).flatten).length=k*34:=by
    rw[Xc3 (sz:=34) (fun y hy=>HX.out.each y (List.mem_of_mem_take hy)),List.length_take];congr 1;omega
   refine Hd ?_;rw[List.length_append,h2,List.length_drop,hxn];omega
  clear hxl hat hxn;go_wp2_with (first
   | ((with_reducible show wpList _ _ _ (⟨some 23,_,_,_,_,_⟩::_) _ _);go_must(refine Xa3 rfl 69 (.tmp 22) rfl (a.add (k*34)) x _ Tryz.underlying69 rfl HSZ.out HAT.out ?_ ?_;go_simp))
   | ((with_reducible show wpList _ _ _ (⟨none,Op.store 69 _ _,_,_,_,_⟩::_) _ _);go_must(refine Xak rfl 69 (.tmp 24) (.tmp 23) rfl W.heap.size 69 (k*34) _ x RR.out HSZ.out HCL.out HXO.out.one ?_ ?_ ?_;go_simp;go_simp;intro w2 hr2 ht2;have HR2:=Hd hr2;have HT2:=Hd ht2;clear hr2 ht2)))
  go_roundw
  case rel =>
   refine⟨k+1,by omega,by go_num,?_,HB.out.trans (HT2.out.below (Lr _))⟩;have:=HR2.out;rwa [Xut HX.out.each HX1.out]at this
  case measure=>simp[intOf];omega
 ·obtain rfl:k=n:=by omega
  have R2:Hid (Row wr W.heap.size 69 (l.flatten++cs.drop (k*34))):=by
   have:=RR.out;rw[List.take_of_length_le (by omega)]at this;exact Hd this
  have HFL:Hid ((l.flatten).length=k*34):=Hd (by rw[Xc3 HX.out.each,HX.out.len]);clear RR;go_wp2_with fail;go_loopw [7] (fun i wr=>∃j:Nat,j≤3∧i=.int .i64 j∧Row wr W.heap.size 69 (l.flatten++(rowOf j z++(cs.drop (k*34)).drop (j*34)))∧Below W.heap.size w1 wr) (fun i _=>3 - (intOf i).toNat)
  case atStart=>exact⟨0,Nat.zero_le _,rfl,by simpa [rowOf]using R2.out,HB.out⟩
  case round =>
   clear R2 HB;obtain⟨j,hj,rfl,hr,hb⟩:=hrel;have RR:=Hd hr;have HB:=Hd hb;clear hr hb;by_cases hlt:j<3
   ·have HBX:=Hd (RB1.out.below HB.out (by have:=ZW.out;omega));have HCL:Hid ((k+j)*34+z.length≤(l.flatten++(rowOf j z++(cs.drop (k*34)).drop (j*34))).length):=by
     have h1:=HL.out;have h2:=HFL.out;have h3:=Xbo j HZ.out.len;refine Hd ?_;rw[List.length_append,List.length_append,h2,h3,List.length_drop,List.length_drop,HZ.out.len];omega
    go_wp2_with (first
     | ((with_reducible show wpList _ _ _ (⟨some 34,_,_,_,_,_⟩::_) _ _);go_must(refine Xa1 rfl 69 (.tmp 3) rfl w.heap.size 69 z _ Tryz.underlying69 rfl HZ.out.size HBX.out ?_ ?_;go_simp))
     | ((with_reducible show wpList _ _ _ (⟨none,Op.store 69 _ _,_,_,_,_⟩::_) _ _);go_must(refine Xak rfl 69 (.tmp 35) (.tmp 34) rfl W.heap.size 69 ((k+j)*34) _ z RR.out HZ.out.size HCL.out HZ.out.one ?_ ?_ ?_;go_simp;go_simp;intro w2 hr2 ht2;have HR2:=Hd hr2;have HT2:=Hd ht2;clear hr2 ht2)))
    go_roundw
    case rel =>
     refine⟨j+1,by omega,by go_num,?_,HB.out.trans (HT2.out.below (Lr _))⟩;have:=HR2.out;have e:=Xt9 (k:=j) HZ.out.len (l.flatten) (cs.drop (k*34)) (by have:=HL.out;rw[List.length_drop];omega);rw[HFL.out,←Nat.add_mul]at e;rwa [e]at this
    case measure=>simp[intOf];omega
   ·obtain rfl:j=3:=by omega
    have R3:Hid (Row wr W.heap.size 69 (l.flatten++rowOf 3 z)):=by
     have:=RR.out;rw[List.drop_of_length_le (by have:=HL.out;rw[List.length_drop];omega),List.append_nil]at this;exact Hd this
    clear RR;go_wp2_with fail;go_ret;exact⟨W.heap.size,rfl,by have:=ZW.out;omega,R3.out,HB1.out.trans (HB.out.mono (by have:=ZW.out;omega))⟩
theorem leftAc(g:Nat)(B:Option Addr)(n d:Nat)(l:List (List Value))(z:List Value)(w:World)(S:Nat)
 (hr:Row w g 69 (l.flatten++rowOf 3 z)) (hy:CsIn 34 w S B n l) (ho:∀k ∈ l,IsAc k) (hS:S≤w.heap.size) (hn:n≤1000000000) (hz:IsAc z) :
 Calls Tryz.prog 37 #[.slice (some ⟨g,0,none⟩) n (n+3),.slice B n d,.agg z.toArray] w fun e w'=>e=.returned (.bool true)∧Below w.heap.size w w':=by
 have hb0:Below w.heap.size w (w.alloc (Obj.cells z.toArray 69)):=(Br _ _).alloc (Lr _) _;have RB:=Hd (Row.new w 69 z);have R:=Hd (hr.alloc (Obj.cells z.toArray 69));have HB0:=Hd hb0;have hlen:=hy.len;have h64:=hy.each;have HFL:Hid ((l.flatten).length=n*34):=Hd (by rw[Xc3 h64,hlen]);have HK:=Hd (sameAc (some ⟨g,0,none⟩) B n (n+3) d l _ w.heap.size w.heap.size (Xh0 R.out hlen h64 hr.lt) ((hy.more hS).below hb0) ho (by unfold maxLen;omega));have NQ:=fun w=>hz.neq w
 have HZ:=Hd hz;clear hr hy hb0 h64 hlen ho;go_enter Tryz.func37,Tryz.ntmps37
 go_upto_region 1 with fail
 generalize (w.alloc (Obj.cells z.toArray 69))=W at *;go_wp2_with fail;refine HK.out.mono ?_;rintro e w1 ⟨rfl,k,rfl⟩;go_wp2_with fail;go_loopw [8] (fun i wr=>∃j q:Nat,j≤3∧i=.int .i64 j∧wr=W.drewN q) (fun i _=>3 - (intOf i).toNat)
 case atStart=>exact⟨0,k,Nat.zero_le _,rfl,rfl⟩
 case round =>
  obtain⟨j,q,hj,rfl,rfl⟩:=hrel;by_cases hlt:j<3
  ·have CA:=Hd (show ∀i u,z[i]?=some u→W.cell? ((⟨g,(n+j)*34,none⟩:Addr).add i)=some u from fun i u hu=>by
    rw[Xa5,R.out.cell,List.getElem?_append_right (by rw[HFL.out];omega),HFL.out,show(n+j)*34+i - n*34=j*34+i by omega];exact Xf1 HZ.out.len hlt hu)
   have CB:=Hd (show ∀i u,z[i]?=some u→W.cell? ((⟨w.heap.size,0,none⟩:Addr).add i)=some u from fun i u hu=>by
    rw[Xa5,RB.out.cell,Nat.zero_add];exact hu)
   have HSZ:=Hd HZ.out.size;go_wp2;refine wp_region_quiet_lit (by kernel_rfl) (by kernel_rfl) ?_;repeat (first
    | ((with_reducible show wpQuiet _ _ _ _ (⟨some 36,_,_,_,_,_⟩::_) _);go_must(refine Xai (by kernel_rfl) 69 (.tmp 35) rfl ⟨g,(n+j)*34,none⟩ z _ Tryz.underlying69 rfl HSZ.out (by rintro _ ⟨nq,rfl⟩;exact CA.out) ?_ ?_;go_simp;go_simp))
    | ((with_reducible show wpQuiet _ _ _ _ (⟨some 37,_,_,_,_,_⟩::_) _);go_must(refine Xai (by kernel_rfl) 69 (.tmp 5) rfl ⟨w.heap.size,0,none⟩ z _ Tryz.underlying69 rfl HSZ.out (by rintro _ ⟨nq,rfl⟩;exact CB.out) ?_ ?_;go_simp;go_simp))
    | go_big_quiet_step (fail))
   refine wpQuiet_nil ?_;intro nq;go_wp2;go_roundw
   case rel=>exact⟨j+1,q+nq,by omega,by go_num,by simp⟩
   case measure=>simp[intOf];omega
  ·go_wp2;go_ret;exact⟨rfl,below_drewN HB0.out q⟩
theorem Xsv{w:World}{g:Nat}{l:List (List Int)}{ys:List Value}{n:Nat}(hr:Row w g 117 (bv l.flatten++ys))(hn:l.length=n)(h64:∀k ∈ l,k.length=64){B:Nat}(hB:g<B):SigsIn w B (some ⟨g,0,none⟩) n l:=
 ⟨hn,h64,⟨by rw[bL,Xcb l h64,hn],fun i u hu=>⟨_,rfl,hB,by
  rw[Xa5,hr.cell,Nat.zero_add,List.getElem?_append_left (List.getElem?_eq_some_iff.1 hu).1];exact hu⟩⟩⟩
theorem Xtd{k:Nat}{l:List (List Int)}{x:List Int}{cs:List Value}(h64:∀k ∈ l,k.length=64)(hx:l[k]?=some x) :
 (bv (l.take k).flatten++cs.drop (k*64)).take (k*64)++bv x++(bv (l.take k).flatten++cs.drop (k*64)).drop (k*64+(bv x).length)=bv (l.take (k+1)).flatten++cs.drop ((k+1)*64):=by
 have hk:=(List.getElem?_eq_some_iff.1 hx).1;have hl:(bv (l.take k).flatten).length=k*64:=by
  rw[bL,Xcb _ (fun y hy=>h64 y (List.mem_of_mem_take hy)),List.length_take];congr 1;omega
 have hxl:=h64 x (List.mem_of_getElem? hx);rw[List.take_left' hl,bL,hxl,show k*64+64=(bv (l.take k).flatten).length+64 by rw[hl],List.drop_length_add_append,List.drop_drop,Xgv hx,Xes,show k*64+64=(k+1)*64 by omega]
theorem twinS(A:Option Addr)(n c:Nat)(l:List (List Int))(z:List Int)(w:World)(S:Nat)
 (hx:SigsIn w S A n l) (hS:S≤w.heap.size) (hn:n≤1000000000) (hz:z.length=64) :
 Calls Tryz.prog 45 #[.slice A n c,.agg (bv z).toArray] w fun e w'=>∃g,e=.returned (.slice (some ⟨g,0,none⟩) n (n+3))∧w.heap.size≤g∧Row w' g 117 (bv l.flatten++keyRow 3 z)∧Below w.heap.size w w':=by
 have HX:=Hd hx;have HZ:=Hd hz;have RB:=Hd (Row.new w 117 (bv z));have hb0:Below w.heap.size w (w.alloc (Obj.cells (bv z).toArray 117)):=(Br _ _).alloc (Lr _) _;have HB0:=Hd hb0;have z0:(w.alloc (Obj.cells (bv z).toArray 117)).heap.size=w.heap.size+1:=by simp
 clear hx hb0;go_enter Tryz.func45,Tryz.ntmps45
 go_upto_region 1 with fail
 generalize (w.alloc (Obj.cells (bv z).toArray 117))=W at *;have ZW:=Hd z0;clear z0;go_wp2_with (first
  | (at_make;(obtain⟨i0,hi,hz0,hz1,hz2⟩:=info_parts Xta);go_must(refine wpList_make_full _ rfl (.tmp 10) (.tmp 10) 23 rfl W.heap.size 117 i0 _ 64 Tryz.underlying23 hi hz0 hz1 .i64 .i64 _ _ (n+3) rfl rfl (by simp) (by simp) (by rw[hz2];omega) (by unfold maxLen;omega) (Lr _) ?_;intro w1 hown hgrow;have hrow:=Row.of_ownN hown;have hb1:=(Br W.heap.size W).grown hgrow (Lr _) (fun k hk=>by cases hk))))
 have hlen:=Xgx (.agg (zeros 64).toArray) ((n+3)*64);generalize (madeCells (Value.agg (zeros 64).toArray).cells ((n+3)*64)).toList=cs at *;have HL:=Hd hlen;have R:=Hd hrow;have RB1:=Hd (RB.out.below hb1 (by have:=ZW.out;omega));have HB1:=Hd (HB0.out.trans (hb1.mono (by have:=ZW.out;omega)));have HZ1:Hid (W.heap.size<w1.heap.size):=Hd hrow.lt;clear hlen hrow hown hgrow hb1 RB HB0;have lenl:=HX.out.len;go_loopw [6] (fun i wr=>∃k:Nat,k≤n∧i=.int .i64 k∧Row wr W.heap.size 117 (bv (l.take k).flatten++cs.drop (k*64))∧Below W.heap.size w1 wr) (fun i _=>n - (intOf i).toNat)
 case atStart=>exact⟨0,Nat.zero_le _,rfl,by simpa [bv,cv]using R.out,Br _ _⟩
 case round =>
 clear R;obtain⟨k,hk,rfl,hr,hb⟩:=hrel;have RR:=Hd hr;have HB:=Hd hb;clear hr hb;by_cases hlt:k<n
 ·obtain⟨a,x,rfl,hab,hxl,hat⟩:=HX.out.get hlt;have HX1:=Hd hxl;have HB2:=Hd (HB1.out.trans (HB.out.mono (by have:=ZW.out;omega)));have HAT:=Hd (hat.keep hab fun p hp=>HB2.out.cell (by omega));have HSZ:=Hd (Xfy hat.len);have HCL:Hid (k*64+(bv x).length≤(bv (l.take k).flatten++cs.drop (k*64)).length):=by
   have h1:=HL.out;have h2:(bv (l.take k).flatten).length=k*64:=by
    rw[bL,Xcb _ (fun y hy=>HX.out.each y (List.mem_of_mem_take hy)),List.length_take];congr 1;omega
   refine Hd ?_;rw[List.length_append,h2,List.length_drop,bL,hat.len];omega
  clear hxl hat;go_wp2_with (first
   | ((with_reducible show wpList _ _ _ (⟨some 23,_,_,_,_,_⟩::_) _ _);go_must(refine Xa3 rfl 117 (.tmp 22) rfl (a.add (k*64)) (bv x) _ Tryz.underlying117 rfl HSZ.out HAT.out.cells ?_ ?_;go_simp))
   | ((with_reducible show wpList _ _ _ (⟨none,Op.store 117 _ _,_,_,_,_⟩::_) _ _);go_must(refine Xak rfl 117 (.tmp 24) (.tmp 23) rfl W.heap.size 117 (k*64) _ (bv x) RR.out HSZ.out HCL.out (Xbj x) ?_ ?_ ?_;go_simp;go_simp;intro w2 hr2 ht2;have HR2:=Hd hr2;have HT2:=Hd ht2;clear hr2 ht2)))
  go_roundw
  case rel =>
   refine⟨k+1,by omega,by go_num,?_,HB.out.trans (HT2.out.below (Lr _))⟩;have:=HR2.out;rwa [Xtd HX.out.each HX1.out]at this
  case measure=>simp[intOf];omega
 ·obtain rfl:k=n:=by omega
  have R2:Hid (Row wr W.heap.size 117 (bv l.flatten++cs.drop (k*64))):=by
   have:=RR.out;rw[List.take_of_length_le (by omega)]at this;exact Hd this
  have HFL:Hid ((bv l.flatten).length=k*64):=Hd (by rw[bL,Xcb l HX.out.each,HX.out.len]);clear RR;go_wp2_with fail;go_loopw [7] (fun i wr=>∃j:Nat,j≤3∧i=.int .i64 j∧Row wr W.heap.size 117 (bv l.flatten++(keyRow j z++(cs.drop (k*64)).drop (j*64)))∧Below W.heap.size w1 wr) (fun i _=>3 - (intOf i).toNat)
  case atStart=>exact⟨0,Nat.zero_le _,rfl,by simpa [keyRow]using R2.out,HB.out⟩
  case round =>
   clear R2 HB;obtain⟨j,hj,rfl,hr,hb⟩:=hrel;have RR:=Hd hr;have HB:=Hd hb;clear hr hb;by_cases hlt:j<3
   ·have HBX:=Hd (RB1.out.below HB.out (by have:=ZW.out;omega));have HCL:Hid ((k+j)*64+(bv z).length≤(bv l.flatten++(keyRow j z++(cs.drop (k*64)).drop (j*64))).length):=by
     have h1:=HL.out;have h2:=HFL.out;have h3:=Xg6 j HZ.out;refine Hd ?_;rw[List.length_append,List.length_append,h2,h3,List.length_drop,List.length_drop,bL,HZ.out];omega
    go_wp2_with (first
     | ((with_reducible show wpList _ _ _ (⟨some 34,_,_,_,_,_⟩::_) _ _);go_must(refine Xa1 rfl 117 (.tmp 3) rfl w.heap.size 117 (bv z) _ Tryz.underlying117 rfl (Xfy HZ.out) HBX.out ?_ ?_;go_simp))
     | ((with_reducible show wpList _ _ _ (⟨none,Op.store 117 _ _,_,_,_,_⟩::_) _ _);go_must(refine Xak rfl 117 (.tmp 35) (.tmp 34) rfl W.heap.size 117 ((k+j)*64) _ (bv z) RR.out (Xfy HZ.out) HCL.out (Xbj z) ?_ ?_ ?_;go_simp;go_simp;intro w2 hr2 ht2;have HR2:=Hd hr2;have HT2:=Hd ht2;clear hr2 ht2)))
    go_roundw
    case rel =>
     refine⟨j+1,by omega,by go_num,?_,HB.out.trans (HT2.out.below (Lr _))⟩;have:=HR2.out;have e:=Xo4 (k:=j) HZ.out (bv l.flatten) (cs.drop (k*64)) (by have:=HL.out;rw[List.length_drop];omega);rw[HFL.out,←Nat.add_mul]at e;rwa [e]at this
    case measure=>simp[intOf];omega
   ·obtain rfl:j=3:=by omega
    have R3:Hid (Row wr W.heap.size 117 (bv l.flatten++keyRow 3 z)):=by
     have:=RR.out;rw[List.drop_of_length_le (by have:=HL.out;rw[List.length_drop];omega),List.append_nil]at this;exact Hd this
    clear RR;go_wp2_with fail;go_ret;exact⟨W.heap.size,rfl,by have:=ZW.out;omega,R3.out,HB1.out.trans (HB.out.mono (by have:=ZW.out;omega))⟩
def mk64:List Int:=165::90::List.replicate 62 0
theorem Xo6:Tryz.prog.built 117 [(0,.int .u8 165),(1,.int .u8 90)]=some (bv mk64).toArray:=by kernel_rfl
theorem Xit:mk64.length=64:=by decide
theorem Xqv(w:World):Calls Tryz.prog 46 #[] w fun e w'=>e=.returned (.agg (bv mk64).toArray)∧Below w.heap.size w w':=by
 go_enter Tryz.func46,Tryz.ntmps46
 go_wp2_with (first
  | ((with_reducible show wpList _ _ _ (⟨some 1,_,_,_,_,_⟩::_) _ _);go_must(refine wpList_plain rfl fun K hK=>Xae _ _ _ rfl (by simp only[List.map_toArray,List.map_cons,List.map_nil];exact Xo6) (hK _ _ ?_)))
  | ((with_reducible show wpList _ _ _ (⟨none,Op.store 117 _ _,_,_,_,_⟩::_) _ _);go_must(refine Xa2 rfl 117 (.tmp 0) (.tmp 1) rfl (bv mk64) Xgy (Xbj _) rfl ?_ ?_ ?_;go_simp;go_simp;intro w1 hr1 hb1 hz1;have HR1:=Hd hr1;have HB1:=Hd hb1;clear hr1 hb1)))
 refine bodyPost_ret (results_cell_row (h:=rfl) _ w1 w.heap.size 117 _ (0,0) _ (by rfl) HR1.out.is Tryz.underlying117 rfl Xgy) rfl ?_;exact⟨rfl,HB1.out⟩
theorem Xqx{j n:Nat}{z:List Int}(hz:z.length=64)(hj:j<n){i:Nat}{u:Value}(hu:(bv z)[i]?=some u):(keyRow n z)[j*64+i]?=some u:=by
 unfold keyRow;have hl:∀(i:Nat) y,(List.replicate n (bv z))[i]?=some y→y.length=64:=fun i y hy=>by
  have:=List.eq_of_mem_replicate (List.mem_of_getElem? hy);rw[this,bL,hz]
 exact Xbl 64 (List.replicate n (bv z)) j (bv z) hl (by rw[List.getElem?_replicate_of_lt hj]) i u hu
theorem leftS(g:Nat)(B:Option Addr)(n d:Nat)(l:List (List Int))(z:List Int)(w:World)(S:Nat)
 (hr:Row w g 117 (bv l.flatten++keyRow 3 z)) (hy:SigsIn w S B n l) (hS:S≤w.heap.size) (hn:n≤1000000000) (hz:z.length=64) :
 Calls Tryz.prog 66 #[.slice (some ⟨g,0,none⟩) n (n+3),.slice B n d,.agg (bv z).toArray] w fun e w'=>e=.returned (.bool true)∧Below w.heap.size w w':=by
 have hb0:Below w.heap.size w (w.alloc (Obj.cells (bv z).toArray 117)):=(Br _ _).alloc (Lr _) _;have RB:=Hd (Row.new w 117 (bv z));have R:=Hd (hr.alloc (Obj.cells (bv z).toArray 117));have HB0:=Hd hb0;have hlen:=hy.len;have h64:=hy.each;have HFL:Hid ((bv l.flatten).length=n*64):=Hd (by rw[bL,Xcb l h64,hlen]);have HK:=Hd (Xk2 (some ⟨g,0,none⟩) B n (n+3) d l _ w.heap.size w.heap.size (Xsv R.out hlen h64 hr.lt) ((hy.more hS).below hb0) (by unfold maxLen;omega));have NQ:=fun w=>Xis Tryz.underlying117 z hz w
 have HZ:=Hd hz;clear hr hy hb0 h64 hlen;go_enter Tryz.func66,Tryz.ntmps66
 go_upto_region 1 with fail
 generalize (w.alloc (Obj.cells (bv z).toArray 117))=W at *;go_wp2_with fail;refine HK.out.mono ?_;rintro e w1 ⟨rfl,k,rfl⟩;go_wp2_with fail;go_loopw [8] (fun i wr=>∃j q:Nat,j≤3∧i=.int .i64 j∧wr=W.drewN q) (fun i _=>3 - (intOf i).toNat)
 case atStart=>exact⟨0,k,Nat.zero_le _,rfl,rfl⟩
 case round =>
  obtain⟨j,q,hj,rfl,rfl⟩:=hrel;by_cases hlt:j<3
  ·have CA:=Hd (show ∀i u,(bv z)[i]?=some u→W.cell? ((⟨g,(n+j)*64,none⟩:Addr).add i)=some u from fun i u hu=>by
    rw[Xa5,R.out.cell,List.getElem?_append_right (by rw[HFL.out];omega),HFL.out,show(n+j)*64+i - n*64=j*64+i by omega];exact Xqx HZ.out hlt hu)
   have CB:=Hd (show ∀i u,(bv z)[i]?=some u→W.cell? ((⟨w.heap.size,0,none⟩:Addr).add i)=some u from fun i u hu=>by
    rw[Xa5,RB.out.cell,Nat.zero_add];exact hu)
   have HSZ:=Hd (Xfy HZ.out);generalize bv z=X at *;go_wp2;refine wp_region_quiet_lit (by kernel_rfl) (by kernel_rfl) ?_;repeat (first
    | ((with_reducible show wpQuiet _ _ _ _ (⟨some 36,_,_,_,_,_⟩::_) _);go_must(refine Xai (by kernel_rfl) 117 (.tmp 35) rfl ⟨g,(n+j)*64,none⟩ X _ Tryz.underlying117 rfl HSZ.out (by rintro _ ⟨nq,rfl⟩;exact CA.out) ?_ ?_;go_simp;go_simp))
    | ((with_reducible show wpQuiet _ _ _ _ (⟨some 37,_,_,_,_,_⟩::_) _);go_must(refine Xai (by kernel_rfl) 117 (.tmp 5) rfl ⟨w.heap.size,0,none⟩ X _ Tryz.underlying117 rfl HSZ.out (by rintro _ ⟨nq,rfl⟩;exact CB.out) ?_ ?_;go_simp;go_simp))
    | go_big_quiet_step (fail))
   refine wpQuiet_nil ?_;intro nq;go_wp2;go_roundw
   case rel=>exact⟨j+1,q+nq,by omega,by go_num,by simp⟩
   case measure=>simp[intOf];omega
  ·go_wp2;go_ret;exact⟨rfl,below_drewN HB0.out q⟩
theorem Xsh{w1:World}{g t:Nat}{zs:List Int}{k r:Nat}(hk:k<zs.length)(R:Row w1 g t (bv (zs.take k++List.replicate (zs.length - k+r) 0))) :
 Row (w1.setCell ⟨g,k,none⟩ (.int .u8 (zs.getD k 0))) g t (bv (zs.take (k+1)++List.replicate (zs.length - (k+1)+r) 0)):=by
 have h:=R.set_ k (.int .u8 (zs.getD k 0));have e:(bv (zs.take k++List.replicate (zs.length - k+r) 0)).set k (.int .u8 (zs.getD k 0))=bv (zs.take (k+1)++List.replicate (zs.length - (k+1)+r) 0):=by
  rw[show zs.length - k+r=zs.length - (k+1)+r+1 by omega,List.replicate_succ,List.take_succ_eq_append_getElem hk,List.getD_eq_getElem?_getD,List.getElem?_eq_getElem hk];simp only[bv,cv,List.map_append,List.map_cons];rw[List.set_append_right _ _ (by simp;omega)];simp[Nat.min_eq_left (Nat.le_of_lt hk)]
 rwa [e]at h
theorem Xsd{w1:World}{g t:Nat}{zs:List Int}{j:Nat}{m:Int}(hj:j<3)(R:Row w1 g t (bv (zs++(List.replicate j m++List.replicate (3 - j) 0)))) :
 Row (w1.setCell ⟨g,zs.length+j,none⟩ (.int .u8 m)) g t (bv (zs++(List.replicate (j+1) m++List.replicate (3 - (j+1)) 0))):=by
 have h:=R.set_ (zs.length+j) (.int .u8 m);obtain rfl | rfl | rfl:j=0∨j=1∨j=2:=by omega
 all_goals simpa [bv,cv,List.set_append,List.replicate]using h
theorem Xpb(A:Option Addr)(n c:Nat)(zs:List Int)(m:Int)(w:World)(S:Nat)
 (hx:Sees w S A n (bv zs)) (hS:S≤w.heap.size) (hn:n≤1099511627776) :
 Calls Tryz.prog 44 #[.slice A n c,.int .u8 m] w fun e w'=>∃g,e=.returned (.slice (some ⟨g,0,none⟩) n (n+3))∧w.heap.size≤g∧Row w' g 5 (bv (zs++List.replicate 3 m))∧Below w.heap.size w w':=by
 obtain⟨i0,hi,hz0,hz1,hz2⟩:=info_parts Xrn;have l0:zs.length=n:=by have:=hx.len;rwa [bL]at this
 subst l0;go_enter Tryz.func44,Tryz.ntmps44
 go_wp2_with (first
  | (at_make;go_must(refine wpList_make_full _ rfl (.tmp 10) (.tmp 10) 22 rfl w.heap.size 5 i0 _ 1 Tryz.underlying22 hi hz0 hz1 .i64 .i64 _ _ (zs.length+3) rfl rfl (by simp) (by simp) (by rw[hz2];omega) (by unfold maxLen;omega) (Lr _) ?_);intro w1 hown hgrow))
 rw[Xo5]at hown;have R:=Hd (Row.of_own hown);have hb1:=(Br w.heap.size w).grown hgrow (Lr _) (fun k hk=>by cases hk);clear hown hgrow hi hz0 hz1 hz2;go_loopw [6] (fun i wr=>∃k:Nat,k≤zs.length∧i=.int .i64 k∧Row wr w.heap.size 5 (bv (zs.take k++List.replicate (zs.length - k+3) 0))∧Below w.heap.size w wr) (fun i _=>zs.length - (intOf i).toNat)
 case atStart=>exact⟨0,Nat.zero_le _,rfl,by simpa using R.out,hb1⟩
 case round =>
  obtain⟨k,hk,rfl,hr,hbr⟩:=hrel;clear R hb1;have RR:=Hd hr;by_cases hlt:k<zs.length
  ·obtain⟨a,rfl,ha,hca⟩:=((hx.below (hbr.mono hS))).byte hlt;have f0:=hr.frozen k;have c0:=hr.cell k;rw[bv_getElem?,List.getElem?_append_right (by simp;omega),List.getElem?_replicate_of_lt (by simp;omega)]at c0;have c0:wr.cell? ⟨w.heap.size,k,none⟩=some (.int .u8 0):=c0;have HS:=Hd (Xsh (r:=3) hlt hr);generalize zs.getD k 0=z at *;clear hr;go_wp2;go_roundw
   case rel=>exact⟨k+1,by omega,by go_num,HS.out,hbr.setCell (Lr _) _⟩
   case measure=>simp[intOf];omega
  ·have hk':k=zs.length:=by omega
   have R2:Hid (Row wr w.heap.size 5 (bv (zs++List.replicate 3 0))):=by
    have:=hr;rw[hk']at this;simpa using Hd this
   clear hr hk' RR;go_wp2;go_loopw [7] (fun i wr=>∃j:Nat,j≤3∧i=.int .i64 j∧Row wr w.heap.size 5 (bv (zs++(List.replicate j m++List.replicate (3 - j) 0)))∧Below w.heap.size w wr) (fun i _=>3 - (intOf i).toNat)
   case atStart=>exact⟨0,Nat.zero_le _,rfl,by simpa using R2.out,hbr⟩
   case round =>
    obtain⟨j,hj,rfl,hr,hbr2⟩:=hrel;clear R2 hbr;have RR:=Hd hr;by_cases hlt:j<3
    ·have f0:=hr.frozen (zs.length+j);have c0:=hr.cell (zs.length+j);rw[bv_getElem?,List.getElem?_append_right (by omega),List.getElem?_append_right (by simp),List.getElem?_replicate_of_lt (by simp;omega)]at c0;have c0:wr.cell? ⟨w.heap.size,zs.length+j,none⟩=some (.int .u8 0):=c0;clear hr;go_wp2;go_roundw
     case rel=>exact⟨j+1,by omega,by go_num,Xsd hlt RR.out,hbr2.setCell (Lr _) _⟩
     case measure=>simp[intOf];omega
    ·have hj3:j=3:=by omega
     have R3:Hid (Row wr w.heap.size 5 (bv (zs++List.replicate 3 m))):=by
      have:=hr;rw[hj3]at this;simpa using Hd this
     clear hr hj3 RR;go_wp2;go_ret;exact⟨w.heap.size,rfl,Lr _,R3.out,hbr2⟩
theorem Xd9(A:Option Addr)(n c:Nat)(zs:List Int)(w:World)(S:Nat)
 (hx:Sees w S A n (bv zs)) (hS:S≤w.heap.size) (hn:n≤1099511627776) :
 Calls Tryz.prog 19 #[.slice A n c] w fun e w'=>∃g,e=.returned (.slice (some ⟨g,0,none⟩) n (n+3))∧w.heap.size≤g∧Row w' g 5 (bv (zs++List.replicate 3 165))∧Below w.heap.size w w':=by
 have H:=Hd (Xpb A n c zs 165 w S hx hS hn);go_enter Tryz.func19,Tryz.ntmps19
 go_wp2_with fail;refine H.out.mono ?_;rintro e w1 ⟨g,rfl,hg,hr,hb⟩;have R:=Hd hr;clear hr;go_wp2_with fail;go_ret;exact⟨g,rfl,hg,R.out,hb⟩
theorem Xqh(g:Nat)(B:Option Addr)(n d:Nat)(zs:List Int)(m:Int)(w:World)(S:Nat)
 (hr:Row w g 5 (bv (zs++List.replicate 3 m))) (hy:Sees w S B n (bv zs)) (hn:n≤1099511627776) :
 Calls Tryz.prog 65 #[.slice (some ⟨g,0,none⟩) n (n+3),.slice B n d,.int .u8 m] w fun e w'=>e=.returned (.bool true)∧∃k,w'=w.drewN k:=by
 have l0:zs.length=n:=by have:=hy.len;rwa [bL]at this
 subst l0;have hs:Sees w w.heap.size (some ⟨g,0,none⟩) zs.length (bv zs):=⟨bL _,fun i u hu=>⟨_,rfl,hr.lt,by
  rw[Xa5,hr.cell,Xes,Nat.zero_add,List.getElem?_append_left (List.getElem?_eq_some_iff.1 hu).1];exact hu⟩⟩
 have SB:=Hd (Xi0 (some ⟨g,0,none⟩) B zs.length zs.length (zs.length+3) d zs zs w _ _ hs hy (by unfold maxLen;omega) (by unfold maxLen;omega));have R:=Hd hr;clear hs hr;go_enter Tryz.func65,Tryz.ntmps65
 go_wp2_with fail;refine SB.out.mono ?_;rintro e w1 ⟨rfl,k,rfl⟩;simp only[decide_true];go_wp2_with fail;go_loop [8] (fun i=>∃j:Nat,j≤3∧i=.int .i64 j) (fun i=>3 - (intOf i).toNat)
 case atStart=>exact⟨0,Nat.zero_le _,rfl⟩
 case round =>
  obtain⟨j,hj,rfl⟩:=hrel;by_cases hlt:j<3
  ·have c0:=R.out.cell (zs.length+j);rw[bv_getElem?,List.getElem?_append_right (by omega),List.getElem?_replicate_of_lt (by omega)]at c0;have c0:w.cell? ⟨g,zs.length+j,none⟩=some (.int .u8 m):=c0;have hm:(m != m)=false:=by simp
   go_wp2;go_round
   case rel=>exact⟨j+1,by omega,by go_num⟩
   case measure=>simp[intOf];omega
  ·go_wp2;go_ret;exact⟨rfl,k,rfl⟩
theorem Xej(g:Nat)(B:Option Addr)(n d:Nat)(zs:List Int)(w:World)(S:Nat)
 (hr:Row w g 5 (bv (zs++List.replicate 3 165))) (hy:Sees w S B n (bv zs)) (hn:n≤1099511627776) :
 Calls Tryz.prog 34 #[.slice (some ⟨g,0,none⟩) n (n+3),.slice B n d] w fun e w'=>e=.returned (.bool true)∧∃k,w'=w.drewN k:=by
 have H:=Hd (Xqh g B n d zs 165 w S hr hy hn);clear hr;go_enter Tryz.func34,Tryz.ntmps34
 go_wp2_with fail;refine H.out.mono ?_;rintro e w1 ⟨rfl,k,rfl⟩;go_wp2_with fail;go_ret;exact⟨rfl,k,rfl⟩
end Go.Proofs.YtaljfbbieefooaaGreatDoor
