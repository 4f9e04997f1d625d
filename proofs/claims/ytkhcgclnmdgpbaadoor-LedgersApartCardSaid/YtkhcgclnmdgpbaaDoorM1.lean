import Derived.Below
import Derived.Laws.OwnMore
import Derived.Deep.AppendLies
import Derived.Deep.Draws
import Derived.Lib.Hide
import Derived.Laws.MakeOwn
import Derived.Laws.CopyOwn
import Derived.Laws.Rows
import Derived.Maps.AppendAt
import Derived.OwnWalk
import Derived.Laws.BitsAllLaws
import Derived.WalkKit
import Derived.Test.YtkhcgclnmdgpbaaDoorRows
import Derived.WalkSpells
import Derived.WalkLawsBesides
import Derived.IntWalk
import Derived.Deep.MidRow
import Derived.Deep.WholeRow
import Derived.Great.BuildSlice
import Derived.Recover
import Derived.Deep.RegionHeld
import Derived.Deep.QuietTactic
import Derived.BigQuiet
import Derived.ChangeKeysEq
import Derived.Deep.RegionHeld2
import Derived.Deep.CutBlock
import Derived.Laws.Tables
import Derived.ProofKit
import Derived.OpenShut
import Derived.ShutString
import Derived.ChangeOld
import Derived.Lib.SmallJoins
import Derived.Deep.Slices
import Derived.Deep.Strs
import Derived.SizedLaws
import Derived.Laws.StructEq
set_option maxRecDepth 100000
set_option maxHeartbeats 16000000
set_option linter.unusedSimpArgs false
set_option linter.unusedVariables false
namespace Go.Proofs.YtkhcgclnmdgpbaaDoor
open Go.RowKit
theorem Hd {p:Prop} (h:p):Hid p:=Lib.hid h
theorem Br(B:Nat)(w:World):Below B w w:=Below.refl B w
theorem Lr(n:Nat):n≤n:=Nat.le_refl n
theorem Lq{a b c:Nat}(h:a≤b)(k:b≤c):a≤c:=Nat.le_trans h k
theorem nm:(∀(a:Act) (d:Tmp) (v:Value),a.put (some d) v={a with tmps:=a.tmps.setIfInBounds d v})∧(∀(a:Act) (v:Value),a.put none v=a)∧(∀(α:Type) (l:List α) (i:Nat) (x:α),l.toArray.setIfInBounds i x=(l.set i x).toArray)∧(∀(α:Type) (a b:α) (l:List α),(a::l).set 0 b=b::l)∧(∀(α:Type) (a b:α) (l:List α) (n:Nat),(a::l).set (n+1) b=a::l.set n b):=⟨fun _ _ _=>rfl,fun _ _=>rfl,fun _ _ _ _=>by simp,fun _ _ _ _=>rfl,fun _ _ _ _ _=>rfl⟩
def cv(k:IntKind)(zs:List Int):List Value:=zs.map (Value.int k)
def bv(zs:List Int):List Value:=cv .u8 zs
theorem Xh5(k:IntKind)(zs:List Int):(cv k zs).length=zs.length:=by simp[cv]
theorem bL(zs:List Int):(bv zs).length=zs.length:=Xh5 _ zs
theorem bv_getElem?(zs:List Int)(i:Nat):(bv zs)[i]?=zs[i]?.map (Value.int .u8):=by simp[bv,cv]
theorem bv_at{zs:List Int}{i:Nat}(h:i<zs.length):(bv zs)[i]?=some (.int .u8 (zs.getD i 0)):=by
 rw[bv_getElem?,List.getD_eq_getElem?_getD,List.getElem?_eq_getElem h];rfl
theorem Xcd(zs:List Int):∀u ∈ bv zs,u.oneCell'=true:=by
 intro u hu;simp only[bv,cv,List.mem_map]at hu;obtain⟨z,_,rfl⟩:=hu;rfl
theorem Xab(a:Addr)(n:Nat):(a.add n).block=a.block:=by unfold Addr.add;split <;> rfl
theorem Xce(a:Addr)(i j:Nat):(a.add i).add j=a.add (i+j):=by
 unfold Addr.add;rcases Nat.eq_zero_or_pos i with hi | hi <;> rcases Nat.eq_zero_or_pos j with hj | hj
 ·simp[hi,hj]
 ·simp[hi,show j≠0 by omega]
 ·simp[hj,show i≠0 by omega]
 ·simp[show i≠0 by omega,show j≠0 by omega,Nat.add_assoc]
theorem Xac(g i j:Nat):(⟨g,i,none⟩:Addr).add j=⟨g,i+j,none⟩:=by unfold Addr.add;split <;> simp_all
structure Sees(w:World)(B:Nat)(A:Option Addr)(n:Nat)(xs:List Value):Prop where
 len:xs.length=n
 cell:∀i u,xs[i]?=some u→∃a,A=some a∧a.block<B∧w.cell? (a.add i)=some u
section
variable{w w':World}{B B' n:Nat}{A:Option Addr}{xs:List Value}
theorem Sees.nil(w:World)(B:Nat)(A:Option Addr):Sees w B A 0 []:=⟨rfl,fun i u h=>by simp at h⟩
theorem Sees.keep(h:Sees w B A n xs)(hk:∀p:Addr,p.block<B→w'.cell? p=w.cell? p):Sees w' B A n xs:=
 ⟨h.len,fun i u hu=>by
  obtain⟨a,e,hb,hc⟩:=h.cell i u hu;exact⟨a,e,hb,(hk _ (by rw[Xab];exact hb)).trans hc⟩⟩
theorem Sees.more(h:Sees w B A n xs)(hB:B≤B'):Sees w B' A n xs:=
 ⟨h.len,fun i u hu=>by
  obtain⟨a,e,hb,hc⟩:=h.cell i u hu;exact⟨a,e,by omega,hc⟩⟩
theorem Sees.below(h:Sees w B A n xs)(hb:Below B w w'):Sees w' B A n xs:=h.keep fun _ hp=>hb.cell hp
theorem Sees.drew(h:Sees w B A n xs):Sees w.drew B A n xs:=⟨h.len,h.cell⟩
theorem Sees.drewN(h:Sees w B A n xs)(k:Nat):Sees (w.drewN k) B A n xs:=⟨h.len,h.cell⟩
theorem Sees.alloc(h:Sees w B A n xs)(hB:B≤w.heap.size)(o:Obj):Sees (w.alloc o) B A n xs:=h.keep fun p hp=>World.cell?_alloc_lt w o p (by omega)
theorem Sees.setCell(h:Sees w B A n xs){p:Addr}(hB:B≤p.block)(u:Value):Sees (w.setCell p u) B A n xs:=
 h.keep fun q hq=>World.cell?_setCell_other w p q u (fun e=>by subst e;omega)
theorem Sees.at_{k:Nat}(h:Sees w B A n xs)(hk:k<n):∃a u,A=some a∧a.block<B∧xs[k]?=some u∧w.cell? (a.add k)=some u:=by
 have hl:k<xs.length:=by have:=h.len;omega
 obtain⟨a,e,hb,hc⟩:=h.cell k _ (List.getElem?_eq_getElem hl);exact⟨a,_,e,hb,List.getElem?_eq_getElem hl,hc⟩
theorem Sees.byte{zs:List Int}{k:Nat}(h:Sees w B A n (bv zs))(hk:k<n):∃a,A=some a∧a.block<B∧w.cell? (a.add k)=some (.int .u8 (zs.getD k 0)):=by
 obtain⟨a,u,e,hb,hx,hc⟩:=h.at_ hk;have hl:k<zs.length:=by have:=h.len;rw[bL]at this;omega
 rw[bv_at hl]at hx;cases hx
 exact⟨a,e,hb,hc⟩
theorem Sees.of_own{base:Nat}{e:TypeId}{c:Nat}(h:w.ownsRow base e 1 (.slice A n c) n xs):Sees w w.heap.size A n xs:=by
 refine⟨by have:=h.1;omega,fun i u hu=>?_⟩;have hl:i<xs.length:=(List.getElem?_eq_some_iff.1 hu).1;rcases h.2 with⟨_,rfl⟩ | ⟨g,cap,cur,hv,hg,hh,hnc,_,hsz,htk⟩
 ·have:=h.1;omega
 ·have hA:A=some ⟨g,0,none⟩:=by injection hv
  subst hA;exact⟨_,rfl,(Array.getElem?_eq_some_iff.1 hh).1,h.cells (g:=g) rfl i u hu⟩
end
structure Row(w:World)(g:Nat)(t:TypeId)(xs:List Value):Prop where
 is:w.heap[g]?=some (.cells xs.toArray t (0,0))
section
variable{w w':World}{g:Nat}{t:TypeId}{xs:List Value}
theorem Row.lt(h:Row w g t xs):g<w.heap.size:=(Array.getElem?_eq_some_iff.1 h.is).1
theorem Row.cell(h:Row w g t xs)(i:Nat):w.cell? ⟨g,i,none⟩=xs[i]?:=by rw[cell_of_row w g i xs.toArray t (0,0) h.is];simp
theorem Row.frozen(h:Row w g t xs)(i:Nat):w.frozen? ⟨g,i,none⟩=false:=by
 have:=h.is;simp[World.frozen?,this]
theorem Row.new(w:World)(t:TypeId)(xs:List Value):Row (w.alloc (.cells xs.toArray t)) w.heap.size t xs:=⟨heap_alloc_new w _⟩
theorem Row.new'(w:World)(t:TypeId)(xs:List Value){g:Nat}(hg:w.heap.size=g):Row (w.alloc (.cells xs.toArray t)) g t xs:=hg ▸ Row.new w t xs
theorem Row.drew(h:Row w g t xs):Row w.drew g t xs:=⟨h.is⟩
theorem Row.drewN(h:Row w g t xs)(n:Nat):Row (w.drewN n) g t xs:=⟨h.is⟩
theorem Row.alloc(h:Row w g t xs)(o:Obj):Row (w.alloc o) g t xs:=⟨(Below.heap_alloc w o g h.lt).trans h.is⟩
theorem Row.set_(h:Row w g t xs)(i:Nat)(u:Value):Row (w.setCell ⟨g,i,none⟩ u) g t (xs.set i u):=by
 have:=h.is;exact⟨by simp[World.setCell,Array.getElem?_modify,this]⟩
theorem Row.far(h:Row w g t xs){p:Addr}(hp:g≠p.block)(u:Value):Row (w.setCell p u) g t xs:=⟨(Below.heap_setCell w p u g hp).trans h.is⟩
theorem Row.below{B:Nat}(h:Row w g t xs)(hb:Below B w w')(hg:g<B):Row w' g t xs:=⟨(hb.block g hg).trans h.is⟩
theorem Row.grown{row:Option Nat}(h:Row w g t xs)(hb:w.grownBy w' row)(hg:some g≠row):Row w' g t xs:=⟨(hb.block g h.lt hg).trans h.is⟩
theorem Row.sees(h:Row w g t xs)(o:Nat):Sees w w.heap.size (some ⟨g,o,none⟩) (xs.length - o) (xs.drop o):=
 ⟨by simp,fun i u hu=>⟨_,rfl,h.lt,by rw[Xac,h.cell];simpa using hu⟩⟩
theorem Row.sees0(h:Row w g t xs):Sees w w.heap.size (some ⟨g,0,none⟩) xs.length xs:=by simpa using h.sees 0
theorem Row.own(h:Row w g t xs){base:Nat}(hb:base≤g){n:Nat}(hn:n≤xs.length)(hm:xs.length≤maxLen):w.ownsRow base t 1 (.slice (some ⟨g,0,none⟩) n xs.length) n (xs.take n):=
 ⟨by simp;omega,.inr ⟨g,xs.length,xs.toArray,rfl,hb,h.is,hn,hm,by simp,by simp⟩⟩
theorem Row.of_own{base:Nat}{n:Nat}(h:w.ownsRow base t 1 (.slice (some ⟨g,0,none⟩) n n) n xs):Row w g t xs:=by
 rcases h.2 with⟨hv,_⟩ | ⟨g',cap,cur,hv,_,hh,_,_,hs,ht⟩
 ·cases hv
 ·cases hv
  have:cur=xs.toArray:=by
   rw[←ht,List.take_of_length_le (by simp;omega)]
  exact⟨by rw[hh,this]⟩
end
theorem Xry{w:World}{base:Nat}{e:TypeId}{v:Value}{n:Nat}{xs:List Value}(h:w.ownsRow base e 1 v n xs):∃A c,v=.slice A n c:=by
 rcases h.2 with⟨rfl,rfl⟩ | ⟨g,cap,cur,rfl,_⟩
 ·exact⟨_,_,rfl⟩
 ·exact⟨_,_,rfl⟩
theorem Xmj(k y x:Nat)(hy:y<2 ^ k)(hx:x % 2 ^ k=0):y ||| x=y+x:=by
 obtain⟨q,rfl⟩:2 ^ k∣x:=Nat.dvd_of_mod_eq_zero hx;rw[Nat.or_comm,Nat.add_comm,Nat.two_pow_add_eq_or_of_lt hy]
section
variable(k:Nat)(y x:Int)(h0:0≤y)(h1:y<2 ^ k)(h2:0≤x)(h3:x % 2 ^ k=0)
include h0 h1 h2 h3
theorem Xqm:∃a b:Nat,y=a∧x=b∧a ||| b=a+b:=by
 obtain⟨a,rfl⟩:=Int.eq_ofNat_of_zero_le h0;obtain⟨b,rfl⟩:=Int.eq_ofNat_of_zero_le h2;exact⟨a,b,rfl,rfl,Xmj k a b (by exact_mod_cast h1) (by exact_mod_cast h3)⟩
theorem Xpb(hy:y<18446744073709551616)(hx:x<18446744073709551616):bits .or .u64 y x=y+x:=by
 obtain⟨a,b,rfl,rfl,h⟩:=Xqm k y x h0 h1 h2 h3;rw[u64_or_nat a b (by omega) (by omega),h];simp
end
theorem Xti:(Tryd.prog.info? 5).map (fun i=>(i.zero,i.size,i.bytes))=some (some (.int .u8 0),1,1):=by kernel_rfl
def short(n:Int):List Int:=
 if n<128 then[n]else if n<16384 then[n % 128+128,n / 128]else[n % 128+128,n / 128 % 128+128,n / 16384]
structure LIn where
 p:Int
 acc:List Int
 dat:List Int
structure LLook where
 tab:List Int
 wr:List Int
 rd:List Int
structure LMsg where
 v0:Bool
 s:Int
 r:Int
 o:Int
 keys:List (List Int)
 recent:List Int
 ins:List LIn
 looks:List LLook
def encL(l:List Int):List Int:=short l.length++l
def encIn(i:LIn):List Int:=i.p::(encL i.acc++encL i.dat)
def encLook(l:LLook):List Int:=l.tab++(encL l.wr++encL l.rd)
def encHead(m:LMsg):List Int:=(if m.v0 then[128]else[])++[m.s,m.r,m.o]
def encTail(m:LMsg):List Int:=if m.v0 then short m.looks.length++m.looks.flatMap encLook else[]
def enc(m:LMsg):List Int:=encHead m++(short m.keys.length++(m.keys.flatten++(m.recent++(short m.ins.length++(m.ins.flatMap encIn++encTail m)))))
def IsByte(z:Int):Prop:=0≤z∧z<256
def AllBytes(l:List Int):Prop:=∀z ∈ l,IsByte z
structure LMsg.Wf(m:LMsg):Prop where
 s:IsByte m.s
 r:IsByte m.r
 o:IsByte m.o
 keys:∀k ∈ m.keys,k.length=32∧AllBytes k
 recent:m.recent.length=32∧AllBytes m.recent
 ins:∀i ∈ m.ins,IsByte i.p∧AllBytes i.acc∧AllBytes i.dat
 looks:∀l ∈ m.looks,(l.tab.length=32∧AllBytes l.tab)∧AllBytes l.wr∧AllBytes l.rd
structure BytesIn(w:World)(B:Nat)(v:Value)(l:List Int):Prop where
 is:∃A c,v=.slice A l.length c∧Sees w B A l.length (bv l)∧l.length≤c∧c≤maxLen
structure InsIn(w:World)(B:Nat)(A:Option Addr)(n:Nat)(l:List LIn):Prop where
 len:l.length=n
 at_:∀i x,l[i]?=some x→∃a va vd,A=some a∧a.block<B∧w.cell? (a.add (i*3))=some (.int .u8 x.p)∧w.cell? (a.add (i*3+1))=some va∧w.cell? (a.add (i*3+2))=some vd∧BytesIn w B va x.acc∧BytesIn w B vd x.dat
structure LooksIn(w:World)(B:Nat)(A:Option Addr)(n:Nat)(l:List LLook):Prop where
 len:l.length=n
 at_:∀i x,l[i]?=some x→∃a va vd,A=some a∧a.block<B∧(∀j u,(bv x.tab++[va,vd])[j]?=some u→w.cell? (a.add (i*34+j))=some u)∧x.tab.length=32∧BytesIn w B va x.wr∧BytesIn w B vd x.rd
structure KeysIn(w:World)(B:Nat)(A:Option Addr)(n:Nat)(l:List (List Int)):Prop where
 len:l.length=n
 each:∀k ∈ l,k.length=32
 sees:Sees w B A (n*32) (bv l.flatten)
structure Raw where
 KA:Option Addr
 kn:Nat
 kc:Nat
 IA:Option Addr
 n:Nat
 ic:Nat
 LA:Option Addr
 ln:Nat
 lc:Nat
def Raw.cells(q:Raw)(m:LMsg):List Value:=
 [.bool m.v0,.int .u8 m.s,.int .u8 m.r,.int .u8 m.o,.slice q.KA q.kn q.kc]++(bv m.recent++[.slice q.IA q.n q.ic,.slice q.LA q.ln q.lc])
structure MsgIn(w:World)(B:Nat)(q:Raw)(m:LMsg):Prop where
 recent:m.recent.length=32
 keys:KeysIn w B q.KA q.kn m.keys
 ins:InsIn w B q.IA q.n m.ins
 looks:LooksIn w B q.LA q.ln m.looks
 kn:q.kn≤q.kc∧q.kc≤maxLen
 n:q.n≤q.ic∧q.ic≤maxLen
 ln:q.ln≤q.lc∧q.lc≤maxLen
section
variable{w w':World}{B B':Nat}
theorem BytesIn.keep{v:Value}{l:List Int}(h:BytesIn w B v l)(hk:∀p:Addr,p.block<B→w'.cell? p=w.cell? p):BytesIn w' B v l:=by
 obtain⟨A,c,e,hs,h1,h2⟩:=h.is;exact⟨A,c,e,hs.keep hk,h1,h2⟩
theorem BytesIn.more{v:Value}{l:List Int}(h:BytesIn w B v l)(hB:B≤B'):BytesIn w B' v l:=by
 obtain⟨A,c,e,hs,h1,h2⟩:=h.is;exact⟨A,c,e,hs.more hB,h1,h2⟩
theorem InsIn.keep{A:Option Addr}{n:Nat}{l:List LIn}(h:InsIn w B A n l)(hk:∀p:Addr,p.block<B→w'.cell? p=w.cell? p):InsIn w' B A n l:=
 ⟨h.len,fun i x hx=>by
  obtain⟨a,va,vd,e,hb,h1,h2,h3,h4,h5⟩:=h.at_ i x hx;exact⟨a,va,vd,e,hb,(hk _ (by rw[Xab];exact hb)).trans h1,(hk _ (by rw[Xab];exact hb)).trans h2,(hk _ (by rw[Xab];exact hb)).trans h3,h4.keep hk,h5.keep hk⟩⟩
theorem InsIn.more{A:Option Addr}{n:Nat}{l:List LIn}(h:InsIn w B A n l)(hB:B≤B'):InsIn w B' A n l:=
 ⟨h.len,fun i x hx=>by
  obtain⟨a,va,vd,e,hb,h1,h2,h3,h4,h5⟩:=h.at_ i x hx;exact⟨a,va,vd,e,by omega,h1,h2,h3,h4.more hB,h5.more hB⟩⟩
theorem LooksIn.keep{A:Option Addr}{n:Nat}{l:List LLook}(h:LooksIn w B A n l)(hk:∀p:Addr,p.block<B→w'.cell? p=w.cell? p):LooksIn w' B A n l:=
 ⟨h.len,fun i x hx=>by
  obtain⟨a,va,vd,e,hb,h1,h2,h4,h5⟩:=h.at_ i x hx;exact⟨a,va,vd,e,hb,fun j u hu=>(hk _ (by rw[Xab];exact hb)).trans (h1 j u hu),h2,h4.keep hk,h5.keep hk⟩⟩
theorem LooksIn.more{A:Option Addr}{n:Nat}{l:List LLook}(h:LooksIn w B A n l)(hB:B≤B'):LooksIn w B' A n l:=
 ⟨h.len,fun i x hx=>by
  obtain⟨a,va,vd,e,hb,h1,h2,h4,h5⟩:=h.at_ i x hx;exact⟨a,va,vd,e,by omega,h1,h2,h4.more hB,h5.more hB⟩⟩
theorem KeysIn.keep{A:Option Addr}{n:Nat}{l:List (List Int)}(h:KeysIn w B A n l)(hk:∀p:Addr,p.block<B→w'.cell? p=w.cell? p):KeysIn w' B A n l:=⟨h.len,h.each,h.sees.keep hk⟩
theorem KeysIn.more{A:Option Addr}{n:Nat}{l:List (List Int)}(h:KeysIn w B A n l)(hB:B≤B'):KeysIn w B' A n l:=⟨h.len,h.each,h.sees.more hB⟩
variable{q:Raw}{m:LMsg}
theorem MsgIn.keep(h:MsgIn w B q m)(hk:∀p:Addr,p.block<B→w'.cell? p=w.cell? p):MsgIn w' B q m:=⟨h.recent,h.keys.keep hk,h.ins.keep hk,h.looks.keep hk,h.kn,h.n,h.ln⟩
theorem MsgIn.more(h:MsgIn w B q m)(hB:B≤B'):MsgIn w B' q m:=⟨h.recent,h.keys.more hB,h.ins.more hB,h.looks.more hB,h.kn,h.n,h.ln⟩
theorem MsgIn.below(h:MsgIn w B q m)(hb:Below B w w'):MsgIn w' B q m:=h.keep fun _ hp=>hb.cell hp
theorem MsgIn.alloc(h:MsgIn w B q m)(hB:B≤w.heap.size)(o:Obj):MsgIn (w.alloc o) B q m:=h.keep fun p hp=>World.cell?_alloc_lt w o p (by omega)
theorem MsgIn.drewN(h:MsgIn w B q m)(n:Nat):MsgIn (w.drewN n) B q m:=h.keep fun p hp=>rfl
theorem InsIn.below{A:Option Addr}{n:Nat}{l:List LIn}(h:InsIn w B A n l)(hb:Below B w w'):InsIn w' B A n l:=h.keep fun _ hp=>hb.cell hp
theorem LooksIn.below{A:Option Addr}{n:Nat}{l:List LLook}(h:LooksIn w B A n l)(hb:Below B w w'):LooksIn w' B A n l:=h.keep fun _ hp=>hb.cell hp
theorem KeysIn.below{A:Option Addr}{n:Nat}{l:List (List Int)}(h:KeysIn w B A n l)(hb:Below B w w'):KeysIn w' B A n l:=h.keep fun _ hp=>hb.cell hp
theorem BytesIn.below{v:Value}{l:List Int}(h:BytesIn w B v l)(hb:Below B w w'):BytesIn w' B v l:=h.keep fun _ hp=>hb.cell hp
end
section
variable{q:Raw}{m:LMsg}
theorem Xo7(h:m.recent.length=32):(q.cells m).length=39:=by simp[Raw.cells,bL,h]
theorem Xs4(h:m.recent.length=32):(q.cells m)[37]?=some (.slice q.IA q.n q.ic):=by
 simp[Raw.cells,bL,h]
theorem Xqz:∀u ∈ q.cells m,u.oneCell'=true:=by
 intro u hu;simp only[Raw.cells,List.mem_append,List.mem_cons,List.not_mem_nil,or_false]at hu;rcases hu with(rfl | rfl | rfl | rfl | rfl) | hu | rfl | rfl
 all_goals first | rfl | exact Xcd _ _ hu
end
def Bytes(zs:List Int):Prop:=∀i,0≤zs.getD i 0∧zs.getD i 0<256
theorem Xl6{k l:IntKind}{a b:Int}{p:Int × Int}(h:p=(a,b)):Ending.returned (.tuple #[.int k a,.int l b])=.returned (.tuple #[.int k p.1,.int l p.2]):=by rw[h]
theorem AllBytes.drop{zs:List Int}(h:AllBytes zs)(k:Nat):AllBytes (zs.drop k):=fun z hz=>h z (List.mem_of_mem_drop hz)
theorem AllBytes.take{zs:List Int}(h:AllBytes zs)(k:Nat):AllBytes (zs.take k):=fun z hz=>h z (List.mem_of_mem_take hz)
theorem AllBytes.bytes{zs:List Int}(h:AllBytes zs):Bytes zs:=by
 intro i;rw[List.getD_eq_getElem?_getD];by_cases hi:i<zs.length
 ·rw[List.getElem?_eq_getElem hi];exact h _ (List.getElem_mem hi)
 ·rw[List.getElem?_eq_none (by omega)];simp
section
variable{P:Program}
theorem Xc5(w:World)(p:Addr)(ty:TypeId)(cs:List Value)(d:TypeDesc)(hc:∀j v,cs[j]?=some v→w.cell? (p.add j)=some v)
 (hu:P.underlying ty=some d) (hd:d.isRow=true) (hi:(P.info? ty).map (·.size)=some cs.length) :
 (Instr.loadAt ty (.pointer (some p))).run P w=.ok (.agg cs.toArray) w:=by
 have hl:(loadCells p cs.length).run P w=.ok cs.toArray w:=run_loadCells_list (P:=P) w p cs hc;cases hq:P.info? ty with
 | none=>simp[hq]at hi
 | some i =>
  have hs:i.size=cs.length:=by simpa [hq]using hi
  have hagg:(isAgg ty).run P w=.ok true w:=by
   unfold isAgg;rw[Sem.run_bind,run_underlying hu w];cases d <;> simp_all
  simp[Instr.loadAt,Instr.sureAddr,loadVar,Sem.run_bind,hagg,sizeOf,typeInfo,hq,hs,hl]
theorem Xa9{ops:Array Oper}{rest:List Oper}{op:Oper}{a:Act}{w:World}{Q:Exit→Act→World→Prop}(hgd:op.guard=none)(ty:TypeId)(x:Operand)(ho:op.op=.load ty x)
 (p:Addr) (cs:List Value) (d:TypeDesc) (hu:P.underlying ty=some d) (hd:d.isRow=true) (hi:(P.info? ty).map (·.size)=some cs.length) (hc:∀j v,cs[j]?=some v→w.cell? (p.add j)=some v)
 (hx:a.eval x=.pointer (some p)) (h:wpList P ops Q rest (a.put op.dst (.agg cs.toArray)) w):wpList P ops Q (op::rest) a w:=
 wpList_plain hgd fun _ hK=>by
  unfold Oper.wp execOp;simp only[ho,hx,Sem.run_bind,Sem.run_pure,Xc5 w p ty cs d hc hu hd hi,Result.andThen_ok];exact hK _ _ h
theorem Xa3{ops:Array Oper}{rest:List Oper}{op:Oper}{a:Act}{w:World}{Q:Exit→Act→World→Prop}(hgd:op.guard=none)(ty:TypeId)(x:Operand)(ho:op.op=.load ty x)
 (g t:Nat) (cs:List Value) (d:TypeDesc) (hu:P.underlying ty=some d) (hd:d.isRow=true) (hi:(P.info? ty).map (·.size)=some cs.length) (hr:Row w g t cs)
 (hx:a.eval x=.pointer (some ⟨g,0,none⟩)) (h:wpList P ops Q rest (a.put op.dst (.agg cs.toArray)) w):wpList P ops Q (op::rest) a w:=
 Xa9 hgd ty x ho ⟨g,0,none⟩ cs d hu hd hi (fun j v hv=>by rw[Xac,hr.cell];simpa using hv) hx h
theorem Xd3(w:World)(g ty:Nat)(c cs:List Value)(hr:Row w g ty c)(hi:(P.info? ty).map (·.size)=some cs.length)(hl:c.length=cs.length)(h1:∀u ∈ cs,u.oneCell'=true) :
 (Instr.storeAt ty (.pointer (some ⟨g,0,none⟩)) (.agg cs.toArray)).run P w=.ok () (w.setRow g cs.toArray):=by
 have:=run_storeVar_row (P:=P) w g ty ty c.toArray cs.toArray hr.is (by simpa using hi) (by simpa using hl) (all_oneCell_toArray h1);simp only[Instr.storeAt,Instr.sureAddr,Sem.run_bind,Sem.run_pure,Result.andThen_ok,this]
structure Turned(w w':World)(g:Nat):Prop where
 os:w'.os=w.os
 tape:w'.tape=w.tape
 output:w'.output=w.output
 size:w'.heap.size=w.heap.size
 block:∀k,k≠g→w'.heap[k]?=w.heap[k]?
theorem Xdh(w:World)(g:Nat)(cs:Array Value):Turned w (w.setRow g cs) g:=
 ⟨rfl,rfl,rfl,by simp,fun k hk=>setRow_other w g k cs hk⟩
theorem Xa0(w:World)(p:Addr)(u:Value):Turned w (w.setCell p u) p.block:=
 ⟨rfl,rfl,rfl,by simp[World.setCell],fun k hk=>Below.heap_setCell _ _ _ _ hk⟩
theorem Xfm{w:World}{g t:Nat}{c:List Value}(hr:Row w g t c)(cs:List Value):Row (w.setRow g cs.toArray) g t cs:=
 ⟨setRow_heap w g c.toArray cs.toArray t _ hr.is⟩
theorem Turned.below{w w':World}{g B:Nat}(h:Turned w w' g)(hB:B≤g):Below B w w':=
 ⟨h.os,h.tape,h.output,by rw[h.size];exact Lr _,fun k hk=>h.block k (by omega)⟩
theorem Turned.row{w w':World}{g k t:Nat}{xs:List Value}(h:Turned w w' g)(hr:Row w k t xs)(hk:k≠g):Row w' k t xs:=⟨(h.block k hk).trans hr.is⟩
theorem Xai{ops:Array Oper}{rest:List Oper}{op:Oper}{a:Act}{w:World}{Q:Exit→Act→World→Prop}(hgd:op.guard=none)(ty:TypeId)(x y:Operand)(ho:op.op=.store ty x y)
 (g:Nat) (c cs:List Value) (hr:Row w g ty c) (hi:(P.info? ty).map (·.size)=some cs.length) (hl:c.length=cs.length) (h1:∀u ∈ cs,u.oneCell'=true)
 (hx:a.eval x=.pointer (some ⟨g,0,none⟩)) (hy:a.eval y=.agg cs.toArray)
 (h:∀w',Row w' g ty cs→Turned w w' g→wpList P ops Q rest (a.put op.dst undef) w'):wpList P ops Q (op::rest) a w:=
 wpList_plain hgd fun _ hK=>by
  unfold Oper.wp execOp;simp only[ho,hx,hy,Sem.run_bind,Sem.run_pure,Xd3 w g ty c cs hr hi hl h1,Result.andThen_ok];exact hK _ _ (h _ (Xfm hr cs) (Xdh w g _))
theorem Xa6{ops:Array Oper}{rest:List Oper}{op:Oper}{a:Act}{w0:World}{c:Array Value}{Q:Exit→Act→World→Prop}(hgd:op.guard=none)(ty:TypeId)(x y:Operand)(ho:op.op=.store ty x y)
 (cs:List Value) (hi:(P.info? ty).map (·.size)=some cs.length) (h1:∀u ∈ cs,u.oneCell'=true) (hl:c.size=cs.length)
 (hx:a.eval x=.pointer (some ⟨w0.heap.size,0,none⟩)) (hy:a.eval y=.agg cs.toArray)
 (h:∀w',Row w' w0.heap.size ty cs→Below w0.heap.size w0 w'→w'.heap.size=w0.heap.size+1→wpList P ops Q rest (a.put op.dst undef) w'):wpList P ops Q (op::rest) a (w0.alloc (.cells c ty)):=by
 have hr:Row (w0.alloc (.cells c ty)) w0.heap.size ty c.toList:=by
  have:=Row.new w0 ty c.toList;simpa using this
 refine Xai hgd ty x y ho w0.heap.size c.toList cs hr hi (by simpa using hl) h1 hx hy fun w' hr' ht=>?_
 exact h w' hr' (((Br _ w0).alloc (Lr _) _).trans (ht.below (Lr _))) (by rw[ht.size];simp)
theorem Xdw{g t:Nat}:∀(cs:List Value) (w:World) (o:Nat) (c:List Value),Row w g t c→o+cs.length≤c.length→Row (w.setCells g o cs) g t (c.take o++cs++c.drop (o+cs.length))
 | [],w,o,c,h,_=>by simpa [World.setCells]using h
 | v::r,w,o,c,h,hl=>by
  have h1:=Xdw r (w.setCell ⟨g,o,none⟩ v) (o+1) (c.set o v) (h.set_ o v) (by simp at hl ⊢;omega);have e:(c.set o v).take (o+1)++r++(c.set o v).drop (o+1+r.length)=c.take o++(v::r)++c.drop (o+(v::r).length):=by
   have ho:o<c.length:=by simp at hl;omega
   rw[List.take_succ_eq_append_getElem (by simpa using ho),List.drop_set_of_lt (by omega),List.take_set_of_le (Lr o)];simp only[List.getElem_set_self,List.append_assoc,List.cons_append,List.nil_append,List.length_cons];rw[show o+1+r.length=o+(r.length+1) by omega]
  rw[e]at h1;exact h1
theorem Xcr{g:Nat}:∀(cs:List Value) (w:World) (o:Nat),Turned w (w.setCells g o cs) g
 | [],w,o=>⟨rfl,rfl,rfl,rfl,fun _ _=>rfl⟩
 | v::r,w,o=>by
  have h1:=Xa0 w ⟨g,o,none⟩ v;have h2:=Xcr (g:=g) r (w.setCell ⟨g,o,none⟩ v) (o+1);exact⟨h2.os.trans h1.os,h2.tape.trans h1.tape,h2.output.trans h1.output,h2.size.trans h1.size,fun k hk=>(h2.block k hk).trans (h1.block k hk)⟩
theorem Xbk{ops:Array Oper}{rest:List Oper}{op:Oper}{a:Act}{w:World}{Q:Exit→Act→World→Prop}(hgd:op.guard=none)(ty:TypeId)(x y:Operand)(ho:op.op=.store ty x y)
 (g t o:Nat) (c cs:List Value) (hr:Row w g t c) (hi:(P.info? ty).map (·.size)=some cs.length) (hl:o+cs.length≤c.length) (h1:∀u ∈ cs,u.oneCell'=true)
 (hx:a.eval x=.pointer (some ⟨g,o,none⟩)) (hy:a.eval y=.agg cs.toArray)
 (h:∀w',Row w' g t (c.take o++cs++c.drop (o+cs.length))→Turned w w' g→wpList P ops Q rest (a.put op.dst undef) w'):wpList P ops Q (op::rest) a w:=
 wpList_store_mid hgd ty x y ho g o cs.toArray hx hy (fun j hj=>⟨by
  have hj':j<cs.length:=by simpa using hj
  rw[hr.cell,List.getElem?_eq_getElem (by omega)];rfl,hr.frozen _⟩) (by simpa using hi) (all_oneCell_toArray h1)
  (h _ (by simpa using Xdw cs w o c hr hl) (Xcr cs w o))
end
def OwnB(w:World)(base:Nat)(v:Value)(xs:List Int):Prop:=w.ownsRow base 5 1 v xs.length (bv xs)
theorem Xaa{w w':World}{base n size:Nat}{e:TypeId}{v:Value}{xs:List Value}(h:w.ownsRow base e size v n xs)(hb:Below w.heap.size w w'):w'.ownsRow base e size v n xs:=by
 refine⟨h.1,?_⟩;rcases h.2 with h2 | ⟨g,cap,cur,hv,hg,hh,r⟩
 ·exact .inl h2
 ·exact .inr ⟨g,cap,cur,hv,hg,(hb.block g (Array.getElem?_eq_some_iff.1 hh).1).trans hh,r⟩
theorem OwnB.below{w w':World}{base:Nat}{v:Value}{xs:List Int}(h:OwnB w base v xs)(hb:Below w.heap.size w w'):OwnB w' base v xs:=Xaa h hb
theorem OwnB.alloc{w:World}{base:Nat}{v:Value}{xs:List Int}(h:OwnB w base v xs)(o:Obj):OwnB (w.alloc o) base v xs:=World.ownsRow.alloc h o
theorem OwnB.nil(w:World)(base:Nat):OwnB w base (.slice none 0 0) []:=World.ownsRow_nil w base _ _
theorem OwnB.drewN{w:World}{base:Nat}{v:Value}{xs:List Int}(h:OwnB w base v xs)(k:Nat):OwnB (w.drewN k) base v xs:=h
theorem OwnB.form{w:World}{base:Nat}{v:Value}{xs:List Int}(h:OwnB w base v xs):∃A c,v=.slice A xs.length c:=Xry h
theorem OwnB.sees{w:World}{base:Nat}{A:Option Addr}{n c:Nat}{xs:List Int}(h:OwnB w base (.slice A n c) xs):Sees w w.heap.size A n (bv xs):=by
 obtain⟨A',c',e⟩:=h.form;cases e
 exact Sees.of_own h
structure Grew(w w':World)(v v':Value):Prop where
 grown:w.grownBy w' v.ownBlock
 fresh:∀k,v'.ownBlock=some k→v.ownBlock=some k∨w.heap.size≤k
section
variable{w w' w'':World}{v v' v'':Value}
theorem Grew.refl(w:World)(v:Value):Grew w w v v:=⟨World.grownBy.refl w _,fun k h=>.inl h⟩
theorem Grew.size(h:Grew w w' v v'):w.heap.size≤w'.heap.size:=h.grown.size
theorem Grew.trans(h:Grew w w' v v')(k:Grew w' w'' v' v''):Grew w w'' v v'':=
 ⟨⟨k.grown.os.trans h.grown.os,k.grown.tape.trans h.grown.tape,k.grown.output.trans h.grown.output,Lq h.size k.size,fun i hi hne =>
  (k.grown.block i (Nat.lt_of_lt_of_le hi h.size) fun e=>by
    rcases h.fresh i e.symm with h1 | h1
    ·exact hne h1.symm
    ·omega).trans (h.grown.block i hi hne)⟩,
  fun i hi=>by
   rcases k.fresh i hi with h1 | h1
   ·exact h.fresh i h1
   ·exact .inr (Lq h.size h1)⟩
theorem Grew.of_below(hb:Below w.heap.size w w')(v:Value):Grew w w' v v:=⟨⟨hb.os,hb.tape,hb.output,hb.size,fun k hk _=>hb.block k hk⟩,fun k h=>.inl h⟩
theorem Grew.alloc(h:Grew w w' v v')(o:Obj):Grew w (w'.alloc o) v v':=h.trans (.of_below ((Br _ _).alloc (Lr _) o) v')
theorem Grew.row{g t:Nat}{ys:List Value}(h:Grew w w' v v')(hr:Row w g t ys)(hg:some g≠v.ownBlock):Row w' g t ys:=hr.grown h.grown hg
theorem Grew.ne{g:Nat}(h:Grew w w' v v')(hg:some g≠v.ownBlock)(hlt:g<w.heap.size):some g≠v'.ownBlock:=fun e=>by
 rcases h.fresh g e.symm with h1 | h1
 ·exact hg h1.symm
 ·omega
theorem Grew.below{base n size:Nat}{e:TypeId}{xs:List Value}(h:Grew w w' v v')(hown:w.ownsRow base e size v n xs)(hbase:base≤w.heap.size):Below base w w':=
 (Br base w).grown h.grown hbase fun k hk=>(hown.lt k hk).1
end
theorem Xb7:(Tryd.prog.info? 68).map (·.size)=some 32:=by kernel_rfl
def inCells(p:Int)(va vd:Value):List Value:=[.int .u8 p,va,vd]
structure InAt(w:World)(B:Nat)(a:Addr)(k:Nat)(x:LIn)(va vd:Value):Prop where
 cells:∀j u,(inCells x.p va vd)[j]?=some u→w.cell? ((a.add (k*3)).add j)=some u
 acc:BytesIn w B va x.acc
 dat:BytesIn w B vd x.dat
theorem InsIn.get{w:World}{B n:Nat}{A:Option Addr}{l:List LIn}(h:InsIn w B A n l){k:Nat}(hk:k<n):∃a x va vd,A=some a∧a.block<B∧l[k]?=some x∧InAt w B a k x va vd:=by
 obtain⟨x,hx⟩:∃x,l[k]?=some x:=⟨_,List.getElem?_eq_getElem (by rw[h.len];exact hk)⟩;obtain⟨a,va,vd,rfl,hb,h1,h2,h3,h4,h5⟩:=h.at_ k x hx;refine⟨a,x,va,vd,rfl,hb,hx,fun j u hu=>?_,h4,h5⟩;rw[Xce];match j,hu with
 | 0,hu=>cases hu;exact h1
 | 1,hu=>cases hu;exact h2
 | 2,hu=>cases hu;exact h3
theorem InAt.keep{w w':World}{B k:Nat}{a:Addr}{x:LIn}{va vd:Value}(h:InAt w B a k x va vd)(ha:a.block<B)(hk:∀p:Addr,p.block<B→w'.cell? p=w.cell? p):InAt w' B a k x va vd:=
 ⟨fun j u hu=>(hk _ (by rw[Xab,Xab];exact ha)).trans (h.cells j u hu),h.acc.keep hk,h.dat.keep hk⟩
structure LookAt(w:World)(B:Nat)(a:Addr)(k:Nat)(x:LLook)(va vd:Value):Prop where
 cells:∀j u,(bv x.tab++[va,vd])[j]?=some u→w.cell? ((a.add (k*34)).add j)=some u
 len:x.tab.length=32
 wr:BytesIn w B va x.wr
 rd:BytesIn w B vd x.rd
theorem LooksIn.get{w:World}{B n:Nat}{A:Option Addr}{l:List LLook}(h:LooksIn w B A n l){k:Nat}(hk:k<n):∃a x va vd,A=some a∧a.block<B∧l[k]?=some x∧LookAt w B a k x va vd:=by
 obtain⟨x,hx⟩:∃x,l[k]?=some x:=⟨_,List.getElem?_eq_getElem (by rw[h.len];exact hk)⟩;obtain⟨a,va,vd,rfl,hb,h1,h2,h4,h5⟩:=h.at_ k x hx;exact⟨a,x,va,vd,rfl,hb,hx,fun j u hu=>by rw[Xce];exact h1 j u hu,h2,h4,h5⟩
theorem LookAt.size{w:World}{B k:Nat}{a:Addr}{x:LLook}{va vd:Value}(h:LookAt w B a k x va vd):(bv x.tab++[va,vd]).length=34:=by simp[bL,h.len]
theorem Xgr:∀(l:List (List Int)) (k:Nat) (x:List Int),(∀y ∈ l,y.length=32)→l[k]?=some x→∀j,j<32→l.flatten[k*32+j]?=x[j]?
 | [],k,x,_,h,_,_=>by simp at h
 | y::r,0,x,hl,h,j,hj=>by
  have:y=x:=by simpa using h
  subst this;have hy:=hl y (by simp);rw[List.flatten_cons,List.getElem?_append_left (by omega)];simp
 | y::r,k+1,x,hl,h,j,hj=>by
  have hy:=hl y (by simp);rw[List.flatten_cons,List.getElem?_append_right (by omega)];have:=Xgr r k x (fun z hz=>hl z (by simp[hz])) (by simpa using h) j hj;rw[←this];congr 1
  omega
structure KeyAt(w:World)(a:Addr)(k:Nat)(x:List Int):Prop where
 cells:∀j u,(bv x)[j]?=some u→w.cell? ((a.add (k*32)).add j)=some u
 len:x.length=32
theorem KeysIn.get{w:World}{B n:Nat}{A:Option Addr}{l:List (List Int)}(h:KeysIn w B A n l){k:Nat}(hk:k<n):∃a x,A=some a∧a.block<B∧l[k]?=some x∧KeyAt w a k x:=by
 obtain⟨x,hx⟩:∃x,l[k]?=some x:=⟨_,List.getElem?_eq_getElem (by rw[h.len];exact hk)⟩;have hxl:=h.each x (List.mem_of_getElem? hx);obtain⟨a,u,e,hb,_,_⟩:=h.sees.at_ (k:=k*32) (by omega);refine⟨a,x,e,hb,hx,fun j u hu=>?_,hxl⟩;have hj:j<32:=by have:=(List.getElem?_eq_some_iff.1 hu).1;rw[bL]at this;omega
 rw[bv_getElem?,←Xgr l k x h.each hx j hj,←bv_getElem?]at hu;obtain⟨a',e',_,hc⟩:=h.sees.cell _ u hu;rw[e]at e';cases e'
 rw[Xce];exact hc
theorem KeyAt.keep{w w':World}{B k:Nat}{a:Addr}{x:List Int}(h:KeyAt w a k x)(ha:a.block<B)(hk:∀p:Addr,p.block<B→w'.cell? p=w.cell? p):KeyAt w' a k x:=
 ⟨fun j u hu=>(hk _ (by rw[Xab,Xab];exact ha)).trans (h.cells j u hu),h.len⟩
theorem OwnB.row{w:World}{base:Nat}{v:Value}{ys:List Int}(h:OwnB w base v ys)(h0:0<ys.length):∃g rest c,v=.slice (some ⟨g,0,none⟩) ys.length c∧base≤g∧Row w g 5 (bv ys++rest)∧ys.length≤c∧c≤maxLen:=by
 rcases h.2 with⟨_,h1⟩ | ⟨g,cap,cur,rfl,hg,hh,h2,h3,h4,h5⟩
 ·omega
 ·refine⟨g,cur.toList.drop ys.length,cap,rfl,hg,⟨?_⟩,h2,h3⟩;rw[hh];have:bv ys++cur.toList.drop ys.length=cur.toList:=by
   rw[←h5];simp
  rw[this]
structure But(p:Nat)(w w':World):Prop where
 os:w'.os=w.os
 tape:w'.tape=w.tape
 output:w'.output=w.output
 size:w.heap.size≤w'.heap.size
 block:∀k,k<w.heap.size→k≠p→w'.heap[k]?=w.heap[k]?
section
variable{w w' w'':World}{p B:Nat}{zs:List Int}
theorem But.refl(p:Nat)(w:World):But p w w:=⟨rfl,rfl,rfl,Lr _,fun _ _ _=>rfl⟩
theorem But.trans(h:But p w w')(k:But p w' w''):But p w w'':=
 ⟨k.os.trans h.os,k.tape.trans h.tape,k.output.trans h.output,Lq h.size k.size,fun i hi hp=>(k.block i (Nat.lt_of_lt_of_le hi h.size) hp).trans (h.block i hi hp)⟩
theorem But.of_below(hb:Below w.heap.size w w')(p:Nat):But p w w':=⟨hb.os,hb.tape,hb.output,hb.size,fun k hk _=>hb.block k hk⟩
theorem But.of_turned(h:Turned w w' p):But p w w':=⟨h.os,h.tape,h.output,by rw[h.size];exact Lr _,fun k _ hk=>h.block k hk⟩
theorem But.below(h:But p w w')(hB:B≤p)(hs:B≤w.heap.size):Below B w w':=⟨h.os,h.tape,h.output,h.size,fun k hk=>h.block k (by omega) (by omega)⟩
theorem But.row{g t:Nat}{xs:List Value}(h:But p w w')(hr:Row w g t xs)(hg:g≠p):Row w' g t xs:=⟨(h.block g hr.lt hg).trans hr.is⟩
end
theorem But.drew{w w':World}{p:Nat}(h:But p w w'):But p w w'.drew:=⟨h.os,h.tape,h.output,h.size,h.block⟩
theorem But.alloc{w w':World}{p:Nat}(h:But p w w')(o:Obj):But p w (w'.alloc o):=h.trans (.of_below ((Br _ _).alloc (Lr _) o) p)
theorem But.grew{w w':World}{p lo:Nat}{v v':Value}{xs:List Int}(hg:Grew w w' v v')(ho:OwnB w lo v xs)(hp:p<lo)(b:World)(hb:But p b w)(hlo:b.heap.size≤lo):But p b w':=
 ⟨hg.grown.os.trans hb.os,hg.grown.tape.trans hb.tape,hg.grown.output.trans hb.output,Lq hb.size hg.size,fun k hk hne =>
  (hg.grown.block k (Nat.lt_of_lt_of_le hk hb.size) fun e=>by have:=(World.ownsRow.lt ho k e.symm).1;omega).trans (hb.block k hk hne)⟩
section
variable{w w':World}{p B g lo:Nat}{zs:List Int}{v:Value}{xs:List Int}
theorem But.turned{w0:World}(h:But p w0 w)(ht:Turned w w' g)(hg:w0.heap.size≤g):But p w0 w':=
 ⟨ht.os.trans h.os,ht.tape.trans h.tape,ht.output.trans h.output,by rw[ht.size];exact h.size,fun k hk hne=>(ht.block k (by omega)).trans (h.block k hk hne)⟩
theorem OwnB.turned(h:OwnB w lo v xs)(ht:Turned w w' g)(hg:g<lo):OwnB w' lo v xs:=by
 refine⟨h.1,?_⟩;rcases h.2 with h2 | ⟨k,cap,cur,hv,hk,hh,r⟩
 ·exact .inl h2
 ·exact .inr ⟨k,cap,cur,hv,hk,(ht.block k (by omega)).trans hh,r⟩
theorem OwnB.lt(h:OwnB w lo v xs):∀k,v.ownBlock=some k→lo≤k∧k<w.heap.size:=World.ownsRow.lt h
theorem OwnB.more{lo':Nat}(h:OwnB w lo v xs)(hl:lo'≤lo):OwnB w lo' v xs:=by
 refine⟨h.1,?_⟩;rcases h.2 with h2 | ⟨k,cap,cur,hv,hk,hh,r⟩
 ·exact .inl h2
 ·exact .inr ⟨k,cap,cur,hv,by omega,hh,r⟩
theorem OwnB.one(h:OwnB w lo v xs):v.oneCell'=true:=by
 obtain⟨A,c,rfl⟩:=h.form;rfl
end
section
variable{P:Program}
theorem Xcq{ops:Array Oper}{rest:List Oper}{o:Oper}{a:Act}{w:World}{Q:Exit→Act→World→Prop}(hg:o.guard=none)(t e:TypeId)(y:Operand)(ho:o.op=.buildSlice t 1 #[(0,y)])
 (cs:List Value) (z:Value) (size bytes:Nat) (hu:P.underlying t=some (.slice e)) (hi:(P.info? e).map (fun i=>(i.zero,i.size,i.bytes))=some (some z,size,bytes)) (hzs:z.cells.size=size) (hs0:0<size) (hs1:size≤1000)
 (hcs:cs.length=size) (hy:a.eval y=.agg cs.toArray)
 (h:wpList P ops Q rest (a.put o.dst (.slice (some ⟨w.heap.size,0,none⟩) 1 1)) (w.alloc (.cells cs.toArray e))):wpList P ops Q (o::rest) a w:=by
 obtain⟨ie,hie,h1,h2,_⟩:=info_parts hi;subst h2;refine wpList_buildSlice hg t e 1 _ ho cs.toArray ie z hu hie h1 (by omega) (by omega) ?_ h;have:=Go.Great.fill_whole (s:=ie.size) hs0 [Value.agg cs.toArray] ((Array.range (1*ie.size)).map (z.cells[· % z.cells.size]!)) (by simp[Value.cells,hcs]) (by simp);simpa [hy,Value.cells]using this
end
def zero32:List Int:=List.replicate 32 0
section
variable{P:Program}
theorem Xbp{op:Oper}{a:Act}{w:World}{K:Act→World→Prop}{Q:Exit→Act→World→Prop}(ty:TypeId)(x y:Operand)(ho:op.op=.store ty x y)
 (g:Nat) (c cs:List Value) (hr:Row w g ty c) (hi:(P.info? ty).map (·.size)=some cs.length) (hl:c.length=cs.length) (h1:∀u ∈ cs,u.oneCell'=true)
 (hx:a.eval x=.pointer (some ⟨g,0,none⟩)) (hy:a.eval y=.agg cs.toArray)
 (h:∀w',Row w' g ty cs→Turned w w' g→K (a.put op.dst undef) w'):op.wp P a w K Q:=by
 unfold Oper.wp execOp;simp only[ho,hx,hy,Sem.run_bind,Sem.run_pure,Xd3 w g ty c cs hr hi hl h1,Result.andThen_ok];exact h _ (Xfm hr cs) (Xdh w g _)
end
theorem takeL{P:Program}{L:List Oper}{Q:Exit→Act→World→Prop}{md:Region.Mode}{S:World→Prop}{i:Nat}{oi:Oper}{v:Value}{fuel:Nat}{listed:Array Bool}{a:Act}{w:World}(hi:L[i]?=some oi)
 (hs:Region.noSelect L.toArray=true) (hf:Region.free md L.toArray listed i=true) (hr:(Region.ready md L.toArray listed).contains i=true)
 (hQ:∀c a w,Q (.panic c) (a.put oi.dst v) w→Q (.panic c) a w) (hy:YieldsIf P L.toArray S oi v a) (hS:S w)
 (h:wpAnyH P md L.toArray Q S fuel (listed.setIfInBounds i true) (a.put oi.dst v) w):wpAnyH P md L.toArray Q S (fuel+1) listed a w:=
 wpAnyH_take (by simpa using hi) hs hf hr hQ hy hS h
theorem readyL{P:Program}{L:List Oper}{Q:Exit→Act→World→Prop}{md:Region.Mode}{S:World→Prop}{i:Nat}{o:Oper}{fuel:Nat}{listed:Array Bool}{a:Act}{w:World}(ho:L[i]?=some o)(hr:Region.ready md L.toArray listed=[i])
 (hw:Region.wanted o (yielded L.toArray a.tmps)=true)
 (h:∀K':Act→World→Prop,Shut (∀a w,S w→wpAnyH P md L.toArray Q S fuel (listed.setIfInBounds i true) a w→K' a w)→Oper.wp P o a w K' Q):wpAnyH P md L.toArray Q S (fuel+1) listed a w:=
 wpAnyH_ready hr (by simp) (AllReadyH.cons (by simpa using ho) (fun K hK=>by
  rw[if_pos hw];exact h K (fun a w hS hW=>hK a w hS fun _=>hW)) AllReadyH.nil)
theorem Tk {P:Program} {L:List Oper} {Q:Exit → Act → World → Prop} {md:Region.Mode} {S:World → Prop} (i:Nat) {oi:Oper} {fuel:Nat} {listed:Array Bool} {a:Act} {w:World} (hi:L[i]? = some oi) {v:Value}
 (hy:∀ w, S w → (execOp a.eval oi).run P w = .ok (.value v) w) (hS:S w) (h:wpAnyH P md L.toArray Q S fuel (listed.setIfInBounds i true) (a.put oi.dst v) w) (_v:{u:Value // u=v})
 (hs:Region.noSelect L.toArray = true := by kernel_rfl) (hf:Region.free md L.toArray listed i = true := by kernel_rfl) (hr:(Region.ready md L.toArray listed).contains i = true := by kernel_rfl)
 (hQ:∀ c a w, Q (.panic c) (a.put oi.dst v) w → Q (.panic c) a w := by exact fun _ _ _ h => h) (hg:Region.wanted oi (yielded L.toArray a.tmps) = true := by rfl) : wpAnyH P md L.toArray Q S (fuel + 1) listed a w :=
 takeL hi hs hf hr hQ (Or.inl ⟨hg, hy⟩) hS h
theorem Tl {P:Program} {L:List Oper} {Q:Exit → Act → World → Prop} {md:Region.Mode} {S:World → Prop} (i:Nat) {oi:Oper} {v:Value} {fuel:Nat} {listed:Array Bool} {a:Act} {w:World} (hi:L[i]? = some oi)
 (hy:YieldsIf P L.toArray S oi v a) (hS:S w) (h:wpAnyH P md L.toArray Q S fuel (listed.setIfInBounds i true) (a.put oi.dst v) w)
 (hs:Region.noSelect L.toArray = true := by kernel_rfl) (hf:Region.free md L.toArray listed i = true := by kernel_rfl) (hr:(Region.ready md L.toArray listed).contains i = true := by kernel_rfl)
 (hQ:∀ c a w, Q (.panic c) (a.put oi.dst v) w → Q (.panic c) a w := by exact fun _ _ _ h => h) : wpAnyH P md L.toArray Q S (fuel + 1) listed a w :=
 takeL hi hs hf hr hQ hy hS h
theorem Rl {P:Program} {L:List Oper} {Q:Exit → Act → World → Prop} {md:Region.Mode} {S:World → Prop} (i:Nat) {o:Oper} {fuel:Nat} {listed:Array Bool} {a:Act} {w:World} (ho:L[i]? = some o)
 (h:∀ K':Act → World → Prop, Shut (∀ a w, S w → wpAnyH P md L.toArray Q S fuel (listed.setIfInBounds i true) a w → K' a w) → Oper.wp P o a w K' Q)
 (hr:Region.ready md L.toArray listed = [i] := by kernel_rfl) (hw:Region.wanted o (yielded L.toArray a.tmps) = true := by kernel_rfl) : wpAnyH P md L.toArray Q S (fuel + 1) listed a w :=
 readyL ho hr hw h
section
variable{P:Program}
theorem Xb8{ops:Array Oper}{rest:List Oper}{op:Oper}{a:Act}{w:World}{Q:Exit→Act→World→Prop}(hw:Region.wanted op (yielded ops a.tmps)=true)(ty:TypeId)(x:Operand)(ho:op.op=.load ty x)
 (p:Addr) (cs:List Value) (d:TypeDesc) (hu:P.underlying ty=some d) (hd:d.isRow=true) (hi:(P.info? ty).map (·.size)=some cs.length) (hc:∀j v,cs[j]?=some v→w.cell? (p.add j)=some v)
 (hx:a.eval x=.pointer (some p)) (h:wpList P ops Q rest (a.put op.dst (.agg cs.toArray)) w):wpList P ops Q (op::rest) a w:=
 BigFrame.wpList_want hw fun _ hK=>by
  unfold Oper.wp execOp;simp only[ho,hx,Sem.run_bind,Sem.run_pure,Xc5 w p ty cs d hc hu hd hi,Result.andThen_ok];exact hK _ _ h
end
section
variable{P:Program}{ops:Array Oper}{C:World→Prop}{Q:Act→Prop}{a:Act}{o:Oper}{rest:List Oper}
theorem Xbu(hw:Region.wanted o (yielded ops a.tmps)=true)(ty:TypeId)(x:Operand)(ho:o.op=.load ty x)
 (p:Addr) (cs:List Value) (d:TypeDesc) (hu:P.underlying ty=some d) (hd:d.isRow=true) (hi:(P.info? ty).map (·.size)=some cs.length) (hc:∀w,C w→∀j v,cs[j]?=some v→w.cell? (p.add j)=some v)
 (hx:a.eval x=.pointer (some p)) (h:wpQuiet P ops C Q rest (a.put o.dst (.agg cs.toArray))):wpQuiet P ops C Q (o::rest) a:=
 BigFrame.wpQuiet_want hw fun K hK=>⟨_,fun w hC=>by
  unfold Oper.quietAt execOp;simp only[ho,hx,Sem.run_bind,Sem.run_pure,Xc5 w p ty cs d (hc w hC) hu hd hi,Result.andThen_ok];exact⟨rfl,rfl⟩,hK _ h⟩
end
theorem Xix:Tryd.prog.plainKey 5=true:=by kernel_rfl
theorem Xpm:∃i,Tryd.prog.info? 5=some i:=by
 obtain⟨i,h,_⟩:=info_parts Xti;exact⟨i,h⟩
theorem Xgm:Tryd.prog.cellsOf 5=1:=by kernel_rfl
theorem Xcn{α:Type}(size:Nat):∀(l:List (List α)) (k:Nat) (x:List α),(∀(i:Nat) y,l[i]?=some y→y.length=size)→l[k]?=some x→∀j u,x[j]?=some u→l.flatten[k*size+j]?=some u
 | [],k,x,_,h,_,_,_=>by simp at h
 | y::r,0,x,hl,h,j,u,hu=>by
  have:y=x:=by simpa using h
  subst this;have hj:=(List.getElem?_eq_some_iff.1 hu).1;rw[List.flatten_cons,List.getElem?_append_left (by simpa using hj)];simpa using hu
 | y::r,k+1,x,hl,h,j,u,hu=>by
  have hy:=hl 0 y (by simp);rw[List.flatten_cons,List.getElem?_append_right (by rw[hy,Nat.add_mul];omega)];have:=Xcn size r k x (fun i z hz=>hl (i+1) z (by simpa using hz)) (by simpa using h) j u hu;rw[←this];congr 1
  rw[hy,Nat.add_mul];omega
theorem But.drewN{w w':World}{p:Nat}(h:But p w w')(n:Nat):But p w (w'.drewN n):=⟨h.os,h.tape,h.output,h.size,h.block⟩
theorem Xar{P:Program}{L:List Oper}{Q:Exit→Act→World→Prop}{md:Region.Mode}{S:World→Prop}{i j:Nat}{o o':Oper}{fuel:Nat}{listed:Array Bool}{a:Act}{w:World}(ho:L[i]?=some o)(ho':L[j]?=some o')(hr:Region.ready md L.toArray listed=[i,j])
 (hw:Region.wanted o (yielded L.toArray a.tmps)=true) (hw':Region.wanted o' (yielded L.toArray a.tmps)=true)
 (h:∀K':Act→World→Prop,Shut (∀a w,S w→wpAnyH P md L.toArray Q S fuel (listed.setIfInBounds i true) a w→K' a w)→Oper.wp P o a w K' Q)
 (h':∀K':Act→World→Prop,Shut (∀a w,S w→wpAnyH P md L.toArray Q S fuel (listed.setIfInBounds j true) a w→K' a w)→Oper.wp P o' a w K' Q):wpAnyH P md L.toArray Q S (fuel+1) listed a w:=
 wpAnyH_ready hr (by simp) (AllReadyH.cons (by simpa using ho) (fun K hK=>by
  rw[if_pos hw];exact h K (fun a w hS hW=>hK a w hS fun _=>hW)) (AllReadyH.cons (by simpa using ho') (fun K hK=>by
  rw[if_pos hw'];exact h' K (fun a w hS hW=>hK a w hS fun _=>hW)) AllReadyH.nil))
section
variable{P:Program}
theorem Xb2{o:Oper}{a:Act}{w:World}{K:Act→World→Prop}{Q:Exit→Act→World→Prop}(t e:TypeId)(y:Operand)(ho:o.op=.buildSlice t 1 #[(0,y)])
 (cs:List Value) (z:Value) (size bytes:Nat) (hu:P.underlying t=some (.slice e)) (hi:(P.info? e).map (fun i=>(i.zero,i.size,i.bytes))=some (some z,size,bytes)) (hzs:z.cells.size=size) (hs0:0<size) (hs1:size≤1000)
 (hcs:cs.length=size) (hy:a.eval y=.agg cs.toArray)
 (h:K (a.put o.dst (.slice (some ⟨w.heap.size,0,none⟩) 1 1)) (w.alloc (.cells cs.toArray e))):o.wp P a w K Q:=by
 obtain⟨ie,hie,h1,h2,_⟩:=info_parts hi;subst h2;refine wp_buildSlice t e 1 _ ho cs.toArray ie z hu hie h1 (by omega) (by omega) ?_ h;have:=Go.Great.fill_whole (s:=ie.size) hs0 [Value.agg cs.toArray] ((Array.range (1*ie.size)).map (z.cells[· % z.cells.size]!)) (by simp[Value.cells,hcs]) (by simp);simpa [hy,Value.cells]using this
theorem Xo5{w0:World}{c:Array Value}{o:Oper}{a:Act}{K:Act→World→Prop}{Q:Exit→Act→World→Prop}(s x:Operand)(t:TypeId)
 (ho:o.op=.call { callee:=.builtin .append,args:=#[s,x],argTypes:=#[t,t] })
 (base:Nat) (e:TypeId) (z:Value) (size bytes:Nat) (ht:P.underlying t=some (.slice e)) (hi:(P.info? e).map (fun i=>(i.zero,i.size,i.bytes))=some (some z,size,bytes)) (hzs:z.cells.size=size) (hs0:0<size)
 (v:Value) (n:Nat) (xs cs:List Value) (cc:Nat) (hcs:cs.length=size) (h1:∀u ∈ cs,u.oneCell'=true) (hc:c=cs.toArray) (hs:a.eval s=v) (hown:w0.ownsRow base e size v n xs)
 (hx:a.eval x=.slice (some ⟨w0.heap.size,0,none⟩) 1 cc) (hbase:base≤w0.heap.size) (hnm:n+1≤maxLen) (hbytes:(n+1)*bytes≤140737488355328)
 (h:∀v' w',w'.ownsRow base e size v' (n+1) (xs++cs)→Grew w0 w' v v'→K (a.put o.dst v') w'):o.wp P a (w0.alloc (.cells c e)) K Q:=by
 subst hc;obtain⟨i0,hi,hz0,hz1,hz2⟩:=info_parts hi;have hr:=Row.new w0 e cs;obtain⟨v',w',hrun,h2,h3,_,h5⟩:=run_append_own_at (P:=P) (w0.alloc (.cells cs.toArray e)) base t o.type e i0 z size bytes ht hi hz0 hz1 hz2 hzs hs0 v n xs (hown.alloc _) ⟨w0.heap.size,0,none⟩ 1 cc cs (by omega)
  (fun j u hu=>by rw[Xac,hr.cell];simpa using hu) h1 hnm hbytes (by simp;omega)
 unfold Oper.wp execOp;simp only[ho,resolve,invoke,builtin,Sem.run_bind,Sem.run_pure,Result.andThen_ok,List.map_toArray,List.map_cons,List.map_nil,hs,hx,hrun];refine h v' w' h2 ((Grew.of_below ((Br _ w0).alloc (Lr _) _) v).trans ⟨h3,fun k hk=>?_⟩);rcases h5 with h5 | h5
 ·exact .inl (h5 ▸ hk)
 ·rw[h5]at hk;cases hk
  exact .inr (Lr _)
end
theorem Xao{a:Act}{o:Oper}(w:World)(t:TypeId)(parts:Array (Nat × Operand))(cells:Array Value)(ho:o.op=.build t parts)(h:Tryd.prog.built t (parts.map fun(i,x)=>(i,a.eval x)).toList=some cells):(execOp a.eval o).run Tryd.prog w=.ok (.value (.agg cells)) w:=by
 simp only[execOp,ho,Sem.run_bind,run_build w t _ cells h,Result.andThen_ok];rfl
theorem Xau{o:Oper}{a:Act}{w:World}{K:Act→World→Prop}{Q:Exit→Act→World→Prop}(t:TypeId)(parts:Array (Nat × Operand))(cells:Array Value)(ho:o.op=.build t parts)
 (h:Tryd.prog.built t (parts.map fun(i,x)=>(i,a.eval x)).toList=some cells) (hK:K (a.put o.dst (.agg cells)) w):o.wp Tryd.prog a w K Q:=
 wp_build t parts ho (by rw[h];rfl) (by rw[h];exact hK)
theorem AllBytes.map{α:Type}{f:α→List Int}{l:List α}(h:∀x ∈ l,AllBytes (f x)):AllBytes (l.flatMap f):=fun z hz=>by
 obtain⟨x,hx,hz⟩:=List.mem_flatMap.1 hz;exact h x hx z hz
structure LTx where
 sigs:List (List Int)
 m:LMsg
structure LTx.Wf(x:LTx):Prop where
 sigs:∀s ∈ x.sigs,s.length=64∧AllBytes s
 m:x.m.Wf
structure SigsIn(w:World)(B:Nat)(A:Option Addr)(n:Nat)(l:List (List Int)):Prop where
 len:l.length=n
 each:∀k ∈ l,k.length=64
 sees:Sees w B A (n*64) (bv l.flatten)
structure TRaw where
 SA:Option Addr
 sn:Nat
 sc:Nat
 q:Raw
def TRaw.cells(s:TRaw)(x:LTx):List Value:=.slice s.SA s.sn s.sc::s.q.cells x.m
structure TxIn(w:World)(B:Nat)(s:TRaw)(x:LTx):Prop where
 sigs:SigsIn w B s.SA s.sn x.sigs
 sn:s.sn≤s.sc∧s.sc≤maxLen
 m:MsgIn w B s.q x.m
section
variable{w w':World}{B B':Nat}
theorem SigsIn.keep{A:Option Addr}{n:Nat}{l:List (List Int)}(h:SigsIn w B A n l)(hk:∀p:Addr,p.block<B→w'.cell? p=w.cell? p):SigsIn w' B A n l:=⟨h.len,h.each,h.sees.keep hk⟩
theorem SigsIn.more{A:Option Addr}{n:Nat}{l:List (List Int)}(h:SigsIn w B A n l)(hB:B≤B'):SigsIn w B' A n l:=⟨h.len,h.each,h.sees.more hB⟩
theorem SigsIn.below{A:Option Addr}{n:Nat}{l:List (List Int)}(h:SigsIn w B A n l)(hb:Below B w w'):SigsIn w' B A n l:=h.keep fun _ hp=>hb.cell hp
variable{s:TRaw}{x:LTx}
theorem TxIn.keep(h:TxIn w B s x)(hk:∀p:Addr,p.block<B→w'.cell? p=w.cell? p):TxIn w' B s x:=⟨h.sigs.keep hk,h.sn,h.m.keep hk⟩
theorem TxIn.more(h:TxIn w B s x)(hB:B≤B'):TxIn w B' s x:=⟨h.sigs.more hB,h.sn,h.m.more hB⟩
theorem TxIn.below(h:TxIn w B s x)(hb:Below B w w'):TxIn w' B s x:=h.keep fun _ hp=>hb.cell hp
theorem TxIn.alloc(h:TxIn w B s x)(hB:B≤w.heap.size)(o:Obj):TxIn (w.alloc o) B s x:=h.keep fun p hp=>World.cell?_alloc_lt w o p (by omega)
theorem TxIn.drewN(h:TxIn w B s x)(n:Nat):TxIn (w.drewN n) B s x:=h.keep fun p hp=>rfl
theorem Xfo(h:x.m.recent.length=32):(s.cells x).length=40:=by simp[TRaw.cells,Xo7 h]
theorem Xmc(j:Nat):(s.cells x)[1+j]?=(s.q.cells x.m)[j]?:=by unfold TRaw.cells;rw[show 1+j=j+1 by omega];rfl
theorem Xhl:∀u ∈ s.cells x,u.oneCell'=true:=by
 intro u hu;rcases List.mem_cons.1 hu with rfl | hu
 ·rfl
 ·exact Xqz u hu
end
theorem Xf6:∀(l:List (List Int)) (k:Nat) (x:List Int),(∀y ∈ l,y.length=64)→l[k]?=some x→∀j,j<64→l.flatten[k*64+j]?=x[j]?
 | [],k,x,_,h,_,_=>by simp at h
 | y::r,0,x,hl,h,j,hj=>by
  have:y=x:=by simpa using h
  subst this;have hy:=hl y (by simp);rw[List.flatten_cons,List.getElem?_append_left (by omega)];simp
 | y::r,k+1,x,hl,h,j,hj=>by
  have hy:=hl y (by simp);rw[List.flatten_cons,List.getElem?_append_right (by omega)];have:=Xf6 r k x (fun z hz=>hl z (by simp[hz])) (by simpa using h) j hj;rw[←this];congr 1
  omega
structure SigAt(w:World)(a:Addr)(k:Nat)(x:List Int):Prop where
 cells:∀j u,(bv x)[j]?=some u→w.cell? ((a.add (k*64)).add j)=some u
 len:x.length=64
theorem SigsIn.get{w:World}{B n:Nat}{A:Option Addr}{l:List (List Int)}(h:SigsIn w B A n l){k:Nat}(hk:k<n):∃a x,A=some a∧a.block<B∧l[k]?=some x∧SigAt w a k x:=by
 obtain⟨x,hx⟩:∃x,l[k]?=some x:=⟨_,List.getElem?_eq_getElem (by rw[h.len];exact hk)⟩;have hxl:=h.each x (List.mem_of_getElem? hx);obtain⟨a,u,e,hb,_,_⟩:=h.sees.at_ (k:=k*64) (by omega);refine⟨a,x,e,hb,hx,fun j u hu=>?_,hxl⟩;have hj:j<64:=by have:=(List.getElem?_eq_some_iff.1 hu).1;rw[bL]at this;omega
 rw[bv_getElem?,←Xf6 l k x h.each hx j hj,←bv_getElem?]at hu;obtain⟨a',e',_,hc⟩:=h.sees.cell _ u hu;rw[e]at e';cases e'
 rw[Xce];exact hc
theorem SigAt.keep{w w':World}{B k:Nat}{a:Addr}{x:List Int}(h:SigAt w a k x)(ha:a.block<B)(hk:∀p:Addr,p.block<B→w'.cell? p=w.cell? p):SigAt w' a k x:=
 ⟨fun j u hu=>(hk _ (by rw[Xab,Xab];exact ha)).trans (h.cells j u hu),h.len⟩
def zRaw:TRaw:=⟨none,0,0,⟨none,0,0,none,0,0,none,0,0⟩⟩
def zTx:LTx:=⟨[],⟨false,0,0,0,[],zero32,[],[]⟩⟩
structure Sized(m:LMsg):Prop where
 keys:m.keys.length≤140737488355328
 ins:m.ins.length≤140737488355328
 looks:m.looks.length≤140737488355328
 inl:∀i ∈ m.ins,i.acc.length≤140737488355328∧i.dat.length≤140737488355328
 lol:∀l ∈ m.looks,l.wr.length≤140737488355328∧l.rd.length≤140737488355328
def inSize(l:List LIn):Nat:=(l.map fun i=>i.acc.length+i.dat.length).sum
def lookSize(l:List LLook):Nat:=(l.map fun i=>i.wr.length+i.rd.length).sum
theorem Xs9{l:List LIn}{x:LIn}(h:x ∈ l):x.acc.length+x.dat.length≤inSize l:=by
 induction l with
 | nil=>cases h
 | cons y r ih =>
  simp only[inSize,List.map_cons,List.sum_cons]at ih ⊢;rcases List.mem_cons.1 h with rfl | h
  ·omega
  ·have:=ih h;omega
open Go.ChangeShapes Go.WideShapes Go.RowKit
theorem Xc6{α:Type}{p:Nat→α→Prop}:∀(n:Nat),(∀i,i<n→∃x,p i x)→∃l:List α,l.length=n∧∀i x,l[i]?=some x→p i x
 | 0,_=>⟨[],rfl,fun i x h=>by simp at h⟩
 | n+1,h=>by
  obtain⟨l,hl,hp⟩:=Xc6 n fun i hi=>h i (by omega)
  obtain⟨x,hx⟩:=h n (Nat.lt_succ_self _);refine⟨l++[x],by simp[hl],fun i y hy=>?_⟩;by_cases hi:i<n
  ·rw[List.getElem?_append_left (by omega)]at hy;exact hp i y hy
  ·rw[List.getElem?_append_right (by omega)]at hy;have h1:=(List.getElem?_eq_some_iff.1 hy).1;simp at h1;have:i=n:=by omega
   subst this;rw[show i - l.length=0 by omega]at hy;simp at hy;exact hy ▸ hx
theorem KeysIn.of_at{w:World}{B:Nat}{A:Option Addr}{n:Nat}{l:List (List Int)}(hn:l.length=n)(h:∀(i:Nat) x,l[i]?=some x→x.length=32∧∃a,A=some a∧a.block<B∧∀j u,(bv x)[j]?=some u→w.cell? (a.add (i*32+j))=some u):KeysIn w B A n l:=by
 have he:∀k ∈ l,k.length=32:=fun k hk=>by
  obtain⟨i,hi,rfl⟩:=List.getElem_of_mem hk;exact(h i _ (List.getElem?_eq_getElem hi)).1
 have hf:l.flatten.length=n*32:=by
  rw[←hn];clear hn h;induction l with
  | nil=>rfl
  | cons y r ih =>
   have h1:=ih (fun k hk=>he k (by simp[hk]));have h2:=he y (by simp);simp only[List.flatten_cons,List.length_append,List.length_cons,h1,h2];omega
 refine⟨hn,he,⟨by rw[bL];exact hf,fun i u hu=>?_⟩⟩;have hi:=(List.getElem?_eq_some_iff.1 hu).1;rw[bL,hf]at hi;have hk:i / 32<l.length:=by omega
 obtain⟨h1,a,rfl,h2,h3⟩:=h (i / 32) _ (List.getElem?_eq_getElem hk);refine⟨_,rfl,h2,?_⟩;have hlt:i % 32<(bv l[i / 32]).length:=by rw[bL,h1];omega
 obtain⟨u',hu'⟩:∃u',(bv l[i / 32])[i % 32]?=some u':=⟨_,List.getElem?_eq_getElem hlt⟩;have h4:=h3 _ _ hu';rw[show i / 32*32+i % 32=i by omega]at h4;rw[h4];rw[bv_getElem?]at hu hu';obtain⟨z',hz',rfl⟩:∃z,(l[i / 32])[i % 32]?=some z∧u'=.int .u8 z:=by
  cases hq:(l[i / 32])[i % 32]? with
  | none=>rw[hq]at hu';simp at hu'
  | some z=>rw[hq]at hu';exact⟨z,rfl,by simpa using hu'.symm⟩
 have h5:=Xcn 32 l (i / 32) _ (fun i y hy=>he y (List.mem_of_getElem? hy)) (List.getElem?_eq_getElem hk) (i % 32) z' hz';rw[show i / 32*32+i % 32=i by omega]at h5;rw[h5]at hu;exact hu
theorem Xdn{z:Int}(h:(Lit.int .u8 z).wf=true):IsByte z:=by
 have:=bounds_u8 h;unfold IsByte;omega
section
variable{H:Type}{enc:TypeId × Value→H}
def Wt(t:TypeId)(d:DataW H):Prop:=∀n ∈ d.weights Tryd.prog t,n≤reachBytes
theorem Xsy{e:TypeId}:∀{l:List (DataW H)},(∀n ∈ DataW.weightsAll Tryd.prog e l,n≤reachBytes)→∀d ∈ l,Wt e d
 | [],_,d,hd=>by simp at hd
 | y::r,h,d,hd=>by
  rcases List.mem_cons.1 hd with rfl | hd
  ·exact fun n hn=>h n (by simp[DataW.weightsAll,hn])
  ·exact Xsy (l:=r) (fun n hn=>h n (by simp[DataW.weightsAll,hn])) d hd
variable{w:World}{base:Nat}{held:Bool}
theorem Xde{t e:TypeId}{fuel:Nat}{cs:List Value}{x:DataW H × List MemPlace}(ht:Tryd.prog.underlying t=some (.slice e))(hc:0<Tryd.prog.cellsOf e)
 (h:DataW.trod enc Tryd.prog w base (fun _=>true) held fuel t cs=some x) (hw:Wt t x.1) :
 ∃A n c,cs=[.slice A n c]∧n≤c∧c≤maxLen∧n*Tryd.prog.bytesOf e≤reachBytes∧∀i,i<n→∃a cs' y m,A=some a∧a.block<w.heap.size∧cs'.length=Tryd.prog.cellsOf e ∧
  (∀j u,cs'[j]?=some u→w.cell? (a.add (i*Tryd.prog.cellsOf e+j))=some u)∧DataW.trod enc Tryd.prog w base (fun _=>true) held m e cs'=some y∧Wt e y.1:=by
 rcases Go.Deep.open_slice ht h with⟨rfl,rfl⟩ | ⟨a,len,cap,m,n,D,Pl,rfl,hb,hl,hm,hmm,rfl,hx⟩
 ·exact⟨none,0,0,rfl,Lr _,Nat.zero_le _,by simp,fun i hi=>by omega⟩
 ·have hm':m=cap:=by simpa using hmm
  have h1:((len+(m - len))*Tryd.prog.bytesOf e)≤reachBytes:=by
   refine hw _ ?_;simp[DataW.weights,ht]
  have h2:∀d ∈ (List.range len).map D,Wt e d:=Xsy fun n hn=>hw n (by simp only[DataW.weights,ht];simp[hn])
  refine⟨some a,len,cap,rfl,hl,hm,Lq (Nat.mul_le_mul_right _ (by omega)) h1,fun i hi=>?_⟩;obtain⟨cs',hcs,htr⟩:=hx i (by omega);have hbl:=World.cells?_block hcs hc;obtain⟨_,hlen,hat⟩:=World.cells?_some hcs;refine⟨a,cs',_,n,rfl,by rwa [Xab]at hbl,hlen,fun j u hu=>?_,htr,h2 _ (by simp;exact⟨i,hi,rfl⟩)⟩;have:=hat j (by have:=(List.getElem?_eq_some_iff.1 hu).1;omega);rw[Xce]at this;rw[this,hu]
theorem Xe1:Tryd.prog.cellsOf 5=1:=by kernel_rfl
theorem Xu1:Tryd.prog.bytesOf 5=1:=by kernel_rfl
theorem Xbz:Tryd.prog.cellsOf 68=32:=by kernel_rfl
theorem Xru:Tryd.prog.bytesOf 68=32:=by kernel_rfl
theorem Xj7:Tryd.prog.cellsOf 36=32:=by kernel_rfl
theorem Xp2:Tryd.prog.cellsOf 108=3:=by kernel_rfl
theorem Xu5:Tryd.prog.bytesOf 108=56:=by kernel_rfl
theorem Xjg:Tryd.prog.cellsOf 110=34:=by kernel_rfl
theorem Xpn:Tryd.prog.bytesOf 110=80:=by kernel_rfl
theorem Xig:Tryd.prog.cellsOf 30=1:=by kernel_rfl
theorem Xeu:reachBytes≤140737488355328:=by decide
theorem Xcy{fuel:Nat}{v:Value}{x:DataW H × List MemPlace}(h:DataW.trod enc Tryd.prog w base (fun _=>true) held fuel 30 [v]=some x)(hw:Wt 30 x.1) :
 ∃l,BytesIn w w.heap.size v l∧AllBytes l∧l.length≤140737488355328:=by
 obtain⟨A,n,c,hcs,h1,h2,h3,h4⟩:=Xde Tryd.underlying30 (by rw[Xe1];omega) h hw;obtain rfl:v=.slice A n c:=by simpa using hcs
 rw[Xu1]at h3;have:=Xeu;obtain⟨l,hl,hp⟩:=Xc6 (α:=Int) (p:=fun i z=>IsByte z∧∃a,A=some a∧a.block<w.heap.size∧w.cell? (a.add i)=some (.int .u8 z)) n fun i hi=>by
  obtain⟨a,cs',y,m,e1,e2,e3,e4,e5,_⟩:=h4 i hi;obtain⟨z,rfl,_,hz⟩:=DataW.trod_int Tryd.underlying5 e5;have:=e4 0 _ rfl;rw[Xe1,Nat.mul_one,Nat.add_zero]at this;exact⟨z,Xdn hz,a,e1,e2,this⟩
 subst hl;refine⟨l,⟨A,c,rfl,⟨bL _,fun i u hu=>?_⟩,h1,h2⟩,fun z hz=>?_,by omega⟩
 ·rw[bv_getElem?]at hu;cases hq:l[i]? with
  | none=>rw[hq]at hu;simp at hu
  | some z =>
   rw[hq]at hu;obtain⟨_,a,e1,e2,e3⟩:=hp i z hq;obtain rfl:Value.int .u8 z=u:=by simpa using hu
   exact⟨a,e1,e2,e3⟩
 ·obtain⟨i,hi,rfl⟩:=List.getElem_of_mem hz;exact(hp i _ (List.getElem?_eq_getElem hi)).1
theorem Xfq{t:TypeId}{fuel:Nat}{cs:List Value}{x:DataW H × List MemPlace}(ht:Tryd.prog.underlying t=some (.array 32 5))(hc:Tryd.prog.cellsOf t=32)(h:DataW.trod enc Tryd.prog w base (fun _=>true) held fuel t cs=some x) :
 ∃l:List Int,cs=bv l∧l.length=32∧AllBytes l:=by
 obtain⟨xs,m,_,_,hl,hxs,hat⟩:=DataW.trod_array ht h;obtain⟨l,hll,hp⟩:=Xc6 (α:=Int) (p:=fun i z=>IsByte z∧cs[i]?=some (.int .u8 z)) 32 fun i hi=>by
  have h1:=hat i hi;have hx:xs[i]?=some xs[i]:=List.getElem?_eq_getElem (by omega);rw[Xe1,hx]at h1;obtain⟨z,hz,_,hwz⟩:=DataW.trod_int Tryd.underlying5 h1;refine⟨z,Xdn hwz,?_⟩;have:=congrArg List.head? hz;simpa [List.head?_take]using this
 rw[hc]at hl;refine⟨l,List.ext_getElem? fun i=>?_,hll,fun z hz=>?_⟩
 ·by_cases hi:i<32
  ·have e:=List.getElem?_eq_getElem (l:=l) (i:=i) (by omega);rw[bv_getElem?,e,(hp i _ e).2];rfl
  ·rw[List.getElem?_eq_none (by omega),List.getElem?_eq_none (by rw[bL];omega)]
 ·obtain⟨i,hi,rfl⟩:=List.getElem_of_mem hz;exact(hp i _ (List.getElem?_eq_getElem hi)).1
end
theorem Xm7{cs:List Value}(h:cs.length=3):∃a b c,cs=[a,b,c]:=by
 match cs,h with
 | [a,b,c],_=>exact⟨a,b,c,rfl⟩
theorem Xsx{cs:List Value}(h:cs.length=2):∃a b,cs=[a,b]:=by
 match cs,h with
 | [a,b],_=>exact⟨a,b,rfl⟩
section
variable{H:Type}{enc:TypeId × Value→H}{w:World}{base:Nat}{held:Bool}
theorem wt_in{y0 y1 y2:DataW H}(h:Wt 108 (.agg [y0,y1,y2])):Wt 30 y1∧Wt 30 y2:=by
 refine⟨fun n hn=>h n ?_,fun n hn=>h n ?_⟩ <;> simp only[DataW.weights,Tryd.underlying108] <;> simp[DataW.weightsEach,hn]
theorem Xtf{y0 y1 y2:DataW H}(h:Wt 110 (.agg [y0,y1,y2])):Wt 30 y1∧Wt 30 y2:=by
 refine⟨fun n hn=>h n ?_,fun n hn=>h n ?_⟩ <;> simp only[DataW.weights,Tryd.underlying110] <;> simp[DataW.weightsEach,hn]
theorem wt_msg{y0 y1 y2 y3 y4 y5:DataW H}(h:Wt 40 (.agg [y0,y1,y2,y3,y4,y5])):Wt 34 y2∧Wt 37 y4∧Wt 38 y5:=by
 refine⟨fun n hn=>h n ?_,fun n hn=>h n ?_,fun n hn=>h n ?_⟩ <;> simp only[DataW.weights,Tryd.underlying40] <;> simp[DataW.weightsEach,hn]
theorem Xoz{fuel:Nat}{v:Value}{x:DataW H × List MemPlace}(h:DataW.trod enc Tryd.prog w base (fun _=>true) held fuel 34 [v]=some x)(hw:Wt 34 x.1) :
 ∃A n c l,v=.slice A n c∧n≤c∧c≤maxLen∧KeysIn w w.heap.size A n l∧(∀k ∈ l,k.length=32∧AllBytes k)∧l.length≤140737488355328:=by
 obtain⟨A,n,c,hcs,h1,h2,h3,h4⟩:=Xde Tryd.underlying34 (by rw[Xbz];omega) h hw;obtain rfl:v=.slice A n c:=by simpa using hcs
 rw[Xru]at h3;have:=Xeu;obtain⟨l,hl,hp⟩:=Xc6 (α:=List Int) (p:=fun i z=>(z.length=32∧AllBytes z)∧∃a,A=some a∧a.block<w.heap.size∧∀j u,(bv z)[j]?=some u→w.cell? (a.add (i*32+j))=some u) n fun i hi=>by
  obtain⟨a,cs',y,m,e1,e2,e3,e4,e5,_⟩:=h4 i hi;obtain⟨z,rfl,hz,hz'⟩:=Xfq Tryd.underlying68 Xbz e5;rw[Xbz]at e4;exact⟨z,⟨hz,hz'⟩,a,e1,e2,e4⟩
 subst hl;refine⟨A,l.length,c,l,rfl,h1,h2,KeysIn.of_at rfl fun i x hx=>⟨(hp i x hx).1.1,(hp i x hx).2⟩,fun k hk=>?_,by omega⟩;obtain⟨i,hi,rfl⟩:=List.getElem_of_mem hk;exact(hp i _ (List.getElem?_eq_getElem hi)).1
theorem Xrw{fuel:Nat}{v:Value}{x:DataW H × List MemPlace}(h:DataW.trod enc Tryd.prog w base (fun _=>true) held fuel 37 [v]=some x)(hw:Wt 37 x.1) :
 ∃A n c l,v=.slice A n c∧n≤c∧c≤maxLen∧InsIn w w.heap.size A n l∧(∀i ∈ l,(IsByte i.p∧AllBytes i.acc∧AllBytes i.dat)∧i.acc.length≤140737488355328∧i.dat.length≤140737488355328)∧l.length≤140737488355328:=by
 obtain⟨A,n,c,hcs,h1,h2,h3,h4⟩:=Xde Tryd.underlying37 (by rw[Xp2];omega) h hw;obtain rfl:v=.slice A n c:=by simpa using hcs
 rw[Xu5]at h3;have:=Xeu;obtain⟨l,hl,hp⟩:=Xc6 (α:=LIn) (p:=fun i z=>((IsByte z.p∧AllBytes z.acc∧AllBytes z.dat)∧z.acc.length≤140737488355328∧z.dat.length≤140737488355328) ∧
  ∃a va vd,A=some a∧a.block<w.heap.size∧w.cell? (a.add (i*3))=some (.int .u8 z.p)∧w.cell? (a.add (i*3+1))=some va∧w.cell? (a.add (i*3+2))=some vd∧BytesIn w w.heap.size va z.acc∧BytesIn w w.heap.size vd z.dat) n fun i hi=>by
  obtain⟨a,cs',y,m,e1,e2,e3,e4,e5,e6⟩:=h4 i hi;obtain⟨y0,y1,y2,k,rfl,hl,t0,t1,t2⟩:=Go.Deep.trod_struct3 Tryd.underlying108 e5;rw[Xp2]at e3 e4;obtain⟨c0,c1,c2,rfl⟩:∃c0 c1 c2,cs'=[c0,c1,c2]:=Xm7 e3;obtain⟨w1,w2⟩:=wt_in e6;have t0':DataW.trod enc Tryd.prog w base (fun _=>true) held k 5 [c0]=some y0:=by simpa [Xe1]using t0
  have t1':DataW.trod enc Tryd.prog w base (fun _=>true) held k 30 [c1]=some y1:=by simpa [Xig]using t1
  have t2':DataW.trod enc Tryd.prog w base (fun _=>true) held k 30 [c2]=some y2:=by simpa [Xig]using t2
  obtain⟨z,hz,_,hz'⟩:=DataW.trod_int Tryd.underlying5 t0';obtain rfl:c0=.int .u8 z:=by simpa using hz
  obtain⟨la,a1,a2,a3⟩:=Xcy t1' w1;obtain⟨ld,d1,d2,d3⟩:=Xcy t2' w2;exact⟨⟨z,la,ld⟩,⟨⟨Xdn hz',a2,d2⟩,a3,d3⟩,a,c1,c2,e1,e2,e4 0 _ rfl,e4 1 _ rfl,e4 2 _ rfl,a1,d1⟩
 subst hl;refine⟨A,l.length,c,l,rfl,h1,h2,⟨rfl,fun i x hx=>(hp i x hx).2⟩,fun k hk=>?_,by omega⟩;obtain⟨i,hi,rfl⟩:=List.getElem_of_mem hk;exact(hp i _ (List.getElem?_eq_getElem hi)).1
theorem Xmz{fuel:Nat}{v:Value}{x:DataW H × List MemPlace}(h:DataW.trod enc Tryd.prog w base (fun _=>true) held fuel 38 [v]=some x)(hw:Wt 38 x.1) :
 ∃A n c l,v=.slice A n c∧n≤c∧c≤maxLen∧LooksIn w w.heap.size A n l∧(∀i ∈ l,((i.tab.length=32∧AllBytes i.tab)∧AllBytes i.wr∧AllBytes i.rd)∧i.wr.length≤140737488355328∧i.rd.length≤140737488355328)∧l.length≤140737488355328:=by
 obtain⟨A,n,c,hcs,h1,h2,h3,h4⟩:=Xde Tryd.underlying38 (by rw[Xjg];omega) h hw;obtain rfl:v=.slice A n c:=by simpa using hcs
 rw[Xpn]at h3;have:=Xeu;obtain⟨l,hl,hp⟩:=Xc6 (α:=LLook) (p:=fun i z=>(((z.tab.length=32∧AllBytes z.tab)∧AllBytes z.wr∧AllBytes z.rd)∧z.wr.length≤140737488355328∧z.rd.length≤140737488355328) ∧
  ∃a va vd,A=some a∧a.block<w.heap.size∧(∀j u,(bv z.tab++[va,vd])[j]?=some u→w.cell? (a.add (i*34+j))=some u)∧z.tab.length=32∧BytesIn w w.heap.size va z.wr∧BytesIn w w.heap.size vd z.rd) n fun i hi=>by
  obtain⟨a,cs',y,m,e1,e2,e3,e4,e5,e6⟩:=h4 i hi;obtain⟨y0,y1,y2,k,rfl,hl,t0,t1,t2⟩:=Go.Deep.trod_struct3 Tryd.underlying110 e5;rw[Xjg]at e3 e4;obtain⟨w1,w2⟩:=Xtf e6;have t0':DataW.trod enc Tryd.prog w base (fun _=>true) held k 68 (cs'.take 32)=some y0:=by simpa [Xbz]using t0
  obtain⟨z,hz,hz1,hz2⟩:=Xfq Tryd.underlying68 Xbz t0';obtain⟨c1,c2,hc12⟩:∃c1 c2,cs'.drop 32=[c1,c2]:=Xsx (by rw[List.length_drop,e3]);obtain rfl:cs'=bv z++[c1,c2]:=by rw[←hz,←hc12,List.take_append_drop]
  have t1':DataW.trod enc Tryd.prog w base (fun _=>true) held k 30 [c1]=some y1:=by
   have:=t1;simp only[Xig]at this;rw[hc12]at this;exact this
  have t2':DataW.trod enc Tryd.prog w base (fun _=>true) held k 30 [c2]=some y2:=by
   have:=t2;simp only[Xig]at this;rw[show(33:Nat)=32+1 from rfl,←List.drop_drop,hc12]at this;exact this
  obtain⟨la,a1,a2,a3⟩:=Xcy t1' w1;obtain⟨ld,d1,d2,d3⟩:=Xcy t2' w2;exact⟨⟨z,la,ld⟩,⟨⟨⟨hz1,hz2⟩,a2,d2⟩,a3,d3⟩,a,c1,c2,e1,e2,e4,hz1,a1,d1⟩
 subst hl;refine⟨A,l.length,c,l,rfl,h1,h2,⟨rfl,fun i x hx=>(hp i x hx).2⟩,fun k hk=>?_,by omega⟩;obtain⟨i,hi,rfl⟩:=List.getElem_of_mem hk;exact(hp i _ (List.getElem?_eq_getElem hi)).1
end
theorem six_of{α:Type}{xs:List α}(h:xs.length=6):∃a b c d e f,xs=[a,b,c,d,e,f]:=by
 match xs,h with
 | [a,b,c,d,e,f],_=>exact⟨a,b,c,d,e,f,rfl⟩
theorem Xf0{cs:List Value}(h:cs.length=1):∃a,cs=[a]:=by
 match cs,h with
 | [a],_=>exact⟨a,rfl⟩
theorem Xgv:Tryd.prog.cellsOf 4=1:=by kernel_rfl
theorem Xpr:Tryd.prog.cellsOf 33=3:=by kernel_rfl
theorem Xpp:Tryd.prog.cellsOf 34=1:=by kernel_rfl
theorem Xrq:Tryd.prog.cellsOf 37=1:=by kernel_rfl
theorem Xno:Tryd.prog.cellsOf 38=1:=by kernel_rfl
theorem Xlp:Tryd.prog.cellsOf 40=39:=by kernel_rfl
theorem cut{α:Type}(cs:List α)(a k b:Nat)(h:a+k=b):cs.drop a=(cs.drop a).take k++cs.drop b:=by
 subst h;rw[←List.drop_drop,List.take_append_drop]
section
variable{H:Type}{enc:TypeId × Value→H}{w:World}{base b0:Nat}{held:Bool}
theorem Xhj{fuel:Nat}{cs:List Value}{x:DataW H × List MemPlace}(hf:DataW.trod enc Tryd.prog w base (fun _=>true) held fuel 40 cs=some x)(hw:Wt 40 x.1) :
 ∃q m,cs=Raw.cells q m∧MsgIn w w.heap.size q m∧m.Wf∧Sized m:=by
 obtain⟨xs,n,_,hx,hl,hlen,ht⟩:=DataW.trod_struct Tryd.underlying40 hf;rw[Xlp]at hl;obtain⟨y0,y1,y2,y3,y4,y5,rfl⟩:=six_of hlen;have hx1:x.1=.agg [y0.1,y1.1,y2.1,y3.1,y4.1,y5.1]:=by simpa using congrArg Prod.fst hx
 rw[hx1]at hw;obtain⟨w2,w4,w5⟩:=wt_msg hw;have t0:DataW.trod enc Tryd.prog w base (fun _=>true) held n 4 ((cs.drop 0).take 1)=some y0:=by rw[←Xgv];exact ht 0 _ rfl
 have t1:DataW.trod enc Tryd.prog w base (fun _=>true) held n 33 ((cs.drop 1).take 3)=some y1:=by rw[←Xpr];exact ht 1 _ rfl
 have t2:DataW.trod enc Tryd.prog w base (fun _=>true) held n 34 ((cs.drop 4).take 1)=some y2:=by rw[←Xpp];exact ht 2 _ rfl
 have t3:DataW.trod enc Tryd.prog w base (fun _=>true) held n 36 ((cs.drop 5).take 32)=some y3:=by rw[←Xj7];exact ht 3 _ rfl
 have t4:DataW.trod enc Tryd.prog w base (fun _=>true) held n 37 ((cs.drop 37).take 1)=some y4:=by rw[←Xrq];exact ht 4 _ rfl
 have t5:DataW.trod enc Tryd.prog w base (fun _=>true) held n 38 ((cs.drop 38).take 1)=some y5:=by rw[←Xno];exact ht 5 _ rfl
 have hsplit:cs=(cs.drop 0).take 1++((cs.drop 1).take 3++((cs.drop 4).take 1++((cs.drop 5).take 32++((cs.drop 37).take 1++(cs.drop 38).take 1)))):=by
  have e5:cs.drop 38=(cs.drop 38).take 1:=(List.take_of_length_le (by rw[List.length_drop];omega)).symm;rw[←e5,←cut cs 37 1 38 rfl,←cut cs 5 32 37 rfl,←cut cs 4 1 5 rfl,←cut cs 1 3 4 rfl,←cut cs 0 1 1 rfl];rfl
 obtain⟨b,hb,_⟩:=DataW.trod_bool Tryd.underlying4 t0;obtain⟨z0,z1,z2,k,_,_,s0,s1,s2⟩:=Go.Deep.trod_struct3 Tryd.underlying33 t1;obtain⟨c0,c1,c2,hc⟩:=Xm7 (cs:=(cs.drop 1).take 3) (by simp;omega);rw[hc]at s0 s1 s2;have s0':DataW.trod enc Tryd.prog w base (fun _=>true) held k 5 [c0]=some z0:=by simpa [Xe1]using s0
 have s1':DataW.trod enc Tryd.prog w base (fun _=>true) held k 5 [c1]=some z1:=by simpa [Xe1]using s1
 have s2':DataW.trod enc Tryd.prog w base (fun _=>true) held k 5 [c2]=some z2:=by simpa [Xe1]using s2
 obtain⟨i0,hi0,_,wi0⟩:=DataW.trod_int Tryd.underlying5 s0';obtain⟨i1,hi1,_,wi1⟩:=DataW.trod_int Tryd.underlying5 s1';obtain⟨i2,hi2,_,wi2⟩:=DataW.trod_int Tryd.underlying5 s2';obtain⟨v2,hv2⟩:=Xf0 (cs:=(cs.drop 4).take 1) (by simp;omega);obtain⟨v4,hv4⟩:=Xf0 (cs:=(cs.drop 37).take 1) (by simp;omega);obtain⟨v5,hv5⟩:=Xf0 (cs:=(cs.drop 38).take 1) (by simp;omega);rw[hv2]at t2;rw[hv4]at t4;rw[hv5]at t5;obtain⟨KA,kn,kc,ks,rfl,k1,k2,k3,k4,k5⟩:=Xoz t2 w2;obtain⟨hh,hh1,hh2,hh3⟩:=Xfq Tryd.underlying36 Xj7 t3;obtain⟨IA,ni,ic,is,rfl,n1,n2,n3,n4,n5⟩:=Xrw t4 w4;obtain⟨LA,ln,lc,ls,rfl,l1,l2,l3,l4,l5⟩:=Xmz t5 w5;obtain rfl:c0=.int .u8 i0:=by simpa using hi0
 obtain rfl:c1=.int .u8 i1:=by simpa using hi1
 obtain rfl:c2=.int .u8 i2:=by simpa using hi2
 refine⟨⟨KA,kn,kc,IA,ni,ic,LA,ln,lc⟩,⟨b,i0,i1,i2,ks,hh,is,ls⟩,?_,⟨hh2,k3,n3,l3,⟨k1,k2⟩,⟨n1,n2⟩,⟨l1,l2⟩⟩,
  ⟨Xdn wi0,Xdn wi1,Xdn wi2,k4,⟨hh2,hh3⟩,fun i hi=>(n4 i hi).1,fun l hl=>(l4 l hl).1⟩,⟨k5,n5,l5,fun i hi=>(n4 i hi).2,fun l hl=>(l4 l hl).2⟩⟩
 rw[hsplit,hb,hc,hv2,hh1,hv4,hv5];rfl
end
theorem SigsIn.of_at{w:World}{B:Nat}{A:Option Addr}{n:Nat}{l:List (List Int)}(hn:l.length=n)(h:∀(i:Nat) x,l[i]?=some x→x.length=64∧∃a,A=some a∧a.block<B∧∀j u,(bv x)[j]?=some u→w.cell? (a.add (i*64+j))=some u):SigsIn w B A n l:=by
 have he:∀k ∈ l,k.length=64:=fun k hk=>by
  obtain⟨i,hi,rfl⟩:=List.getElem_of_mem hk;exact(h i _ (List.getElem?_eq_getElem hi)).1
 have hf:l.flatten.length=n*64:=by
  rw[←hn];clear hn h;induction l with
  | nil=>rfl
  | cons y r ih =>
   have h1:=ih (fun k hk=>he k (by simp[hk]));have h2:=he y (by simp);simp only[List.flatten_cons,List.length_append,List.length_cons,h1,h2];omega
 refine⟨hn,he,⟨by rw[bL];exact hf,fun i u hu=>?_⟩⟩;have hi:=(List.getElem?_eq_some_iff.1 hu).1;rw[bL,hf]at hi;have hk:i / 64<l.length:=by omega
 obtain⟨h1,a,rfl,h2,h3⟩:=h (i / 64) _ (List.getElem?_eq_getElem hk);refine⟨_,rfl,h2,?_⟩;have hlt:i % 64<(bv l[i / 64]).length:=by rw[bL,h1];omega
 obtain⟨u',hu'⟩:∃u',(bv l[i / 64])[i % 64]?=some u':=⟨_,List.getElem?_eq_getElem hlt⟩;have h4:=h3 _ _ hu';rw[show i / 64*64+i % 64=i by omega]at h4;rw[h4];rw[bv_getElem?]at hu hu';obtain⟨z',hz',rfl⟩:∃z,(l[i / 64])[i % 64]?=some z∧u'=.int .u8 z:=by
  cases hq:(l[i / 64])[i % 64]? with
  | none=>rw[hq]at hu';simp at hu'
  | some z=>rw[hq]at hu';exact⟨z,rfl,by simpa using hu'.symm⟩
 have h5:=Xcn 64 l (i / 64) _ (fun i y hy=>he y (List.mem_of_getElem? hy)) (List.getElem?_eq_getElem hk) (i % 64) z' hz';rw[show i / 64*64+i % 64=i by omega]at h5;rw[h5]at hu;exact hu
section
variable{H:Type}{enc:TypeId × Value→H}{w:World}{base b0:Nat}{held:Bool}
theorem Xic:Tryd.prog.cellsOf 209=64:=by kernel_rfl
theorem Xrr:Tryd.prog.bytesOf 209=64:=by kernel_rfl
theorem Xpj:Tryd.prog.cellsOf 31=1:=by kernel_rfl
theorem Xu3:Tryd.prog.cellsOf 42=40:=by kernel_rfl
theorem Xt8{t:TypeId}{fuel:Nat}{cs:List Value}{x:DataW H × List MemPlace}(ht:Tryd.prog.underlying t=some (.array 64 5))(hc:Tryd.prog.cellsOf t=64)(h:DataW.trod enc Tryd.prog w base (fun _=>true) held fuel t cs=some x) :
 ∃l:List Int,cs=bv l∧l.length=64∧AllBytes l:=by
 obtain⟨xs,m,_,_,hl,hxs,hat⟩:=DataW.trod_array ht h;obtain⟨l,hll,hp⟩:=Xc6 (α:=Int) (p:=fun i z=>IsByte z∧cs[i]?=some (.int .u8 z)) 64 fun i hi=>by
  have h1:=hat i hi;have hx:xs[i]?=some xs[i]:=List.getElem?_eq_getElem (by omega);rw[Xe1,hx]at h1;obtain⟨z,hz,_,hwz⟩:=DataW.trod_int Tryd.underlying5 h1;refine⟨z,Xdn hwz,?_⟩;have:=congrArg List.head? hz;simpa [List.head?_take]using this
 rw[hc]at hl;refine⟨l,List.ext_getElem? fun i=>?_,hll,fun z hz=>?_⟩
 ·by_cases hi:i<64
  ·have e:=List.getElem?_eq_getElem (l:=l) (i:=i) (by omega);rw[bv_getElem?,e,(hp i _ e).2];rfl
  ·rw[List.getElem?_eq_none (by omega),List.getElem?_eq_none (by rw[bL];omega)]
 ·obtain⟨i,hi,rfl⟩:=List.getElem_of_mem hz;exact(hp i _ (List.getElem?_eq_getElem hi)).1
theorem Xq2{fuel:Nat}{v:Value}{x:DataW H × List MemPlace}(h:DataW.trod enc Tryd.prog w base (fun _=>true) held fuel 31 [v]=some x)(hw:Wt 31 x.1) :
 ∃A n c l,v=.slice A n c∧n≤c∧c≤maxLen∧SigsIn w w.heap.size A n l∧(∀k ∈ l,k.length=64∧AllBytes k)∧l.length≤140737488355328:=by
 obtain⟨A,n,c,hcs,h1,h2,h3,h4⟩:=Xde Tryd.underlying31 (by rw[Xic];omega) h hw;obtain rfl:v=.slice A n c:=by simpa using hcs
 rw[Xrr]at h3;have:=Xeu;obtain⟨l,hl,hp⟩:=Xc6 (α:=List Int) (p:=fun i z=>(z.length=64∧AllBytes z)∧∃a,A=some a∧a.block<w.heap.size∧∀j u,(bv z)[j]?=some u→w.cell? (a.add (i*64+j))=some u) n fun i hi=>by
  obtain⟨a,cs',y,m,e1,e2,e3,e4,e5,_⟩:=h4 i hi;obtain⟨z,rfl,hz,hz'⟩:=Xt8 Tryd.underlying209 Xic e5;rw[Xic]at e4;exact⟨z,⟨hz,hz'⟩,a,e1,e2,e4⟩
 subst hl;refine⟨A,l.length,c,l,rfl,h1,h2,SigsIn.of_at rfl fun i x hx=>⟨(hp i x hx).1.1,(hp i x hx).2⟩,fun k hk=>?_,by omega⟩;obtain⟨i,hi,rfl⟩:=List.getElem_of_mem hk;exact(hp i _ (List.getElem?_eq_getElem hi)).1
theorem wt_tx{y0 y1:DataW H}(h:Wt 42 (.agg [y0,y1])):Wt 31 y0∧Wt 40 y1:=by
 refine⟨fun n hn=>h n ?_,fun n hn=>h n ?_⟩ <;> simp only[DataW.weights,Tryd.underlying42] <;> simp[DataW.weightsEach,hn]
theorem Xib{fuel:Nat}{cs:List Value}{x:DataW H × List MemPlace}(hf:DataW.trod enc Tryd.prog w base (fun _=>true) held fuel 42 cs=some x)(hw:Wt 42 x.1) :
 ∃s t,cs=TRaw.cells s t∧TxIn w w.heap.size s t∧t.Wf∧Sized t.m∧t.sigs.length≤140737488355328:=by
 obtain⟨xs,n,_,hx,hl,hlen,ht⟩:=DataW.trod_struct Tryd.underlying42 hf;rw[Xu3]at hl;obtain⟨y0,y1,rfl⟩:∃a b,xs=[a,b]:=by
  match xs,hlen with
  | [a,b],_=>exact⟨a,b,rfl⟩
 have hx1:x.1=.agg [y0.1,y1.1]:=by simpa using congrArg Prod.fst hx
 rw[hx1]at hw;obtain⟨w0,w1⟩:=wt_tx hw;have t0:DataW.trod enc Tryd.prog w base (fun _=>true) held n 31 ((cs.drop 0).take 1)=some y0:=by rw[←Xpj];exact ht 0 _ rfl
 have t1:DataW.trod enc Tryd.prog w base (fun _=>true) held n 40 ((cs.drop 1).take 39)=some y1:=by rw[←Xlp];exact ht 1 _ rfl
 have hsplit:cs=(cs.drop 0).take 1++(cs.drop 1).take 39:=by
  have e5:cs.drop 1=(cs.drop 1).take 39:=(List.take_of_length_le (by rw[List.length_drop];omega)).symm;rw[←e5,←cut cs 0 1 1 rfl];rfl
 obtain⟨v0,hv0⟩:=Xf0 (cs:=(cs.drop 0).take 1) (by simp;omega);rw[hv0]at t0;obtain⟨SA,sn,sc,ss,rfl,k1,k2,k3,k4,k5⟩:=Xq2 t0 w0;obtain⟨q,m,e1,e2,e3,e4⟩:=Xhj t1 w1;refine⟨⟨SA,sn,sc,q⟩,⟨ss,m⟩,?_,⟨k3,⟨k1,k2⟩,e2⟩,⟨k4,e3⟩,e4,k5⟩;rw[hsplit,hv0,e1];rfl
end
def ixs(l:LLook):Nat:=l.wr.length+l.rd.length
def tot(m:LMsg):Nat:=m.keys.length+lookSize m.looks
def astray(tt:Nat)(a:Int):Bool:=decide ((tt:Int)≤a)
def pstray(own:Nat)(p:Int):Bool:=decide (p=0∨(own:Int)≤p)
def stray(own tt:Nat)(i:LIn):Bool:=pstray own i.p||i.acc.any (astray tt)
def noix(l:LLook):Bool:=decide (ixs l=0)
def b1(x:LTx):Bool:=decide (x.m.s=0∨(x.sigs.length:Int)≠x.m.s)
def b2(m:LMsg):Bool:=decide (m.s≤m.r∨(m.keys.length:Int)<m.s+m.o)
def b3(m:LMsg):Bool:=m.looks.any noix
def b4(m:LMsg):Bool:=decide (64<tot m)
def b5(m:LMsg):Bool:=m.ins.any (stray m.keys.length (tot m))
def b6(m:LMsg):Bool:=decide (¬m.keys.Nodup)
def same32(x y:List Int)(is:List Nat):Bool:=is.all fun i=>x.getD i 0==y.getD i 0
theorem Xey(x y:List Int)(w:World):∀(is:List Nat),(∀i ∈ is,i<x.length∧i<y.length)→(Op.eqItems 9999 5 1 (bv x).toArray (bv y).toArray is).run Tryd.prog w=.ok (same32 x y is) w
 | [],_=>by simp[Op.eqItems,same32]
 | i::is,h=>by
  have hi:=h i (by simp);have hc:(bv x).toArray[i]?=some (.int .u8 (x.getD i 0)):=by
   rw[List.getElem?_toArray];exact bv_at hi.1
  have hd:(bv y).toArray[i]?=some (.int .u8 (y.getD i 0)):=by
   rw[List.getElem?_toArray];exact bv_at hi.2
  have p:=run_part_plain (P:=Tryd.prog) w Xix (xs:=(bv x).toArray) (off:=i) hc;have p2:=run_part_plain (P:=Tryd.prog) w Xix (xs:=(bv y).toArray) (off:=i) hd;have ih:=Xey x y w is fun k hk=>h k (by simp[hk])
  simp only[Op.eqItems,Nat.mul_one,Sem.run_bind,p,p2,Result.andThen_ok,run_equalIn_int w 9998 5 .u8 .u8 _ _ Tryd.underlying5];cases hb:(x.getD i 0==y.getD i 0)
  ·have:same32 x y (i::is)=false:=by simp only[same32,List.all_cons,hb,Bool.false_and]
   rw[this];simp
  ·have:same32 x y (i::is)=same32 x y is:=by simp only[same32,List.all_cons,hb,Bool.true_and]
   rw[this];simpa using ih
theorem Xfn{x y:List Int}{n:Nat}(hx:x.length=n)(hy:y.length=n):same32 x y (List.range n)=decide (x=y):=by
 rw[Bool.eq_iff_iff,decide_eq_true_iff];unfold same32;rw[List.all_eq_true];constructor
 ·intro h;refine List.ext_getElem (by omega) fun i h1 h2=>?_
  have:=h i (by simp;omega);rw[beq_iff_eq,List.getD_eq_getElem?_getD,List.getD_eq_getElem?_getD,List.getElem?_eq_getElem h1,List.getElem?_eq_getElem h2]at this;exact this
 ·rintro rfl i _;simp
theorem Xi1{x y:List Int}(hx:x.length=32)(hy:y.length=32)(w:World) :
 (binOp .eql 68 (.agg (bv x).toArray) (.agg (bv y).toArray)).run Tryd.prog w=.ok (.bool (decide (x=y))) w:=by
 obtain⟨i,hi⟩:=Xpm;rw[run_eql_struct,show(10000:Nat)=9999+1 from rfl,run_equalIn_array w 9999 _ _ Tryd.underlying68 hi,Xgm,Xey x y w _ (fun i hi=>by simp at hi;omega),Xfn hx hy];rfl
structure CsIn(sz:Nat)(w:World)(B:Nat)(A:Option Addr)(n:Nat)(l:List (List Value)):Prop where
 len:l.length=n
 each:∀k ∈ l,k.length=sz
 sees:Sees w B A (n*sz) l.flatten
theorem Xdc{sz:Nat}:∀{l:List (List Value)},(∀k ∈ l,k.length=sz)→l.flatten.length=l.length*sz
 | [],_=>by simp
 | y::r,h=>by
  rw[List.flatten_cons,List.length_append,Xdc (l:=r) (fun z hz=>h z (List.mem_cons_of_mem _ hz)),h y (by simp),List.length_cons,Nat.add_mul];omega
section
variable{sz n B B':Nat}{w w':World}{A:Option Addr}{l:List (List Value)}
theorem CsIn.keep(h:CsIn sz w B A n l)(hk:∀p:Addr,p.block<B→w'.cell? p=w.cell? p):CsIn sz w' B A n l:=⟨h.len,h.each,h.sees.keep hk⟩
theorem CsIn.below(h:CsIn sz w B A n l)(hb:Below B w w'):CsIn sz w' B A n l:=⟨h.len,h.each,h.sees.below hb⟩
theorem CsIn.more(h:CsIn sz w B A n l)(hB:B≤B'):CsIn sz w B' A n l:=⟨h.len,h.each,h.sees.more hB⟩
theorem CsIn.get(h:CsIn sz w B A n l){k:Nat}(hk:k<n)(h0:0<sz):∃a x,A=some a∧a.block<B∧l[k]?=some x∧x.length=sz∧∀j u,x[j]?=some u→w.cell? ((a.add (k*sz)).add j)=some u:=by
 obtain⟨x,hx⟩:∃x,l[k]?=some x:=⟨_,List.getElem?_eq_getElem (by rw[h.len];exact hk)⟩;have hxl:=h.each x (List.mem_of_getElem? hx);have hat:=Xcn sz l k x (fun i y hy=>h.each y (List.mem_of_getElem? hy)) hx;obtain⟨u0,hu0⟩:∃u,x[0]?=some u:=⟨_,List.getElem?_eq_getElem (by rw[hxl];exact h0)⟩;obtain⟨a,e,hb,_⟩:=h.sees.cell _ _ (hat 0 u0 hu0);refine⟨a,x,e,hb,hx,hxl,fun j u hu=>?_⟩;obtain⟨a',e',_,hc⟩:=h.sees.cell _ _ (hat j u hu);rw[e]at e';cases e'
 rw[Xce];exact hc
theorem CsIn.nil(w:World)(B:Nat)(A:Option Addr):CsIn sz w B A 0 []:=⟨rfl,by simp,by rw[Nat.zero_mul];exact Sees.nil _ _ _⟩
end
theorem Xm9{sz:Nat}{w:World}{g t:Nat}{l:List (List Value)}{ys:List Value}{n B:Nat}(hr:Row w g t (l.flatten++ys))(hn:l.length=n)(h:∀k ∈ l,k.length=sz)(hB:g<B):CsIn sz w B (some ⟨g,0,none⟩) n l:=
 ⟨hn,h,⟨by rw[Xdc h,hn],fun i u hu=>⟨_,rfl,hB,by
  rw[Xac,hr.cell,Nat.zero_add,List.getElem?_append_left (List.getElem?_eq_some_iff.1 hu).1];exact hu⟩⟩⟩
theorem Xmb{sz:Nat}{w:World}{base c n:Nat}{e:TypeId}{A:Option Addr}{l:List (List Value)}(h:w.ownsRow base e sz (.slice A n c) n l.flatten)(hn:l.length=n)(he:∀k ∈ l,k.length=sz)(h0:0<sz):CsIn sz w w.heap.size A n l:=by
 refine⟨hn,he,by rw[Xdc he,hn],fun i u hu=>?_⟩;have hl:i<l.flatten.length:=(List.getElem?_eq_some_iff.1 hu).1;rw[Xdc he,hn]at hl;rcases h.2 with⟨hv,rfl⟩ | ⟨g,cap,cur,hv,hg,hh,_,_,hsz,htk⟩
 ·rw[Nat.zero_mul]at hl;omega
 ·have hA:A=some ⟨g,0,none⟩:=by injection hv
  subst hA;exact⟨_,rfl,(Array.getElem?_eq_some_iff.1 hh).1,h.cells (g:=g) rfl i u hu⟩
structure LRole where
 key:List Int
 sg:Bool
 wr:Bool
theorem LRole.ext_iff'{a b:LRole}:a=b↔a.key=b.key∧a.sg=b.sg∧a.wr=b.wr:=by
 obtain⟨x,y,z⟩:=a;obtain⟨x',y',z'⟩:=b;constructor
 ·rintro h;cases h
  exact⟨rfl,rfl,rfl⟩
 ·rintro⟨h1,h2,h3⟩;simp only at h1 h2 h3;rw[h1,h2,h3]
instance:DecidableEq LRole:=fun a b=>decidable_of_iff (a.key=b.key∧a.sg=b.sg∧a.wr=b.wr) LRole.ext_iff'.symm
def LRole.cells(r:LRole):List Value:=bv r.key++[.bool r.sg,.bool r.wr]
def RoleOk(r:LRole):Prop:=r.key.length=32∧AllBytes r.key
theorem Xe8{r:LRole}(h:r.key.length=32):r.cells.length=34:=by simp[LRole.cells,bL,h]
theorem Xis(r:LRole):∀u ∈ r.cells,u.oneCell'=true:=by
 intro u hu;rcases List.mem_append.1 hu with hu | hu
 ·exact Xcd _ _ hu
 ·simp only[List.mem_cons,List.not_mem_nil,or_false]at hu;rcases hu with rfl | rfl <;> rfl
theorem Xt5{r:LRole}(h:r.key.length=32):r.cells[32]?=some (.bool r.sg):=by
 unfold LRole.cells;rw[List.getElem?_append_right (by rw[bL,h];omega),bL,h];rfl
theorem Xhf{r:LRole}(h:r.key.length=32):r.cells[33]?=some (.bool r.wr):=by
 unfold LRole.cells;rw[List.getElem?_append_right (by rw[bL,h];omega),bL,h];rfl
theorem Xc9{r:LRole}{j:Nat}{u:Value}(h:(bv r.key)[j]?=some u):r.cells[j]?=some u:=by
 unfold LRole.cells;rw[List.getElem?_append_left (List.getElem?_eq_some_iff.1 h).1];exact h
theorem Xfg{r:LRole}(h:r.key.length=32):(Tryd.prog.info? 82).map (·.size)=some r.cells.length:=by
 rw[Xe8 h];kernel_rfl
theorem Xcu(xs:Array Value)(off:Nat)(w:World):(part 68 xs off).run Tryd.prog w=.ok (.agg (xs.extract off (off+32))) w:=by
 have h1:(isAgg 68).run Tryd.prog w=.ok true w:=by kernel_rfl
 simp[part,h1]
theorem Xhp(d:Nat)(x y:List Int)(w:World):∀(is:List Nat),(∀i ∈ is,i<x.length∧i<y.length)→(Op.eqItems (d+1) 5 1 (bv x).toArray (bv y).toArray is).run Tryd.prog w=.ok (same32 x y is) w
 | [],_=>by simp[Op.eqItems,same32]
 | i::is,h=>by
  have hi:=h i (by simp);have hc:(bv x).toArray[i]?=some (.int .u8 (x.getD i 0)):=by
   rw[List.getElem?_toArray];exact bv_at hi.1
  have hd:(bv y).toArray[i]?=some (.int .u8 (y.getD i 0)):=by
   rw[List.getElem?_toArray];exact bv_at hi.2
  have p:=run_part_plain (P:=Tryd.prog) w Xix (xs:=(bv x).toArray) (off:=i) hc;have p2:=run_part_plain (P:=Tryd.prog) w Xix (xs:=(bv y).toArray) (off:=i) hd;have ih:=Xhp d x y w is fun k hk=>h k (by simp[hk])
  simp only[Op.eqItems,Nat.mul_one,Sem.run_bind,p,p2,Result.andThen_ok,run_equalIn_int w d 5 .u8 .u8 _ _ Tryd.underlying5];cases hb:(x.getD i 0==y.getD i 0)
  ·have:same32 x y (i::is)=false:=by simp only[same32,List.all_cons,hb,Bool.false_and]
   rw[this];simp
  ·have:same32 x y (i::is)=same32 x y is:=by simp only[same32,List.all_cons,hb,Bool.true_and]
   rw[this];simpa using ih
theorem Xjs(d:Nat){x y:List Int}(hx:x.length=32)(hy:y.length=32)(w:World) :
 (Op.equalIn (d+1+1) 68 (.agg (bv x).toArray) (.agg (bv y).toArray)).run Tryd.prog w=.ok (decide (x=y)) w:=by
 obtain⟨i,hi⟩:=Xpm;rw[run_equalIn_array w (d+1) _ _ Tryd.underlying68 hi,Xgm,Xhp d x y w _ (fun i hi=>by simp at hi;omega),Xfn hx hy]
structure RolesIn(w:World)(B:Nat)(A:Option Addr)(n:Nat)(l:List LRole):Prop where
 cs:CsIn 34 w B A n (l.map LRole.cells)
 ok:∀r ∈ l,RoleOk r
section
variable{n B B':Nat}{w w':World}{A:Option Addr}{l:List LRole}
theorem RolesIn.len(h:RolesIn w B A n l):l.length=n:=by have:=h.cs.len;rwa [List.length_map]at this
theorem RolesIn.keep(h:RolesIn w B A n l)(hk:∀p:Addr,p.block<B→w'.cell? p=w.cell? p):RolesIn w' B A n l:=⟨h.cs.keep hk,h.ok⟩
theorem RolesIn.below(h:RolesIn w B A n l)(hb:Below B w w'):RolesIn w' B A n l:=⟨h.cs.below hb,h.ok⟩
theorem RolesIn.more(h:RolesIn w B A n l)(hB:B≤B'):RolesIn w B' A n l:=⟨h.cs.more hB,h.ok⟩
theorem RolesIn.get(h:RolesIn w B A n l){k:Nat}(hk:k<n):∃a r,A=some a∧a.block<B∧l[k]?=some r∧RoleOk r∧∀j u,r.cells[j]?=some u→w.cell? ((a.add (k*34)).add j)=some u:=by
 obtain⟨a,x,e,hb,hx,_,hc⟩:=h.cs.get hk (by omega);rw[List.getElem?_map]at hx;obtain⟨r,hr,rfl⟩:=Option.map_eq_some_iff.1 hx;exact⟨a,r,e,hb,hr,h.ok r (List.mem_of_getElem? hr),hc⟩
theorem RolesIn.nil(w:World)(B:Nat)(A:Option Addr):RolesIn w B A 0 []:=⟨CsIn.nil _ _ _,by simp⟩
end
theorem Xmx{l:List LRole}(h:∀r ∈ l,RoleOk r):∀k ∈ l.map LRole.cells,k.length=34:=fun k hk=>by
 obtain⟨r,hr,rfl⟩:=List.mem_map.1 hk;exact Xe8 (h r hr).1
theorem Xof{w:World}{g t:Nat}{l:List LRole}{ys:List Value}{n B:Nat}(hr:Row w g t ((l.map LRole.cells).flatten++ys))(hn:l.length=n)(he:∀r ∈ l,RoleOk r)(hB:g<B):RolesIn w B (some ⟨g,0,none⟩) n l:=
 ⟨Xm9 hr (by rw[List.length_map,hn]) (Xmx he) hB,he⟩
def r0:LRole:=⟨List.replicate 32 0,false,false⟩
def zR:Value:=.agg r0.cells.toArray
theorem infoR:(Tryd.prog.info? 82).map (fun i=>(i.zero,i.size,i.bytes))=some (some zR,34,34):=by kernel_rfl
theorem Xtk{l:List Value}(hl:l.length=32):∃f:Fin 32→Value,l=List.ofFn f:=⟨fun i=>l.getD i undef,by
 refine List.ext_getElem (by simpa using hl) fun i h1 h2=>?_
 rw[List.getElem_ofFn,List.getD_eq_getElem?_getD,List.getElem?_eq_getElem h1];rfl⟩
end Go.Proofs.YtkhcgclnmdgpbaaDoor
