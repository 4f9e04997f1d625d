import Derived.Below
import Derived.Laws.OwnMore
import Derived.Deep.AppendLies
import Derived.Deep.Draws
import Derived.Lib.Hide
import Derived.Laws.MakeOwn
import Derived.Laws.CopyOwn
import Derived.Laws.Rows
import Derived.Maps.AppendAt
import Derived.OwnWalk
import Derived.Laws.BitsAllLaws
import Derived.WalkKit
import Derived.Test.YtaljfbbieefooaaGreatDoorRows
import Derived.WalkSpells
import Derived.WalkLawsBesides
import Derived.IntWalk
import Derived.Deep.QuietTactic
import Derived.BigQuiet
import Derived.Deep.MidRow
import Derived.Deep.WholeRow
import Derived.Great.BuildSlice
import Derived.Recover
import Derived.Deep.RegionHeld
import Derived.ChangeKeysEq
import Derived.Deep.RegionHeld2
import Derived.Deep.CutBlock
import Derived.Laws.Tables
set_option maxRecDepth 100000
set_option maxHeartbeats 16000000
set_option linter.unusedSimpArgs false
set_option linter.unusedVariables false
namespace Go.Proofs.YtaljfbbieefooaaGreatDoor
open Go.RowKit
theorem Hd {p:Prop} (h:p):Hid p:=Lib.hid h
theorem Br(B:Nat)(w:World):Below B w w:=Below.refl B w
theorem Lr(n:Nat):n≤n:=Nat.le_refl n
theorem Lq{a b c:Nat}(h:a≤b)(k:b≤c):a≤c:=Nat.le_trans h k
theorem nm:(∀(a:Act) (d:Tmp) (v:Value),a.put (some d) v={a with tmps:=a.tmps.setIfInBounds d v})∧(∀(a:Act) (v:Value),a.put none v=a)∧(∀(α:Type) (l:List α) (i:Nat) (x:α),l.toArray.setIfInBounds i x=(l.set i x).toArray)∧(∀(α:Type) (a b:α) (l:List α),(a::l).set 0 b=b::l)∧(∀(α:Type) (a b:α) (l:List α) (n:Nat),(a::l).set (n+1) b=a::l.set n b):=⟨fun _ _ _=>rfl,fun _ _=>rfl,fun _ _ _ _=>by simp,fun _ _ _ _=>rfl,fun _ _ _ _ _=>rfl⟩
def cv(k:IntKind)(zs:List Int):List Value:=zs.map (Value.int k)
def bv(zs:List Int):List Value:=cv .u8 zs
theorem Xqt(k:IntKind)(zs:List Int):(cv k zs).length=zs.length:=by simp[cv]
theorem bL(zs:List Int):(bv zs).length=zs.length:=Xqt _ zs
theorem Xes(xs ys:List Int):bv (xs++ys)=bv xs++bv ys:=by simp[bv,cv]
theorem bv_getElem?(zs:List Int)(i:Nat):(bv zs)[i]?=zs[i]?.map (Value.int .u8):=by simp[bv,cv]
theorem bv_at{zs:List Int}{i:Nat}(h:i<zs.length):(bv zs)[i]?=some (.int .u8 (zs.getD i 0)):=by
 rw[bv_getElem?,List.getD_eq_getElem?_getD,List.getElem?_eq_getElem h];rfl
theorem Xbj(zs:List Int):∀u ∈ bv zs,u.oneCell'=true:=by
 intro u hu;simp only[bv,cv,List.mem_map]at hu;obtain⟨z,_,rfl⟩:=hu;rfl
theorem Xpo{p:Prop}[Decidable p](h:p):Ending.returned (.bool true)=.returned (.bool (decide p)):=by rw[decide_eq_true h]
theorem Xie{p:Prop}[Decidable p](h:¬p):Ending.returned (.bool false)=.returned (.bool (decide p)):=by rw[decide_eq_false h]
theorem Xad(a:Addr)(n:Nat):(a.add n).block=a.block:=by unfold Addr.add;split <;> rfl
theorem Xc2(a:Addr)(i j:Nat):(a.add i).add j=a.add (i+j):=by
 unfold Addr.add;rcases Nat.eq_zero_or_pos i with hi | hi <;> rcases Nat.eq_zero_or_pos j with hj | hj
 ·simp[hi,hj]
 ·simp[hi,show j≠0 by omega]
 ·simp[hj,show i≠0 by omega]
 ·simp[show i≠0 by omega,show j≠0 by omega,Nat.add_assoc]
theorem Xa5(g i j:Nat):(⟨g,i,none⟩:Addr).add j=⟨g,i+j,none⟩:=by unfold Addr.add;split <;> simp_all
structure Sees(w:World)(B:Nat)(A:Option Addr)(n:Nat)(xs:List Value):Prop where
 len:xs.length=n
 cell:∀i u,xs[i]?=some u→∃a,A=some a∧a.block<B∧w.cell? (a.add i)=some u
section
variable{w w':World}{B B' n:Nat}{A:Option Addr}{xs:List Value}
theorem Sees.nil(w:World)(B:Nat)(A:Option Addr):Sees w B A 0 []:=⟨rfl,fun i u h=>by simp at h⟩
theorem Sees.keep(h:Sees w B A n xs)(hk:∀p:Addr,p.block<B→w'.cell? p=w.cell? p):Sees w' B A n xs:=
 ⟨h.len,fun i u hu=>by
  obtain⟨a,e,hb,hc⟩:=h.cell i u hu;exact⟨a,e,hb,(hk _ (by rw[Xad];exact hb)).trans hc⟩⟩
theorem Sees.more(h:Sees w B A n xs)(hB:B≤B'):Sees w B' A n xs:=
 ⟨h.len,fun i u hu=>by
  obtain⟨a,e,hb,hc⟩:=h.cell i u hu;exact⟨a,e,by omega,hc⟩⟩
theorem Sees.below(h:Sees w B A n xs)(hb:Below B w w'):Sees w' B A n xs:=h.keep fun _ hp=>hb.cell hp
theorem Sees.drew(h:Sees w B A n xs):Sees w.drew B A n xs:=⟨h.len,h.cell⟩
theorem Sees.drewN(h:Sees w B A n xs)(k:Nat):Sees (w.drewN k) B A n xs:=⟨h.len,h.cell⟩
theorem Sees.alloc(h:Sees w B A n xs)(hB:B≤w.heap.size)(o:Obj):Sees (w.alloc o) B A n xs:=h.keep fun p hp=>World.cell?_alloc_lt w o p (by omega)
theorem Sees.setCell(h:Sees w B A n xs){p:Addr}(hB:B≤p.block)(u:Value):Sees (w.setCell p u) B A n xs:=
 h.keep fun q hq=>World.cell?_setCell_other w p q u (fun e=>by subst e;omega)
theorem Sees.at_{k:Nat}(h:Sees w B A n xs)(hk:k<n):∃a u,A=some a∧a.block<B∧xs[k]?=some u∧w.cell? (a.add k)=some u:=by
 have hl:k<xs.length:=by have:=h.len;omega
 obtain⟨a,e,hb,hc⟩:=h.cell k _ (List.getElem?_eq_getElem hl);exact⟨a,_,e,hb,List.getElem?_eq_getElem hl,hc⟩
theorem Sees.byte{zs:List Int}{k:Nat}(h:Sees w B A n (bv zs))(hk:k<n):∃a,A=some a∧a.block<B∧w.cell? (a.add k)=some (.int .u8 (zs.getD k 0)):=by
 obtain⟨a,u,e,hb,hx,hc⟩:=h.at_ hk;have hl:k<zs.length:=by have:=h.len;rw[bL]at this;omega
 rw[bv_at hl]at hx;cases hx
 exact⟨a,e,hb,hc⟩
theorem Sees.of_own{base:Nat}{e:TypeId}{c:Nat}(h:w.ownsRow base e 1 (.slice A n c) n xs):Sees w w.heap.size A n xs:=by
 refine⟨by have:=h.1;omega,fun i u hu=>?_⟩;have hl:i<xs.length:=(List.getElem?_eq_some_iff.1 hu).1;rcases h.2 with⟨_,rfl⟩ | ⟨g,cap,cur,hv,hg,hh,hnc,_,hsz,htk⟩
 ·have:=h.1;omega
 ·have hA:A=some ⟨g,0,none⟩:=by injection hv
  subst hA;exact⟨_,rfl,(Array.getElem?_eq_some_iff.1 hh).1,h.cells (g:=g) rfl i u hu⟩
end
structure Row(w:World)(g:Nat)(t:TypeId)(xs:List Value):Prop where
 is:w.heap[g]?=some (.cells xs.toArray t (0,0))
section
variable{w w':World}{g:Nat}{t:TypeId}{xs:List Value}
theorem Row.lt(h:Row w g t xs):g<w.heap.size:=(Array.getElem?_eq_some_iff.1 h.is).1
theorem Row.cell(h:Row w g t xs)(i:Nat):w.cell? ⟨g,i,none⟩=xs[i]?:=by rw[cell_of_row w g i xs.toArray t (0,0) h.is];simp
theorem Row.frozen(h:Row w g t xs)(i:Nat):w.frozen? ⟨g,i,none⟩=false:=by
 have:=h.is;simp[World.frozen?,this]
theorem Row.new(w:World)(t:TypeId)(xs:List Value):Row (w.alloc (.cells xs.toArray t)) w.heap.size t xs:=⟨heap_alloc_new w _⟩
theorem Row.new'(w:World)(t:TypeId)(xs:List Value){g:Nat}(hg:w.heap.size=g):Row (w.alloc (.cells xs.toArray t)) g t xs:=hg ▸ Row.new w t xs
theorem Row.drew(h:Row w g t xs):Row w.drew g t xs:=⟨h.is⟩
theorem Row.drewN(h:Row w g t xs)(n:Nat):Row (w.drewN n) g t xs:=⟨h.is⟩
theorem Row.alloc(h:Row w g t xs)(o:Obj):Row (w.alloc o) g t xs:=⟨(Below.heap_alloc w o g h.lt).trans h.is⟩
theorem Row.set_(h:Row w g t xs)(i:Nat)(u:Value):Row (w.setCell ⟨g,i,none⟩ u) g t (xs.set i u):=by
 have:=h.is;exact⟨by simp[World.setCell,Array.getElem?_modify,this]⟩
theorem Row.far(h:Row w g t xs){p:Addr}(hp:g≠p.block)(u:Value):Row (w.setCell p u) g t xs:=⟨(Below.heap_setCell w p u g hp).trans h.is⟩
theorem Row.below{B:Nat}(h:Row w g t xs)(hb:Below B w w')(hg:g<B):Row w' g t xs:=⟨(hb.block g hg).trans h.is⟩
theorem Row.grown{row:Option Nat}(h:Row w g t xs)(hb:w.grownBy w' row)(hg:some g≠row):Row w' g t xs:=⟨(hb.block g h.lt hg).trans h.is⟩
theorem Row.sees(h:Row w g t xs)(o:Nat):Sees w w.heap.size (some ⟨g,o,none⟩) (xs.length - o) (xs.drop o):=
 ⟨by simp,fun i u hu=>⟨_,rfl,h.lt,by rw[Xa5,h.cell];simpa using hu⟩⟩
theorem Row.sees0(h:Row w g t xs):Sees w w.heap.size (some ⟨g,0,none⟩) xs.length xs:=by simpa using h.sees 0
theorem Row.own(h:Row w g t xs){base:Nat}(hb:base≤g){n:Nat}(hn:n≤xs.length)(hm:xs.length≤maxLen):w.ownsRow base t 1 (.slice (some ⟨g,0,none⟩) n xs.length) n (xs.take n):=
 ⟨by simp;omega,.inr ⟨g,xs.length,xs.toArray,rfl,hb,h.is,hn,hm,by simp,by simp⟩⟩
theorem Row.of_own{base:Nat}{n:Nat}(h:w.ownsRow base t 1 (.slice (some ⟨g,0,none⟩) n n) n xs):Row w g t xs:=by
 rcases h.2 with⟨hv,_⟩ | ⟨g',cap,cur,hv,_,hh,_,_,hs,ht⟩
 ·cases hv
 ·cases hv
  have:cur=xs.toArray:=by
   rw[←ht,List.take_of_length_le (by simp;omega)]
  exact⟨by rw[hh,this]⟩
end
section
variable{P:Program}{w:World}{base:Nat}{t ty e:TypeId}{i:TypeInfo}{z:Value}{bytes:Nat}{v:Value}{n m c B:Nat}{A:Option Addr}{xs news:List Value}
theorem Xg1(ht:P.underlying t=some (.slice e))(hi:P.info? e=some i)(hown:w.ownsRow base e 1 v n xs)(c:Nat) :
 (Builtin.append_ #[t,t] ty #[v,.slice none 0 c]).run P w=.ok v w:=by
 rcases hown.2 with⟨rfl,rfl⟩ | ⟨g,cap,cur,rfl,_,_,hnc,_⟩ <;>
  simp[Builtin.append_,run_underlying ht,sizeOf,typeInfo,Builtin.lenOf,Builtin.firstCells,storeCells, *]
theorem Xhp(ht:P.underlying t=some (.slice e))(hi:P.info? e=some i)(hz:i.zero=some z)(hsize:i.size=1)(hby:i.bytes=bytes)(hzs:z.cells.size=1)
 (hown:w.ownsRow base e 1 v n xs) (hr:Sees w B A m news) (h1:∀u ∈ news,u.oneCell'=true) (hnm:n+m≤maxLen) (hbytes:(n+m)*bytes≤140737488355328) (hbase:base≤w.heap.size) (c:Nat) :
 ∃v' w',(Builtin.append_ #[t,t] ty #[v,.slice A m c]).run P w=.ok v' w'∧w'.ownsRow base e 1 v' (n+m) (xs++news)∧w.grownBy w' v.ownBlock∧(v'.ownBlock=v.ownBlock∨v'.ownBlock=some w.heap.size):=by
 cases A with
 | none =>
  have hn:news=[]:=by
   cases news with
   | nil=>rfl
   | cons u r =>
    obtain⟨a,h,_⟩:=hr.cell 0 u rfl;cases h
  subst hn;obtain rfl:m=0:=by simpa using hr.len.symm
  exact⟨v,w,Xg1 ht hi hown c,by simpa using hown,World.grownBy.refl w _,.inl rfl⟩
 | some ad =>
  obtain⟨v',w',hrun,h2,h3,_,h5⟩:=run_append_own_at (P:=P) w base t ty e i z 1 bytes ht hi hz hsize hby hzs (by omega) v n xs hown ad m c news (by rw[hr.len];omega)
   (fun j u hu=>by
     obtain⟨a,h,_,hc⟩:=hr.cell j u hu;cases h
     exact hc) h1 hnm hbytes hbase
  exact⟨v',w',hrun,h2,h3,h5⟩
theorem Xcl{o:Oper}{a:Act}{K:Act→World→Prop}{Q:Exit→Act→World→Prop}(s x:Operand)
 (ho:o.op=.call { callee:=.builtin .append,args:=#[s,x],argTypes:=#[t,t] })
 (ht:P.underlying t=some (.slice e)) (hi:P.info? e=some i) (hz:i.zero=some z) (hsize:i.size=1) (hby:i.bytes=bytes) (hzs:z.cells.size=1)
 (hs:a.eval s=v) (hown:w.ownsRow base e 1 v n xs) (hx:a.eval x=.slice A m c) (hr:Sees w B A m news) (h1:∀u ∈ news,u.oneCell'=true)
 (hnm:n+m≤maxLen) (hbytes:(n+m)*bytes≤140737488355328) (hbase:base≤w.heap.size)
 (h:∀v' w',w'.ownsRow base e 1 v' (n+m) (xs++news)→w.grownBy w' v.ownBlock→(v'.ownBlock=v.ownBlock∨v'.ownBlock=some w.heap.size)→K (a.put o.dst v') w'):o.wp P a w K Q:=by
 obtain⟨v',w',hrun,h2,h3,h4⟩:=Xhp (P:=P) (ty:=o.type) ht hi hz hsize hby hzs hown hr h1 hnm hbytes hbase c;unfold Oper.wp execOp;simp only[ho,resolve,invoke,builtin,Sem.run_bind,Sem.run_pure,Result.andThen_ok,List.map_toArray,List.map_cons,List.map_nil,hs,hx,hrun];exact h v' w' h2 h3 h4
end
theorem Xfs{w:World}{base:Nat}{e:TypeId}{v:Value}{n:Nat}{xs:List Value}(h:w.ownsRow base e 1 v n xs):∃A c,v=.slice A n c:=by
 rcases h.2 with⟨rfl,rfl⟩ | ⟨g,cap,cur,rfl,_⟩
 ·exact⟨_,_,rfl⟩
 ·exact⟨_,_,rfl⟩
theorem Xd0{w:World}{base:Nat}{e t:TypeId}{v:Value}{n g:Nat}{xs ys:List Value}(h:w.ownsRow base e 1 v n xs)(hr:Row w g t ys)(hne:e≠t):some g≠v.ownBlock:=by
 rcases h.2 with⟨rfl,_⟩ | ⟨g',cap,cur,rfl,_,hh,_⟩
 ·simp[Value.ownBlock]
 ·intro he;have hg:g=g':=by simpa [Value.ownBlock]using he
  subst hg;have:=hr.is;rw[hh]at this;injection this with this
  injection this with _ ht
  exact hne ht
theorem Xh5(w:World)(p:Addr)(u:Value):w.grownBy (w.setCell p u) (some p.block):=
 ⟨rfl,rfl,rfl,by simp[World.setCell],fun k _ hne=>Below.heap_setCell w p u k (fun e=>hne (by rw[e]))⟩
theorem Xvx{w:World}{base:Nat}{e t:TypeId}{v:Value}{n g:Nat}{xs ys:List Value}(h:w.ownsRow base e 1 v n xs)(hr:Row w g t ys)(hne:e≠t)(i:Nat)(u:Value):(w.setCell ⟨g,i,none⟩ u).ownsRow base e 1 v n xs:=
 h.kept (Xh5 w _ u) (.inr (fun e'=>Xd0 h hr hne e'.symm))
theorem Xmu(k y x:Nat)(hy:y<2 ^ k)(hx:x % 2 ^ k=0):y ||| x=y+x:=by
 obtain⟨q,rfl⟩:2 ^ k∣x:=Nat.dvd_of_mod_eq_zero hx;rw[Nat.or_comm,Nat.add_comm,Nat.two_pow_add_eq_or_of_lt hy]
section
variable(k:Nat)(y x:Int)(h0:0≤y)(h1:y<2 ^ k)(h2:0≤x)(h3:x % 2 ^ k=0)
include h0 h1 h2 h3
theorem Xpu:∃a b:Nat,y=a∧x=b∧a ||| b=a+b:=by
 obtain⟨a,rfl⟩:=Int.eq_ofNat_of_zero_le h0;obtain⟨b,rfl⟩:=Int.eq_ofNat_of_zero_le h2;exact⟨a,b,rfl,rfl,Xmu k a b (by exact_mod_cast h1) (by exact_mod_cast h3)⟩
theorem Xpv(hy:y<18446744073709551616)(hx:x<18446744073709551616):bits .or .u64 y x=y+x:=by
 obtain⟨a,b,rfl,rfl,h⟩:=Xpu k y x h0 h1 h2 h3;rw[u64_or_nat a b (by omega) (by omega),h];simp
end
theorem Xrn:(Tryz.prog.info? 5).map (fun i=>(i.zero,i.size,i.bytes))=some (some (.int .u8 0),1,1):=by kernel_rfl
theorem Xo5(n:Nat):(madeCells (Value.int .u8 0).cells (n*1)).toList=bv (List.replicate n 0):=by
 apply List.ext_getElem?
 intro i;simp[madeCells,bv,cv,Value.cells];by_cases h:i<n <;> simp[h,Nat.mod_one]
theorem Xpa:(Tryz.prog.info? 106).map (fun i=>(i.zero,i.size,i.bytes))=some (some .nilIface,1,16):=by kernel_rfl
theorem Xvm(p:Nat)(A:Option Addr)(n c:Nat)(w:World)(hr:Row w p 54 [.slice A n c])(hn:n≤1000000) :
 Calls Tryz.prog 70 #[.pointer (some ⟨p,0,none⟩)] w fun e w'=>e=.returned (.int .i64 ((n:Int)+1))∧w=w':=by
 have c0:w.cell? ⟨p,0,none⟩=some (.slice A n c):=hr.cell 0;clear hr;go_enter Tryz.func70,Tryz.ntmps70
 go_wp2;go_ret;exact⟨rfl,rfl⟩
theorem Xfq{a b c:World}{r:Option Nat}(h:a.grownBy b r)(k:b.grownBy c r):a.grownBy c r:=
 ⟨k.os.trans h.os,k.tape.trans h.tape,k.output.trans h.output,Lq h.size k.size,fun i hi hne=>(k.block i (Nat.lt_of_lt_of_le hi h.size) hne).trans (h.block i hi hne)⟩
def short(n:Int):List Int:=
 if n<128 then[n]else if n<16384 then[n % 128+128,n / 128]else[n % 128+128,n / 128 % 128+128,n / 16384]
structure LIn where
 p:Int
 acc:List Int
 dat:List Int
structure LLook where
 tab:List Int
 wr:List Int
 rd:List Int
structure LMsg where
 v0:Bool
 s:Int
 r:Int
 o:Int
 keys:List (List Int)
 recent:List Int
 ins:List LIn
 looks:List LLook
def encL(l:List Int):List Int:=short l.length++l
def encIn(i:LIn):List Int:=i.p::(encL i.acc++encL i.dat)
def encLook(l:LLook):List Int:=l.tab++(encL l.wr++encL l.rd)
def encHead(m:LMsg):List Int:=(if m.v0 then[128]else[])++[m.s,m.r,m.o]
def encTail(m:LMsg):List Int:=if m.v0 then short m.looks.length++m.looks.flatMap encLook else[]
def enc(m:LMsg):List Int:=encHead m++(short m.keys.length++(m.keys.flatten++(m.recent++(short m.ins.length++(m.ins.flatMap encIn++encTail m)))))
def IsByte(z:Int):Prop:=0≤z∧z<256
def AllBytes(l:List Int):Prop:=∀z ∈ l,IsByte z
structure LMsg.Wf(m:LMsg):Prop where
 s:IsByte m.s
 r:IsByte m.r
 o:IsByte m.o
 keys:∀k ∈ m.keys,k.length=32∧AllBytes k
 recent:m.recent.length=32∧AllBytes m.recent
 ins:∀i ∈ m.ins,IsByte i.p∧AllBytes i.acc∧AllBytes i.dat
 looks:∀l ∈ m.looks,(l.tab.length=32∧AllBytes l.tab)∧AllBytes l.wr∧AllBytes l.rd
structure BytesIn(w:World)(B:Nat)(v:Value)(l:List Int):Prop where
 is:∃A c,v=.slice A l.length c∧Sees w B A l.length (bv l)∧l.length≤c∧c≤maxLen
structure InsIn(w:World)(B:Nat)(A:Option Addr)(n:Nat)(l:List LIn):Prop where
 len:l.length=n
 at_:∀i x,l[i]?=some x→∃a va vd,A=some a∧a.block<B∧w.cell? (a.add (i*3))=some (.int .u8 x.p)∧w.cell? (a.add (i*3+1))=some va∧w.cell? (a.add (i*3+2))=some vd∧BytesIn w B va x.acc∧BytesIn w B vd x.dat
structure LooksIn(w:World)(B:Nat)(A:Option Addr)(n:Nat)(l:List LLook):Prop where
 len:l.length=n
 at_:∀i x,l[i]?=some x→∃a va vd,A=some a∧a.block<B∧(∀j u,(bv x.tab++[va,vd])[j]?=some u→w.cell? (a.add (i*34+j))=some u)∧x.tab.length=32∧BytesIn w B va x.wr∧BytesIn w B vd x.rd
structure KeysIn(w:World)(B:Nat)(A:Option Addr)(n:Nat)(l:List (List Int)):Prop where
 len:l.length=n
 each:∀k ∈ l,k.length=32
 sees:Sees w B A (n*32) (bv l.flatten)
structure Raw where
 KA:Option Addr
 kn:Nat
 kc:Nat
 IA:Option Addr
 n:Nat
 ic:Nat
 LA:Option Addr
 ln:Nat
 lc:Nat
def Raw.cells(q:Raw)(m:LMsg):List Value:=
 [.bool m.v0,.int .u8 m.s,.int .u8 m.r,.int .u8 m.o,.slice q.KA q.kn q.kc]++(bv m.recent++[.slice q.IA q.n q.ic,.slice q.LA q.ln q.lc])
structure MsgIn(w:World)(B:Nat)(q:Raw)(m:LMsg):Prop where
 recent:m.recent.length=32
 keys:KeysIn w B q.KA q.kn m.keys
 ins:InsIn w B q.IA q.n m.ins
 looks:LooksIn w B q.LA q.ln m.looks
 kn:q.kn≤q.kc∧q.kc≤maxLen
 n:q.n≤q.ic∧q.ic≤maxLen
 ln:q.ln≤q.lc∧q.lc≤maxLen
section
variable{w w':World}{B B':Nat}
theorem BytesIn.keep{v:Value}{l:List Int}(h:BytesIn w B v l)(hk:∀p:Addr,p.block<B→w'.cell? p=w.cell? p):BytesIn w' B v l:=by
 obtain⟨A,c,e,hs,h1,h2⟩:=h.is;exact⟨A,c,e,hs.keep hk,h1,h2⟩
theorem BytesIn.more{v:Value}{l:List Int}(h:BytesIn w B v l)(hB:B≤B'):BytesIn w B' v l:=by
 obtain⟨A,c,e,hs,h1,h2⟩:=h.is;exact⟨A,c,e,hs.more hB,h1,h2⟩
theorem InsIn.keep{A:Option Addr}{n:Nat}{l:List LIn}(h:InsIn w B A n l)(hk:∀p:Addr,p.block<B→w'.cell? p=w.cell? p):InsIn w' B A n l:=
 ⟨h.len,fun i x hx=>by
  obtain⟨a,va,vd,e,hb,h1,h2,h3,h4,h5⟩:=h.at_ i x hx;exact⟨a,va,vd,e,hb,(hk _ (by rw[Xad];exact hb)).trans h1,(hk _ (by rw[Xad];exact hb)).trans h2,(hk _ (by rw[Xad];exact hb)).trans h3,h4.keep hk,h5.keep hk⟩⟩
theorem InsIn.more{A:Option Addr}{n:Nat}{l:List LIn}(h:InsIn w B A n l)(hB:B≤B'):InsIn w B' A n l:=
 ⟨h.len,fun i x hx=>by
  obtain⟨a,va,vd,e,hb,h1,h2,h3,h4,h5⟩:=h.at_ i x hx;exact⟨a,va,vd,e,by omega,h1,h2,h3,h4.more hB,h5.more hB⟩⟩
theorem LooksIn.keep{A:Option Addr}{n:Nat}{l:List LLook}(h:LooksIn w B A n l)(hk:∀p:Addr,p.block<B→w'.cell? p=w.cell? p):LooksIn w' B A n l:=
 ⟨h.len,fun i x hx=>by
  obtain⟨a,va,vd,e,hb,h1,h2,h4,h5⟩:=h.at_ i x hx;exact⟨a,va,vd,e,hb,fun j u hu=>(hk _ (by rw[Xad];exact hb)).trans (h1 j u hu),h2,h4.keep hk,h5.keep hk⟩⟩
theorem LooksIn.more{A:Option Addr}{n:Nat}{l:List LLook}(h:LooksIn w B A n l)(hB:B≤B'):LooksIn w B' A n l:=
 ⟨h.len,fun i x hx=>by
  obtain⟨a,va,vd,e,hb,h1,h2,h4,h5⟩:=h.at_ i x hx;exact⟨a,va,vd,e,by omega,h1,h2,h4.more hB,h5.more hB⟩⟩
theorem KeysIn.keep{A:Option Addr}{n:Nat}{l:List (List Int)}(h:KeysIn w B A n l)(hk:∀p:Addr,p.block<B→w'.cell? p=w.cell? p):KeysIn w' B A n l:=⟨h.len,h.each,h.sees.keep hk⟩
theorem KeysIn.more{A:Option Addr}{n:Nat}{l:List (List Int)}(h:KeysIn w B A n l)(hB:B≤B'):KeysIn w B' A n l:=⟨h.len,h.each,h.sees.more hB⟩
variable{q:Raw}{m:LMsg}
theorem MsgIn.keep(h:MsgIn w B q m)(hk:∀p:Addr,p.block<B→w'.cell? p=w.cell? p):MsgIn w' B q m:=⟨h.recent,h.keys.keep hk,h.ins.keep hk,h.looks.keep hk,h.kn,h.n,h.ln⟩
theorem MsgIn.more(h:MsgIn w B q m)(hB:B≤B'):MsgIn w B' q m:=⟨h.recent,h.keys.more hB,h.ins.more hB,h.looks.more hB,h.kn,h.n,h.ln⟩
theorem MsgIn.below(h:MsgIn w B q m)(hb:Below B w w'):MsgIn w' B q m:=h.keep fun _ hp=>hb.cell hp
theorem MsgIn.alloc(h:MsgIn w B q m)(hB:B≤w.heap.size)(o:Obj):MsgIn (w.alloc o) B q m:=h.keep fun p hp=>World.cell?_alloc_lt w o p (by omega)
theorem MsgIn.drewN(h:MsgIn w B q m)(n:Nat):MsgIn (w.drewN n) B q m:=h.keep fun p hp=>rfl
theorem InsIn.below{A:Option Addr}{n:Nat}{l:List LIn}(h:InsIn w B A n l)(hb:Below B w w'):InsIn w' B A n l:=h.keep fun _ hp=>hb.cell hp
theorem LooksIn.below{A:Option Addr}{n:Nat}{l:List LLook}(h:LooksIn w B A n l)(hb:Below B w w'):LooksIn w' B A n l:=h.keep fun _ hp=>hb.cell hp
theorem KeysIn.below{A:Option Addr}{n:Nat}{l:List (List Int)}(h:KeysIn w B A n l)(hb:Below B w w'):KeysIn w' B A n l:=h.keep fun _ hp=>hb.cell hp
theorem BytesIn.below{v:Value}{l:List Int}(h:BytesIn w B v l)(hb:Below B w w'):BytesIn w' B v l:=h.keep fun _ hp=>hb.cell hp
end
section
variable{q:Raw}{m:LMsg}
theorem Xby(h:m.recent.length=32):(q.cells m).length=39:=by simp[Raw.cells,bL,h]
theorem Xuz:(q.cells m)[0]?=some (.bool m.v0):=rfl
theorem Xuh:(q.cells m)[1]?=some (.int .u8 m.s):=rfl
theorem Xuo:(q.cells m)[2]?=some (.int .u8 m.r):=rfl
theorem Xui:(q.cells m)[3]?=some (.int .u8 m.o):=rfl
theorem Xvq:(q.cells m)[4]?=some (.slice q.KA q.kn q.kc):=rfl
theorem Xev(h:m.recent.length=32):(q.cells m)[37]?=some (.slice q.IA q.n q.ic):=by
 simp[Raw.cells,bL,h]
theorem Xfv(h:m.recent.length=32):(q.cells m)[38]?=some (.slice q.LA q.ln q.lc):=by
 simp[Raw.cells,bL,h]
theorem Xgr{j:Nat}{u:Value}(h:(bv m.recent)[j]?=some u):(q.cells m)[5+j]?=some u:=by
 have hj:=(List.getElem?_eq_some_iff.1 h).1;simp only[Raw.cells];rw[List.getElem?_append_right (by simp),List.getElem?_append_left (by simpa using hj)];simpa using h
theorem Xhf:∀u ∈ q.cells m,u.oneCell'=true:=by
 intro u hu;simp only[Raw.cells,List.mem_append,List.mem_cons,List.not_mem_nil,or_false]at hu;rcases hu with(rfl | rfl | rfl | rfl | rfl) | hu | rfl | rfl
 all_goals first | rfl | exact Xbj _ _ hu
end
def mea(zs:List Int):Int × Int:=
 if zs.length=0 then(0,5)
 else if zs.getD 0 0<128 then(1,0)
 else if zs.length=1 then(0,5)
 else if zs.getD 1 0=0 then(0,4)
 else if zs.getD 1 0<128 then(2,0)
 else if zs.length=2 then(0,5)
 else if zs.getD 2 0=0∨3<zs.getD 2 0 then(0,4)else(3,0)
def Bytes(zs:List Int):Prop:=∀i,0≤zs.getD i 0∧zs.getD i 0<256
theorem Xfr{k l:IntKind}{a b:Int}{p:Int × Int}(h:p=(a,b)):Ending.returned (.tuple #[.int k a,.int l b])=.returned (.tuple #[.int k p.1,.int l p.2]):=by rw[h]
def getS(zs:List Int):Int × Int × Int:=
 let m:=mea zs
 if m.2=0 then
  (if m.1=1 then zs.getD 0 0 else if m.1=2 then zs.getD 0 0 - 128+128*zs.getD 1 0 else zs.getD 0 0 - 128+128*(zs.getD 1 0 - 128)+16384*zs.getD 2 0,m.1,0)
 else(0,0,m.2)
abbrev PR(α:Type):=Except Int (α × List Int)
def pTake(n:Nat)(zs:List Int):PR (List Int):=if zs.length<n then .error 5 else .ok (zs.take n,zs.drop n)
def pOctet(zs:List Int):PR Int:=match zs with | []=>.error 5 | z::r=>.ok (z,r)
def pShort(zs:List Int):PR Nat:=if (getS zs).2.2=0 then .ok ((getS zs).1.toNat,zs.drop (getS zs).2.1.toNat)else .error (getS zs).2.2
def pMany{α:Type}(one:List Int→PR α):Nat→List Int→PR (List α)
 | 0,zs=>.ok ([],zs)
 | n+1,zs=>match pMany one n zs with
  | .error c=>.error c
  | .ok (l,r)=>match one r with
   | .error c=>.error c
   | .ok (x,r')=>.ok (l++[x],r')
def pList{α:Type}(one:List Int→PR α)(zs:List Int):PR (List α):=match pShort zs with
 | .error c=>.error c
 | .ok (n,r)=>pMany one n r
def pBytes(zs:List Int):PR (List Int):=pList pOctet zs
def pIn(zs:List Int):PR LIn:=match pOctet zs with
 | .error c=>.error c
 | .ok (p,r)=>match pBytes r with
  | .error c=>.error c
  | .ok (a,r)=>match pBytes r with
   | .error c=>.error c
   | .ok (d,r)=>.ok (⟨p,a,d⟩,r)
def pLook(zs:List Int):PR LLook:=match pTake 32 zs with
 | .error c=>.error c
 | .ok (t,r)=>match pBytes r with
  | .error c=>.error c
  | .ok (a,r)=>match pBytes r with
   | .error c=>.error c
   | .ok (d,r)=>.ok (⟨t,a,d⟩,r)
def pFirst(zs:List Int):PR (Bool × Int):=match pOctet zs with
 | .error c=>.error c
 | .ok (f,r)=>if 128<f then .error 4 else if f=128 then(match pOctet r with
  | .error c=>.error c
  | .ok (s,r)=>.ok ((true,s),r))else .ok ((false,f),r)
def pLooks(v0:Bool)(zs:List Int):PR (List LLook):=if v0 then pList pLook zs else .ok ([],zs)
def pMsg(zs:List Int):PR LMsg:=match pFirst zs with
 | .error c=>.error c
 | .ok ((v0,s),r)=>match pOctet r with
  | .error c=>.error c
  | .ok (rs,r)=>match pOctet r with
   | .error c=>.error c
   | .ok (ro,r)=>match pList (pTake 32) r with
    | .error c=>.error c
    | .ok (ks,r)=>match pTake 32 r with
     | .error c=>.error c
     | .ok (h,r)=>match pList pIn r with
      | .error c=>.error c
      | .ok (is,r)=>match pLooks v0 r with
       | .error c=>.error c
       | .ok (ls,r)=>.ok (⟨v0,s,rs,ro,ks,h,is,ls⟩,r)
theorem AllBytes.drop{zs:List Int}(h:AllBytes zs)(k:Nat):AllBytes (zs.drop k):=fun z hz=>h z (List.mem_of_mem_drop hz)
theorem AllBytes.take{zs:List Int}(h:AllBytes zs)(k:Nat):AllBytes (zs.take k):=fun z hz=>h z (List.mem_of_mem_take hz)
theorem AllBytes.bytes{zs:List Int}(h:AllBytes zs):Bytes zs:=by
 intro i;rw[List.getD_eq_getElem?_getD];by_cases hi:i<zs.length
 ·rw[List.getElem?_eq_getElem hi];exact h _ (List.getElem_mem hi)
 ·rw[List.getElem?_eq_none (by omega)];simp
section
variable{P:Program}
theorem Xc0(w:World)(p:Addr)(ty:TypeId)(cs:List Value)(d:TypeDesc)(hc:∀j v,cs[j]?=some v→w.cell? (p.add j)=some v)
 (hu:P.underlying ty=some d) (hd:d.isRow=true) (hi:(P.info? ty).map (·.size)=some cs.length) :
 (Instr.loadAt ty (.pointer (some p))).run P w=.ok (.agg cs.toArray) w:=by
 have hl:(loadCells p cs.length).run P w=.ok cs.toArray w:=run_loadCells_list (P:=P) w p cs hc;cases hq:P.info? ty with
 | none=>simp[hq]at hi
 | some i =>
  have hs:i.size=cs.length:=by simpa [hq]using hi
  have hagg:(isAgg ty).run P w=.ok true w:=by
   unfold isAgg;rw[Sem.run_bind,run_underlying hu w];cases d <;> simp_all
  simp[Instr.loadAt,Instr.sureAddr,loadVar,Sem.run_bind,hagg,sizeOf,typeInfo,hq,hs,hl]
theorem Xa3{ops:Array Oper}{rest:List Oper}{op:Oper}{a:Act}{w:World}{Q:Exit→Act→World→Prop}(hgd:op.guard=none)(ty:TypeId)(x:Operand)(ho:op.op=.load ty x)
 (p:Addr) (cs:List Value) (d:TypeDesc) (hu:P.underlying ty=some d) (hd:d.isRow=true) (hi:(P.info? ty).map (·.size)=some cs.length) (hc:∀j v,cs[j]?=some v→w.cell? (p.add j)=some v)
 (hx:a.eval x=.pointer (some p)) (h:wpList P ops Q rest (a.put op.dst (.agg cs.toArray)) w):wpList P ops Q (op::rest) a w:=
 wpList_plain hgd fun _ hK=>by
  unfold Oper.wp execOp;simp only[ho,hx,Sem.run_bind,Sem.run_pure,Xc0 w p ty cs d hc hu hd hi,Result.andThen_ok];exact hK _ _ h
theorem Xa1{ops:Array Oper}{rest:List Oper}{op:Oper}{a:Act}{w:World}{Q:Exit→Act→World→Prop}(hgd:op.guard=none)(ty:TypeId)(x:Operand)(ho:op.op=.load ty x)
 (g t:Nat) (cs:List Value) (d:TypeDesc) (hu:P.underlying ty=some d) (hd:d.isRow=true) (hi:(P.info? ty).map (·.size)=some cs.length) (hr:Row w g t cs)
 (hx:a.eval x=.pointer (some ⟨g,0,none⟩)) (h:wpList P ops Q rest (a.put op.dst (.agg cs.toArray)) w):wpList P ops Q (op::rest) a w:=
 Xa3 hgd ty x ho ⟨g,0,none⟩ cs d hu hd hi (fun j v hv=>by rw[Xa5,hr.cell];simpa using hv) hx h
theorem Xdl(w:World)(g ty:Nat)(c cs:List Value)(hr:Row w g ty c)(hi:(P.info? ty).map (·.size)=some cs.length)(hl:c.length=cs.length)(h1:∀u ∈ cs,u.oneCell'=true) :
 (Instr.storeAt ty (.pointer (some ⟨g,0,none⟩)) (.agg cs.toArray)).run P w=.ok () (w.setRow g cs.toArray):=by
 have:=run_storeVar_row (P:=P) w g ty ty c.toArray cs.toArray hr.is (by simpa using hi) (by simpa using hl) (all_oneCell_toArray h1);simp only[Instr.storeAt,Instr.sureAddr,Sem.run_bind,Sem.run_pure,Result.andThen_ok,this]
structure Turned(w w':World)(g:Nat):Prop where
 os:w'.os=w.os
 tape:w'.tape=w.tape
 output:w'.output=w.output
 size:w'.heap.size=w.heap.size
 block:∀k,k≠g→w'.heap[k]?=w.heap[k]?
theorem Xe4(w:World)(g:Nat)(cs:Array Value):Turned w (w.setRow g cs) g:=
 ⟨rfl,rfl,rfl,by simp,fun k hk=>setRow_other w g k cs hk⟩
theorem Xa6(w:World)(p:Addr)(u:Value):Turned w (w.setCell p u) p.block:=
 ⟨rfl,rfl,rfl,by simp[World.setCell],fun k hk=>Below.heap_setCell _ _ _ _ hk⟩
theorem Xgc{w:World}{g t:Nat}{c:List Value}(hr:Row w g t c)(cs:List Value):Row (w.setRow g cs.toArray) g t cs:=
 ⟨setRow_heap w g c.toArray cs.toArray t _ hr.is⟩
theorem Turned.below{w w':World}{g B:Nat}(h:Turned w w' g)(hB:B≤g):Below B w w':=
 ⟨h.os,h.tape,h.output,by rw[h.size];exact Lr _,fun k hk=>h.block k (by omega)⟩
theorem Turned.row{w w':World}{g k t:Nat}{xs:List Value}(h:Turned w w' g)(hr:Row w k t xs)(hk:k≠g):Row w' k t xs:=⟨(h.block k hk).trans hr.is⟩
theorem Xab{ops:Array Oper}{rest:List Oper}{op:Oper}{a:Act}{w:World}{Q:Exit→Act→World→Prop}(hgd:op.guard=none)(ty:TypeId)(x y:Operand)(ho:op.op=.store ty x y)
 (g:Nat) (c cs:List Value) (hr:Row w g ty c) (hi:(P.info? ty).map (·.size)=some cs.length) (hl:c.length=cs.length) (h1:∀u ∈ cs,u.oneCell'=true)
 (hx:a.eval x=.pointer (some ⟨g,0,none⟩)) (hy:a.eval y=.agg cs.toArray)
 (h:∀w',Row w' g ty cs→Turned w w' g→wpList P ops Q rest (a.put op.dst undef) w'):wpList P ops Q (op::rest) a w:=
 wpList_plain hgd fun _ hK=>by
  unfold Oper.wp execOp;simp only[ho,hx,hy,Sem.run_bind,Sem.run_pure,Xdl w g ty c cs hr hi hl h1,Result.andThen_ok];exact hK _ _ (h _ (Xgc hr cs) (Xe4 w g _))
theorem Xa2{ops:Array Oper}{rest:List Oper}{op:Oper}{a:Act}{w0:World}{c:Array Value}{Q:Exit→Act→World→Prop}(hgd:op.guard=none)(ty:TypeId)(x y:Operand)(ho:op.op=.store ty x y)
 (cs:List Value) (hi:(P.info? ty).map (·.size)=some cs.length) (h1:∀u ∈ cs,u.oneCell'=true) (hl:c.size=cs.length)
 (hx:a.eval x=.pointer (some ⟨w0.heap.size,0,none⟩)) (hy:a.eval y=.agg cs.toArray)
 (h:∀w',Row w' w0.heap.size ty cs→Below w0.heap.size w0 w'→w'.heap.size=w0.heap.size+1→wpList P ops Q rest (a.put op.dst undef) w'):wpList P ops Q (op::rest) a (w0.alloc (.cells c ty)):=by
 have hr:Row (w0.alloc (.cells c ty)) w0.heap.size ty c.toList:=by
  have:=Row.new w0 ty c.toList;simpa using this
 refine Xab hgd ty x y ho w0.heap.size c.toList cs hr hi (by simpa using hl) h1 hx hy fun w' hr' ht=>?_
 exact h w' hr' (((Br _ w0).alloc (Lr _) _).trans (ht.below (Lr _))) (by rw[ht.size];simp)
theorem Xei{g t:Nat}:∀(cs:List Value) (w:World) (o:Nat) (c:List Value),Row w g t c→o+cs.length≤c.length→Row (w.setCells g o cs) g t (c.take o++cs++c.drop (o+cs.length))
 | [],w,o,c,h,_=>by simpa [World.setCells]using h
 | v::r,w,o,c,h,hl=>by
  have h1:=Xei r (w.setCell ⟨g,o,none⟩ v) (o+1) (c.set o v) (h.set_ o v) (by simp at hl ⊢;omega);have e:(c.set o v).take (o+1)++r++(c.set o v).drop (o+1+r.length)=c.take o++(v::r)++c.drop (o+(v::r).length):=by
   have ho:o<c.length:=by simp at hl;omega
   rw[List.take_succ_eq_append_getElem (by simpa using ho),List.drop_set_of_lt (by omega),List.take_set_of_le (Lr o)];simp only[List.getElem_set_self,List.append_assoc,List.cons_append,List.nil_append,List.length_cons];rw[show o+1+r.length=o+(r.length+1) by omega]
  rw[e]at h1;exact h1
theorem Xd3{g:Nat}:∀(cs:List Value) (w:World) (o:Nat),Turned w (w.setCells g o cs) g
 | [],w,o=>⟨rfl,rfl,rfl,rfl,fun _ _=>rfl⟩
 | v::r,w,o=>by
  have h1:=Xa6 w ⟨g,o,none⟩ v;have h2:=Xd3 (g:=g) r (w.setCell ⟨g,o,none⟩ v) (o+1);exact⟨h2.os.trans h1.os,h2.tape.trans h1.tape,h2.output.trans h1.output,h2.size.trans h1.size,fun k hk=>(h2.block k hk).trans (h1.block k hk)⟩
theorem Xak{ops:Array Oper}{rest:List Oper}{op:Oper}{a:Act}{w:World}{Q:Exit→Act→World→Prop}(hgd:op.guard=none)(ty:TypeId)(x y:Operand)(ho:op.op=.store ty x y)
 (g t o:Nat) (c cs:List Value) (hr:Row w g t c) (hi:(P.info? ty).map (·.size)=some cs.length) (hl:o+cs.length≤c.length) (h1:∀u ∈ cs,u.oneCell'=true)
 (hx:a.eval x=.pointer (some ⟨g,o,none⟩)) (hy:a.eval y=.agg cs.toArray)
 (h:∀w',Row w' g t (c.take o++cs++c.drop (o+cs.length))→Turned w w' g→wpList P ops Q rest (a.put op.dst undef) w'):wpList P ops Q (op::rest) a w:=
 wpList_store_mid hgd ty x y ho g o cs.toArray hx hy (fun j hj=>⟨by
  have hj':j<cs.length:=by simpa using hj
  rw[hr.cell,List.getElem?_eq_getElem (by omega)];rfl,hr.frozen _⟩) (by simpa using hi) (all_oneCell_toArray h1)
  (h _ (by simpa using Xei cs w o c hr hl) (Xd3 cs w o))
end
def OwnB(w:World)(base:Nat)(v:Value)(xs:List Int):Prop:=w.ownsRow base 5 1 v xs.length (bv xs)
theorem Xas{w w':World}{base n size:Nat}{e:TypeId}{v:Value}{xs:List Value}(h:w.ownsRow base e size v n xs)(hb:Below w.heap.size w w'):w'.ownsRow base e size v n xs:=by
 refine⟨h.1,?_⟩;rcases h.2 with h2 | ⟨g,cap,cur,hv,hg,hh,r⟩
 ·exact .inl h2
 ·exact .inr ⟨g,cap,cur,hv,hg,(hb.block g (Array.getElem?_eq_some_iff.1 hh).1).trans hh,r⟩
theorem OwnB.below{w w':World}{base:Nat}{v:Value}{xs:List Int}(h:OwnB w base v xs)(hb:Below w.heap.size w w'):OwnB w' base v xs:=Xas h hb
theorem OwnB.alloc{w:World}{base:Nat}{v:Value}{xs:List Int}(h:OwnB w base v xs)(o:Obj):OwnB (w.alloc o) base v xs:=World.ownsRow.alloc h o
theorem OwnB.nil(w:World)(base:Nat):OwnB w base (.slice none 0 0) []:=World.ownsRow_nil w base _ _
theorem OwnB.drewN{w:World}{base:Nat}{v:Value}{xs:List Int}(h:OwnB w base v xs)(k:Nat):OwnB (w.drewN k) base v xs:=h
theorem OwnB.form{w:World}{base:Nat}{v:Value}{xs:List Int}(h:OwnB w base v xs):∃A c,v=.slice A xs.length c:=Xfs h
theorem OwnB.sees{w:World}{base:Nat}{A:Option Addr}{n c:Nat}{xs:List Int}(h:OwnB w base (.slice A n c) xs):Sees w w.heap.size A n (bv xs):=by
 obtain⟨A',c',e⟩:=h.form;cases e
 exact Sees.of_own h
structure Grew(w w':World)(v v':Value):Prop where
 grown:w.grownBy w' v.ownBlock
 fresh:∀k,v'.ownBlock=some k→v.ownBlock=some k∨w.heap.size≤k
section
variable{w w' w'':World}{v v' v'':Value}
theorem Grew.refl(w:World)(v:Value):Grew w w v v:=⟨World.grownBy.refl w _,fun k h=>.inl h⟩
theorem Grew.size(h:Grew w w' v v'):w.heap.size≤w'.heap.size:=h.grown.size
theorem Grew.trans(h:Grew w w' v v')(k:Grew w' w'' v' v''):Grew w w'' v v'':=
 ⟨⟨k.grown.os.trans h.grown.os,k.grown.tape.trans h.grown.tape,k.grown.output.trans h.grown.output,Lq h.size k.size,fun i hi hne =>
  (k.grown.block i (Nat.lt_of_lt_of_le hi h.size) fun e=>by
    rcases h.fresh i e.symm with h1 | h1
    ·exact hne h1.symm
    ·omega).trans (h.grown.block i hi hne)⟩,
  fun i hi=>by
   rcases k.fresh i hi with h1 | h1
   ·exact h.fresh i h1
   ·exact .inr (Lq h.size h1)⟩
theorem Grew.of_below(hb:Below w.heap.size w w')(v:Value):Grew w w' v v:=⟨⟨hb.os,hb.tape,hb.output,hb.size,fun k hk _=>hb.block k hk⟩,fun k h=>.inl h⟩
theorem Grew.alloc(h:Grew w w' v v')(o:Obj):Grew w (w'.alloc o) v v':=h.trans (.of_below ((Br _ _).alloc (Lr _) o) v')
theorem Grew.row{g t:Nat}{ys:List Value}(h:Grew w w' v v')(hr:Row w g t ys)(hg:some g≠v.ownBlock):Row w' g t ys:=hr.grown h.grown hg
theorem Grew.ne{g:Nat}(h:Grew w w' v v')(hg:some g≠v.ownBlock)(hlt:g<w.heap.size):some g≠v'.ownBlock:=fun e=>by
 rcases h.fresh g e.symm with h1 | h1
 ·exact hg h1.symm
 ·omega
theorem Grew.below{base n size:Nat}{e:TypeId}{xs:List Value}(h:Grew w w' v v')(hown:w.ownsRow base e size v n xs)(hbase:base≤w.heap.size):Below base w w':=
 (Br base w).grown h.grown hbase fun k hk=>(hown.lt k hk).1
end
structure MsgRow(w:World)(g:Nat)(q:Raw)(m:LMsg):Prop where
 c0:w.cell? ⟨g,0,none⟩=some (.bool m.v0)
 c1:w.cell? ⟨g,1,none⟩=some (.int .u8 m.s)
 c2:w.cell? ⟨g,2,none⟩=some (.int .u8 m.r)
 c3:w.cell? ⟨g,3,none⟩=some (.int .u8 m.o)
 c4:w.cell? ⟨g,4,none⟩=some (.slice q.KA q.kn q.kc)
 c37:w.cell? ⟨g,37,none⟩=some (.slice q.IA q.n q.ic)
 c38:w.cell? ⟨g,38,none⟩=some (.slice q.LA q.ln q.lc)
theorem MsgRow.of{w:World}{g t:Nat}{q:Raw}{m:LMsg}(hr:Row w g t (q.cells m))(h:m.recent.length=32):MsgRow w g q m:=
 ⟨(hr.cell 0).trans Xuz,(hr.cell 1).trans Xuh,(hr.cell 2).trans Xuo,(hr.cell 3).trans Xui,(hr.cell 4).trans Xvq,(hr.cell 37).trans (Xev h),(hr.cell 38).trans (Xfv h)⟩
theorem Xcv:(Tryz.prog.info? 32).map (·.size)=some 39:=by kernel_rfl
theorem Xan:(Tryz.prog.info? 62).map (·.size)=some 32:=by kernel_rfl
theorem Xre:(Tryz.prog.info? 28).map (·.size)=some 32:=by kernel_rfl
def inCells(p:Int)(va vd:Value):List Value:=[.int .u8 p,va,vd]
theorem Xlj{p:Int}{va vd:Value}{w w':World}{B B':Nat}{l l':List Int}(ha:BytesIn w B va l)(hd:BytesIn w' B' vd l'):∀u ∈ inCells p va vd,u.oneCell'=true:=by
 obtain⟨_,_,rfl,_⟩:=ha.is;obtain⟨_,_,rfl,_⟩:=hd.is;intro u hu;simp only[inCells,List.mem_cons,List.not_mem_nil,or_false]at hu;rcases hu with rfl | rfl | rfl <;> rfl
structure InAt(w:World)(B:Nat)(a:Addr)(k:Nat)(x:LIn)(va vd:Value):Prop where
 cells:∀j u,(inCells x.p va vd)[j]?=some u→w.cell? ((a.add (k*3)).add j)=some u
 acc:BytesIn w B va x.acc
 dat:BytesIn w B vd x.dat
theorem InsIn.get{w:World}{B n:Nat}{A:Option Addr}{l:List LIn}(h:InsIn w B A n l){k:Nat}(hk:k<n):∃a x va vd,A=some a∧a.block<B∧l[k]?=some x∧InAt w B a k x va vd:=by
 obtain⟨x,hx⟩:∃x,l[k]?=some x:=⟨_,List.getElem?_eq_getElem (by rw[h.len];exact hk)⟩;obtain⟨a,va,vd,rfl,hb,h1,h2,h3,h4,h5⟩:=h.at_ k x hx;refine⟨a,x,va,vd,rfl,hb,hx,fun j u hu=>?_,h4,h5⟩;rw[Xc2];match j,hu with
 | 0,hu=>cases hu;exact h1
 | 1,hu=>cases hu;exact h2
 | 2,hu=>cases hu;exact h3
theorem InAt.keep{w w':World}{B k:Nat}{a:Addr}{x:LIn}{va vd:Value}(h:InAt w B a k x va vd)(ha:a.block<B)(hk:∀p:Addr,p.block<B→w'.cell? p=w.cell? p):InAt w' B a k x va vd:=
 ⟨fun j u hu=>(hk _ (by rw[Xad,Xad];exact ha)).trans (h.cells j u hu),h.acc.keep hk,h.dat.keep hk⟩
structure LookAt(w:World)(B:Nat)(a:Addr)(k:Nat)(x:LLook)(va vd:Value):Prop where
 cells:∀j u,(bv x.tab++[va,vd])[j]?=some u→w.cell? ((a.add (k*34)).add j)=some u
 len:x.tab.length=32
 wr:BytesIn w B va x.wr
 rd:BytesIn w B vd x.rd
theorem LooksIn.get{w:World}{B n:Nat}{A:Option Addr}{l:List LLook}(h:LooksIn w B A n l){k:Nat}(hk:k<n):∃a x va vd,A=some a∧a.block<B∧l[k]?=some x∧LookAt w B a k x va vd:=by
 obtain⟨x,hx⟩:∃x,l[k]?=some x:=⟨_,List.getElem?_eq_getElem (by rw[h.len];exact hk)⟩;obtain⟨a,va,vd,rfl,hb,h1,h2,h4,h5⟩:=h.at_ k x hx;exact⟨a,x,va,vd,rfl,hb,hx,fun j u hu=>by rw[Xc2];exact h1 j u hu,h2,h4,h5⟩
theorem LookAt.size{w:World}{B k:Nat}{a:Addr}{x:LLook}{va vd:Value}(h:LookAt w B a k x va vd):(bv x.tab++[va,vd]).length=34:=by simp[bL,h.len]
theorem Xhg:∀(l:List (List Int)) (k:Nat) (x:List Int),(∀y ∈ l,y.length=32)→l[k]?=some x→∀j,j<32→l.flatten[k*32+j]?=x[j]?
 | [],k,x,_,h,_,_=>by simp at h
 | y::r,0,x,hl,h,j,hj=>by
  have:y=x:=by simpa using h
  subst this;have hy:=hl y (by simp);rw[List.flatten_cons,List.getElem?_append_left (by omega)];simp
 | y::r,k+1,x,hl,h,j,hj=>by
  have hy:=hl y (by simp);rw[List.flatten_cons,List.getElem?_append_right (by omega)];have:=Xhg r k x (fun z hz=>hl z (by simp[hz])) (by simpa using h) j hj;rw[←this];congr 1
  omega
theorem Xc7:∀(l:List (List Int)),(∀y ∈ l,y.length=32)→l.flatten.length=l.length*32
 | [],_=>rfl
 | y::r,h=>by
  have:=Xc7 r (fun z hz=>h z (by simp[hz]));have hy:=h y (by simp);simp only[List.flatten_cons,List.length_append,List.length_cons,this,hy];omega
theorem Xgm{l:List (List Int)}{k:Nat}{x:List Int}(h:l[k]?=some x):(l.take (k+1)).flatten=(l.take k).flatten++x:=by
 rw[List.take_add_one,List.flatten_append,h];simp
structure KeyAt(w:World)(a:Addr)(k:Nat)(x:List Int):Prop where
 cells:∀j u,(bv x)[j]?=some u→w.cell? ((a.add (k*32)).add j)=some u
 len:x.length=32
theorem KeysIn.get{w:World}{B n:Nat}{A:Option Addr}{l:List (List Int)}(h:KeysIn w B A n l){k:Nat}(hk:k<n):∃a x,A=some a∧a.block<B∧l[k]?=some x∧KeyAt w a k x:=by
 obtain⟨x,hx⟩:∃x,l[k]?=some x:=⟨_,List.getElem?_eq_getElem (by rw[h.len];exact hk)⟩;have hxl:=h.each x (List.mem_of_getElem? hx);obtain⟨a,u,e,hb,_,_⟩:=h.sees.at_ (k:=k*32) (by omega);refine⟨a,x,e,hb,hx,fun j u hu=>?_,hxl⟩;have hj:j<32:=by have:=(List.getElem?_eq_some_iff.1 hu).1;rw[bL]at this;omega
 rw[bv_getElem?,←Xhg l k x h.each hx j hj,←bv_getElem?]at hu;obtain⟨a',e',_,hc⟩:=h.sees.cell _ u hu;rw[e]at e';cases e'
 rw[Xc2];exact hc
theorem KeyAt.keep{w w':World}{B k:Nat}{a:Addr}{x:List Int}(h:KeyAt w a k x)(ha:a.block<B)(hk:∀p:Addr,p.block<B→w'.cell? p=w.cell? p):KeyAt w' a k x:=
 ⟨fun j u hu=>(hk _ (by rw[Xad,Xad];exact ha)).trans (h.cells j u hu),h.len⟩
theorem OwnB.row{w:World}{base:Nat}{v:Value}{ys:List Int}(h:OwnB w base v ys)(h0:0<ys.length):∃g rest c,v=.slice (some ⟨g,0,none⟩) ys.length c∧base≤g∧Row w g 5 (bv ys++rest)∧ys.length≤c∧c≤maxLen:=by
 rcases h.2 with⟨_,h1⟩ | ⟨g,cap,cur,rfl,hg,hh,h2,h3,h4,h5⟩
 ·omega
 ·refine⟨g,cur.toList.drop ys.length,cap,rfl,hg,⟨?_⟩,h2,h3⟩;rw[hh];have:bv ys++cur.toList.drop ys.length=cur.toList:=by
   rw[←h5];simp
  rw[this]
theorem MsgRow.keep{w w':World}{g B:Nat}{q:Raw}{m:LMsg}(h:MsgRow w g q m)(hg:g<B)(hb:Below B w w'):MsgRow w' g q m:=
 have k:∀o,w'.cell? ⟨g,o,none⟩=w.cell? ⟨g,o,none⟩:=fun o=>hb.cell hg
 ⟨(k 0).trans h.c0,(k 1).trans h.c1,(k 2).trans h.c2,(k 3).trans h.c3,(k 4).trans h.c4,(k 37).trans h.c37,(k 38).trans h.c38⟩
structure But(p:Nat)(w w':World):Prop where
 os:w'.os=w.os
 tape:w'.tape=w.tape
 output:w'.output=w.output
 size:w.heap.size≤w'.heap.size
 block:∀k,k<w.heap.size→k≠p→w'.heap[k]?=w.heap[k]?
section
variable{w w' w'':World}{p B:Nat}{zs:List Int}
theorem But.refl(p:Nat)(w:World):But p w w:=⟨rfl,rfl,rfl,Lr _,fun _ _ _=>rfl⟩
theorem But.trans(h:But p w w')(k:But p w' w''):But p w w'':=
 ⟨k.os.trans h.os,k.tape.trans h.tape,k.output.trans h.output,Lq h.size k.size,fun i hi hp=>(k.block i (Nat.lt_of_lt_of_le hi h.size) hp).trans (h.block i hi hp)⟩
theorem But.of_below(hb:Below w.heap.size w w')(p:Nat):But p w w':=⟨hb.os,hb.tape,hb.output,hb.size,fun k hk _=>hb.block k hk⟩
theorem But.of_turned(h:Turned w w' p):But p w w':=⟨h.os,h.tape,h.output,by rw[h.size];exact Lr _,fun k _ hk=>h.block k hk⟩
theorem But.below(h:But p w w')(hB:B≤p)(hs:B≤w.heap.size):Below B w w':=⟨h.os,h.tape,h.output,h.size,fun k hk=>h.block k (by omega) (by omega)⟩
theorem But.row{g t:Nat}{xs:List Value}(h:But p w w')(hr:Row w g t xs)(hg:g≠p):Row w' g t xs:=⟨(h.block g hr.lt hg).trans hr.is⟩
end
theorem But.drew{w w':World}{p:Nat}(h:But p w w'):But p w w'.drew:=⟨h.os,h.tape,h.output,h.size,h.block⟩
theorem But.alloc{w w':World}{p:Nat}(h:But p w w')(o:Obj):But p w (w'.alloc o):=h.trans (.of_below ((Br _ _).alloc (Lr _) o) p)
def zeros(n:Nat):List Value:=List.replicate n (.int .u8 0)
section
variable{w w':World}{p B g lo:Nat}{zs:List Int}{v:Value}{xs:List Int}
theorem But.turned{w0:World}(h:But p w0 w)(ht:Turned w w' g)(hg:w0.heap.size≤g):But p w0 w':=
 ⟨ht.os.trans h.os,ht.tape.trans h.tape,ht.output.trans h.output,by rw[ht.size];exact h.size,fun k hk hne=>(ht.block k (by omega)).trans (h.block k hk hne)⟩
theorem OwnB.turned(h:OwnB w lo v xs)(ht:Turned w w' g)(hg:g<lo):OwnB w' lo v xs:=by
 refine⟨h.1,?_⟩;rcases h.2 with h2 | ⟨k,cap,cur,hv,hk,hh,r⟩
 ·exact .inl h2
 ·exact .inr ⟨k,cap,cur,hv,hk,(ht.block k (by omega)).trans hh,r⟩
theorem OwnB.lt(h:OwnB w lo v xs):∀k,v.ownBlock=some k→lo≤k∧k<w.heap.size:=World.ownsRow.lt h
theorem OwnB.more{lo':Nat}(h:OwnB w lo v xs)(hl:lo'≤lo):OwnB w lo' v xs:=by
 refine⟨h.1,?_⟩;rcases h.2 with h2 | ⟨k,cap,cur,hv,hk,hh,r⟩
 ·exact .inl h2
 ·exact .inr ⟨k,cap,cur,hv,by omega,hh,r⟩
theorem OwnB.stay{hi:Nat}(h:OwnB w lo v xs)(hh:∀k,v.ownBlock=some k→k<hi)(hk:∀k,lo≤k→k<hi→w'.heap[k]?=w.heap[k]?):OwnB w' lo v xs:=by
 refine⟨h.1,?_⟩;rcases h.2 with h2 | ⟨k,cap,cur,hv,hk',hh',r⟩
 ·exact .inl h2
 ·exact .inr ⟨k,cap,cur,hv,hk',(hk k hk' (hh k (by rw[hv];rfl))).trans hh',r⟩
theorem OwnB.one(h:OwnB w lo v xs):v.oneCell'=true:=by
 obtain⟨A,c,rfl⟩:=h.form;rfl
end
structure OwnR(w:World)(lo hi:Nat)(v:Value)(l:List Int):Prop where
 own:OwnB w lo v l
 lt:∀k,v.ownBlock=some k→k<hi
 len:l.length≤65535
theorem OwnR.stay{w w':World}{lo hi:Nat}{v:Value}{l:List Int}(h:OwnR w lo hi v l)(hk:∀k,lo≤k→k<hi→w'.heap[k]?=w.heap[k]?):OwnR w' lo hi v l:=⟨h.own.stay h.lt hk,h.lt,h.len⟩
def InV(w:World)(lo hi:Nat)(cs:List Value)(x:LIn):Prop:=∃va vd mid,cs=inCells x.p va vd∧lo≤mid∧mid≤hi∧OwnR w lo mid va x.acc∧OwnR w mid hi vd x.dat
def LookV(w:World)(lo hi:Nat)(cs:List Value)(x:LLook):Prop:=∃va vd mid,cs=bv x.tab++[va,vd]∧x.tab.length=32∧lo≤mid∧mid≤hi∧OwnR w lo mid va x.wr∧OwnR w mid hi vd x.rd
def KeyV(w:World)(lo hi:Nat)(cs:List Value)(x:List Int):Prop:=cs=bv x∧x.length=32
def lookZ:List Value:=bv (List.replicate 32 0)++[.slice none 0 0,.slice none 0 0]
def Stays{α:Type}(EV:World→Nat→Nat→List Value→α→Prop):Prop:=
 ∀w w' lo hi cs x,(∀k,lo≤k→k<hi→w'.heap[k]?=w.heap[k]?)→EV w lo hi cs x→EV w' lo hi cs x
theorem Xsl:Stays InV:=by
 rintro w w' lo hi cs x hk ⟨va,vd,mid,h1,h2,h3,h4,h5⟩;exact⟨va,vd,mid,h1,h2,h3,h4.stay fun k a b=>hk k a (by omega),h5.stay fun k a b=>hk k (by omega) b⟩
theorem Xnu:Stays LookV:=by
 rintro w w' lo hi cs x hk ⟨va,vd,mid,h1,h0,h2,h3,h4,h5⟩;exact⟨va,vd,mid,h1,h0,h2,h3,h4.stay fun k a b=>hk k a (by omega),h5.stay fun k a b=>hk k (by omega) b⟩
theorem Xrt:Stays KeyV:=fun w w' lo hi cs x hk h=>h
structure LV{α:Type}(EV:World→Nat→Nat→List Value→α→Prop)(e size:Nat)(w:World)(lo:Nat)(v:Value)(l:List α)(css:List (List Value))(L R:Nat→Nat):Prop where
 own:w.ownsRow lo e size v l.length css.flatten
 len:css.length=l.length
 rise:∀i,i+1<l.length→R i≤L (i+1)
 each:∀i cs x,css[i]?=some cs→l[i]?=some x→lo≤L i∧L i≤R i∧R i≤w.heap.size∧EV w (L i) (R i) cs x∧∀g,v.ownBlock=some g→g<L i∨R i≤g
section
variable{α:Type}{EV:World→Nat→Nat→List Value→α→Prop}{e size:Nat}{w w':World}{lo:Nat}{v:Value}{l:List α}{css:List (List Value)}{L R:Nat→Nat}
theorem LV.none(h:w.ownsRow lo e size v 0 []):LV EV e size w lo v [] [] L R:=⟨h,rfl,fun i hi=>by simp at hi,fun i cs x hi=>by simp at hi⟩
theorem LV.lt(h:LV EV e size w lo v l css L R):∀k,v.ownBlock=some k→lo≤k∧k<w.heap.size:=h.own.lt
theorem LV.form(h:LV EV e size w lo v l css L R):∃A c,v=.slice A l.length c:=by
 rcases h.own.2 with⟨rfl,h2⟩ | ⟨g,cap,cur,rfl,_⟩
 ·exact⟨_,_,by rw[h2]⟩
 ·exact⟨_,_,rfl⟩
theorem LV.stay(hS:Stays EV)(h:LV EV e size w lo v l css L R)(hz:w.heap.size≤w'.heap.size)(hk:∀k,lo≤k→k<w.heap.size→w'.heap[k]?=w.heap[k]?):LV EV e size w' lo v l css L R:=by
 refine⟨⟨h.own.1,?_⟩,h.len,h.rise,fun i cs x hi hx=>?_⟩
 ·rcases h.own.2 with h2 | ⟨g,cap,cur,hv,hg,hh,r⟩
  ·exact .inl h2
  ·exact .inr ⟨g,cap,cur,hv,hg,(hk g hg (Array.getElem?_eq_some_iff.1 hh).1).trans hh,r⟩
 ·obtain⟨h1,h2,h3,h4,h5⟩:=h.each i cs x hi hx;exact⟨h1,h2,by omega,hS _ _ _ _ _ _ (fun k a b=>hk k (by omega) (by omega)) h4,h5⟩
theorem LV.but{p:Nat}(hS:Stays EV)(h:LV EV e size w lo v l css L R)(hb:But p w w')(hp:p<lo):LV EV e size w' lo v l css L R:=
 h.stay hS hb.size fun k h1 h2=>hb.block k h2 (by omega)
theorem LV.snoc{p:Nat}{w1 w3:World}{v3:Value}{x:α}{cs:List Value}(hS:Stays EV)(h:LV EV e size w lo v l css L R)(hb:But p w w1)(hp:p<lo)(hlo:lo≤w.heap.size)
 (he:EV w1 w.heap.size w1.heap.size cs x) (hg:Grew w1 w3 v v3) (h3:w3.ownsRow lo e size v3 (l.length+1) (css.flatten++cs)) :
 LV EV e size w3 lo v3 (l++[x]) (css++[cs]) (fun i=>if i=l.length then w.heap.size else L i) (fun i=>if i=l.length then w1.heap.size else R i):=by
 have hz1:=hb.size;have hz3:=hg.size;have hlt:=h.lt;refine⟨by simpa using h3,by simp[h.len],fun i hi=>?_,fun i c y hi hy=>?_⟩
 ·simp only[List.length_append,List.length_singleton]at hi;have hil:i<l.length:=by omega
  simp only[Nat.ne_of_lt hil,if_false];split
  ·obtain⟨_,_,h3',_,_⟩:=h.each i _ _ (List.getElem?_eq_getElem (by rw[h.len];exact hil)) (List.getElem?_eq_getElem hil);exact h3'
  ·exact h.rise i (by omega)
 ·by_cases hil:i<l.length
  ·rw[List.getElem?_append_left (by rw[h.len];exact hil)]at hi;rw[List.getElem?_append_left hil]at hy;obtain⟨h1,h2,h3',h4,h5⟩:=h.each i c y hi hy;simp only[Nat.ne_of_lt hil,if_false];refine⟨h1,h2,by omega,hS w w3 _ _ _ _ (fun k a b=>?_) h4,fun g hg'=>?_⟩
   ·exact(hg.grown.block k (by omega) fun e'=>by
     have:=h5 k e'.symm;omega).trans (hb.block k (by omega) (by omega))
   ·rcases hg.fresh g hg' with h6 | h6
    ·exact h5 g h6
    ·right;omega
  ·have hi':i=l.length:=by
    have:=(List.getElem?_eq_some_iff.1 hy).1;simp at this;omega
   subst hi';have hc:cs=c:=by
    rw[List.getElem?_append_right (by rw[h.len];exact Lr _),h.len]at hi;simpa using hi
   have hx:x=y:=by
    rw[List.getElem?_append_right (Lr _)]at hy;simpa using hy
   subst hc;subst hx;simp only[if_true];refine⟨hlo,hz1,hz3,hS w1 w3 _ _ _ _ (fun k a b=>?_) he,fun g hg'=>?_⟩
   ·exact hg.grown.block k b fun e'=>by have:=(hlt k e'.symm).2;omega
   ·rcases hg.fresh g hg' with h6 | h6
    ·have:=(hlt g h6).2;omega
    ·exact .inr h6
theorem But.grewV{p:Nat}{v':Value}{n:Nat}{xs:List Value}(hg:Grew w w' v v')(ho:w.ownsRow lo e size v n xs)(b:World)(hb:But p b w)(hlo:b.heap.size≤lo):But p b w':=
 ⟨hg.grown.os.trans hb.os,hg.grown.tape.trans hb.tape,hg.grown.output.trans hb.output,Lq hb.size hg.size,fun k hk hne =>
  (hg.grown.block k (Nat.lt_of_lt_of_le hk hb.size) fun e=>by have:=(ho.lt k e.symm).1;omega).trans (hb.block k hk hne)⟩
end
theorem Xtj:(Tryz.prog.info? 62).map (fun i=>(i.zero,i.size,i.bytes))=some (some (.agg (zeros 32).toArray),32,32):=by kernel_rfl
theorem Xeq:(Tryz.prog.info? 61).map (fun i=>(i.zero,i.size,i.bytes))=some (some (.agg (inCells 0 (.slice none 0 0) (.slice none 0 0)).toArray),3,56):=by kernel_rfl
theorem Xgs:(Value.agg (inCells 0 (.slice none 0 0) (.slice none 0 0)).toArray).cells.size=3:=by kernel_rfl
theorem Xcp:(Tryz.prog.info? 64).map (fun i=>(i.zero,i.size,i.bytes))=some (some (.agg lookZ.toArray),34,80):=by kernel_rfl
theorem Xdf:(Value.agg lookZ.toArray).cells.size=34:=by kernel_rfl
def LVR{α:Type}(EV:World→Nat→Nat→List Value→α→Prop)(e size:Nat)(w:World)(lo hi:Nat)(v:Value)(l:List α):Prop:=
 ∃w0 css L R,LV EV e size w0 lo v l css L R∧w0.heap.size=hi∧hi≤w.heap.size∧∀k,lo≤k→k<hi→w.heap[k]?=w0.heap[k]?
section
variable{α:Type}{EV:World→Nat→Nat→List Value→α→Prop}{e size:Nat}{w w':World}{lo hi:Nat}{v:Value}{l:List α}
theorem LVR.of{css:List (List Value)}{L R:Nat→Nat}(h:LV EV e size w lo v l css L R):LVR EV e size w lo w.heap.size v l:=⟨w,css,L,R,h,rfl,Lr _,fun _ _ _=>rfl⟩
theorem LVR.nil(w:World)(hlo:lo≤w.heap.size):LVR EV e size w lo w.heap.size (.slice none 0 0) []:=LVR.of (L:=fun _=>0) (R:=fun _=>0) (LV.none (World.ownsRow_nil w lo e size))
theorem LVR.but{p:Nat}(h:LVR EV e size w lo hi v l)(hb:But p w w')(hp:p<lo):LVR EV e size w' lo hi v l:=by
 obtain⟨w0,css,L,R,h1,h2,h3,h4⟩:=h;exact⟨w0,css,L,R,h1,h2,Lq h3 hb.size,fun k a b=>(hb.block k (by omega) (by omega)).trans (h4 k a b)⟩
theorem LVR.turned{g:Nat}(h:LVR EV e size w lo hi v l)(ht:Turned w w' g)(hg:g<lo):LVR EV e size w' lo hi v l:=by
 obtain⟨w0,css,L,R,h1,h2,h3,h4⟩:=h;exact⟨w0,css,L,R,h1,h2,by rw[ht.size];exact h3,fun k a b=>(ht.block k (by omega)).trans (h4 k a b)⟩
theorem LVR.below(h:LVR EV e size w lo hi v l)(hb:Below w.heap.size w w'):LVR EV e size w' lo hi v l:=by
 obtain⟨w0,css,L,R,h1,h2,h3,h4⟩:=h;exact⟨w0,css,L,R,h1,h2,Lq h3 hb.size,fun k a b=>(hb.block k (by omega)).trans (h4 k a b)⟩
theorem LVR.form(h:LVR EV e size w lo hi v l):∃A c,v=.slice A l.length c:=by
 obtain⟨w0,css,L,R,h1,_⟩:=h;exact h1.form
end
structure MsgV(w:World)(lo hi:Nat)(q:Raw)(m:LMsg):Prop where
 recent:m.recent.length=32
 short:m.keys.length≤65535∧m.ins.length≤65535∧m.looks.length≤65535
 is:∃a1 b1 a2 b2 a3 b3,(lo≤a1∧a1≤b1∧b1≤a2∧a2≤b2∧b2≤a3∧a3≤b3∧b3≤hi)∧LVR KeyV 62 32 w a1 b1 (.slice q.KA q.kn q.kc) m.keys∧LVR InV 61 3 w a2 b2 (.slice q.IA q.n q.ic) m.ins∧LVR LookV 64 34 w a3 b3 (.slice q.LA q.ln q.lc) m.looks
theorem MsgV.turned{w w':World}{lo hi g:Nat}{q:Raw}{m:LMsg}(h:MsgV w lo hi q m)(ht:Turned w w' g)(hg:g<lo):MsgV w' lo hi q m:=by
 obtain⟨a1,b1,a2,b2,a3,b3,h1,h5,h6,h7⟩:=h.is;exact⟨h.recent,h.short,a1,b1,a2,b2,a3,b3,h1,h5.turned ht (by omega),h6.turned ht (by omega),h7.turned ht (by omega)⟩
theorem MsgV.more{w:World}{lo hi hi':Nat}{q:Raw}{m:LMsg}(h:MsgV w lo hi q m)(hh:hi≤hi'):MsgV w lo hi' q m:=by
 obtain⟨a1,b1,a2,b2,a3,b3,h1,h5⟩:=h.is;exact⟨h.recent,h.short,a1,b1,a2,b2,a3,b3,by omega,h5⟩
theorem LVR.stay{α:Type}{EV:World→Nat→Nat→List Value→α→Prop}{e size:Nat}{w w':World}{lo hi:Nat}{v:Value}{l:List α}(h:LVR EV e size w lo hi v l)(hz:w.heap.size≤w'.heap.size)(hk:∀k,lo≤k→k<hi→w'.heap[k]?=w.heap[k]?):LVR EV e size w' lo hi v l:=by
 obtain⟨w0,css,L,R,h1,h2,h3,h4⟩:=h;exact⟨w0,css,L,R,h1,h2,Lq h3 hz,fun k a b=>(hk k a b).trans (h4 k a b)⟩
theorem MsgV.stay{w w':World}{lo hi:Nat}{q:Raw}{m:LMsg}(h:MsgV w lo hi q m)(hz:w.heap.size≤w'.heap.size)(hk:∀k,lo≤k→k<hi→w'.heap[k]?=w.heap[k]?):MsgV w' lo hi q m:=by
 obtain⟨a1,b1,a2,b2,a3,b3,h1,h5,h6,h7⟩:=h.is;exact⟨h.recent,h.short,a1,b1,a2,b2,a3,b3,h1,h5.stay hz fun k a b=>hk k (by omega) (by omega),h6.stay hz fun k a b=>hk k (by omega) (by omega),h7.stay hz fun k a b=>hk k (by omega) (by omega)⟩
def mcells(v0:Bool)(s r o:Int)(K:Value)(h:List Int)(I L:Value):List Value:=[.bool v0,.int .u8 s,.int .u8 r,.int .u8 o,K]++(bv h++[I,L])
theorem Xuw(q:Raw)(m:LMsg):q.cells m=mcells m.v0 m.s m.r m.o (.slice q.KA q.kn q.kc) m.recent (.slice q.IA q.n q.ic) (.slice q.LA q.ln q.lc):=rfl
def zero32:List Int:=List.replicate 32 0
def mzero:List Value:=mcells false 0 0 0 (.slice none 0 0) zero32 (.slice none 0 0) (.slice none 0 0)
section
variable{w:World}{g t:Nat}{v0:Bool}{s r o:Int}{K I L:Value}{h:List Int}
theorem mset4(hr:Row w g t (mcells v0 s r o K h I L))(x:Value):Row (w.setCell ⟨g,4,none⟩ x) g t (mcells v0 s r o x h I L):=hr.set_ 4 _
theorem Xkt(hr:Row w g t (mcells v0 s r o K h I L))(hl:h.length=32)(x:Value):Row (w.setCell ⟨g,37,none⟩ x) g t (mcells v0 s r o K h x L):=by
 have e:=hr.set_ 37 x;unfold mcells at e;rw[List.set_append_right _ _ (by simp),List.set_append_right _ _ (by rw[bL,hl];simp),bL,hl]at e;exact e
theorem Xk3(hr:Row w g t (mcells v0 s r o K h I L))(hl:h.length=32)(x:Value):Row (w.setCell ⟨g,38,none⟩ x) g t (mcells v0 s r o K h I x):=by
 have e:=hr.set_ 38 x;unfold mcells at e;rw[List.set_append_right _ _ (by simp),List.set_append_right _ _ (by rw[bL,hl];simp),bL,hl]at e;exact e
theorem mc37(hr:Row w g t (mcells v0 s r o K h I L))(hl:h.length=32):w.cell? ⟨g,37,none⟩=some I:=by
 rw[hr.cell];simp[mcells,bL,hl]
theorem mc38(hr:Row w g t (mcells v0 s r o K h I L))(hl:h.length=32):w.cell? ⟨g,38,none⟩=some L:=by
 rw[hr.cell];simp[mcells,bL,hl]
end
section
variable{P:Program}
theorem Xb4{op:Oper}{a:Act}{w:World}{K:Act→World→Prop}{Q:Exit→Act→World→Prop}(ty:TypeId)(x y:Operand)(ho:op.op=.store ty x y)
 (g:Nat) (c cs:List Value) (hr:Row w g ty c) (hi:(P.info? ty).map (·.size)=some cs.length) (hl:c.length=cs.length) (h1:∀u ∈ cs,u.oneCell'=true)
 (hx:a.eval x=.pointer (some ⟨g,0,none⟩)) (hy:a.eval y=.agg cs.toArray)
 (h:∀w',Row w' g ty cs→Turned w w' g→K (a.put op.dst undef) w'):op.wp P a w K Q:=by
 unfold Oper.wp execOp;simp only[ho,hx,hy,Sem.run_bind,Sem.run_pure,Xdl w g ty c cs hr hi hl h1,Result.andThen_ok];exact h _ (Xgc hr cs) (Xe4 w g _)
end
theorem takeL{P:Program}{L:List Oper}{Q:Exit→Act→World→Prop}{md:Region.Mode}{S:World→Prop}{i:Nat}{oi:Oper}{v:Value}{fuel:Nat}{listed:Array Bool}{a:Act}{w:World}(hi:L[i]?=some oi)
 (hs:Region.noSelect L.toArray=true) (hf:Region.free md L.toArray listed i=true) (hr:(Region.ready md L.toArray listed).contains i=true)
 (hQ:∀c a w,Q (.panic c) (a.put oi.dst v) w→Q (.panic c) a w) (hy:YieldsIf P L.toArray S oi v a) (hS:S w)
 (h:wpAnyH P md L.toArray Q S fuel (listed.setIfInBounds i true) (a.put oi.dst v) w):wpAnyH P md L.toArray Q S (fuel+1) listed a w:=
 wpAnyH_take (by simpa using hi) hs hf hr hQ hy hS h
theorem readyL{P:Program}{L:List Oper}{Q:Exit→Act→World→Prop}{md:Region.Mode}{S:World→Prop}{i:Nat}{o:Oper}{fuel:Nat}{listed:Array Bool}{a:Act}{w:World}(ho:L[i]?=some o)(hr:Region.ready md L.toArray listed=[i])
 (hw:Region.wanted o (yielded L.toArray a.tmps)=true)
 (h:∀K':Act→World→Prop,Shut (∀a w,S w→wpAnyH P md L.toArray Q S fuel (listed.setIfInBounds i true) a w→K' a w)→Oper.wp P o a w K' Q):wpAnyH P md L.toArray Q S (fuel+1) listed a w:=
 wpAnyH_ready hr (by simp) (AllReadyH.cons (by simpa using ho) (fun K hK=>by
  rw[if_pos hw];exact h K (fun a w hS hW=>hK a w hS fun _=>hW)) AllReadyH.nil)
theorem Tk {P:Program} {L:List Oper} {Q:Exit → Act → World → Prop} {md:Region.Mode} {S:World → Prop} (i:Nat) {oi:Oper} {fuel:Nat} {listed:Array Bool} {a:Act} {w:World} (hi:L[i]? = some oi) {v:Value}
 (hy:∀ w, S w → (execOp a.eval oi).run P w = .ok (.value v) w) (hS:S w) (h:wpAnyH P md L.toArray Q S fuel (listed.setIfInBounds i true) (a.put oi.dst v) w) (_v:{u:Value // u=v})
 (hs:Region.noSelect L.toArray = true := by kernel_rfl) (hf:Region.free md L.toArray listed i = true := by kernel_rfl) (hr:(Region.ready md L.toArray listed).contains i = true := by kernel_rfl)
 (hQ:∀ c a w, Q (.panic c) (a.put oi.dst v) w → Q (.panic c) a w := by exact fun _ _ _ h => h) (hg:Region.wanted oi (yielded L.toArray a.tmps) = true := by rfl) : wpAnyH P md L.toArray Q S (fuel + 1) listed a w :=
 takeL hi hs hf hr hQ (Or.inl ⟨hg, hy⟩) hS h
theorem Tl {P:Program} {L:List Oper} {Q:Exit → Act → World → Prop} {md:Region.Mode} {S:World → Prop} (i:Nat) {oi:Oper} {v:Value} {fuel:Nat} {listed:Array Bool} {a:Act} {w:World} (hi:L[i]? = some oi)
 (hy:YieldsIf P L.toArray S oi v a) (hS:S w) (h:wpAnyH P md L.toArray Q S fuel (listed.setIfInBounds i true) (a.put oi.dst v) w)
 (hs:Region.noSelect L.toArray = true := by kernel_rfl) (hf:Region.free md L.toArray listed i = true := by kernel_rfl) (hr:(Region.ready md L.toArray listed).contains i = true := by kernel_rfl)
 (hQ:∀ c a w, Q (.panic c) (a.put oi.dst v) w → Q (.panic c) a w := by exact fun _ _ _ h => h) : wpAnyH P md L.toArray Q S (fuel + 1) listed a w :=
 takeL hi hs hf hr hQ hy hS h
theorem Rl {P:Program} {L:List Oper} {Q:Exit → Act → World → Prop} {md:Region.Mode} {S:World → Prop} (i:Nat) {o:Oper} {fuel:Nat} {listed:Array Bool} {a:Act} {w:World} (ho:L[i]? = some o)
 (h:∀ K':Act → World → Prop, Shut (∀ a w, S w → wpAnyH P md L.toArray Q S fuel (listed.setIfInBounds i true) a w → K' a w) → Oper.wp P o a w K' Q)
 (hr:Region.ready md L.toArray listed = [i] := by kernel_rfl) (hw:Region.wanted o (yielded L.toArray a.tmps) = true := by kernel_rfl) : wpAnyH P md L.toArray Q S (fuel + 1) listed a w :=
 readyL ho hr hw h
section
variable{P:Program}
theorem Xal{ops:Array Oper}{rest:List Oper}{op:Oper}{a:Act}{w:World}{Q:Exit→Act→World→Prop}(hw:Region.wanted op (yielded ops a.tmps)=true)(ty:TypeId)(x:Operand)(ho:op.op=.load ty x)
 (p:Addr) (cs:List Value) (d:TypeDesc) (hu:P.underlying ty=some d) (hd:d.isRow=true) (hi:(P.info? ty).map (·.size)=some cs.length) (hc:∀j v,cs[j]?=some v→w.cell? (p.add j)=some v)
 (hx:a.eval x=.pointer (some p)) (h:wpList P ops Q rest (a.put op.dst (.agg cs.toArray)) w):wpList P ops Q (op::rest) a w:=
 BigFrame.wpList_want hw fun _ hK=>by
  unfold Oper.wp execOp;simp only[ho,hx,Sem.run_bind,Sem.run_pure,Xc0 w p ty cs d hc hu hd hi,Result.andThen_ok];exact hK _ _ h
end
theorem Xq3{xs ys:List Int}{k:Nat}(hx:k<xs.length)(hy:k<ys.length):xs.take (k+1)=ys.take (k+1)↔xs.take k=ys.take k∧xs.getD k 0=ys.getD k 0:=by
 rw[List.take_succ_eq_append_getElem hx,List.take_succ_eq_append_getElem hy,List.getD_eq_getElem?_getD,List.getD_eq_getElem?_getD,List.getElem?_eq_getElem hx,List.getElem?_eq_getElem hy];constructor
 ·intro h;have:=List.append_inj h (by simp;omega);simpa using this
 ·rintro⟨h,h'⟩;rw[h];simp at h';rw[h']
theorem Xi0(A B:Option Addr)(n m c d:Nat)(xs ys:List Int)(w:World)(S T:Nat)
 (hx:Sees w S A n (bv xs)) (hy:Sees w T B m (bv ys)) (hn:n≤maxLen) (hm:m≤maxLen) :
 Calls Tryz.prog 62 #[.slice A n c,.slice B m d] w fun e w'=>e=.returned (.bool (decide (xs=ys)))∧∃k,w'=w.drewN k:=by
 unfold maxLen at hn hm;have lx:=Hd hx.len;have ly:=Hd hy.len;by_cases hnm:n=m
 ·subst hnm;go_enter Tryz.func62,Tryz.ntmps62
  go_wp2;go_loopw [5] (fun i wr=>∃k j:Nat,k≤n∧i=.int .i64 k∧wr=w.drewN j∧xs.take k=ys.take k) (fun i _=>n - (intOf i).toNat)
  case atStart=>exact⟨0,0,Nat.zero_le _,rfl,rfl,by simp⟩
  case round =>
   obtain⟨k,j,hk,rfl,rfl,heq⟩:=hrel;have HEQ:=Hd heq;clear heq;by_cases hlt:k<n
   ·obtain⟨a,rfl,ha,hca⟩:=hx.byte hlt;obtain⟨b,rfl,hb,hcb⟩:=hy.byte hlt;have HT:=Hd (Xq3 (xs:=xs) (ys:=ys) (k:=k) (by have:=lx.out;rw[bL]at this;omega) (by have:=ly.out;rw[bL]at this;omega));generalize hz:xs.getD k 0=z at *;generalize hz2:ys.getD k 0=y at *;clear hz hz2;by_cases hzy:z=y
    ·have hb1:(z != y)=false:=by simp[hzy]
     have HZ:=Hd hzy;clear hzy;go_wp2;go_quiet (fail)
     go_wp2;go_roundw
     case rel=>exact⟨k+1,j+nq,by omega,by go_num,by simp,HT.out.2 ⟨HEQ.out,HZ.out⟩⟩
     case measure=>simp[intOf];omega
    ·have hb1:(z != y)=true:=by simp[hzy]
     have HZ:=Hd hzy;clear hzy;go_wp2;go_quiet (fail)
     go_wp2;go_ret;exact⟨Xie fun h=>HZ.out (HT.out.1 (by rw[h])).2,j+nq,by simp⟩
   ·have hk':k=n:=by omega
    have HK:=Hd hk';clear hk';go_wp2;go_ret;have h1:=lx.out;have h2:=ly.out;rw[bL]at h1 h2;have h3:=HEQ.out;rw[HK.out,List.take_of_length_le (by omega),List.take_of_length_le (by omega)]at h3;exact⟨Xpo h3,j,rfl⟩
 ·have hb1:((n:Int) != (m:Int))=true:=by simp;omega
  have HN:=Hd hnm;clear hnm;go_enter Tryz.func62,Tryz.ntmps62
  go_wp2;go_ret;have h1:=lx.out;have h2:=ly.out;rw[bL]at h1 h2;exact⟨Xie fun h=>HN.out (by rw[←h1,←h2,h]),0,rfl⟩
section
variable{P:Program}{ops:Array Oper}{C:World→Prop}{Q:Act→Prop}{a:Act}{o:Oper}{rest:List Oper}
theorem Xai(hw:Region.wanted o (yielded ops a.tmps)=true)(ty:TypeId)(x:Operand)(ho:o.op=.load ty x)
 (p:Addr) (cs:List Value) (d:TypeDesc) (hu:P.underlying ty=some d) (hd:d.isRow=true) (hi:(P.info? ty).map (·.size)=some cs.length) (hc:∀w,C w→∀j v,cs[j]?=some v→w.cell? (p.add j)=some v)
 (hx:a.eval x=.pointer (some p)) (h:wpQuiet P ops C Q rest (a.put o.dst (.agg cs.toArray))):wpQuiet P ops C Q (o::rest) a:=
 BigFrame.wpQuiet_want hw fun K hK=>⟨_,fun w hC=>by
  unfold Oper.quietAt execOp;simp only[ho,hx,Sem.run_bind,Sem.run_pure,Xc0 w p ty cs d (hc w hC) hu hd hi,Result.andThen_ok];exact⟨rfl,rfl⟩,hK _ h⟩
end
theorem Xho:Tryz.prog.plainKey 5=true:=by kernel_rfl
theorem Xkj:∃i,Tryz.prog.info? 5=some i:=by
 obtain⟨i,h,_⟩:=info_parts Xrn;exact⟨i,h⟩
theorem Xek:Tryz.prog.cellsOf 5=1:=by kernel_rfl
theorem Xer(z:List Int)(w:World):∀(is:List Nat),(∀i ∈ is,i<z.length)→(Op.eqItems 9999 5 1 (bv z).toArray (bv z).toArray is).run Tryz.prog w=.ok true w
 | [],_=>by simp[Op.eqItems]
 | i::is,h=>by
  have hi:=h i (by simp);have hc:(bv z).toArray[i]?=some (.int .u8 (z.getD i 0)):=by
   rw[List.getElem?_toArray];exact bv_at hi
  have p:=run_part_plain (P:=Tryz.prog) w Xho (xs:=(bv z).toArray) (off:=i) hc;have ih:=Xer z w is fun k hk=>h k (by simp[hk])
  simp only[Op.eqItems,Nat.mul_one,Sem.run_bind,p,Result.andThen_ok,run_equalIn_int w 9998 5 .u8 .u8 _ _ Tryz.underlying5,beq_self_eq_true,Bool.not_true,Bool.false_eq_true,if_false];exact ih
theorem Xh3{t:TypeId}(ht:Tryz.prog.underlying t=some (.array 32 5))(z:List Int)(hz:z.length=32)(w:World) :
 (binOp .neq t (.agg (bv z).toArray) (.agg (bv z).toArray)).run Tryz.prog w=.ok (.bool false) w:=by
 obtain⟨i,hi⟩:=Xkj;rw[run_neq_struct,show(10000:Nat)=9999+1 from rfl,run_equalIn_array w 9999 _ _ ht hi,Xek,Xer z w _ (fun i hi=>by simp at hi;omega)];rfl
theorem Xki(A B:Option Addr)(n c d:Nat)(l:List (List Int))(w:World)(S T:Nat)(hx:KeysIn w S A n l)(hy:KeysIn w T B n l)(hn:n≤maxLen) :
 Calls Tryz.prog 88 #[.slice A n c,.slice B n d] w fun e w'=>e=.returned (.bool true)∧∃k,w'=w.drewN k:=by
 unfold maxLen at hn;have HX:=Hd hx;have HY:=Hd hy;clear hx hy;go_enter Tryz.func88,Tryz.ntmps88
 go_wp2;go_loopw [5] (fun i wr=>∃k j:Nat,k≤n∧i=.int .i64 k∧wr=w.drewN j) (fun i _=>n - (intOf i).toNat)
 case atStart=>exact⟨0,0,Nat.zero_le _,rfl,rfl⟩
 case round =>
  obtain⟨k,j,hk,rfl,rfl⟩:=hrel;by_cases hlt:k<n
  ·obtain⟨a,x,rfl,ha,hxl,hxa⟩:=HX.out.get hlt;obtain⟨b,y,rfl,hb,hyl,hyb⟩:=HY.out.get hlt;obtain rfl:x=y:=by rw[hxl]at hyl;exact Option.some.inj hyl
   have ca:=hxa.cells;have cb:=hyb.cells;have NQ:=fun w=>Xh3 Tryz.underlying62 x hxa.len w
   have HSZ:=Hd (show(Tryz.prog.info? 62).map (·.size)=some (bv x).length by rw[Xan,bL,hxa.len]);have CA:=Hd ca;have CB:=Hd cb;clear ca cb hxl hyl;generalize bv x=X at *;go_wp2;refine wp_region_quiet_lit (by kernel_rfl) (by kernel_rfl) ?_;repeat (first
    | ((with_reducible show wpQuiet _ _ _ _ (⟨some 20,_,_,_,_,_⟩::_) _);go_must(refine Xai (by kernel_rfl) 62 (.tmp 19) rfl (a.add (k*32)) X _ Tryz.underlying62 rfl HSZ.out (by rintro _ ⟨nq,rfl⟩;exact CA.out) ?_ ?_;go_simp;go_simp))
    | ((with_reducible show wpQuiet _ _ _ _ (⟨some 24,_,_,_,_,_⟩::_) _);go_must(refine Xai (by kernel_rfl) 62 (.tmp 23) rfl (b.add (k*32)) X _ Tryz.underlying62 rfl HSZ.out (by rintro _ ⟨nq,rfl⟩;exact CB.out) ?_ ?_;go_simp;go_simp))
    | go_big_quiet_step (fail))
   refine wpQuiet_nil ?_;intro nq;go_wp2;go_roundw
   case rel=>exact⟨k+1,j+nq,by omega,by go_num,by simp⟩
   case measure=>simp[intOf];omega
  ·go_wp2;go_ret;exact⟨rfl,j,rfl⟩
theorem Xc8{P:Program}{f:FuncId}{args:Array Value}{w:World}{j n:Nat}{v:Value}
 (h:Calls P f args (w.drewN (j+n)) fun e w'=>e=.returned v∧∃m,w'=(w.drewN (j+n)).drewN m):Calls P f args (w.drewN (j+n)) fun e w''=>e=.returned v∧∃m,w''=w.drewN (j+m):=
 h.mono fun _ _ ⟨he,m,hm⟩=>⟨he,n+m,by rw[hm,World.drewN_drewN,Nat.add_assoc]⟩
theorem Xfb(A B:Option Addr)(n m c d:Nat)(xs:List Int)(w:World)(S T:Nat)
 (hx:Sees w S A n (bv xs)) (hy:Sees w T B m (bv xs)) (hn:n≤maxLen) (hm:m≤maxLen) :
 Calls Tryz.prog 62 #[.slice A n c,.slice B m d] w fun e w'=>e=.returned (.bool true)∧∃k,w'=w.drewN k:=by
 refine(Xi0 A B n m c d xs xs w S T hx hy hn hm).mono ?_;rintro e w' ⟨rfl,k,rfl⟩;exact⟨by simp,k,rfl⟩
theorem lens{w w':World}{B B':Nat}{q q':Raw}{m:LMsg}(h:MsgIn w B q m)(h':MsgIn w' B' q' m):q'.kn=q.kn∧q'.n=q.n∧q'.ln=q.ln:=
 ⟨h'.keys.len.symm.trans h.keys.len,h'.ins.len.symm.trans h.ins.len,h'.looks.len.symm.trans h.looks.len⟩
theorem Xm6(q q':Raw)(m:LMsg)(B B':Nat)(w:World)(h:MsgIn w B q m)(hB:B≤w.heap.size)(h':MsgIn w B' q' m)(hB':B'≤w.heap.size) :
 Calls Tryz.prog 84 #[.agg (q.cells m).toArray,.agg (q'.cells m).toArray] w fun e w'=>e=.returned (.bool true)∧Below w.heap.size w w':=by
 obtain⟨KA,kn,kc,IA,n,ic,LA,ln,lc⟩:=q;obtain⟨KB,kn',kd,IB,n',id,LB,ln',ld⟩:=q';obtain⟨e1,e2,e3⟩:=lens h h';dsimp only at e1 e2 e3
 obtain rfl:=e1.symm;obtain rfl:=e2.symm;obtain rfl:=e3.symm;have hr0:=(Row.new w 32 (Raw.cells ⟨KA,kn,kc,IA,n,ic,LA,ln,lc⟩ m)).alloc (.cells (Raw.cells ⟨KB,kn,kd,IB,n,id,LB,ln,ld⟩ m).toArray 32);have hr1:Row ((w.alloc (.cells (Raw.cells ⟨KA,kn,kc,IA,n,ic,LA,ln,lc⟩ m).toArray 32)).alloc (.cells (Raw.cells ⟨KB,kn,kd,IB,n,id,LB,ln,ld⟩ m).toArray 32)) (w.heap.size+1) 32 (Raw.cells ⟨KB,kn,kd,IB,n,id,LB,ln,ld⟩ m):=by
  have:=Row.new (w.alloc (.cells (Raw.cells ⟨KA,kn,kc,IA,n,ic,LA,ln,lc⟩ m).toArray 32)) 32 (Raw.cells ⟨KB,kn,kd,IB,n,id,LB,ln,ld⟩ m);simpa using this
 have hbw:=(((Br w.heap.size w).alloc (Lr _) (.cells (Raw.cells ⟨KA,kn,kc,IA,n,ic,LA,ln,lc⟩ m).toArray 32)).alloc (by simp) (.cells (Raw.cells ⟨KB,kn,kd,IB,n,id,LB,ln,ld⟩ m).toArray 32));have hw:MsgIn _ B _ m:=h.below (hbw.mono hB);have hw':MsgIn _ B' _ m:=h'.below (hbw.mono hB');have k1:=h.kn;have k2:=h.n;have k3:=h.ln;dsimp only at k1 k2 k3
 have hrec:=h.recent;have H5:=Hd (show ∀j u,(bv m.recent)[j]?=some u→(Raw.cells ⟨KA,kn,kc,IA,n,ic,LA,ln,lc⟩ m)[5+j]?=some u from fun j u h=>Xgr h);have H5':=Hd (show ∀j u,(bv m.recent)[j]?=some u→(Raw.cells ⟨KB,kn,kd,IB,n,id,LB,ln,ld⟩ m)[5+j]?=some u from fun j u h=>Xgr h);have HSZ:=Hd (show(Tryz.prog.info? 28).map (·.size)=some (bv m.recent).length by rw[Xre,bL,hrec]);have NQ:=fun w=>Xh3 Tryz.underlying28 m.recent hrec w
 have c0:(Raw.cells ⟨KA,kn,kc,IA,n,ic,LA,ln,lc⟩ m)[0]?=some (.bool m.v0):=rfl;have c1:(Raw.cells ⟨KA,kn,kc,IA,n,ic,LA,ln,lc⟩ m)[1]?=some (.int .u8 m.s):=rfl;have c2:(Raw.cells ⟨KA,kn,kc,IA,n,ic,LA,ln,lc⟩ m)[2]?=some (.int .u8 m.r):=rfl;have c3:(Raw.cells ⟨KA,kn,kc,IA,n,ic,LA,ln,lc⟩ m)[3]?=some (.int .u8 m.o):=rfl;have c4:(Raw.cells ⟨KA,kn,kc,IA,n,ic,LA,ln,lc⟩ m)[4]?=some (.slice KA kn kc):=rfl;have c37:(Raw.cells ⟨KA,kn,kc,IA,n,ic,LA,ln,lc⟩ m)[37]?=some (.slice IA n ic):=Xev hrec;have c38:(Raw.cells ⟨KA,kn,kc,IA,n,ic,LA,ln,lc⟩ m)[38]?=some (.slice LA ln lc):=Xfv hrec;have d0:(Raw.cells ⟨KB,kn,kd,IB,n,id,LB,ln,ld⟩ m)[0]?=some (.bool m.v0):=rfl;have d1:(Raw.cells ⟨KB,kn,kd,IB,n,id,LB,ln,ld⟩ m)[1]?=some (.int .u8 m.s):=rfl;have d2:(Raw.cells ⟨KB,kn,kd,IB,n,id,LB,ln,ld⟩ m)[2]?=some (.int .u8 m.r):=rfl;have d3:(Raw.cells ⟨KB,kn,kd,IB,n,id,LB,ln,ld⟩ m)[3]?=some (.int .u8 m.o):=rfl;have d4:(Raw.cells ⟨KB,kn,kd,IB,n,id,LB,ln,ld⟩ m)[4]?=some (.slice KB kn kd):=rfl;have d37:(Raw.cells ⟨KB,kn,kd,IB,n,id,LB,ln,ld⟩ m)[37]?=some (.slice IB n id):=Xev hrec;have d38:(Raw.cells ⟨KB,kn,kd,IB,n,id,LB,ln,ld⟩ m)[38]?=some (.slice LB ln ld):=Xfv hrec;generalize Raw.cells ⟨KA,kn,kc,IA,n,ic,LA,ln,lc⟩ m=ca at *;generalize Raw.cells ⟨KB,kn,kd,IB,n,id,LB,ln,ld⟩ m=cb at *;generalize bv m.recent=z32 at *;have HR0:=Hd hr0;have HR1:=Hd hr1;have HB:=Hd hbw;have HW:=Hd hw;have HW':=Hd hw';unfold maxLen at k1 k2 k3;clear hr0 hr1 hbw hw hw' h h' hrec;go_enter Tryz.func84,Tryz.ntmps84
 go_wp2_with (first
  | ((with_reducible show wpList _ _ _ (⟨some 21,_,_,_,_,_⟩::_) _ _);go_must(refine Xal (by kernel_rfl) 28 (.tmp 20) rfl ⟨w.heap.size,5,none⟩ z32 _ Tryz.underlying28 rfl HSZ.out (fun j u hu=>by rw[Xa5,HR0.out.cell];exact H5.out j u hu) ?_ ?_;go_simp))
  | ((with_reducible show wpList _ _ _ (⟨some 23,_,_,_,_,_⟩::_) _ _);go_must(refine Xal (by kernel_rfl) 28 (.tmp 22) rfl ⟨w.heap.size+1,5,none⟩ z32 _ Tryz.underlying28 rfl HSZ.out (fun j u hu=>by rw[Xa5,HR1.out.cell];exact H5'.out j u hu) ?_ ?_;go_simp)))
 refine(Xki KA KB kn kc kd m.keys _ B B' HW.out.keys HW'.out.keys (by unfold maxLen;omega)).mono ?_;rintro e w5 ⟨rfl,k5,hw5⟩;have hr5:Row w5 w.heap.size 32 ca:=by rw[hw5];exact HR0.out.drewN k5
 have hr5':Row w5 (w.heap.size+1) 32 cb:=by rw[hw5];exact HR1.out.drewN k5
 have hm5:MsgIn w5 B ⟨KA,kn,kc,IA,n,ic,LA,ln,lc⟩ m:=by rw[hw5];exact HW.out.drewN k5
 have hm5':MsgIn w5 B' ⟨KB,kn,kd,IB,n,id,LB,ln,ld⟩ m:=by rw[hw5];exact HW'.out.drewN k5
 have hb5:Below w.heap.size w w5:=by rw[hw5];exact below_drewN HB.out k5
 have g37:w5.cell? ⟨w.heap.size,37,none⟩=some (.slice IA n ic):=(hr5.cell 37).trans c37;have g38:w5.cell? ⟨w.heap.size,38,none⟩=some (.slice LA ln lc):=(hr5.cell 38).trans c38;have g37':w5.cell? ⟨w.heap.size+1,37,none⟩=some (.slice IB n id):=(hr5'.cell 37).trans d37;have g38':w5.cell? ⟨w.heap.size+1,38,none⟩=some (.slice LB ln ld):=(hr5'.cell 38).trans d38;have HI:=Hd hm5.ins;have HI':=Hd hm5'.ins;have HL:=Hd hm5.looks;have HL':=Hd hm5'.looks;have HB5:=Hd hb5;clear hr5 hr5' hm5 hm5' hb5 hw5 c0 c1 c2 c3 c4 c37 c38 d0 d1 d2 d3 d4 d37 d38 H5 H5' HSZ NQ HR0 HR1 HB HW HW';go_wp2_with fail;go_loopw [5] (fun i wr=>∃k j:Nat,k≤n∧i=.int .i64 k∧wr=w5.drewN j) (fun i _=>n - (intOf i).toNat)
 case atStart=>exact⟨0,0,Nat.zero_le _,rfl,rfl⟩
 case round =>
  obtain⟨k,j,hk,rfl,rfl⟩:=hrel;by_cases hlt:k<n
  ·obtain⟨a,x,va,vd,rfl,ha,hxl,hxa⟩:=HI.out.get hlt;obtain⟨b,y,vb,ve,rfl,hb,hyl,hyb⟩:=HI'.out.get hlt;obtain rfl:x=y:=by rw[hxl]at hyl;exact Option.some.inj hyl
   have p0:w5.cell? (a.add (k*3))=some (.int .u8 x.p):=by have:=hxa.cells 0 _ rfl;rwa [Xc2,Nat.add_zero]at this
   have p1:w5.cell? ⟨(a.add (k*3)).block,(a.add (k*3)).off+1,none⟩=some va:=hxa.cells 1 _ rfl;have p2:w5.cell? ⟨(a.add (k*3)).block,(a.add (k*3)).off+2,none⟩=some vd:=hxa.cells 2 _ rfl;have r0:w5.cell? (b.add (k*3))=some (.int .u8 x.p):=by have:=hyb.cells 0 _ rfl;rwa [Xc2,Nat.add_zero]at this
   have r1:w5.cell? ⟨(b.add (k*3)).block,(b.add (k*3)).off+1,none⟩=some vb:=hyb.cells 1 _ rfl;have r2:w5.cell? ⟨(b.add (k*3)).block,(b.add (k*3)).off+2,none⟩=some ve:=hyb.cells 2 _ rfl;have sa:=hxa.acc;have sd:=hxa.dat;have sb:=hyb.acc;have se:=hyb.dat;obtain⟨A1,m1,rfl,s1,s1a,s1b⟩:=sa.is;obtain⟨A2,m2,rfl,s2,s2a,s2b⟩:=sd.is;obtain⟨A3,m3,rfl,s3,s3a,s3b⟩:=sb.is;obtain⟨A4,m4,rfl,s4,s4a,s4b⟩:=se.is;have S1:=fun nn=>Xfb A1 A3 _ _ m1 m3 x.acc (w5.drewN nn) _ _ (s1.drewN nn) (s3.drewN nn) (by omega) (by omega)
   have S2:=fun nn=>Xfb A2 A4 _ _ m2 m4 x.dat (w5.drewN nn) _ _ (s2.drewN nn) (s4.drewN nn) (by omega) (by omega)
   have T1:=Hd S1;have T2:=Hd S2;clear S1 S2 s1 s2 s3 s4 sa sd sb se hxl hyl hxa hyb;go_wp2_with fail;refine wp_region_quiet_lit (by kernel_rfl) (by kernel_rfl) ?_;repeat (go_big_quiet_step (first | (go_at_call 62;with_reducible refine Xc8 (T1.out _)) | (go_at_call 62;with_reducible refine Xc8 (T2.out _))))
   refine wpQuiet_nil ?_;intro _ hwq;obtain⟨nq,hwq'⟩:=hwq;subst hwq';go_wp2_with fail;go_roundw
   case rel=>exact⟨k+1,j+nq,by omega,by go_num,by simp⟩
   case measure=>simp[intOf];omega
  ·go_wp2_with fail;obtain⟨w6,hw6⟩:∃w6,w6=w5.drewN j:=⟨_,rfl⟩;have h38:w6.cell? ⟨w.heap.size,38,none⟩=some (.slice LA ln lc):=by rw[hw6];exact g38
   have h38':w6.cell? ⟨w.heap.size+1,38,none⟩=some (.slice LB ln ld):=by rw[hw6];exact g38'
   have HL6:Hid (LooksIn w6 B LA ln m.looks):=by rw[hw6];exact Hd (HL.out.keep fun p hp=>rfl)
   have HL6':Hid (LooksIn w6 B' LB ln m.looks):=by rw[hw6];exact Hd (HL'.out.keep fun p hp=>rfl)
   have HB6:Hid (Below w.heap.size w w6):=by rw[hw6];exact Hd (below_drewN HB5.out j)
   rw[←hw6];clear hw6 HL HL' HB5 g38 g38' HI HI' g37 g37';go_loopw [6] (fun i wr=>∃k j:Nat,k≤ln∧i=.int .i64 k∧wr=w6.drewN j) (fun i _=>ln - (intOf i).toNat)
   case atStart=>exact⟨0,0,Nat.zero_le _,rfl,rfl⟩
   case round =>
    obtain⟨k,j,hk,rfl,rfl⟩:=hrel;by_cases hlt:k<ln
    ·obtain⟨a,x,va,vd,rfl,ha,hxl,hxa⟩:=HL6.out.get hlt;obtain⟨b,y,vb,ve,rfl,hb,hyl,hyb⟩:=HL6'.out.get hlt;obtain rfl:x=y:=by rw[hxl]at hyl;exact Option.some.inj hyl
     have hx32:=hxa.len;have p1:w6.cell? ⟨(a.add (k*34)).block,(a.add (k*34)).off+32,none⟩=some va:=hxa.cells 32 va (by rw[List.getElem?_append_right (by rw[bL,hx32];exact Lr _),bL,hx32];rfl);have p2:w6.cell? ⟨(a.add (k*34)).block,(a.add (k*34)).off+33,none⟩=some vd:=hxa.cells 33 vd (by rw[List.getElem?_append_right (by rw[bL,hx32];omega),bL,hx32];rfl);have r1:w6.cell? ⟨(b.add (k*34)).block,(b.add (k*34)).off+32,none⟩=some vb:=hyb.cells 32 vb (by rw[List.getElem?_append_right (by rw[bL,hx32];exact Lr _),bL,hx32];rfl);have r2:w6.cell? ⟨(b.add (k*34)).block,(b.add (k*34)).off+33,none⟩=some ve:=hyb.cells 33 ve (by rw[List.getElem?_append_right (by rw[bL,hx32];omega),bL,hx32];rfl);have CA:=Hd (show ∀j u,(bv x.tab)[j]?=some u→w6.cell? ((a.add (k*34)).add j)=some u from fun j u hu=>hxa.cells j u (by rw[List.getElem?_append_left (List.getElem?_eq_some_iff.1 hu).1];exact hu));have CB:=Hd (show ∀j u,(bv x.tab)[j]?=some u→w6.cell? ((b.add (k*34)).add j)=some u from fun j u hu=>hyb.cells j u (by rw[List.getElem?_append_left (List.getElem?_eq_some_iff.1 hu).1];exact hu));have HSZ:=Hd (show(Tryz.prog.info? 62).map (·.size)=some (bv x.tab).length by rw[Xan,bL,hx32]);have NQ:=fun w=>Xh3 Tryz.underlying62 x.tab hx32 w
     have sa:=hxa.wr;have sd:=hxa.rd;have sb:=hyb.wr;have se:=hyb.rd;obtain⟨A1,m1,rfl,s1,s1a,s1b⟩:=sa.is;obtain⟨A2,m2,rfl,s2,s2a,s2b⟩:=sd.is;obtain⟨A3,m3,rfl,s3,s3a,s3b⟩:=sb.is;obtain⟨A4,m4,rfl,s4,s4a,s4b⟩:=se.is;have S1:=fun nn=>Xfb A1 A3 _ _ m1 m3 x.wr (w6.drewN nn) _ _ (s1.drewN nn) (s3.drewN nn) (by omega) (by omega)
     have S2:=fun nn=>Xfb A2 A4 _ _ m2 m4 x.rd (w6.drewN nn) _ _ (s2.drewN nn) (s4.drewN nn) (by omega) (by omega)
     have T1:=Hd S1;have T2:=Hd S2;clear S1 S2 s1 s2 s3 s4 sa sd sb se hxl hyl hxa hyb hx32;generalize bv x.tab=X at *;go_wp2_with fail;refine wp_region_quiet_lit (by kernel_rfl) (by kernel_rfl) ?_;repeat (first
      | ((with_reducible show wpQuiet _ _ _ _ (⟨some 116,_,_,_,_,_⟩::_) _);go_must(refine Xai (by kernel_rfl) 62 (.tmp 115) rfl (a.add (k*34)) X _ Tryz.underlying62 rfl HSZ.out (by rintro _ ⟨nq,rfl⟩;exact CA.out) ?_ ?_;go_simp;go_simp))
      | ((with_reducible show wpQuiet _ _ _ _ (⟨some 122,_,_,_,_,_⟩::_) _);go_must(refine Xai (by kernel_rfl) 62 (.tmp 121) rfl (b.add (k*34)) X _ Tryz.underlying62 rfl HSZ.out (by rintro _ ⟨nq,rfl⟩;exact CB.out) ?_ ?_;go_simp;go_simp))
      | go_big_quiet_step (first | (go_at_call 62;with_reducible refine Xc8 (T1.out _)) | (go_at_call 62;with_reducible refine Xc8 (T2.out _))))
     refine wpQuiet_nil ?_;intro nq;go_wp2_with fail;go_roundw
     case rel=>exact⟨k+1,j+nq,by omega,by go_num,by simp⟩
     case measure=>simp[intOf];omega
    ·go_wp2_with fail;go_ret;exact⟨rfl,below_drewN HB6.out j⟩
theorem Xbl{α:Type}(size:Nat):∀(l:List (List α)) (k:Nat) (x:List α),(∀(i:Nat) y,l[i]?=some y→y.length=size)→l[k]?=some x→∀j u,x[j]?=some u→l.flatten[k*size+j]?=some u
 | [],k,x,_,h,_,_,_=>by simp at h
 | y::r,0,x,hl,h,j,u,hu=>by
  have:y=x:=by simpa using h
  subst this;have hj:=(List.getElem?_eq_some_iff.1 hu).1;rw[List.flatten_cons,List.getElem?_append_left (by simpa using hj)];simpa using hu
 | y::r,k+1,x,hl,h,j,u,hu=>by
  have hy:=hl 0 y (by simp);rw[List.flatten_cons,List.getElem?_append_right (by rw[hy,Nat.add_mul];omega)];have:=Xbl size r k x (fun i z hz=>hl (i+1) z (by simpa using hz)) (by simpa using h) j u hu;rw[←this];congr 1
  rw[hy,Nat.add_mul];omega
theorem Xjk{w:World}{base n size c:Nat}{e:TypeId}{A:Option Addr}{xs:List Value}(h:w.ownsRow base e size (.slice A n c) n xs){i:Nat}{u:Value}(hu:xs[i]?=some u) :
 ∃g,A=some ⟨g,0,none⟩∧(Value.slice A n c).ownBlock=some g∧base≤g∧g<w.heap.size∧w.cell? ⟨g,i,none⟩=some u:=by
 rcases h.2 with⟨h1,h2⟩ | ⟨g,cap,cur,hv,hg,hh,r1,r2,r3,r4⟩
 ·subst h2;have h3:=h.1;rw[Nat.zero_mul]at h3;rw[List.length_eq_zero_iff.1 h3]at hu;simp at hu
 ·cases hv
  refine⟨g,rfl,rfl,hg,(Array.getElem?_eq_some_iff.1 hh).1,?_⟩;rw[cell_of_row w g i cur e (0,0) hh];rw[←r4,List.getElem?_take]at hu;split at hu
  ·simpa using hu
  ·cases hu
theorem Xjf{w:World}{base n size c:Nat}{e:TypeId}{A:Option Addr}{xs:List Value}(h:w.ownsRow base e size (.slice A n c) n xs):n≤c∧c≤maxLen:=by
 rcases h.2 with⟨h1,h2⟩ | ⟨g,cap,cur,hv,hg,hh,r1,r2,r3,r4⟩
 ·cases h1
  simp[maxLen]
 ·cases hv
  exact⟨r1,r2⟩
theorem OwnR.in_{w:World}{lo hi B:Nat}{v:Value}{l:List Int}(h:OwnR w lo hi v l)(hB:hi≤B):BytesIn w B v l:=by
 obtain⟨A,c,rfl⟩:=h.own.form;have hc:=Xjf h.own;refine⟨A,c,rfl,⟨bL _,fun i u hu=>?_⟩,hc.1,hc.2⟩;obtain⟨g,rfl,h1,h2,h3,h4⟩:=Xjk h.own hu;have:=h.lt g h1;exact⟨_,rfl,by show g<B;omega,by rw[Xa5,Nat.zero_add];exact h4⟩
theorem LVR.at_{α:Type}{EV:World→Nat→Nat→List Value→α→Prop}{e size:Nat}{w:World}{lo hi:Nat}{A:Option Addr}{n c:Nat}{l:List α}(h:LVR EV e size w lo hi (.slice A n c) l)(hS:Stays EV)
 (hlen:∀w lo hi cs x,EV w lo hi cs x→cs.length=size) :
 l.length=n∧(n≤c∧c≤maxLen)∧∀i x,l[i]?=some x→∃g cs L R,A=some ⟨g,0,none⟩∧g<hi∧(∀j u,cs[j]?=some u→w.cell? ⟨g,i*size+j,none⟩=some u)∧L≤R∧R≤hi∧EV w L R cs x:=by
 obtain⟨w0,css,L,R,h1,h2,h3,h4⟩:=h;obtain⟨A',c',e'⟩:=h1.form;cases e'
 refine⟨rfl,Xjf h1.own,fun i x hx=>?_⟩;have hi':=(List.getElem?_eq_some_iff.1 hx).1;have hl:∀(i:Nat) y,css[i]?=some y→y.length=size:=fun i y hy=>by
  have hi2:=(List.getElem?_eq_some_iff.1 hy).1;rw[h1.len]at hi2;exact hlen _ _ _ _ _ (h1.each i y _ hy (List.getElem?_eq_getElem hi2)).2.2.2.1
 obtain⟨cs,hcs⟩:∃cs,css[i]?=some cs:=⟨_,List.getElem?_eq_getElem (by rw[h1.len];exact hi')⟩;obtain⟨k1,k2,k3,k4,k5⟩:=h1.each i cs x hcs hx;obtain⟨g,cap,cur,hv,hg,hh⟩:∃g cap cur,(Value.slice A l.length c)=.slice (some ⟨g,0,none⟩) l.length cap∧lo≤g∧w0.heap[g]?=some (.cells cur e (0,0)):=by
  rcases h1.own.2 with⟨h5,h6⟩ | ⟨g,cap,cur,hv,hg,hh,_⟩
  ·omega
  ·exact⟨g,cap,cur,hv,hg,hh⟩
 have hglt:=(Array.getElem?_eq_some_iff.1 hh).1;cases hv
 refine⟨g,cs,L i,R i,rfl,by omega,fun j u hu=>?_,k2,by omega,hS w0 w _ _ _ _ (fun k a b=>h4 k (by omega) (by omega)) k4⟩;obtain⟨g',e1,_,_,_,h7⟩:=Xjk h1.own (Xbl size css i cs hl hcs j u hu);cases e1
 rw[←h7];exact World.cell?_of_block (h4 g hg (by omega))
theorem KeysIn.of_list{w:World}{B:Nat}{A:Option Addr}{n:Nat}{l:List (List Int)}(hn:l.length=n)(h:∀(i:Nat) x,l[i]?=some x→x.length=32∧∃g,A=some ⟨g,0,none⟩∧g<B∧∀j u,(bv x)[j]?=some u→w.cell? ⟨g,i*32+j,none⟩=some u):KeysIn w B A n l:=by
 have he:∀k ∈ l,k.length=32:=fun k hk=>by
  obtain⟨i,hi,rfl⟩:=List.getElem_of_mem hk;exact(h i _ (List.getElem?_eq_getElem hi)).1
 have hf:l.flatten.length=n*32:=by
  rw[←hn];clear hn h;induction l with
  | nil=>rfl
  | cons y r ih =>
   have h1:=ih (fun k hk=>he k (by simp[hk]));have h2:=he y (by simp);simp only[List.flatten_cons,List.length_append,List.length_cons,h1,h2];omega
 refine⟨hn,he,⟨by rw[bL];exact hf,fun i u hu=>?_⟩⟩;have hi:=(List.getElem?_eq_some_iff.1 hu).1;rw[bL,hf]at hi;have hk:i / 32<l.length:=by omega
 obtain⟨h1,g,rfl,h2,h3⟩:=h (i / 32) _ (List.getElem?_eq_getElem hk);refine⟨_,rfl,h2,?_⟩;rw[Xa5,Nat.zero_add];have hlt:i % 32<(bv l[i / 32]).length:=by rw[bL,h1];omega
 obtain⟨u',hu'⟩:∃u',(bv l[i / 32])[i % 32]?=some u':=⟨_,List.getElem?_eq_getElem hlt⟩;have h4:=h3 _ _ hu';rw[show i / 32*32+i % 32=i by omega]at h4;rw[h4];rw[bv_getElem?]at hu hu';obtain⟨z',hz',rfl⟩:∃z,(l[i / 32])[i % 32]?=some z∧u'=.int .u8 z:=by
  cases hq:(l[i / 32])[i % 32]? with
  | none=>rw[hq]at hu';simp at hu'
  | some z=>rw[hq]at hu';exact⟨z,rfl,by simpa using hu'.symm⟩
 have h5:=Xbl 32 l (i / 32) _ (fun i y hy=>he y (List.mem_of_getElem? hy)) (List.getElem?_eq_getElem hk) (i % 32) z' hz';rw[show i / 32*32+i % 32=i by omega]at h5;rw[h5]at hu;exact hu
theorem MsgV.in_{w:World}{lo hi:Nat}{q:Raw}{m:LMsg}(h:MsgV w lo hi q m):MsgIn w hi q m:=by
 obtain⟨a1,b1,a2,b2,a3,b3,ho,h5,h6,h7⟩:=h.is;obtain⟨k1,k2,k3⟩:=h5.at_ Xrt (fun w lo hi cs x hx=>by rw[hx.1,bL,hx.2]);obtain⟨i1,i2,i3⟩:=h6.at_ Xsl (fun w lo hi cs x hx=>by obtain⟨_,_,_,rfl,_⟩:=hx;rfl);obtain⟨l1,l2,l3⟩:=h7.at_ Xnu (fun w lo hi cs x hx=>by obtain⟨_,_,_,rfl,h,_⟩:=hx;simp[bL,h]);refine⟨h.recent,KeysIn.of_list k1 fun i x hx=>?_,⟨i1,fun i x hx=>?_⟩,⟨l1,fun i x hx=>?_⟩,k2,i2,l2⟩
 ·obtain⟨g,cs,L,R,e,hg,hc,hL,hR,hE⟩:=k3 i x hx;obtain⟨rfl,hl⟩:=hE;exact⟨hl,g,e,by omega,hc⟩
 ·obtain⟨g,cs,L,R,e,hg,hc,hL,hR,hE⟩:=i3 i x hx;obtain⟨va,vd,mid,rfl,h1,h2,h3,h4⟩:=hE;refine⟨_,va,vd,e,by show g<hi;omega,?_,?_,?_,h3.in_ (by omega),h4.in_ (by omega)⟩
  ·rw[Xa5,Nat.zero_add];exact hc 0 _ rfl
  ·rw[Xa5,Nat.zero_add];exact hc 1 _ rfl
  ·rw[Xa5,Nat.zero_add];exact hc 2 _ rfl
 ·obtain⟨g,cs,L,R,e,hg,hc,hL,hR,hE⟩:=l3 i x hx;obtain⟨va,vd,mid,rfl,h0,h1,h2,h3,h4⟩:=hE;exact⟨_,va,vd,e,by show g<hi;omega,fun j u hu=>by rw[Xa5,Nat.zero_add];exact hc j u hu,h0,h3.in_ (by omega),h4.in_ (by omega)⟩
def keyRow(n:Nat)(z:List Int):List Value:=(List.replicate n (bv z)).flatten
theorem Xgg(n:Nat){z:List Int}(hz:z.length=32):(keyRow n z).length=n*32:=by
 unfold keyRow;induction n with
 | zero=>rfl
 | succ n ih=>rw[List.replicate_succ,List.flatten_cons,List.length_append,ih,bL,hz];omega
theorem Xhz(n:Nat)(z:List Int):keyRow (n+1) z=keyRow n z++bv z:=by
 unfold keyRow;rw[List.replicate_succ',List.flatten_append];simp
theorem Xor{k:Nat}{z:List Int}(hz:z.length=32)(xs ys:List Value)(hys:(k+1)*32≤ys.length) :
 (xs++(keyRow k z++ys.drop (k*32))).take (xs.length+k*32)++bv z++(xs++(keyRow k z++ys.drop (k*32))).drop (xs.length+k*32+(bv z).length)=xs++(keyRow (k+1) z++ys.drop ((k+1)*32)):=by
 have hl:=Xgg k hz;have hl2:(xs++keyRow k z).length=xs.length+k*32:=by rw[List.length_append,hl]
 have e2:xs.length+k*32+(bv z).length=(xs++keyRow k z).length+32:=by rw[hl2,bL,hz]
 rw[←List.append_assoc,List.take_left' hl2,e2,List.drop_length_add_append,List.drop_drop,Xhz,show k*32+32=(k+1)*32 by omega];simp only[List.append_assoc]
theorem Xeh{z:List Int}(hz:z.length=32):(Tryz.prog.info? 62).map (·.size)=some (bv z).length:=by rw[Xan,bL,hz]
theorem But.drewN{w w':World}{p:Nat}(h:But p w w')(n:Nat):But p w (w'.drewN n):=⟨h.os,h.tape,h.output,h.size,h.block⟩
theorem Xea{P:Program}{L:List Oper}{Q:Exit→Act→World→Prop}{md:Region.Mode}{S:World→Prop}{i j:Nat}{o o':Oper}{fuel:Nat}{listed:Array Bool}{a:Act}{w:World}(ho:L[i]?=some o)(ho':L[j]?=some o')(hr:Region.ready md L.toArray listed=[i,j])
 (hw:Region.wanted o (yielded L.toArray a.tmps)=true) (hw':Region.wanted o' (yielded L.toArray a.tmps)=true)
 (h:∀K':Act→World→Prop,Shut (∀a w,S w→wpAnyH P md L.toArray Q S fuel (listed.setIfInBounds i true) a w→K' a w)→Oper.wp P o a w K' Q)
 (h':∀K':Act→World→Prop,Shut (∀a w,S w→wpAnyH P md L.toArray Q S fuel (listed.setIfInBounds j true) a w→K' a w)→Oper.wp P o' a w K' Q):wpAnyH P md L.toArray Q S (fuel+1) listed a w:=
 wpAnyH_ready hr (by simp) (AllReadyH.cons (by simpa using ho) (fun K hK=>by
  rw[if_pos hw];exact h K (fun a w hS hW=>hK a w hS fun _=>hW)) (AllReadyH.cons (by simpa using ho') (fun K hK=>by
  rw[if_pos hw'];exact h' K (fun a w hS hW=>hK a w hS fun _=>hW)) AllReadyH.nil))
section
variable{P:Program}
theorem Xb6{o:Oper}{a:Act}{w:World}{K:Act→World→Prop}{Q:Exit→Act→World→Prop}(t e:TypeId)(y:Operand)(ho:o.op=.buildSlice t 1 #[(0,y)])
 (cs:List Value) (z:Value) (size bytes:Nat) (hu:P.underlying t=some (.slice e)) (hi:(P.info? e).map (fun i=>(i.zero,i.size,i.bytes))=some (some z,size,bytes)) (hzs:z.cells.size=size) (hs0:0<size) (hs1:size≤1000)
 (hcs:cs.length=size) (hy:a.eval y=.agg cs.toArray)
 (h:K (a.put o.dst (.slice (some ⟨w.heap.size,0,none⟩) 1 1)) (w.alloc (.cells cs.toArray e))):o.wp P a w K Q:=by
 obtain⟨ie,hie,h1,h2,_⟩:=info_parts hi;subst h2;refine wp_buildSlice t e 1 _ ho cs.toArray ie z hu hie h1 (by omega) (by omega) ?_ h;have:=Go.Great.fill_whole (s:=ie.size) hs0 [Value.agg cs.toArray] ((Array.range (1*ie.size)).map (z.cells[· % z.cells.size]!)) (by simp[Value.cells,hcs]) (by simp);simpa [hy,Value.cells]using this
theorem Xc4{w0:World}{c:Array Value}{o:Oper}{a:Act}{K:Act→World→Prop}{Q:Exit→Act→World→Prop}(s x:Operand)(t:TypeId)
 (ho:o.op=.call { callee:=.builtin .append,args:=#[s,x],argTypes:=#[t,t] })
 (base:Nat) (e:TypeId) (z:Value) (size bytes:Nat) (ht:P.underlying t=some (.slice e)) (hi:(P.info? e).map (fun i=>(i.zero,i.size,i.bytes))=some (some z,size,bytes)) (hzs:z.cells.size=size) (hs0:0<size)
 (v:Value) (n:Nat) (xs cs:List Value) (cc:Nat) (hcs:cs.length=size) (h1:∀u ∈ cs,u.oneCell'=true) (hc:c=cs.toArray) (hs:a.eval s=v) (hown:w0.ownsRow base e size v n xs)
 (hx:a.eval x=.slice (some ⟨w0.heap.size,0,none⟩) 1 cc) (hbase:base≤w0.heap.size) (hnm:n+1≤maxLen) (hbytes:(n+1)*bytes≤140737488355328)
 (h:∀v' w',w'.ownsRow base e size v' (n+1) (xs++cs)→Grew w0 w' v v'→K (a.put o.dst v') w'):o.wp P a (w0.alloc (.cells c e)) K Q:=by
 subst hc;obtain⟨i0,hi,hz0,hz1,hz2⟩:=info_parts hi;have hr:=Row.new w0 e cs;obtain⟨v',w',hrun,h2,h3,_,h5⟩:=run_append_own_at (P:=P) (w0.alloc (.cells cs.toArray e)) base t o.type e i0 z size bytes ht hi hz0 hz1 hz2 hzs hs0 v n xs (hown.alloc _) ⟨w0.heap.size,0,none⟩ 1 cc cs (by omega)
  (fun j u hu=>by rw[Xa5,hr.cell];simpa using hu) h1 hnm hbytes (by simp;omega)
 unfold Oper.wp execOp;simp only[ho,resolve,invoke,builtin,Sem.run_bind,Sem.run_pure,Result.andThen_ok,List.map_toArray,List.map_cons,List.map_nil,hs,hx,hrun];refine h v' w' h2 ((Grew.of_below ((Br _ w0).alloc (Lr _) _) v).trans ⟨h3,fun k hk=>?_⟩);rcases h5 with h5 | h5
 ·exact .inl (h5 ▸ hk)
 ·rw[h5]at hk;cases hk
  exact .inr (Lr _)
end
theorem Xcn{w:World}{base:Nat}{e:TypeId}{size:Nat}{v:Value}{n:Nat}{xs:List Value}(h:w.ownsRow base e size v n xs):∃A c,v=.slice A n c:=by
 rcases h.2 with⟨rfl,rfl⟩ | ⟨g,cap,cur,rfl,_⟩
 ·exact⟨_,_,rfl⟩
 ·exact⟨_,_,rfl⟩
theorem Xj6(t:List Int){a b:Value}(ha:a.oneCell'=true)(hb:b.oneCell'=true):∀u ∈ bv t++[a,b],u.oneCell'=true:=by
 intro u hu;rcases List.mem_append.1 hu with hu | hu
 ·exact Xbj t u hu
 ·simp only[List.mem_cons,List.not_mem_nil,or_false]at hu;rcases hu with rfl | rfl <;> assumption
end Go.Proofs.YtaljfbbieefooaaGreatDoor
