import Derived.Test.YtkhcgclnmdgpbaaDoorM1
import Derived.Laws.Slices
import Derived.Deep.DeepCutAuto
import Derived.Maps.OwnSet
import Derived.DeepKeys4
import Derived.WideKeyArr
import Derived.Laws.EntriesVeiled
import Derived.Deep.RegionHeld3
import Derived.WideKeyEntry
import Derived.WalkMore
set_option maxRecDepth 100000
set_option maxHeartbeats 16000000
set_option linter.unusedSimpArgs false
set_option linter.unusedVariables false
namespace Go.Proofs.YtkhcgclnmdgpbaaDoor
def kless:List Int→List Int→Bool
 | _,[]=>false
 | [],_::_=>true
 | a::x,b::y=>decide (a<b)||(decide (a=b)&&kless x y)
theorem Xdq:∀x:List Int,kless x x=false
 | []=>rfl
 | a::x=>by simp[kless,Xdq x]
theorem Xev:∀x y z:List Int,kless x y=true→kless y z=true→kless x z=true
 | _,_,[],_,h=>by simp[kless]at h
 | _,[],_::_,h,_=>by simp[kless]at h
 | [],_::_,_::_,_,_=>rfl
 | a::x,b::y,c::z,h1,h2=>by
  simp only[kless,Bool.or_eq_true,Bool.and_eq_true,decide_eq_true_iff]at h1 h2 ⊢;rcases h1 with h1 | ⟨h1,h1'⟩ <;> rcases h2 with h2 | ⟨h2,h2'⟩
  ·left;omega
  ·left;omega
  ·left;omega
  ·right;exact⟨by omega,Xev x y z h1' h2'⟩
theorem Xeq:∀x y:List Int,kless x y=false→kless y x=false→x=y
 | [],[],_,_=>rfl
 | [],_::_,h,_=>by simp[kless]at h
 | _::_,[],_,h=>by simp[kless]at h
 | a::x,b::y,h1,h2=>by
  simp only[kless,Bool.or_eq_false_iff,Bool.and_eq_false_iff,decide_eq_false_iff_not]at h1 h2;have e:a=b:=by omega
  subst e;have h3:kless x y=false:=by rcases h1.2 with h | h <;> simp_all
  have h4:kless y x=false:=by rcases h2.2 with h | h <;> simp_all
  rw[Xeq x y h3 h4]
theorem Xgs{x y:List Int}(h:kless x y=true):kless y x=false:=by
 cases h2:kless y x with
 | false=>rfl
 | true =>
  have:=Xev x y x h h2;rw[Xdq]at this;cases this
theorem Xei{x y:List Int}(h:kless x y=true):x≠y:=fun e=>by
 subst e;rw[Xdq]at h;cases h
structure LAcc where
 c:Int
 o:List Int
 s:Int
 deriving DecidableEq
structure LHold where
 k:List Int
 a:LAcc
 deriving DecidableEq
def blank13:LAcc:=⟨0,List.replicate 32 0,0⟩
structure AccOk(a:LAcc):Prop where
 c:0≤a.c∧a.c<18446744073709551616
 o:a.o.length=32∧AllBytes a.o
 s:0≤a.s∧a.s<18446744073709551616
theorem Xcf:AccOk blank13:=⟨by decide,⟨rfl,fun z hz=>by rw[List.eq_of_mem_replicate hz];constructor <;> decide⟩,by decide⟩
structure HoldOk(x:LHold):Prop where
 k:x.k.length=32∧AllBytes x.k
 a:AccOk x.a
structure Sto(L:List LHold):Prop where
 rise:L.Pairwise fun x y=>kless x.k y.k=true
 nb:∀x ∈ L,x.a≠blank13
 ok:∀x ∈ L,HoldOk x
theorem Xqy:Sto []:=⟨List.Pairwise.nil,by simp,by simp⟩
theorem Sto.tail{x:LHold}{r:List LHold}(h:Sto (x::r)):Sto r:=⟨(List.pairwise_cons.1 h.rise).2,fun y hy=>h.nb y (List.mem_cons_of_mem _ hy),fun y hy=>h.ok y (List.mem_cons_of_mem _ hy)⟩
def getH:List LHold→List Int→LAcc
 | [],_=>blank13
 | x::r,k=>if x.k=k then x.a else getH r k
theorem Xha:∀{L:List LHold} {k:List Int},(∀x ∈ L,x.k≠k)→getH L k=blank13
 | [],_,_=>rfl
 | x::r,k,h=>by
  unfold getH;rw[if_neg (h x (by simp)),Xha fun y hy=>h y (List.mem_cons_of_mem _ hy)]
theorem Xd1:∀(L:List LHold) (k:List Int),((∀x ∈ L,x.k≠k)∧getH L k=blank13)∨⟨k,getH L k⟩ ∈ L
 | [],_=>.inl ⟨by simp,rfl⟩
 | x::r,k=>by
  unfold getH;by_cases e:x.k=k
  ·rw[if_pos e];right
   subst e;exact List.mem_cons_self
  ·rw[if_neg e];rcases Xd1 r k with⟨h1,h2⟩ | h
   ·exact .inl ⟨fun y hy=>by
     rcases List.mem_cons.1 hy with rfl | hy
     ·exact e
     ·exact h1 y hy,h2⟩
   ·exact .inr (List.mem_cons_of_mem _ h)
theorem Xiy:∀{L:List LHold},(L.Pairwise fun x y=>kless x.k y.k=true)→∀{x:LHold},x ∈ L→getH L x.k=x.a
 | y::r,h,x,hx=>by
  obtain⟨h1,h2⟩:=List.pairwise_cons.1 h;unfold getH;rcases List.mem_cons.1 hx with rfl | hx
  ·rw[if_pos rfl]
  ·rw[if_neg (Xei (h1 x hx)),Xiy h2 hx]
theorem Sto.mem{L:List LHold}(h:Sto L){x:LHold}:x ∈ L↔x.a≠blank13∧getH L x.k=x.a:=by
 constructor
 ·intro hx;exact⟨h.nb x hx,Xiy h.rise hx⟩
 ·rintro⟨h1,h2⟩;rcases Xd1 L x.k with⟨_,h3⟩ | h3
  ·exact absurd (h2.symm.trans h3) h1
  ·rw[h2]at h3;exact h3
theorem Sto.get_ok{L:List LHold}(h:Sto L)(k:List Int):AccOk (getH L k):=by
 rcases Xd1 L k with⟨_,h1⟩ | h1
 ·rw[h1];exact Xcf
 ·exact(h.ok _ h1).a
theorem Xly:∀{L M:List LHold},(L.Pairwise fun x y=>kless x.k y.k=true)→(M.Pairwise fun x y=>kless x.k y.k=true)→(∀x,x ∈ L↔x ∈ M)→L=M
 | [],[],_,_,_=>rfl
 | [],y::r,_,_,h=>absurd ((h y).2 List.mem_cons_self) (by simp)
 | x::r,[],_,_,h=>absurd ((h x).1 List.mem_cons_self) (by simp)
 | x::r,y::t,h1,h2,h=>by
  obtain⟨a1,a2⟩:=List.pairwise_cons.1 h1;obtain⟨b1,b2⟩:=List.pairwise_cons.1 h2;have e:x=y:=by
   rcases List.mem_cons.1 ((h x).1 List.mem_cons_self)with e | hx
   ·exact e
   rcases List.mem_cons.1 ((h y).2 List.mem_cons_self)with e | hy
   ·exact e.symm
   have h3:=Xgs (b1 x hx);rw[a1 y hy]at h3;cases h3
  subst e;congr 1
  refine Xly a2 b2 fun z=>?_
  constructor
  ·intro hz;rcases List.mem_cons.1 ((h z).1 (List.mem_cons_of_mem _ hz))with rfl | hz'
   ·exact absurd rfl (Xei (a1 z hz))
   ·exact hz'
  ·intro hz;rcases List.mem_cons.1 ((h z).2 (List.mem_cons_of_mem _ hz))with rfl | hz'
   ·exact absurd rfl (Xei (b1 z hz))
   ·exact hz'
theorem Sto.ext{L M:List LHold}(h:Sto L)(h':Sto M)(he:∀k,getH L k=getH M k):L=M:=
 Xly h.rise h'.rise fun x=>by rw[h.mem,h'.mem,he]
def putG(k:List Int)(a:LAcc):Bool→List LHold→List LHold
 | put,[]=>if put then[]else[⟨k,a⟩]
 | put,x::r=>(if !put&&kless k x.k then[⟨k,a⟩]else[])++((if x.k=k then[]else[x])++putG k a (put||kless k x.k) r)
def putH(L:List LHold)(k:List Int)(a:LAcc):List LHold:=putG k a (decide (a=blank13)) L
theorem Xio(k:List Int)(a:LAcc):∀(L:List LHold) (put:Bool) (x:LHold),x ∈ putG k a put L↔(x ∈ L∧x.k≠k)∨(put=false∧x=⟨k,a⟩)
 | [],put,x=>by cases put <;> simp[putG]
 | y::r,put,x=>by
  unfold putG;rw[List.mem_append,List.mem_append,Xio k a r];have h1:(x ∈ (if y.k=k then([]:List LHold)else[y]))↔(x=y∧x.k≠k):=by
   split
   ·rename_i e
    constructor
    ·simp
    ·rintro⟨rfl,h⟩;exact absurd e h
   ·rename_i e
    constructor
    ·intro h;obtain rfl:=List.mem_singleton.1 h;exact⟨rfl,e⟩
    ·rintro⟨rfl,_⟩;simp
  rw[h1,List.mem_cons];cases put <;> cases hk:kless k y.k <;> simp <;> grind
theorem Xf8(k:List Int)(a:LAcc):∀(L:List LHold),putG k a true L=L.filter fun x=>x.k≠k
 | []=>rfl
 | x::r=>by
  unfold putG;rw[Bool.true_or,Xf8 k a r];by_cases e:x.k=k <;> simp[e]
theorem Xgo(k:List Int)(a:LAcc):∀(L:List LHold) (put:Bool),(L.Pairwise fun x y=>kless x.k y.k=true)→(putG k a put L).Pairwise fun x y=>kless x.k y.k=true
 | [],put,_=>by cases put <;> simp[putG]
 | x::r,true,h=>by
  rw[Xf8];exact h.sublist List.filter_sublist
 | x::r,false,h=>by
  obtain⟨h1,h2⟩:=List.pairwise_cons.1 h;unfold putG;cases hk:kless k x.k with
  | true =>
   have hne:x.k≠k:=fun e=>Xei hk e.symm
   simp only[Bool.not_false,Bool.true_and,if_true,Bool.false_or,if_neg hne];rw[Xf8];refine List.pairwise_cons.2 ⟨fun y hy=>?_,List.pairwise_cons.2 ⟨fun y hy=>h1 y (List.mem_filter.1 hy).1,h2.sublist List.filter_sublist⟩⟩;rcases List.mem_cons.1 hy with rfl | hy
   ·exact hk
   ·exact Xev _ _ _ hk (h1 y (List.mem_filter.1 hy).1)
  | false =>
   simp only[Bool.not_false,Bool.true_and,Bool.false_eq_true,if_false,Bool.false_or,List.nil_append];by_cases e:x.k=k
   ·rw[if_pos e,List.nil_append];exact Xgo k a r false h2
   ·rw[if_neg e];refine List.pairwise_cons.2 ⟨fun y hy=>?_,Xgo k a r false h2⟩;rcases(Xio k a r false y).1 hy with⟨hy,_⟩ | ⟨_,rfl⟩
    ·exact h1 y hy
    ·cases h3:kless x.k k with
     | true=>rfl
     | false=>exact absurd (Xeq _ _ h3 hk) e
theorem Xc7{L:List LHold}{k:List Int}{a:LAcc}{x:LHold}:x ∈ putH L k a↔(x ∈ L∧x.k≠k)∨(a≠blank13∧x=⟨k,a⟩):=by
 unfold putH;rw[Xio];simp
theorem Sto.put{L:List LHold}(h:Sto L){k:List Int}{a:LAcc}(hk:k.length=32∧AllBytes k)(ha:AccOk a):Sto (putH L k a):=by
 refine⟨Xgo k a L _ h.rise,fun x hx=>?_,fun x hx=>?_⟩
 ·rcases Xc7.1 hx with⟨hx,_⟩ | ⟨h1,rfl⟩
  ·exact h.nb x hx
  ·exact h1
 ·rcases Xc7.1 hx with⟨hx,_⟩ | ⟨h1,rfl⟩
  ·exact h.ok x hx
  ·exact⟨hk,ha⟩
theorem Xgf{L:List LHold}(h:Sto L){k:List Int}{a:LAcc}(hk:k.length=32∧AllBytes k)(ha:AccOk a)(k':List Int):getH (putH L k a) k'=if k'=k then a else getH L k':=by
 have hs:=h.put hk ha;by_cases e:k'=k
 ·rw[if_pos e];subst e;by_cases hb:a=blank13
  ·rw[hb,Xha];intro x hx;rcases Xc7.1 hx with⟨_,h1⟩ | ⟨h1,_⟩
   ·exact h1
   ·exact absurd rfl h1
  ·have:(⟨k',a⟩:LHold) ∈ putH L k' a:=Xc7.2 (.inr ⟨hb,rfl⟩);exact Xiy hs.rise this
 ·rw[if_neg e];rcases Xd1 L k' with⟨h1,h2⟩ | h1
  ·rw[h2,Xha];intro x hx;rcases Xc7.1 hx with⟨hx,_⟩ | ⟨_,rfl⟩
   ·exact h1 x hx
   ·exact fun e'=>e e'.symm
  ·have:(⟨k',getH L k'⟩:LHold) ∈ putH L k a:=Xc7.2 (.inl ⟨h1,e⟩);exact Xiy hs.rise this
theorem Xln(k:List Int)(a:LAcc):∀(L:List LHold) (put:Bool),(putG k a put L).length≤L.length+1
 | [],put=>by cases put <;> simp[putG]
 | x::r,put=>by
  unfold putG;rw[List.length_append,List.length_append];have hf:(putG k a true r).length≤r.length:=by
   rw[Xf8];exact List.length_filter_le _ _
  have hx:(if x.k=k then([]:List LHold)else[x]).length≤1:=by split <;> simp
  rw[List.length_cons];cases put with
  | true =>
   rw[Bool.true_or];simp only[Bool.not_true,Bool.false_and,Bool.false_eq_true,if_false,List.length_nil];omega
  | false =>
   cases hk:kless k x.k with
   | true =>
    simp only[Bool.not_false,Bool.true_and,if_true,Bool.false_or,List.length_singleton];omega
   | false =>
    have:=Xln k a r false;simp only[Bool.not_false,Bool.true_and,Bool.false_eq_true,if_false,Bool.false_or,List.length_nil];omega
theorem Xrf(L:List LHold)(k:List Int)(a:LAcc):(putH L k a).length≤L.length+1:=Xln k a L _
open Go.RowKit
def LAcc.cells(a:LAcc):List Value:=.int .u64 a.c::(bv a.o++[.int .u64 a.s])
def LHold.cells(x:LHold):List Value:=bv x.k++x.a.cells
theorem Xbs{a:LAcc}(h:a.o.length=32):a.cells.length=34:=by simp[LAcc.cells,bL,h]
theorem Xe3(a:LAcc):∀u ∈ a.cells,u.oneCell'=true:=by
 intro u hu;rcases List.mem_cons.1 hu with rfl | hu
 ·rfl
 rcases List.mem_append.1 hu with hu | hu
 ·exact Xcd _ _ hu
 ·obtain rfl:=List.mem_singleton.1 hu;rfl
theorem Xch{x:LHold}(hk:x.k.length=32)(h:x.a.o.length=32):x.cells.length=66:=by
 unfold LHold.cells;rw[List.length_append,bL,hk,Xbs h]
theorem Xe9(x:LHold):∀u ∈ x.cells,u.oneCell'=true:=by
 intro u hu;rcases List.mem_append.1 hu with hu | hu
 ·exact Xcd _ _ hu
 ·exact Xe3 _ _ hu
theorem acc_c(a:LAcc):a.cells[0]?=some (.int .u64 a.c):=rfl
theorem acc_s{a:LAcc}(h:a.o.length=32):a.cells[33]?=some (.int .u64 a.s):=by
 unfold LAcc.cells;rw[show(33:Nat)=32+1 from rfl,List.getElem?_cons_succ,List.getElem?_append_right (by rw[bL,h];omega),bL,h];rfl
theorem acc_o{a:LAcc}{j:Nat}{u:Value}(h:(bv a.o)[j]?=some u):a.cells[1+j]?=some u:=by
 unfold LAcc.cells;rw[Nat.add_comm,List.getElem?_cons_succ,List.getElem?_append_left (List.getElem?_eq_some_iff.1 h).1];exact h
theorem Xot{x:LHold}{j:Nat}{u:Value}(h:(bv x.k)[j]?=some u):x.cells[j]?=some u:=by
 unfold LHold.cells;rw[List.getElem?_append_left (List.getElem?_eq_some_iff.1 h).1];exact h
theorem Xsv{x:LHold}(hk:x.k.length=32){j:Nat}{u:Value}(h:x.a.cells[j]?=some u):x.cells[32+j]?=some u:=by
 unfold LHold.cells;rw[List.getElem?_append_right (by rw[bL,hk];omega),bL,hk,Nat.add_sub_cancel_left];exact h
theorem Xla{a b:LAcc}:a=b↔a.c=b.c∧a.o=b.o∧a.s=b.s:=by
 obtain⟨x,y,z⟩:=a;obtain⟨x',y',z'⟩:=b;simp
theorem Xsb{a b:LHold}:a=b↔a.k=b.k∧a.a=b.a:=by
 obtain⟨x,y⟩:=a;obtain⟨x',y'⟩:=b;simp
theorem Xay{a:LAcc}(h:a.o.length=32):(Tryd.prog.info? 72).map (·.size)=some a.cells.length:=by
 rw[Xbs h];kernel_rfl
theorem Xh4{x:LHold}(hk:x.k.length=32)(h:x.a.o.length=32):(Tryd.prog.info? 78).map (·.size)=some x.cells.length:=by
 rw[Xch hk h];kernel_rfl
theorem Xg4:(Tryd.prog.info? 78).map (fun i=>(i.zero,i.size,i.bytes))=some (some (.agg (LHold.cells ⟨List.replicate 32 0,blank13⟩).toArray),66,80):=by kernel_rfl
theorem zszHo:(Value.agg (LHold.cells ⟨List.replicate 32 0,blank13⟩).toArray).cells.size=66:=by kernel_rfl
theorem Xgh:(Tryd.prog.info? 72).map (·.zero)=some (some (.agg blank13.cells.toArray)):=by kernel_rfl
theorem Xez:Tryd.prog.built 72 []=some blank13.cells.toArray:=by kernel_rfl
theorem Xg2(xs:Array Value)(off:Nat)(w:World):(part 72 xs off).run Tryd.prog w=.ok (.agg (xs.extract off (off+34))) w:=by
 have h1:(isAgg 72).run Tryd.prog w=.ok true w:=by kernel_rfl
 simp[part,h1]
theorem Xcb(xs:Array Value)(off:Nat)(w:World){v:Value}(h:xs[off]?=some v):(part 44 xs off).run Tryd.prog w=.ok v w:=
 run_part_plain (P:=Tryd.prog) w (by kernel_rfl) h
theorem Xjf{a:LAcc}(h:a.o.length=32):a.cells.toArray.extract 1 (1+32)=(bv a.o).toArray:=by
 apply Array.ext'
 unfold LAcc.cells;rw[Array.toList_extract];simp[List.extract,bL,h]
theorem Xht{x:LHold}(h:x.k.length=32):x.cells.toArray.extract 0 (0+32)=(bv x.k).toArray:=by
 apply Array.ext'
 unfold LHold.cells;rw[Array.toList_extract];simp[List.extract,bL,h]
theorem Xhw{x:LHold}(h:x.k.length=32)(ho:x.a.o.length=32):x.cells.toArray.extract 32 (32+34)=x.a.cells.toArray:=by
 apply Array.ext'
 unfold LHold.cells;rw[Array.toList_extract];simp[List.extract,bL,h];exact List.take_of_length_le (by rw[Xbs ho];omega)
theorem Xs0:Tryd.prog.stoodInHeld 72=false:=by kernel_rfl
theorem Xok:Tryd.prog.underlying 72=some (.struct (Tryd.prog.fieldsOf 72)):=by kernel_rfl
theorem Xp8:Tryd.prog.stoodInHeld 78=false:=by kernel_rfl
theorem Xnp:Tryd.prog.underlying 78=some (.struct (Tryd.prog.fieldsOf 78)):=by kernel_rfl
theorem u64_eq(e:Nat)(a b:Int)(w:World):(Op.equalIn (e+1) 44 (.int .u64 a) (.int .u64 b)).run Tryd.prog w=.ok (a==b) w:=
 run_equalIn_int w e 44 .u64 .u64 _ _ Tryd.underlying44
theorem Xmh(e:Nat)(X Y:Array Value)(w:World){a b:Value}{s s' v v':Int}{c:Bool}(pa:(part 68 X 1).run Tryd.prog w=.ok a w)(pb:(part 68 Y 1).run Tryd.prog w=.ok b w)
 (ps:(part 44 X 0).run Tryd.prog w=.ok (.int .u64 s) w) (ps':(part 44 Y 0).run Tryd.prog w=.ok (.int .u64 s') w) (pv:(part 44 X 33).run Tryd.prog w=.ok (.int .u64 v) w) (pv':(part 44 Y 33).run Tryd.prog w=.ok (.int .u64 v') w)
 (hk:(Op.equalIn (e+1) 68 a b).run Tryd.prog w=.ok c w):(Op.eqFields (e+1) X Y (Tryd.prog.fieldsOf 72).toList).run Tryd.prog w=.ok ((s==s')&&c&&(v==v')) w:=by
 simp only[Program.fieldsOf,Tryd.underlying72];have hb:=u64_eq e;simp only[Op.eqFields,ne_eq,String.reduceEq,not_false_eq_true,if_true,Sem.run_bind,ps,ps',Result.andThen_ok,hb];cases hs:(s==s')
 ·simp
 ·simp only[Bool.not_true,Bool.false_eq_true,if_false,pa,pb,Sem.run_bind,Result.andThen_ok,hk];cases c
  ·simp
  ·simp only[Bool.not_true,Bool.false_eq_true,if_false,pv,pv',Sem.run_bind,Result.andThen_ok,hb];cases hv:(v==v') <;> simp
theorem Xm0(d:Nat){x y:LAcc}(hx:x.o.length=32)(hy:y.o.length=32)(w:World) :
 (Op.equalIn (d+1+1+1) 72 (.agg x.cells.toArray) (.agg y.cells.toArray)).run Tryd.prog w=.ok (decide (x=y)) w:=by
 have px1:=Xcu x.cells.toArray 1 w;have py1:=Xcu y.cells.toArray 1 w;rw[Xjf hx]at px1;rw[Xjf hy]at py1;have px2:=Xcb x.cells.toArray 0 w (v:=.int .u64 x.c) (by rw[List.getElem?_toArray];exact acc_c x);have py2:=Xcb y.cells.toArray 0 w (v:=.int .u64 y.c) (by rw[List.getElem?_toArray];exact acc_c y);have px3:=Xcb x.cells.toArray 33 w (v:=.int .u64 x.s) (by rw[List.getElem?_toArray];exact acc_s hx);have py3:=Xcb y.cells.toArray 33 w (v:=.int .u64 y.s) (by rw[List.getElem?_toArray];exact acc_s hy);rw[run_equalIn_struct w (d+1+1) 72 _ _ Xok Xs0,Xmh (d+1) _ _ w px1 py1 px2 py2 px3 py3 (Xjs d hx hy w)];congr 1
 rw[Bool.eq_iff_iff,Bool.and_eq_true,Bool.and_eq_true,decide_eq_true_iff,decide_eq_true_iff,beq_iff_eq,beq_iff_eq,Xla,and_assoc]
theorem Xou{x y:LAcc}(hx:x.o.length=32)(hy:y.o.length=32)(w:World)(d:Nat)(hd:d=9997) :
 (Op.equalIn 10000 72 (.agg x.cells.toArray) (.agg y.cells.toArray)).run Tryd.prog w=.ok (decide (x=y)) w:=by
 have h:=Xm0 d hx hy w;subst hd;exact h
theorem Xov{x y:LAcc}(hx:x.o.length=32)(hy:y.o.length=32)(w:World):(binOp .eql 72 (.agg x.cells.toArray) (.agg y.cells.toArray)).run Tryd.prog w=.ok (.bool (decide (x=y))) w:=by
 rw[run_eql_struct,Xou hx hy w _ rfl];rfl
theorem Xfr{x y:LAcc}(hx:x.o.length=32)(hy:y.o.length=32)(w:World):(binOp .neq 72 (.agg x.cells.toArray) (.agg y.cells.toArray)).run Tryd.prog w=.ok (.bool (!decide (x=y))) w:=by
 rw[run_neq_struct,Xou hx hy w _ rfl];rfl
theorem Xkk(e:Nat)(X Y:Array Value)(w:World){a b a' b':Value}{c c':Bool}(pa:(part 68 X 0).run Tryd.prog w=.ok a w)(pb:(part 68 Y 0).run Tryd.prog w=.ok b w)
 (ps:(part 72 X 32).run Tryd.prog w=.ok a' w) (ps':(part 72 Y 32).run Tryd.prog w=.ok b' w)
 (hk:(Op.equalIn e 68 a b).run Tryd.prog w=.ok c w) (ha:(Op.equalIn e 72 a' b').run Tryd.prog w=.ok c' w):(Op.eqFields e X Y (Tryd.prog.fieldsOf 78).toList).run Tryd.prog w=.ok (c&&c') w:=by
 simp only[Program.fieldsOf,Tryd.underlying78];simp only[Op.eqFields,ne_eq,String.reduceEq,not_false_eq_true,if_true,Sem.run_bind,pa,pb,Result.andThen_ok,hk];cases c
 ·simp
 ·simp only[Bool.not_true,Bool.false_eq_true,if_false,ps,ps',Sem.run_bind,Result.andThen_ok,ha];cases c' <;> simp
theorem Xo8(d:Nat){x y:LHold}(hkx:x.k.length=32)(hky:y.k.length=32)(hx:x.a.o.length=32)(hy:y.a.o.length=32)(w:World) :
 (Op.equalIn (d+1+1+1+1) 78 (.agg x.cells.toArray) (.agg y.cells.toArray)).run Tryd.prog w=.ok (decide (x=y)) w:=by
 have px1:=Xcu x.cells.toArray 0 w;have py1:=Xcu y.cells.toArray 0 w;rw[Xht hkx]at px1;rw[Xht hky]at py1;have px2:=Xg2 x.cells.toArray 32 w;have py2:=Xg2 y.cells.toArray 32 w;rw[Xhw hkx hx]at px2;rw[Xhw hky hy]at py2;rw[run_equalIn_struct w (d+1+1+1) 78 _ _ Xnp Xp8,Xkk (d+1+1+1) _ _ w px1 py1 px2 py2 (Xjs (d+1) hkx hky w) (Xm0 d hx hy w)];congr 1
 rw[Bool.eq_iff_iff,Bool.and_eq_true,decide_eq_true_iff,decide_eq_true_iff,decide_eq_true_iff,Xsb]
theorem Xs5{x y:LHold}(hkx:x.k.length=32)(hky:y.k.length=32)(hx:x.a.o.length=32)(hy:y.a.o.length=32)(w:World)(d:Nat)(hd:d=9996) :
 (Op.equalIn 10000 78 (.agg x.cells.toArray) (.agg y.cells.toArray)).run Tryd.prog w=.ok (decide (x=y)) w:=by
 have h:=Xo8 d hkx hky hx hy w;subst hd;exact h
theorem Xsr{x y:LHold}(hkx:x.k.length=32)(hky:y.k.length=32)(hx:x.a.o.length=32)(hy:y.a.o.length=32)(w:World):(binOp .neq 78 (.agg x.cells.toArray) (.agg y.cells.toArray)).run Tryd.prog w=.ok (.bool (!decide (x=y))) w:=by
 rw[run_neq_struct,Xs5 hkx hky hx hy w _ rfl];rfl
theorem Xl0{x y:List Int}(hx:x.length=32)(hy:y.length=32)(w:World) :
 (binOp .neq 68 (.agg (bv x).toArray) (.agg (bv y).toArray)).run Tryd.prog w=.ok (.bool (!decide (x=y))) w:=by
 obtain⟨i,hi⟩:=Xpm;rw[run_neq_struct,show(10000:Nat)=9999+1 from rfl,run_equalIn_array w 9999 _ _ Tryd.underlying68 hi,Xgm,Xey x y w _ (fun i hi=>by simp at hi;omega),Xfn hx hy];rfl
structure IsHo(h:List Value):Prop where
 len:h.length=66
 one:∀u ∈ h,u.oneCell'=true
 neq:∀w,(binOp .neq 78 (.agg h.toArray) (.agg h.toArray)).run Tryd.prog w=.ok (.bool false) w
 size:(Tryd.prog.info? 78).map (·.size)=some h.length
theorem Xtl{x:LHold}(hk:x.k.length=32)(ho:x.a.o.length=32):IsHo x.cells:=⟨Xch hk ho,Xe9 x,fun w=>by rw[Xsr hk hk ho ho];simp,Xh4 hk ho⟩
theorem row_ne{w:World}{g g' t t':Nat}{xs ys:List Value}(h:Row w g t xs)(h':Row w g' t' ys)(hne:t≠t'):g≠g':=by
 rintro rfl;have a:=h.is;rw[h'.is]at a;injection a with a
 injection a with _ a
 exact hne a.symm
section
variable{P:Program}{w:World}{o:Oper}{a:Act}
def tailAt(A:Option Addr)(c k:Nat):Option Addr:=if c=k then A else A.map (·.add k)
theorem Sees.tail{B:Nat}{A:Option Addr}{n c k:Nat}{xs:List Value}(h:Sees w B A n xs)(hk:k≤n)(hn:n≤c):Sees w B (tailAt A c k) (n - k) (xs.drop k):=by
 refine⟨by rw[List.length_drop,h.len],fun j u hu=>?_⟩;rw[List.getElem?_drop]at hu;obtain⟨ad,rfl,hb,hc⟩:=h.cell _ u hu;have h1:=(List.getElem?_eq_some_iff.1 hu).1;have h2:=h.len;refine⟨ad.add k,by unfold tailAt;rw[if_neg (by omega)];rfl,by rw[Xab];exact hb,by rw[Xce];exact hc⟩
theorem Xsg(t e:TypeId)(x i:Operand)(ho:o.op=.slice t x (some i) none none)(ht:P.underlying t=some (.slice e))(hsz:(P.info? e).map (·.size)=some 1)
 (A:Option Addr) (n c k:Nat) (hx:a.eval x=.slice A n c) (hi:a.eval i=.int .i64 k) (hk:k≤n) (hn:n≤c) (hc:c≤maxLen) :
 (execOp a.eval o).run P w=.ok (.value (.slice (tailAt A c k) (n - k) (c - k))) w:=by
 unfold maxLen at hc;obtain⟨ie,hie,hs1⟩:∃i,P.info? e=some i∧i.size=1:=by
  cases h:P.info? e with
  | none=>rw[h]at hsz;cases hsz
  | some i=>rw[h]at hsz;exact⟨i,rfl,by simpa using hsz⟩
 have he:P.elem t=e:=by simp[Program.elem,ht]
 have ht':P.underlying t=some (.slice (P.elem t)):=by rw[he];exact ht
 have hso:(sizeOf e).run P w=.ok 1 w:=by simp[sizeOf,typeInfo,hie,hs1]
 have h1:(0:Int)≤k:=by omega
 have h2:(k:Int)≤n:=by omega
 unfold execOp;simp only[ho,hx,hi,Option.map_some,Option.map_none];simp only[Sem.run_bind,run_sliceAt_slice w t _ _ _ _ ht',run_slice_l w t A n c ht' .i64 k h1 h2,he,hso,Result.andThen_ok,sliced,tailAt,Int.toNat_natCast,Nat.mul_one,Sem.run_pure]
theorem Xkf{ops:Array Oper}{rest:List Oper}{Q:Exit→Act→World→Prop}(hgd:o.guard=none)(t e:TypeId)(x i:Operand)(ho:o.op=.slice t x (some i) none none)(ht:P.underlying t=some (.slice e))(hsz:(P.info? e).map (·.size)=some 1)
 (A:Option Addr) (n c k:Nat) (hx:a.eval x=.slice A n c) (hi:a.eval i=.int .i64 k) (hk:k≤n) (hn:n≤c) (hc:c≤maxLen)
 (h:wpList P ops Q rest (a.put o.dst (.slice (tailAt A c k) (n - k) (c - k))) w):wpList P ops Q (o::rest) a w:=
 wpList_plain hgd fun K hK=>by
  unfold Oper.wp;rw[Xsg t e x i ho ht hsz A n c k hx hi hk hn hc];exact hK _ _ h
end
theorem Xhh{P:Program}{o:Oper}{a:Act}{w:World}{K:Act→World→Prop}{Q:Exit→Act→World→Prop}(hgd:o.guard=none)(d s:Operand)(dT sT:TypeId)
 (ho:o.op=.call { callee:=.builtin .copy,args:=#[d,s],argTypes:=#[dT,sT] }) (elem:TypeId) (hu:P.underlying dT=some (.slice elem)) (hsz:(P.info? elem).map (·.size)=some 1)
 (dp sp:Option Addr) (dLen dCap sLen sCap:Nat) (hd:a.eval d=.slice dp dLen dCap) (hs:a.eval s=.slice sp sLen sCap)
 (g off:Nat) (cur:List Value) (t:TypeId) (hg:w.heap[g]?=some (.cells cur.toArray t (0,0))) (cs:List Value) (hn:cs.length=Nat.min sLen dLen)
 (hpos:0<cs.length→dp=some ⟨g,off,none⟩∧∃ad,sp=some ad∧∀j v,cs[j]?=some v→w.cell? (ad.add j)=some v)
 (hfit:off+cs.length≤cur.length) (h1:∀v ∈ cs,v.oneCell'=true) (B:Nat) (w0:World) (hb:Below B w0 w) (hBg:B≤g)
 (h:∀w',Hid (w'.heap[g]?=some (.cells (splice cur off cs).toArray t (0,0)))→Below B w0 w'→K (a.put o.dst (goInt cs.length)) w'):Oper.wp P o a w K Q:=by
 have:=step_copy_splice (P:=P) (ops:=#[]) (E:=True) (Q:=Q) hgd d s dT sT ho elem hu hsz dp sp dLen dCap sLen sCap hd hs g off cur t hg cs hn hpos hfit h1 B w0 hb hBg h;rwa [if_pos (by simp[Region.wanted,hgd])]at this
theorem Xal{P:Program}{op:Oper}{a:Act}{w:World}{K:Act→World→Prop}{Q:Exit→Act→World→Prop}(ty:TypeId)(x y:Operand)(ho:op.op=.store ty x y)
 (g t o:Nat) (c cs:List Value) (hr:Row w g t c) (hi:(P.info? ty).map (·.size)=some cs.length) (hl:o+cs.length≤c.length) (h1:∀u ∈ cs,u.oneCell'=true)
 (hx:a.eval x=.pointer (some ⟨g,o,none⟩)) (hy:a.eval y=.agg cs.toArray)
 (h:∀w',Row w' g t (c.take o++cs++c.drop (o+cs.length))→Turned w w' g→K (a.put op.dst undef) w'):op.wp P a w K Q:=
 wp_store_mid ty x y ho g o cs.toArray hx hy (fun j hj=>⟨by
  have hj':j<cs.length:=by simpa using hj
  rw[hr.cell,List.getElem?_eq_getElem (by omega)];rfl,hr.frozen _⟩) (by simpa using hi) (all_oneCell_toArray h1)
  (h _ (by simpa using Xdw cs w o c hr hl) (Xcr cs w o))
section
variable{P:Program}
theorem Xaj{fn:Func}{p0 p1:Tmp}{t0:TypeId}(h:fn.results=#[.cell p0 t0,.tmp p1])(tmps:Array Value)(w:World)(a0:Addr)(v0 v1:Value)
 (h0:tmps.getD p0 undef=.pointer (some a0)) (h1:tmps.getD p1 undef=v1)
 (l0:(loadVar t0 a0).run P w=.ok v0 w) :
 (results fn tmps).run P w=.ok (.tuple #[v0,v1]) w:=by
 have h0':tmps[p0]?.getD undef=.pointer (some a0):=by simpa using h0
 have h1':tmps[p1]?.getD undef=v1:=by simpa using h1
 simp[results,h,h0',h1',asAddr,l0]
end
structure LReady where
 bytes:List Int
 tx:LTx
 roles:List LRole
 u:Int
 p:Int
 bad:Int
 fee:Int
 cost:Int
 pri:Int
structure YRaw where
 BA:Option Addr
 bn:Nat
 bc:Nat
 t:TRaw
 RA:Option Addr
 rn:Nat
 rc:Nat
def LReady.last(x:LReady):List Value:=[.int .u64 x.u,.int .u64 x.p,.int .i64 x.bad,.int .u64 x.fee,.int .u64 x.cost,.int .u64 x.pri]
def YRaw.cells(q:YRaw)(x:LReady):List Value:=.slice q.BA q.bn q.bc::(q.t.cells x.tx++(.slice q.RA q.rn q.rc::x.last))
structure ReadyIn(w:World)(B:Nat)(q:YRaw)(x:LReady):Prop where
 bs:Sees w B q.BA q.bn (bv x.bytes)
 bn:q.bn≤q.bc∧q.bc≤maxLen
 tx:TxIn w B q.t x.tx
 rs:RolesIn w B q.RA q.rn x.roles
 rn:q.rn≤q.rc∧q.rc≤maxLen
section
variable{w w':World}{B B':Nat}{q:YRaw}{x:LReady}
theorem ReadyIn.below(h:ReadyIn w B q x)(hb:Below B w w'):ReadyIn w' B q x:=⟨h.bs.below hb,h.bn,h.tx.below hb,h.rs.below hb,h.rn⟩
theorem ReadyIn.more(h:ReadyIn w B q x)(hB:B≤B'):ReadyIn w B' q x:=⟨h.bs.more hB,h.bn,h.tx.more hB,h.rs.more hB,h.rn⟩
theorem Xbv(h:x.tx.m.recent.length=32):(q.cells x).length=48:=by
 simp[YRaw.cells,Xfo h,LReady.last]
theorem Xlk{j:Nat}{u:Value}(h:(q.t.cells x.tx)[j]?=some u):(q.cells x)[1+j]?=some u:=by
 rw[Nat.add_comm];show(q.t.cells x.tx++_)[j]?=_
 rw[List.getElem?_append_left (List.getElem?_eq_some_iff.1 h).1];exact h
theorem Xaz(h:x.tx.m.recent.length=32)(j:Nat):(q.cells x)[41+j]?=(.slice q.RA q.rn q.rc::x.last)[j]?:=by
 rw[show 41+j=40+j+1 by omega];show(q.t.cells x.tx++_)[40+j]?=_
 rw[List.getElem?_append_right (by rw[Xfo h];omega),Xfo h,show 40+j - 40=j by omega]
theorem Xfu:∀u ∈ q.cells x,u.oneCell'=true:=by
 intro u hu;rcases List.mem_cons.1 hu with rfl | hu
 ·rfl
 rcases List.mem_append.1 hu with hu | hu
 ·exact Xhl u hu
 ·simp only[LReady.last,List.mem_cons,List.not_mem_nil,or_false]at hu;rcases hu with rfl | rfl | rfl | rfl | rfl | rfl | rfl <;> rfl
end
def zReady:LReady:=⟨[],zTx,[],0,0,0,0,0,0⟩
def zYRaw:YRaw:=⟨none,0,0,zRaw,none,0,0⟩
def num:List Int→Nat→Int
 | _,0=>0
 | zs,k+1=>num zs k+zs.getD k 0*256 ^ k
theorem Xjt(zs:List Int)(hb:Bytes zs)(k:Nat):0≤num zs k∧num zs k<256 ^ k:=by
 induction k with
 | zero=>simp[num]
 | succ k ih =>
  have h:=hb k;have e:(256:Int) ^ (k+1)=256 ^ k*256:=Int.pow_succ ..;have hp:(0:Int)<256 ^ k:=Int.pow_pos (by omega);simp only[num];rw[e];have h1:0≤zs.getD k 0*256 ^ k:=Int.mul_nonneg h.1 (by omega);have h2:zs.getD k 0*256 ^ k≤255*256 ^ k:=Int.mul_le_mul_of_nonneg_right (by omega) (by omega);omega
theorem u64_in(x:Int)(h0:0≤x)(h1:x<18446744073709551616):IntKind.u64.wrap x=x:=by rw[IntKind.wrap_u64];omega
theorem Xsj(zs:List Int)(hb:Bytes zs)(k:Nat)(hk:k<8) :
 bits .or .u64 (num zs k) (IntKind.u64.wrap (IntKind.u64.wrap (zs.getD k 0)*2 ^ (8*k)))=num zs (k+1):=by
 have h:=hb k;have hn:=Xjt zs hb k;simp only[num];generalize zs.getD k 0=z at *;generalize num zs k=p at *;rw[u64_in z h.1 (by omega)];have key:∀e:Nat,e<64→(256:Int) ^ k=2 ^ e→8*k=e→bits .or .u64 p (IntKind.u64.wrap (z*2 ^ (8*k)))=p+z*256 ^ k:=by
  rintro e he h2 rfl;have hp:(0:Int)<2 ^ (8*k):=Int.pow_pos (by omega);have hz0:0≤z*2 ^ (8*k):=Int.mul_nonneg h.1 (by omega);have hz1:z*2 ^ (8*k)<18446744073709551616:=by
   have h3:z*2 ^ (8*k)≤255*2 ^ (8*k):=Int.mul_le_mul_of_nonneg_right (by omega) (by omega);have h4:(2:Int) ^ (8*k)≤2 ^ 56:=by exact_mod_cast Nat.pow_le_pow_right (by omega) (by omega)
   omega
  have hp1:p<18446744073709551616:=by
   have h4:(2:Int) ^ (8*k)≤2 ^ 56:=by exact_mod_cast Nat.pow_le_pow_right (by omega) (by omega)
   omega
  rw[u64_in _ hz0 hz1,Xpb (8*k) p _ hn.1 (by omega) hz0 (Int.mul_emod_left ..) hp1 hz1,h2]
 refine key (8*k) (by omega) ?_ rfl;rw[Int.pow_mul];rfl
def getN(zs:List Int)(many:Int):Int × Int:=
 if many<1∨8<many then(0,1)else if (zs.length:Int)<many then(0,5)else(num zs many.toNat,0)
theorem Xrm(m:Int)(w:World)(h0:1≤m)(h1:m≤8):Calls Tryd.prog 81 #[.int .i64 m] w fun e w'=>e=.returned (.bool true)∧w=w':=by
 go_enter Tryd.func81,Tryd.ntmps81
 go_wp2;go_ret;exact⟨rfl,rfl⟩
theorem Xto(m:Int)(w:World)(h:m<1∨8<m):Calls Tryd.prog 81 #[.int .i64 m] w fun e w'=>e=.returned (.bool false)∧w=w':=by
 rcases h with h | h
 ·go_enter Tryd.func81,Tryd.ntmps81
  go_wp2;go_ret;exact⟨rfl,rfl⟩
 ·have h2:1≤m:=by omega
  have h3:decide (m≤8)=false:=by simp;omega
  go_enter Tryd.func81,Tryd.ntmps81
  go_wp2;go_ret;exact⟨rfl,rfl⟩
theorem Xp3(A:Option Addr)(n c:Nat)(zs:List Int)(m:Int)(w:World)(S:Nat)
 (hx:Sees w S A n (bv zs)) (hn:n≤maxLen) (hb:Bytes zs) :
 Calls Tryd.prog 77 #[.slice A n c,.int .i64 m] w fun e w'=>e=.returned (.tuple #[.int .u64 (getN zs m).1,.int .i64 (getN zs m).2])∧w=w':=by
 unfold maxLen at hn;have lx:=Hd (show zs.length=n by have:=hx.len;rwa [bL]at this);by_cases hm:m<1∨8<m
 ·have hg:getN zs m=(0,1):=by simp[getN,hm]
  have HG:=Hd hg;have HM:=Hd (Xto m w hm);clear hg hm;go_enter Tryd.func77,Tryd.ntmps77
  go_wp2_with fail;refine HM.out.mono ?_;rintro e w1 ⟨rfl,rfl⟩;go_wp2;go_ret2
  exact⟨Xl6 HG.out,rfl⟩
 ·have HF:=Hd (Xrm m w (by omega) (by omega));by_cases hl:(n:Int)<m
  ·have hg:getN zs m=(0,5):=by simp[getN,hm];rw[lx.out];exact hl
   have HG:=Hd hg;clear hg hm;go_enter Tryd.func77,Tryd.ntmps77
   go_wp2_with fail;refine HF.out.mono ?_;rintro e w1 ⟨rfl,rfl⟩;go_wp2;go_ret2
   exact⟨Xl6 HG.out,rfl⟩
  ·obtain⟨mm,rfl⟩:=Int.eq_ofNat_of_zero_le (show 0≤m by omega);have hg:getN zs mm=(num zs mm,0):=by simp[getN,hm];rw[lx.out];omega
   have hm8:mm≤8:=by omega
   have hm1:1≤mm:=by omega
   have hmn:mm≤n:=by omega
   have HG:=Hd hg;clear hg hm hl;go_enter Tryd.func77,Tryd.ntmps77
   go_wp2_with fail;refine HF.out.mono ?_;rintro e w1 ⟨rfl,rfl⟩;go_wp2;go_loop [6,7,16] (fun v _ i=>∃(k:Nat),k≤mm∧i=.int .i64 k∧v=.int .u64 (num zs k)) (fun _ _ i=>mm - (intOf i).toNat)
   case atStart=>exact⟨0,Nat.zero_le _,rfl,rfl⟩
   case round =>
    obtain⟨k,hk,rfl,rfl⟩:=hrel;by_cases hlt:k<mm
    ·obtain⟨a,rfl,ha,hca⟩:=hx.byte (k:=k) (by omega);have HS:=Hd (Xsj zs hb k (by omega));generalize zs.getD k 0=z at *;go_wp2;go_round
     case rel=>exact⟨k+1,by omega,by go_num,by rw[HS.out]⟩
     case measure=>simp[intOf];omega
    ·have HK:=Hd (show k=mm by omega);go_wp2;go_ret2
     exact⟨Xl6 (by rw[HG.out,HK.out]),rfl⟩
def key0:List Int:=List.replicate 32 0
structure LAsk where
 tag:Int
 coins:Int
 space:Int
 owner:List Int
def dat14(b:List Int):Option LAsk:=
 if b.length<4 then none
 else if num b 4=0∧b.length=52 then some ⟨0,num (b.drop 4) 8,num (b.drop 12) 8,b.drop 20⟩
 else if num b 4=1∧b.length=36 then some ⟨1,0,0,b.drop 4⟩
 else if num b 4=2∧b.length=12 then some ⟨2,num (b.drop 4) 8,0,key0⟩
 else if num b 4=8∧b.length=12 then some ⟨8,0,num (b.drop 4) 8,key0⟩
 else none
def two14(x:LAsk):Prop:=x.tag=0∨x.tag=2
instance two14_dec (x:LAsk):Decidable (two14 x):=inferInstanceAs (Decidable (x.tag=0∨x.tag=2))
def need14(x:LAsk):Nat:=if two14 x then 2 else 1
def rol14(r:List LRole)(i:Int):LRole:=r.getD i.toNat ⟨[],false,false⟩
def chk14(m:Bool)(x:LRole):Int:=if m&&!x.sg then 14 else if !x.wr then 15 else 0
def plc14(x:LAsk)(r:List LRole)(acc:List Int):Int:=
 if acc.length<need14 x then 8
 else if ∃i ∈ acc,(r.length:Int)≤i then 8
 else if chk14 true (rol14 r (acc.getD 0 0))≠0 then chk14 true (rol14 r (acc.getD 0 0))
 else if two14 x then chk14 (decide (x.tag=0)) (rol14 r (acc.getD 1 0))
 else 0
def getA(l:List LAcc)(i:Nat):LAcc:=l.getD i blank13
def plain14(a:LAcc):Prop:=a.o=key0∧a.s=0
instance plain14_dec (a:LAcc):Decidable (plain14 a):=inferInstanceAs (Decidable (a.o=key0∧a.s=0))
structure Res14 where
 e:Int
 l:List LAcc
 n:Int
def bad14(e:Int):Res14:=⟨e,[],0⟩
def make14(l:List LAcc)(x:LAsk)(a b:Nat):Res14:=
 if getA l b≠blank13 then bad14 12
 else if ¬plain14 (getA l a)then bad14 16
 else if 1048576<x.space then bad14 3
 else if (getA l a).c<x.coins then bad14 17
 else⟨0,(l.set a ⟨(getA l a).c - x.coins,(getA l a).o,(getA l a).s⟩).set b ⟨x.coins,x.owner,x.space⟩,x.space⟩
def assign14(l:List LAcc)(x:LAsk)(a:Nat):Res14:=
 if (getA l a).o≠key0 then bad14 16 else⟨0,l.set a ⟨(getA l a).c,x.owner,(getA l a).s⟩,0⟩
def move14(l:List LAcc)(x:LAsk)(a b:Nat):Res14:=
 if ¬plain14 (getA l a)then bad14 16
 else if (getA l a).c<x.coins then bad14 17
 else if a=b then⟨0,l,0⟩
 else if 18446744073709551615 - x.coins<(getA l b).c then bad14 18
 else⟨0,(l.set a ⟨(getA l a).c - x.coins,(getA l a).o,(getA l a).s⟩).set b ⟨(getA l b).c+x.coins,(getA l b).o,(getA l b).s⟩,0⟩
def space14(l:List LAcc)(x:LAsk)(a:Nat):Res14:=
 if ¬plain14 (getA l a)then bad14 12
 else if 1048576<x.space then bad14 3
 else⟨0,l.set a ⟨(getA l a).c,(getA l a).o,x.space⟩,x.space⟩
def deed14(l:List LAcc)(x:LAsk)(a b:Nat):Res14:=
 if x.tag=0 then make14 l x a b else if x.tag=1 then assign14 l x a else if x.tag=2 then move14 l x a b else space14 l x a
def do14(l:List LAcc)(r:List LRole)(acc dat:List Int):Res14:=
 if l.length≠r.length then bad14 1
 else match dat14 dat with
 | none=>bad14 13
 | some x=>if plc14 x r acc≠0 then bad14 (plc14 x r acc)else deed14 l x (acc.getD 0 0).toNat (acc.getD (need14 x - 1) 0).toNat
structure AskOk(x:LAsk):Prop where
 tag:x.tag=0∨x.tag=1∨x.tag=2∨x.tag=8
 c:0≤x.coins∧x.coins<18446744073709551616
 s:0≤x.space∧x.space<18446744073709551616
 o:x.owner.length=32∧AllBytes x.owner
 one:x.tag=1→x.space=0
 two:x.tag=2→x.space=0
theorem Xdt{b:List Int}(h:AllBytes b):Bytes b:=fun i=>by
 rw[List.getD_eq_getElem?_getD];cases h1:b[i]? with
 | none=>simp
 | some z =>
  have:=h z (List.mem_of_getElem? h1);exact this
theorem Xiu{b:List Int}(h:AllBytes b)(k:Nat):0≤num (b.drop k) 8∧num (b.drop k) 8<18446744073709551616:=by
 have:=Xjt (b.drop k) (Xdt fun z hz=>h z (List.mem_of_mem_drop hz)) 8;have e:(256:Int) ^ 8=18446744073709551616:=by decide
 rw[e]at this;exact this
theorem Xbc:key0.length=32∧AllBytes key0:=⟨rfl,fun z hz=>by rw[List.eq_of_mem_replicate hz];constructor <;> decide⟩
theorem Xlz:(0:Int)≤0∧(0:Int)≤1048576:=by decide
theorem Xge:(0:Int)≤0∧(0:Int)<18446744073709551616:=by decide
theorem Xbt{b:List Int}(h:AllBytes b){x:LAsk}(hx:dat14 b=some x):AskOk x:=by
 unfold dat14 at hx;have hd:∀k,AllBytes (b.drop k):=fun k z hz=>h z (List.mem_of_mem_drop hz)
 split at hx
 ·cases hx
 split at hx
 ·rename_i h1 h2
  cases hx
  exact⟨.inl rfl,Xiu h 4,Xiu h 12,⟨by rw[List.length_drop];omega,hd _⟩,fun e=>(by cases e),fun e=>(by cases e)⟩
 split at hx
 ·rename_i h1 h2 h3
  cases hx
  exact⟨.inr (.inl rfl),Xge,Xge,⟨by rw[List.length_drop];omega,hd _⟩,fun _=>rfl,fun e=>(by cases e)⟩
 split at hx
 ·cases hx
  exact⟨.inr (.inr (.inl rfl)),Xiu h 4,Xge,Xbc,fun e=>(by cases e),fun _=>rfl⟩
 split at hx
 ·cases hx
  exact⟨.inr (.inr (.inr rfl)),Xge,Xiu h 4,Xbc,fun e=>(by cases e),fun e=>(by cases e)⟩
 ·cases hx
theorem Xaf{l:List LAcc}(h:∀a ∈ l,AccOk a)(i:Nat):AccOk (getA l i):=by
 unfold getA;rw[List.getD_eq_getElem?_getD];cases h1:l[i]? with
 | none=>exact Xcf
 | some a=>exact h a (List.mem_of_getElem? h1)
theorem Xpd{l:List LAcc}{i:Nat}{a:LAcc}(h:l[i]?=some a):getA l i=a:=by
 unfold getA;rw[List.getD_eq_getElem?_getD,h];rfl
theorem Xpo{l:List LAcc}{i:Nat}(h:i<l.length):l[i]?=some (getA l i):=by
 rw[List.getElem?_eq_getElem h];rw[Xpd (List.getElem?_eq_getElem h)]
theorem Xci{l:List LAcc}{i k:Nat}{a:LAcc}(hi:i<l.length):getA (l.set i a) k=if k=i then a else getA l k:=by
 unfold getA;rw[List.getD_eq_getElem?_getD,List.getD_eq_getElem?_getD,List.getElem?_set];by_cases e:i=k
 ·subst e;simp[hi]
 ·rw[if_neg e,if_neg (fun h=>e h.symm)]
theorem Xgj{l:List LAcc}(h:∀a ∈ l,AccOk a){i:Nat}{x:LAcc}(hx:AccOk x):∀a ∈ l.set i x,AccOk a:=fun a ha=>by
 rcases List.mem_or_eq_of_mem_set ha with ha | rfl
 ·exact h a ha
 ·exact hx
def sumA:List LAcc→Int
 | []=>0
 | x::r=>x.c+sumA r
theorem Xeh:∀{l:List LAcc} {i:Nat} (x:LAcc),i<l.length→sumA (l.set i x)=sumA l - (getA l i).c+x.c
 | [],i,x,h=>by simp at h
 | a::r,0,x,_=>by
  show x.c+sumA r=a.c+sumA r - a.c+x.c
  omega
 | a::r,i+1,x,h=>by
  have h':i<r.length:=by simpa using h
  have ih:=Xeh (l:=r) x h';show a.c+sumA (r.set i x)=a.c+sumA r - (getA r i).c+x.c
  omega
structure Deed(l:List LAcc)(out:List LAcc)(n:Int)(a b:Nat)(sa sb:Bool):Prop where
 len:out.length=l.length
 ok:∀x ∈ out,AccOk x
 sum:sumA out=sumA l
 lim:0≤n∧n≤1048576
 off:∀k,k≠a→k≠b→getA out k=getA l k
 own:∀k,(getA l k).o≠key0→(getA l k).c≤(getA out k).c∧(getA out k).o=(getA l k).o
 sg:∀k,getA out k≠getA l k→(k=a∧sa=true)∨(k=b∧sb=true)∨((getA l k).c≤(getA out k).c∧(getA out k).o=(getA l k).o∧(getA out k).s=(getA l k).s)
 sp:∀k,(getA out k).s≠(getA l k).s→(getA l k).s=0∧(getA out k).s=n
theorem Xii{a:LAcc}(h:¬¬plain14 a):a.o=key0∧a.s=0:=Classical.not_not.1 h
theorem Xpa{l:List LAcc}(hl:∀a ∈ l,AccOk a){x:LAsk}(hx:AskOk x){a b:Nat}(ha:a<l.length)(hb:b<l.length)(h0:(make14 l x a b).e=0) :
 Deed l (make14 l x a b).l (make14 l x a b).n a b true true:=by
 unfold make14 at h0 ⊢;split at h0
 ·cases h0
 rename_i h1
 split at h0
 ·cases h0
 rename_i h2
 split at h0
 ·cases h0
 rename_i h3
 split at h0
 ·cases h0
 rename_i h4
 rw[if_neg h1,if_neg h2,if_neg h3,if_neg h4];dsimp only
 have h1:getA l b=blank13:=Classical.not_not.1 h1;have h2:=Xii h2;have oa:=Xaf hl a;have hb':b<(l.set a ⟨(getA l a).c - x.coins,(getA l a).o,(getA l a).s⟩).length:=by rw[List.length_set];exact hb
 have ga:∀k,getA ((l.set a ⟨(getA l a).c - x.coins,(getA l a).o,(getA l a).s⟩).set b ⟨x.coins,x.owner,x.space⟩) k=if k=b then⟨x.coins,x.owner,x.space⟩else if k=a then⟨(getA l a).c - x.coins,(getA l a).o,(getA l a).s⟩else getA l k:=fun k=>by
  rw[Xci hb',Xci ha]
 have hcoin:a=b→x.coins=0:=fun e=>by
  subst e;rw[h1]at h4;have:=hx.c.1;simp only[blank13]at h4;omega
 have oo:AccOk ⟨x.coins,x.owner,x.space⟩:=⟨hx.c,hx.o,hx.s⟩;have oz:AccOk ⟨(getA l a).c - x.coins,(getA l a).o,(getA l a).s⟩:=⟨by have:=oa.c;have:=hx.c;constructor <;> simp only <;> omega,oa.o,oa.s⟩;refine⟨by simp,Xgj (Xgj hl oz) oo,?_,⟨hx.s.1,by show x.space≤1048576;omega⟩,fun k h5 h6=>by rw[ga,if_neg h6,if_neg h5],fun k hk=>?_,fun k hk=>?_,fun k hk=>?_⟩
 ·rw[Xeh _ hb',Xeh _ ha,Xci ha];by_cases e:b=a
  ·have:=hcoin e.symm;have hz:(getA l a).c=0:=by rw[←e,h1];rfl
   rw[if_pos e];simp only;omega
  ·rw[if_neg e,h1];simp only[blank13];omega
 ·rw[ga];by_cases e:k=b
  ·subst e;rw[h1]at hk;exact absurd rfl hk
  ·rw[if_neg e];by_cases e2:k=a
   ·subst e2;exact absurd h2.1 hk
   ·rw[if_neg e2];exact⟨Int.le_refl _,rfl⟩
 ·rw[ga]at hk;by_cases e:k=b
  ·exact .inr (.inl ⟨e,rfl⟩)
  ·by_cases e2:k=a
   ·exact .inl ⟨e2,rfl⟩
   ·rw[if_neg e,if_neg e2]at hk;exact absurd rfl hk
 ·rw[ga]at hk ⊢;by_cases e:k=b
  ·subst e;rw[if_pos rfl,h1];exact⟨rfl,rfl⟩
  ·rw[if_neg e]at hk;by_cases e2:k=a
   ·subst e2;rw[if_pos rfl]at hk;exact absurd rfl hk
   ·rw[if_neg e2]at hk;exact absurd rfl hk
theorem Xlw{l:List LAcc}(hl:∀a ∈ l,AccOk a){y:LAcc}{a b:Nat}(ha:a<l.length)(hy:AccOk y)(hc:y.c=(getA l a).c)(ho:(getA l a).o=key0){n:Int}(hn:0≤n∧n≤1048576)(hsp:y.s≠(getA l a).s→(getA l a).s=0∧y.s=n){sb:Bool} :
 Deed l (l.set a y) n a b true sb:=by
 have ga:∀k,getA (l.set a y) k=if k=a then y else getA l k:=fun k=>Xci ha
 refine⟨by simp,Xgj hl hy,by rw[Xeh _ ha];omega,hn,fun k h5 _=>by rw[ga,if_neg h5],fun k hk=>?_,fun k hk=>?_,fun k hk=>?_⟩
 ·by_cases e:k=a
  ·subst e;exact absurd ho hk
  ·rw[ga,if_neg e];exact⟨Int.le_refl _,rfl⟩
 ·by_cases e:k=a
  ·exact .inl ⟨e,rfl⟩
  ·rw[ga,if_neg e]at hk;exact absurd rfl hk
 ·by_cases e:k=a
  ·subst e;rw[ga,if_pos rfl]at hk ⊢;exact hsp hk
  ·rw[ga,if_neg e]at hk;exact absurd rfl hk
theorem Xkh{l:List LAcc}(hl:∀a ∈ l,AccOk a){x:LAsk}(hx:AskOk x){a:Nat}(b:Nat)(ha:a<l.length)(h0:(assign14 l x a).e=0)(sb:Bool):Deed l (assign14 l x a).l (assign14 l x a).n a b true sb:=by
 unfold assign14 at h0 ⊢;split at h0
 ·cases h0
 rename_i h1
 rw[if_neg h1];dsimp only
 have oa:=Xaf hl a;exact Xlw (n:=0) (y:=⟨(getA l a).c,x.owner,(getA l a).s⟩) hl ha ⟨oa.c,hx.o,oa.s⟩ rfl (Classical.not_not.1 h1) (by decide) fun h=>absurd rfl h
theorem Xn3{l:List LAcc}(hl:∀a ∈ l,AccOk a){x:LAsk}(hx:AskOk x){a:Nat}(b:Nat)(ha:a<l.length)(h0:(space14 l x a).e=0)(sb:Bool):Deed l (space14 l x a).l (space14 l x a).n a b true sb:=by
 unfold space14 at h0 ⊢;split at h0
 ·cases h0
 rename_i h1
 split at h0
 ·cases h0
 rename_i h2
 rw[if_neg h1,if_neg h2];dsimp only
 have oa:=Xaf hl a;have h1:=Xii h1;exact Xlw (n:=x.space) (y:=⟨(getA l a).c,(getA l a).o,x.space⟩) hl ha ⟨oa.c,oa.o,hx.s⟩ rfl h1.1 ⟨hx.s.1,by show x.space≤1048576;omega⟩ fun _=>⟨h1.2,rfl⟩
theorem Xob{l:List LAcc}(hl:∀a ∈ l,AccOk a){x:LAsk}(hx:AskOk x){a b:Nat}(ha:a<l.length)(hb:b<l.length)(h0:(move14 l x a b).e=0)(sb:Bool) :
 Deed l (move14 l x a b).l (move14 l x a b).n a b true sb:=by
 unfold move14 at h0 ⊢;split at h0
 ·cases h0
 rename_i h1
 split at h0
 ·cases h0
 rename_i h2
 rw[if_neg h1,if_neg h2];have h1:=Xii h1;have oa:=Xaf hl a;have ob:=Xaf hl b;by_cases e:a=b
 ·rw[if_pos e];exact⟨rfl,hl,rfl,Xlz,fun _ _ _=>rfl,fun _ _=>⟨Int.le_refl _,rfl⟩,fun _ h=>absurd rfl h,fun _ h=>absurd rfl h⟩
 rw[if_neg e]at h0 ⊢;split at h0
 ·cases h0
 rename_i h3
 rw[if_neg h3];dsimp only
 have hb':b<(l.set a ⟨(getA l a).c - x.coins,(getA l a).o,(getA l a).s⟩).length:=by rw[List.length_set];exact hb
 have ga:∀k,getA ((l.set a ⟨(getA l a).c - x.coins,(getA l a).o,(getA l a).s⟩).set b ⟨(getA l b).c+x.coins,(getA l b).o,(getA l b).s⟩) k=if k=b then⟨(getA l b).c+x.coins,(getA l b).o,(getA l b).s⟩else if k=a then⟨(getA l a).c - x.coins,(getA l a).o,(getA l a).s⟩else getA l k:=fun k=>by
  rw[Xci hb',Xci ha]
 have hc:=hx.c;have oca:=oa.c;have ocb:=ob.c;have o1:AccOk ⟨(getA l b).c+x.coins,(getA l b).o,(getA l b).s⟩:=⟨by constructor <;> simp only <;> omega,ob.o,ob.s⟩;have o2:AccOk ⟨(getA l a).c - x.coins,(getA l a).o,(getA l a).s⟩:=⟨by constructor <;> simp only <;> omega,oa.o,oa.s⟩;refine⟨by simp,Xgj (Xgj hl o2) o1,?_,Xlz,fun k h5 h6=>by rw[ga,if_neg h6,if_neg h5],fun k hk=>?_,fun k hk=>?_,fun k hk=>?_⟩
 ·rw[Xeh _ hb',Xeh _ ha,Xci ha,if_neg (fun h=>e h.symm)];simp only;omega
 ·rw[ga];by_cases e1:k=b
  ·subst e1;rw[if_pos rfl];exact⟨by simp only;omega,rfl⟩
  ·rw[if_neg e1];by_cases e2:k=a
   ·subst e2;exact absurd h1.1 hk
   ·rw[if_neg e2];exact⟨Int.le_refl _,rfl⟩
 ·by_cases e1:k=b
  ·subst e1;right
   right
   rw[ga,if_pos rfl];exact⟨by simp only;omega,rfl,rfl⟩
  ·by_cases e2:k=a
   ·exact .inl ⟨e2,rfl⟩
   ·rw[ga,if_neg e1,if_neg e2]at hk;exact absurd rfl hk
 ·rw[ga]at hk;by_cases e1:k=b
  ·subst e1;rw[if_pos rfl]at hk;exact absurd rfl hk
  ·rw[if_neg e1]at hk;by_cases e2:k=a
   ·subst e2;rw[if_pos rfl]at hk;exact absurd rfl hk
   ·rw[if_neg e2]at hk;exact absurd rfl hk
theorem Xa4{P:Program}{a:Act}{o:Oper}(w:World)(ty:TypeId)(x:Operand)(ho:o.op=.load ty x)(p:Addr)(cs:List Value)(d:TypeDesc)(hu:P.underlying ty=some d)(hd:d.isRow=true)(hi:(P.info? ty).map (·.size)=some cs.length)
 (hc:∀j v,cs[j]?=some v→w.cell? (p.add j)=some v) (hx:a.eval x=.pointer (some p)):(execOp a.eval o).run P w=.ok (.value (.agg cs.toArray)) w:=by
 unfold execOp;simp only[ho,hx,Sem.run_bind,Sem.run_pure,Xc5 w p ty cs d hc hu hd hi,Result.andThen_ok]
theorem LookAt.keep{w w':World}{B k:Nat}{a:Addr}{x:LLook}{va vd:Value}(h:LookAt w B a k x va vd)(ha:a.block<B)(hk:∀p:Addr,p.block<B→w'.cell? p=w.cell? p):LookAt w' B a k x va vd:=
 ⟨fun j u hu=>(hk _ (by rw[Xab,Xab];exact ha)).trans (h.cells j u hu),h.len,h.wr.keep hk,h.rd.keep hk⟩
def IdxDone(p:Bool)(e:Ending):Prop:=∃r:Int,e=.returned (.int .i64 r)∧(0≤r↔p=true)
theorem Xll{r:Int}{p:Bool}(h:0≤r↔p=true):decide (0≤r)=p:=by
 rw[Bool.eq_iff_iff,decide_eq_true_iff];exact h
theorem Xc4{p q:Bool}(h:p=q):Ending.returned (.bool p)=.returned (.bool q):=by rw[h]
theorem Xck{α:Type}{p:α→Bool}{l:List α}{k:Nat}{x:α}(h:l[k]?=some x):(l.take (k+1)).any p=((l.take k).any p||p x):=by
 rw[List.take_add_one,h];simp
theorem Xon{α:Type}{p:α→Bool}{l:List α}{k:Nat}{x:α}(h:l[k]?=some x)(hp:p x=true):l.any p=true:=
 List.any_eq_true.2 ⟨x,List.mem_of_getElem? h,hp⟩
theorem Xox{l:List Int}{k:Nat}(h:k<l.length):l[k]?=some (l.getD k 0):=by
 rw[List.getD_eq_getElem?_getD,List.getElem?_eq_getElem h];rfl
open Go.RowKit Go.Maps
theorem Xi7:WideMaps.ArrKey Tryd.prog 68 5 32:=⟨Tryd.underlying68,by kernel_rfl,by kernel_rfl,by kernel_rfl⟩
theorem Xb9:Keyed Tryd.prog 68:=Keyed.of_law Xi7.law
theorem Xjz{α β:Type}{f:α→Option β}{g:α→β}:∀(l:List α),(∀x ∈ l,f x=some (g x))→l.mapM f=some (l.map g)
 | [],_=>rfl
 | x::r,h=>by
  rw[List.mapM_cons,h x (by simp),Xjz r (fun y hy=>h y (by simp[hy]))];rfl
def KL(x:List Int):Lit:=.string (keyBytes ((List.range 32).map fun i=>[Lit.int .u8 (x.getD i 0)]).flatten)
theorem KL_is{x:List Int}(h:x.length=32)(hb:AllBytes x):Go.keyOf Tryd.prog 68 (.agg (bv x).toArray)=some (KL x):=by
 have hkt:Tryd.prog.keyType 68=true:=by kernel_rfl
 have e:(Tryd.prog.keyLits (Tryd.prog.types.size+1) 68 (bv x))=some ((List.range 32).map fun i=>[Lit.int .u8 (x.getD i 0)]).flatten:=by
  obtain⟨m,hm⟩:∃m,Tryd.prog.types.size=m+1:=⟨Tryd.prog.types.size - 1,by kernel_rfl⟩;unfold Program.keyLits;simp only[Tryd.underlying68];rw[if_pos (by rw[bL,h];exact Xi7.size.symm),Xjz (g:=fun i=>[Lit.int .u8 (x.getD i 0)])]
  ·rfl
  intro i hi;have hi:i<32:=by simpa using hi
  rw[Xi7.one,Nat.mul_one,hm];have hx:x[i]?=some (x.getD i 0):=by rw[List.getD_eq_getElem?_getD,List.getElem?_eq_getElem (by omega)];rfl
  have hc:((bv x).drop i).take 1=[.int .u8 (x.getD i 0)]:=by
   rw[List.take_one,List.head?_drop,bv_getElem?,hx];rfl
  obtain⟨z0,z1⟩:=hb _ (List.mem_of_getElem? hx);rw[hc];unfold Program.keyLits;simp only[Tryd.underlying5];have hwf:(Lit.int .u8 (x.getD i 0)).wf=true:=by
   show(decide ((0:Int)≤x.getD i 0)&&decide (x.getD i 0≤255))=true
   rw[decide_eq_true z0,decide_eq_true (by omega)];rfl
  rw[if_pos ⟨trivial,hwf⟩]
 unfold KL Go.keyOf;simp only[Tryd.underlying68];rw[if_pos (by simp[hkt,Value.formed,Tryd.underlying68,Xi7.size,bL,h]),show(Value.agg (bv x).toArray).cells.toList=bv x by simp[Value.cells],e];rfl
theorem Xdl{x y:List Int}(hx:x.length=32)(bx:AllBytes x)(hy:y.length=32)(by_:AllBytes y)(h:KL x=KL y):x=y:=by
 have:=Xb9.inj (KL_is hx bx) (h ▸ KL_is hy by_);have h2:bv x=bv y:=by simpa using this
 unfold bv cv at h2;exact(List.map_inj_right (fun a b hab=>by injection hab)).1 h2
theorem Xg0{x:List Int}(h:x.length=32)(hb:AllBytes x):WideAt.IsKeyLit (KL x):=Xb9.key (KL_is h hb)
theorem Xcx{w w':World}(hb:Below w.heap.size w w'):w.grownBy w' none:=⟨hb.os,hb.tape,hb.output,hb.size,fun k hk _=>hb.block k hk⟩
theorem Xjq(w:World):(zeroValue 4).run Tryd.prog w=.ok (.bool false) w:=by kernel_rfl
def xk(a:Int):List Int:=a::List.replicate 31 0
section
variable{P:Program}{w:World}{base:Nat}{t ty e:TypeId}{i:TypeInfo}{z:Value}{size bytes:Nat}{v:Value}{n m c B:Nat}{A:Option Addr}{xs news:List Value}
theorem Xex(ht:P.underlying t=some (.slice e))(hi:P.info? e=some i)(hown:w.ownsRow base e size v n xs)(c:Nat) :
 (Builtin.append_ #[t,t] ty #[v,.slice none 0 c]).run P w=.ok v w:=by
 rcases hown.2 with⟨rfl,rfl⟩ | ⟨g,cap,cur,rfl,_,_,hnc,_⟩ <;>
  simp[Builtin.append_,run_underlying ht,sizeOf,typeInfo,Builtin.lenOf,Builtin.firstCells,storeCells, *]
theorem Xas{o:Oper}{a:Act}{K:Act→World→Prop}{Q:Exit→Act→World→Prop}(s x:Operand)(t e:TypeId)(z:Value)(size bytes:Nat)
 (ho:o.op=.call { callee:=.builtin .append,args:=#[s,x],argTypes:=#[t,t] })
 (ht:P.underlying t=some (.slice e)) (hi:(P.info? e).map (fun i=>(i.zero,i.size,i.bytes))=some (some z,size,bytes)) (hzs:z.cells.size=size) (hs0:0<size)
 (v:Value) (n:Nat) (xs:List Value) (base B:Nat) (A:Option Addr) (m c:Nat) (news:List Value)
 (hs:a.eval s=v) (hown:w.ownsRow base e size v n xs) (hx:a.eval x=.slice A m c) (hr:Sees w B A (m*size) news) (h1:∀u ∈ news,u.oneCell'=true)
 (hnm:n+m≤maxLen) (hbytes:(n+m)*bytes≤140737488355328) (hbase:base≤w.heap.size)
 (h:∀v' w',w'.ownsRow base e size v' (n+m) (xs++news)→Grew w w' v v'→K (a.put o.dst v') w'):o.wp P a w K Q:=by
 obtain⟨i0,hi,hz0,hz1,hz2⟩:=info_parts hi;have hrun:∃v' w',(Builtin.append_ #[t,t] o.type #[v,.slice A m c]).run P w=.ok v' w'∧w'.ownsRow base e size v' (n+m) (xs++news)∧Grew w w' v v':=by
  cases A with
  | none =>
   have hn:news=[]:=by
    cases news with
    | nil=>rfl
    | cons u r =>
     obtain⟨a,h,_⟩:=hr.cell 0 u rfl;cases h
   subst hn;have hl:m*size=0:=by simpa using hr.len.symm
   obtain rfl:m=0:=by
    rcases Nat.mul_eq_zero.1 hl with h | h
    ·exact h
    ·omega
   exact⟨v,w,Xex ht hi hown c,by simpa using hown,Grew.refl _ _⟩
  | some ad =>
   obtain⟨v',w',hrun,h2,h3,_,h5⟩:=run_append_own_at (P:=P) w base t o.type e i0 z size bytes ht hi hz0 hz1 hz2 hzs hs0 v n xs hown ad m c news hr.len
    (fun j u hu=>by
      obtain⟨a,h,_,hc⟩:=hr.cell j u hu;cases h
      exact hc) h1 hnm hbytes hbase
   refine⟨v',w',hrun,h2,⟨h3,fun k hk=>?_⟩⟩;rcases h5 with h5 | h5
   ·exact .inl (h5 ▸ hk)
   ·rw[h5]at hk;cases hk
    exact .inr (Lr _)
 obtain⟨v',w',hr2,h2,h3⟩:=hrun;unfold Oper.wp execOp;simp only[ho,resolve,invoke,builtin,Sem.run_bind,Sem.run_pure,Result.andThen_ok,List.map_toArray,List.map_cons,List.map_nil,hs,hx,hr2];exact h v' w' h2 h3
theorem Xc8{ops:Array Oper}{rest:List Oper}{o:Oper}{a:Act}{Q:Exit→Act→World→Prop}(hgd:o.guard=none)(s x:Operand)(t e:TypeId)(z:Value)(size bytes:Nat)
 (ho:o.op=.call { callee:=.builtin .append,args:=#[s,x],argTypes:=#[t,t] })
 (ht:P.underlying t=some (.slice e)) (hi:(P.info? e).map (fun i=>(i.zero,i.size,i.bytes))=some (some z,size,bytes)) (hzs:z.cells.size=size) (hs0:0<size)
 (v:Value) (n:Nat) (xs:List Value) (base B:Nat) (A:Option Addr) (m c:Nat) (news:List Value)
 (hs:a.eval s=v) (hown:w.ownsRow base e size v n xs) (hx:a.eval x=.slice A m c) (hr:Sees w B A (m*size) news) (h1:∀u ∈ news,u.oneCell'=true)
 (hnm:n+m≤maxLen) (hbytes:(n+m)*bytes≤140737488355328) (hbase:base≤w.heap.size)
 (h:∀v' w',w'.ownsRow base e size v' (n+m) (xs++news)→Grew w w' v v'→wpList P ops Q rest (a.put o.dst v') w'):wpList P ops Q (o::rest) a w:=
 wpList_plain hgd fun _ hK=>Xas s x t e z size bytes ho ht hi hzs hs0 v n xs base B A m c news hs hown hx hr h1 hnm hbytes hbase fun v' w' h2 h3=>hK _ _ (h v' w' h2 h3)
end
theorem Xcg(w:World)(base:Nat)(e:TypeId)(size:Nat):w.ownsRow base e size (.slice none 0 0) 0 []:=World.ownsRow_nil w base e size
theorem Xan{w:World}{base:Nat}{e:TypeId}{size n:Nat}{v:Value}{xs:List Value}(h:w.ownsRow base e size v n xs):∃A c,v=.slice A n c∧Sees w w.heap.size A (n*size) xs∧n≤c∧c≤maxLen∧(∀g,v.ownBlock=some g→base≤g∧g<w.heap.size):=by
 have hlt:=h.lt;rcases h.2 with⟨rfl,rfl⟩ | ⟨g,cap,cur,rfl,hg,hh,h1,h2,h3,h4⟩
 ·have hx:xs=[]:=List.eq_nil_of_length_eq_zero (by simpa using h.1);subst hx;exact⟨none,0,rfl,by rw[Nat.zero_mul];exact Sees.nil _ _ _,Lr _,by simp[maxLen],hlt⟩
 ·refine⟨_,cap,rfl,⟨h.1,fun j u hu=>⟨_,rfl,(Array.getElem?_eq_some_iff.1 hh).1,h.cells (g:=g) rfl j u hu⟩⟩,h1,h2,hlt⟩
structure InsCells(w:World)(B:Nat)(l:List LIn)(news:List Value):Prop where
 len:news.length=l.length*3
 at_:∀i x,l[i]?=some x→∃va vd,news[i*3]?=some (.int .u8 x.p)∧news[i*3+1]?=some va∧news[i*3+2]?=some vd∧BytesIn w B va x.acc∧BytesIn w B vd x.dat
 one:∀u ∈ news,u.oneCell'=true
theorem BytesIn.one{w:World}{B:Nat}{v:Value}{l:List Int}(h:BytesIn w B v l):v.oneCell'=true:=by
 obtain⟨A,c,rfl,_⟩:=h.is;rfl
theorem InsIn.cells{w:World}{B n:Nat}{A:Option Addr}{l:List LIn}(h:InsIn w B A n l):∃news,InsCells w B l news∧Sees w B A (n*3) news:=by
 obtain⟨ps,hps,hp⟩:∃ps:List (Value × Value),ps.length=l.length∧∀i x p,l[i]?=some x→ps[i]?=some p→∃a,A=some a∧a.block<B∧w.cell? (a.add (i*3))=some (.int .u8 x.p)∧w.cell? (a.add (i*3+1))=some p.1∧w.cell? (a.add (i*3+2))=some p.2∧BytesIn w B p.1 x.acc∧BytesIn w B p.2 x.dat:=by
  obtain⟨ps,h1,h2⟩:=Xc6 (α:=Value × Value) (p:=fun i p=>∀x,l[i]?=some x→∃a,A=some a∧a.block<B∧w.cell? (a.add (i*3))=some (.int .u8 x.p)∧w.cell? (a.add (i*3+1))=some p.1∧w.cell? (a.add (i*3+2))=some p.2∧BytesIn w B p.1 x.acc∧BytesIn w B p.2 x.dat) l.length fun i hi=>by
   obtain⟨a,va,vd,e1,e2,e3,e4,e5,e6,e7⟩:=h.at_ i _ (List.getElem?_eq_getElem hi);refine⟨(va,vd),fun x hx=>?_⟩;rw[List.getElem?_eq_getElem hi]at hx;obtain rfl:=Option.some.inj hx;exact⟨a,e1,e2,e3,e4,e5,e6,e7⟩
  exact⟨ps,h1,fun i x p hx hp=>h2 i p hp x hx⟩
 let f:Nat→Value:=fun j=>if j % 3=0 then .int .u8 ((l.getD (j / 3) ⟨0,[],[]⟩).p)else if j % 3=1 then(ps.getD (j / 3) (undef,undef)).1 else(ps.getD (j / 3) (undef,undef)).2
 have hf:∀i x,l[i]?=some x→∃p,ps[i]?=some p∧f (i*3)=.int .u8 x.p∧f (i*3+1)=p.1∧f (i*3+2)=p.2:=by
  intro i x hx;have hi:=(List.getElem?_eq_some_iff.1 hx).1;obtain⟨p,hpi⟩:∃p,ps[i]?=some p:=⟨_,List.getElem?_eq_getElem (by omega)⟩;have hl:l.getD i ⟨0,[],[]⟩=x:=by rw[List.getD_eq_getElem?_getD,hx];rfl
  have hq:ps.getD i (undef,undef)=p:=by rw[List.getD_eq_getElem?_getD,hpi];rfl
  refine⟨p,hpi,?_,?_,?_⟩
  ·show(if i*3 % 3=0 then _ else _)=_
   rw[if_pos (by omega),show i*3 / 3=i by omega,hl]
  ·show(if (i*3+1) % 3=0 then _ else _)=_
   rw[if_neg (by omega),if_pos (by omega),show(i*3+1) / 3=i by omega,hq]
  ·show(if (i*3+2) % 3=0 then _ else _)=_
   rw[if_neg (by omega),if_neg (by omega),show(i*3+2) / 3=i by omega,hq]
 have hget:∀j,j<l.length*3→((List.range (l.length*3)).map f)[j]?=some (f j):=fun j hj=>by rw[List.getElem?_map,List.getElem?_range hj];rfl
 have hall:∀j,j<l.length*3→∃a,A=some a∧a.block<B∧w.cell? (a.add j)=some (f j)∧(f j).oneCell'=true:=by
  intro j hj;have hx:=List.getElem?_eq_getElem (l:=l) (i:=j / 3) (by omega);obtain⟨p,hpi,f0,f1,f2⟩:=hf _ _ hx;obtain⟨a,e1,e2,e3,e4,e5,e6,e7⟩:=hp _ _ _ hx hpi;refine⟨a,e1,e2,?_⟩;rcases(show j=j / 3*3∨j=j / 3*3+1∨j=j / 3*3+2 by omega)with h | h | h
  ·rw[←h]at f0 e3;rw[e3,f0];exact⟨rfl,rfl⟩
  ·rw[←h]at f1 e4;rw[e4,f1];exact⟨rfl,e6.one⟩
  ·rw[←h]at f2 e5;rw[e5,f2];exact⟨rfl,e7.one⟩
 refine⟨(List.range (l.length*3)).map f,⟨by simp,fun i x hx=>?_,fun u hu=>?_⟩,⟨by rw[List.length_map,List.length_range,h.len],fun j u hu=>?_⟩⟩
 ·have hi:=(List.getElem?_eq_some_iff.1 hx).1;obtain⟨p,hpi,f0,f1,f2⟩:=hf _ _ hx;obtain⟨a,e1,e2,e3,e4,e5,e6,e7⟩:=hp _ _ _ hx hpi;exact⟨p.1,p.2,by rw[hget _ (by omega),f0],by rw[hget _ (by omega),f1],by rw[hget _ (by omega),f2],e6,e7⟩
 ·obtain⟨j,hj,rfl⟩:=List.mem_map.1 hu;obtain⟨_,_,_,_,h1⟩:=hall j (by simpa using hj);exact h1
 ·have hj:=(List.getElem?_eq_some_iff.1 hu).1;rw[List.length_map,List.length_range]at hj;rw[hget j hj]at hu;obtain⟨a,e1,e2,e3,_⟩:=hall j hj;exact⟨a,e1,e2,by rw[e3,Option.some.inj hu]⟩
theorem InsCells.below{w w':World}{B:Nat}{l:List LIn}{news:List Value}(h:InsCells w B l news)(hb:Below B w w'):InsCells w' B l news:=
 ⟨h.len,fun i x hx=>by
  obtain⟨va,vd,e1,e2,e3,e4,e5⟩:=h.at_ i x hx;exact⟨va,vd,e1,e2,e3,e4.below hb,e5.below hb⟩,h.one⟩
theorem InsCells.more{w:World}{B B':Nat}{l:List LIn}{news:List Value}(h:InsCells w B l news)(hb:B≤B'):InsCells w B' l news:=
 ⟨h.len,fun i x hx=>by
  obtain⟨va,vd,e1,e2,e3,e4,e5⟩:=h.at_ i x hx;exact⟨va,vd,e1,e2,e3,e4.more hb,e5.more hb⟩,h.one⟩
def i1:DataW Unit:=.lit (.int .i64 1)
theorem Sees.far{w:World}{B n:Nat}{A:Option Addr}{xs:List Value}(h:Sees w B A n xs){p:Addr}(hp:∀a,A=some a→a.block≠p.block)(u:Value):Sees (w.setCell p u) B A n xs:=
 ⟨h.len,fun i v hv=>by
  obtain⟨a,ha,hb,hc⟩:=h.cell i v hv;exact⟨a,ha,hb,(World.cell?_setCell_other w p _ u (fun e=>hp a ha (by rw[e,Xab]))).trans hc⟩⟩
theorem Xmm{w:World}{base g c:Nat}{e:TypeId}{size n:Nat}{xs rest:List Value}(h:Row w g e (xs++rest))(hl:xs.length=n*size)(hc:(xs++rest).length=c*size)(h1:n≤c)(h2:c≤maxLen)(hb:base≤g) :
 w.ownsRow base e size (.slice (some ⟨g,0,none⟩) n c) n xs:=
 ⟨hl,.inr ⟨g,c,(xs++rest).toArray,rfl,hb,h.is,h1,h2,by simpa using hc,by rw[←hl];simp⟩⟩
theorem Xgg{w w':World}{base:Nat}{e:TypeId}{size n:Nat}{v:Value}{xs:List Value}(h:w.ownsRow base e size v n xs)(hk:∀g,v.ownBlock=some g→w'.heap[g]?=w.heap[g]?):w'.ownsRow base e size v n xs:=by
 refine⟨h.1,?_⟩;rcases h.2 with h2 | ⟨g,cap,cur,hv,hg,hh,r⟩
 ·exact .inl h2
 ·exact .inr ⟨g,cap,cur,hv,hg,(hk g (by rw[hv];rfl)).trans hh,r⟩
theorem Xfy{w:World}{base:Nat}{e:TypeId}{size n g:Nat}{v:Value}{xs:List Value}(h:w.ownsRow base e size v n xs)(hg:v.ownBlock=some g):∃cur,w.heap[g]?=some (.cells cur e (0,0)):=by
 rcases h.2 with⟨rfl,_⟩ | ⟨g',cap,cur,rfl,_,hh,_⟩
 ·cases hg
 ·cases hg
  exact⟨cur,hh⟩
theorem Xa5{w w':World}{base g:Nat}{e t:TypeId}{size n:Nat}{v:Value}{xs ys:List Value}(h:w.ownsRow base e size v n xs)(hr:Row w g t ys)(hne:e≠t)(ht:Turned w w' g):w'.ownsRow base e size v n xs:=
 Xgg h fun k hk=>ht.block k (fun e1=>by
  obtain⟨cur,hc⟩:=Xfy h hk;rw[e1,hr.is]at hc;injection (Option.some.inj hc)with _ h3 _
  exact hne h3.symm)
def pa(i:LIn):Int × List Int:=(i.p,i.acc)
theorem Xko{P:Program}{o:Oper}{a:Act}{w:World}{K:Act→World→Prop}{Q:Exit→Act→World→Prop}(d s:Operand)(dT sT elem:TypeId)
 (ho:o.op=.call { callee:=.builtin .copy,args:=#[d,s],argTypes:=#[dT,sT] }) (hu:P.underlying dT=some (.slice elem)) (hsz:(P.info? elem).map (·.size)=some 1)
 (g off dLen dCap:Nat) (ad:Addr) (sLen sCap:Nat) (hd:a.eval d=.slice (some ⟨g,off,none⟩) dLen dCap) (hs:a.eval s=.slice (some ad) sLen sCap)
 (cur:List Value) (t:TypeId) (hg:Row w g t cur) (cs:List Value) (hn:cs.length=Nat.min sLen dLen)
 (hsrc:∀j v,cs[j]?=some v→w.cell? (ad.add j)=some v) (hfit:off+cs.length≤cur.length) (h1:∀v ∈ cs,v.oneCell'=true)
 (h:∀w',Row w' g t (cur.take off++cs++cur.drop (off+cs.length))→Turned w w' g→K (a.put o.dst (goInt cs.length)) w'):o.wp P a w K Q:=by
 have hrun:=run_copy_row (P:=P) w dT sT o.type elem g off dLen dCap ad sLen sCap cur.toArray t cs hu hsz hg.is hn hsrc (by simpa using hfit) h1;unfold Oper.wp execOp;simp only[ho,resolve,invoke,builtin,Sem.run_bind,Sem.run_pure,Result.andThen_ok,List.map_toArray,List.map_cons,List.map_nil,hd,hs,hrun];exact h _ (by simpa using Xfm hg (cur.take off++cs++cur.drop (off+cs.length))) (by simpa using Xdh w g _)
theorem Xbm{P:Program}{o:Oper}{a:Act}{w:World}{K:Act→World→Prop}{Q:Exit→Act→World→Prop}(t:TypeId)(ho:o.op=.alloc t)(z:List Value)
 (hi:(P.info? t).map (·.zero)=some (some (.agg z.toArray))) (h:K (a.put o.dst (.pointer (some ⟨w.heap.size,0,none⟩))) (w.alloc (.cells z.toArray t))):o.wp P a w K Q:=by
 cases hq:P.info? t with
 | none=>simp[hq]at hi
 | some i =>
  have hz:i.zero=some (.agg z.toArray):=by simpa [hq]using hi
  unfold Oper.wp execOp;simp[ho,Instr.alloc,zeroValue,typeInfo,hq,hz,newVar,newRow,Value.cells];exact h
theorem Xa2{P:Program}{ops:Array Oper}{rest:List Oper}{o:Oper}{a:Act}{w:World}{Q:Exit→Act→World→Prop}(hg:o.guard=none)(t:TypeId)(ho:o.op=.alloc t)(z:List Value)
 (hi:(P.info? t).map (·.zero)=some (some (.agg z.toArray))) (h:wpList P ops Q rest (a.put o.dst (.pointer (some ⟨w.heap.size,0,none⟩))) (w.alloc (.cells z.toArray t))):wpList P ops Q (o::rest) a w:=
 wpList_plain hg fun K hK=>Xbm t ho z hi (hK _ _ h)
theorem Xhk{P:Program}{ops:Array Oper}{rest:List Oper}{o:Oper}{a:Act}{w:World}{Q:Exit→Act→World→Prop}(hg:o.guard=none)(t:TypeId)(x:Operand)(ho:o.op=.box t x)(z:List Value)
 (hx:a.eval x=.agg z.toArray) (h:wpList P ops Q rest (a.put o.dst (.pointer (some ⟨w.heap.size,0,none⟩))) (w.alloc (.cells z.toArray t))):wpList P ops Q (o::rest) a w:=by
 refine wpList_plain hg fun K hK=>?_
 unfold Oper.wp execOp;simp[ho,Instr.box,newVar,newRow,Value.cells,hx];exact hK _ _ h
theorem Xe4{w V V':World}{row:Option Nat}{g:Nat}(hg:w.grownBy V row)(ht:Turned V V' g)(h:w.heap.size≤g∨row=some g):w.grownBy V' row:=
 ⟨ht.os.trans hg.os,ht.tape.trans hg.tape,ht.output.trans hg.output,by rw[ht.size];exact hg.size,fun k hk hr=>(ht.block k (fun e=>by
  subst e;rcases h with h | h
  ·omega
  ·exact hr h.symm)).trans (hg.block k hk hr)⟩
theorem Xm5{w V V':World}{row:Option Nat}(hg:w.grownBy V row)(hb:Below V.heap.size V V'):w.grownBy V' row:=
 ⟨hb.os.trans hg.os,hb.tape.trans hg.tape,hb.output.trans hg.output,Lq hg.size hb.size,fun k hk hr=>(hb.block k (Nat.lt_of_lt_of_le hk hg.size)).trans (hg.block k hk hr)⟩
theorem gb_of{w V:World}(row:Option Nat)(hb:Below w.heap.size w V):w.grownBy V row:=⟨hb.os,hb.tape,hb.output,hb.size,fun k hk _=>hb.block k hk⟩
def accsC(L:List LAcc):List Value:=(L.map LAcc.cells).flatten
theorem Xjk{L:List LAcc}(h:∀x ∈ L,AccOk x):∀k ∈ L.map LAcc.cells,k.length=34:=fun k hk=>by
 obtain⟨x,hx,rfl⟩:=List.mem_map.1 hk;exact Xbs (h x hx).o.1
theorem Xq9(L:List LAcc):∀u ∈ accsC L,u.oneCell'=true:=fun u hu=>by
 obtain⟨c,hc,hu⟩:=List.mem_flatten.1 hu;obtain⟨x,_,rfl⟩:=List.mem_map.1 hc;exact Xe3 x u hu
theorem Xdr{L:List LAcc}(h:∀x ∈ L,AccOk x):(accsC L).length=L.length*34:=by
 unfold accsC;rw[Xdc (Xjk h),List.length_map]
structure AccsIn(w:World)(B:Nat)(A:Option Addr)(n:Nat)(L:List LAcc):Prop where
 len:L.length=n
 ok:∀x ∈ L,AccOk x
 sees:Sees w B A (n*34) (accsC L)
section
variable{n B B':Nat}{w w':World}{A:Option Addr}{L:List LAcc}
theorem AccsIn.cs(h:AccsIn w B A n L):CsIn 34 w B A n (L.map LAcc.cells):=⟨by rw[List.length_map,h.len],Xjk h.ok,h.sees⟩
theorem AccsIn.keep(h:AccsIn w B A n L)(hk:∀p:Addr,p.block<B→w'.cell? p=w.cell? p):AccsIn w' B A n L:=⟨h.len,h.ok,h.sees.keep hk⟩
theorem AccsIn.below(h:AccsIn w B A n L)(hb:Below B w w'):AccsIn w' B A n L:=⟨h.len,h.ok,h.sees.below hb⟩
theorem AccsIn.more(h:AccsIn w B A n L)(hB:B≤B'):AccsIn w B' A n L:=⟨h.len,h.ok,h.sees.more hB⟩
theorem AccsIn.get(h:AccsIn w B A n L){k:Nat}(hk:k<n):∃a x,A=some a∧a.block<B∧L[k]?=some x∧AccOk x∧∀j u,x.cells[j]?=some u→w.cell? ((a.add (k*34)).add j)=some u:=by
 obtain⟨a,x,e,hb,hx,_,hcell⟩:=h.cs.get hk (by omega);rw[List.getElem?_map]at hx;obtain⟨r,hr,rfl⟩:=Option.map_eq_some_iff.1 hx;exact⟨a,r,e,hb,hr,h.ok r (List.mem_of_getElem? hr),hcell⟩
theorem Xr7{base c:Nat}(h:w.ownsRow base 72 34 (.slice A n c) L.length (accsC L))(ho:∀x ∈ L,AccOk x)(hn:n=L.length):AccsIn w w.heap.size A n L:=by
 subst hn;obtain⟨A',c',h1,h2,_⟩:=Xan h;cases h1
 exact⟨rfl,ho,h2⟩
end
structure OA14(w:World)(base:Nat)(v:Value)(L:List LAcc):Prop where
 is:∃A c c',v=.slice A L.length c∧L.length≤c∧c≤c'∧w.ownsRow base 72 34 (.slice A L.length c') L.length (accsC L)
 ok:∀x ∈ L,AccOk x
theorem Xgl(A:Option Addr)(n c c':Nat):(Value.slice A n c).ownBlock=(Value.slice A n c').ownBlock:=by cases A <;> rfl
section
variable{w w':World}{base c n:Nat}{v:Value}{A:Option Addr}{L:List LAcc}
theorem OA14.keep(h:OA14 w base v L)(hk:∀g,v.ownBlock=some g→w'.heap[g]?=w.heap[g]?):OA14 w' base v L:=by
 obtain⟨A,c,c',rfl,h1,h2,h3⟩:=h.is;exact⟨⟨A,c,c',rfl,h1,h2,Xgg h3 fun g hg=>hk g ((Xgl A _ c c').trans hg)⟩,h.ok⟩
theorem OA14.lt(h:OA14 w base v L):∀g,v.ownBlock=some g→base≤g∧g<w.heap.size:=fun g hg=>by
 obtain⟨A,c,c',rfl,h1,h2,h3⟩:=h.is;exact h3.lt g ((Xgl A _ c' c).trans hg)
theorem OA14.below(h:OA14 w base v L)(hb:Below w.heap.size w w'):OA14 w' base v L:=h.keep fun g hg=>hb.block g (h.lt g hg).2
theorem OA14.cells(h:OA14 w base v L):∀g,v.ownBlock=some g→∃cur,w.heap[g]?=some (.cells cur 72 (0,0)):=fun g hg=>by
 obtain⟨A,c,c',rfl,h1,h2,h3⟩:=h.is;exact Xfy h3 ((Xgl A _ c' c).trans hg)
theorem OA14.accs(h:OA14 w base (.slice A n c) L)(hn:n=L.length):AccsIn w w.heap.size A n L:=by
 subst hn;obtain⟨A',c1,c',e,h1,h2,h3⟩:=h.is;injection e with e _ _
 subst e;exact Xr7 h3 h.ok rfl
theorem OA14.form(h:OA14 w base v L):∃A c,v=.slice A L.length c∧L.length≤c∧c≤maxLen:=by
 obtain⟨A',c1,c',rfl,h1,h2,h3⟩:=h.is;obtain⟨_,_,e,_,_,hm,_⟩:=Xan h3;injection e with _ _ e
 exact⟨_,_,rfl,h1,by omega⟩
end
def askC(x:LAsk):List Value:=.int .u64 x.tag::.int .u64 x.coins::.int .u64 x.space::bv x.owner
def ask0:LAsk:=⟨0,0,0,key0⟩
theorem Xaq{x:LAsk}(h:x.owner.length=32):(askC x).length=35:=by simp[askC,bL,h]
theorem Xba(x:LAsk):∀u ∈ askC x,u.oneCell'=true:=by
 intro u hu;unfold askC at hu;simp only[List.mem_cons]at hu;rcases hu with rfl | rfl | rfl | hu
 ·rfl
 ·rfl
 ·rfl
 ·exact Xcd _ _ hu
theorem Xe7:(Tryd.prog.info? 5).map (·.size)=some 1:=by kernel_rfl
theorem Xtb{zs:List Int}{m:Nat}(h1:1≤m)(h2:m≤8)(h:m≤zs.length):getN zs m=(num zs m,0):=by
 unfold getN;rw[if_neg (by omega),if_neg (by omega)];simp
theorem Xnv{zs:List Int}{m:Nat}(h1:1≤m)(h2:m≤8)(h:zs.length<m):getN zs m=(0,5):=by
 unfold getN;rw[if_neg (by omega),if_pos (by omega)]
theorem Xk2{t c s:Int}{o o':List Int}(h:o.length=32)(h':o'.length=32):(askC ⟨t,c,s,o⟩).take 3++bv o'++(askC ⟨t,c,s,o⟩).drop (3+(bv o').length)=askC ⟨t,c,s,o'⟩:=by
 unfold askC;rw[bL,h'];have:(bv o).length=32:=by rw[bL,h]
 simp[List.drop_of_length_le,this]
def insC(p:Int)(A:Option Addr)(n c:Nat)(D:Option Addr)(dn dc:Nat):List Value:=[.int .u8 p,.slice A n c,.slice D dn dc]
theorem Xt3{x:LAsk}{r:List LRole}{acc:List Int}(h:acc.length<need14 x):plc14 x r acc=8:=by unfold plc14;rw[if_pos h]
theorem Xt2{x:LAsk}{r:List LRole}{acc:List Int}(h:¬acc.length<need14 x)(h2:∃i ∈ acc,(r.length:Int)≤i):plc14 x r acc=8:=by unfold plc14;rw[if_neg h,if_pos h2]
theorem rol_at{r:List LRole}{i:Int}{k:Nat}{y:LRole}(hi:i=k)(h:r[k]?=some y):rol14 r i=y:=by
 unfold rol14;rw[hi,Int.toNat_natCast,List.getD_eq_getElem?_getD,h];rfl
theorem Xm2:(Tryd.prog.info? 72).map (fun i=>(i.zero,i.size,i.bytes))=some (some (.agg blank13.cells.toArray),34,48):=by kernel_rfl
theorem Xtg:(Value.agg blank13.cells.toArray).cells.size=34:=by kernel_rfl
theorem oa_nil(w:World)(base:Nat):OA14 w base (.slice none 0 0) []:=⟨⟨none,0,0,rfl,Lr _,Lr _,World.ownsRow_nil _ _ _ _⟩,by simp⟩
def DoDone(w:World)(R:Res14)(e:Ending)(w':World):Prop:=∃v,e=.returned (.tuple #[v,.int .u64 R.n,.int .i64 R.e])∧OA14 w' w.heap.size v R.l∧Below w.heap.size w w'
theorem Xdi{w w':World}{R:Res14}{v:Int}(h:R=bad14 v)(hb:Below w.heap.size w w'):DoDone w R (.returned (.tuple #[.slice none 0 0,.int .u64 0,.int .i64 v])) w':=by
 subst h;exact⟨_,rfl,oa_nil _ _,hb⟩
structure InsAt14(w:World)(B:Nat)(p:Int)(IA:Option Addr)(n c:Nat)(D:Option Addr)(dn dc:Nat)(acc dat:List Int):Prop where
 aSees:Sees w B IA n (bv acc)
 dSees:Sees w B D dn (bv dat)
 ab:AllBytes acc
 db:AllBytes dat
 ac:n≤c∧c≤maxLen
 dc:dn≤dc∧dc≤maxLen
theorem InsAt14.below{w w':World}{B:Nat}{p:Int}{IA:Option Addr}{n c:Nat}{D:Option Addr}{dn dc:Nat}{acc dat:List Int}(h:InsAt14 w B p IA n c D dn dc acc dat)(hb:Below B w w'):InsAt14 w' B p IA n c D dn dc acc dat:=
 ⟨h.aSees.below hb,h.dSees.below hb,h.ab,h.db,h.ac,h.dc⟩
theorem Xst{x:LAsk}{r:List LRole}{acc:List Int}(h:plc14 x r acc=0):need14 x≤acc.length∧∀i ∈ acc,i<(r.length:Int):=by
 unfold plc14 at h;split at h
 ·cases h
 rename_i h1
 split at h
 ·cases h
 rename_i h2
 exact⟨by omega,fun i hi=>by
  by_cases h3:i<(r.length:Int)
  ·exact h3
  ·exact absurd ⟨i,hi,by omega⟩ h2⟩
theorem Xdd{x:LAsk}(h:two14 x):need14 x=2:=by unfold need14;rw[if_pos h]
theorem Xe6{x:LAsk}(h:¬two14 x):need14 x=1:=by unfold need14;rw[if_neg h]
theorem Xim{acc:List Int}{m k:Nat}(hb:AllBytes acc)(hk:k<acc.length)(h:∀i ∈ acc,i<(m:Int)):∃j:Nat,acc.getD k 0=j∧j<m:=by
 have he:acc.getD k 0=acc[k]:=by rw[List.getD_eq_getElem?_getD,List.getElem?_eq_getElem hk];rfl
 have hm:=List.getElem_mem hk;have h0:=(hb _ hm).1;have h1:=h _ hm;exact⟨(acc[k]).toNat,by rw[he];omega,by omega⟩
structure OutAt(V:World)(base g cap n:Nat)(rest:List Value)(out:List LAcc):Prop where
 row:Row V g 72 (accsC out++rest)
 lo:base≤g
 len:out.length=n
 room:n≤cap∧cap≤maxLen
 all:(accsC out++rest).length=cap*34
 ok:∀x ∈ out,AccOk x
theorem Xjd{L:List LAcc}{k:Nat}(h:k<L.length):accsC L=accsC (L.take k)++((getA L k).cells++accsC (L.drop (k+1))):=by
 have e0:getA L k=L[k]:=Xpd (List.getElem?_eq_getElem h);have e:L=L.take k++(getA L k::L.drop (k+1)):=by rw[e0,←List.drop_eq_getElem_cons h,List.take_append_drop]
 have e1:∀(a b:List LAcc) (z:LAcc),accsC (a++z::b)=accsC a++(z.cells++accsC b):=fun a b z=>by unfold accsC;rw[List.map_append,List.flatten_append,List.map_cons,List.flatten_cons]
 exact(congrArg accsC e).trans (e1 _ _ _)
theorem Xrk{L:List LAcc}{k:Nat}(h:k<L.length)(y:LAcc):accsC (L.set k y)=accsC (L.take k)++(y.cells++accsC (L.drop (k+1))):=by
 have e1:∀(a b:List LAcc) (z:LAcc),accsC (a++z::b)=accsC a++(z.cells++accsC b):=fun a b z=>by unfold accsC;rw[List.map_append,List.flatten_append,List.map_cons,List.flatten_cons]
 rw[List.set_eq_take_append_cons_drop,if_pos h];exact e1 _ _ _
theorem Xf2{L:List LAcc}(h:∀x ∈ L,AccOk x){k:Nat}(hk:k<L.length):(accsC (L.take k)).length=k*34:=by
 rw[Xdr fun x hx=>h x (List.mem_of_mem_take hx),List.length_take,Nat.min_eq_left (by omega)]
section
variable{V V':World}{base g cap n k:Nat}{rest:List Value}{out:List LAcc}
theorem OutAt.below(h:OutAt V base g cap n rest out)(hb:Below V.heap.size V V'):OutAt V' base g cap n rest out:=⟨h.row.below hb h.row.lt,h.lo,h.len,h.room,h.all,h.ok⟩
theorem OutAt.low{b':Nat}(h:OutAt V base g cap n rest out)(hb:b'≤base):OutAt V b' g cap n rest out:=⟨h.row,Lq hb h.lo,h.len,h.room,h.all,h.ok⟩
theorem OutAt.cell(h:OutAt V base g cap n rest out)(hk:k<n){j:Nat}{u:Value}(hu:(getA out k).cells[j]?=some u):V.cell? ⟨g,k*34+j,none⟩=some u:=by
 have hl:=Xf2 h.ok (by rw[h.len];exact hk:k<out.length);have hj:=(List.getElem?_eq_some_iff.1 hu).1;rw[h.row.cell,Xjd (by rw[h.len];exact hk:k<out.length),List.append_assoc,List.getElem?_append_right (by omega),hl,Nat.add_sub_cancel_left,List.append_assoc,List.getElem?_append_left hj];exact hu
theorem OutAt.done(h:OutAt V base g cap n rest out):OA14 V base (.slice (some ⟨g,0,none⟩) n cap) out:=by
 have hl:=Xdr h.ok;rw[←h.len];refine⟨⟨_,cap,cap,rfl,by rw[h.len];exact h.room.1,Lr _,?_⟩,h.ok⟩;exact Xmm h.row hl h.all (by rw[h.len];exact h.room.1) h.room.2 h.lo
theorem OutAt.part(h:OutAt V base g cap n rest out)(hk:k<n){o:Nat}{cs:List Value}{y:LAcc}(hy:AccOk y)(hc:(getA out k).cells.take o++cs++(getA out k).cells.drop (o+cs.length)=y.cells)(ho:o+cs.length≤34)
 (hr:Row V' g 72 ((accsC out++rest).take (k*34+o)++cs++(accsC out++rest).drop (k*34+o+cs.length))):OutAt V' base g cap n rest (out.set k y):=by
 have hk':k<out.length:=by rw[h.len];exact hk
 have hl:=Xf2 h.ok hk';have ha:(getA out k).cells.length=34:=Xbs (Xaf h.ok k).o.1;have e:(accsC out++rest).take (k*34+o)++cs++(accsC out++rest).drop (k*34+o+cs.length)=accsC (out.set k y)++rest:=by
  rw[Xrk hk',←hc,Xjd hk'];generalize (getA out k).cells=C at *;generalize accsC (out.take k)=P at *;generalize accsC (out.drop (k+1))=S at *;have e1:(P++(C++S)++rest).take (k*34+o)=P++C.take o:=by
   rw[List.append_assoc,List.take_append,hl,List.take_of_length_le (by omega),Nat.add_sub_cancel_left,List.append_assoc,List.take_append_of_le_length (by omega)]
  have e2:(P++(C++S)++rest).drop (k*34+o+cs.length)=C.drop (o+cs.length)++S++rest:=by
   rw[List.append_assoc,List.drop_append,hl,List.drop_of_length_le (by omega),List.nil_append,show k*34+o+cs.length - k*34=o+cs.length by omega,List.append_assoc,List.drop_append_of_le_length (by omega),List.append_assoc]
  rw[e1,e2];simp only[List.append_assoc]
 rw[e]at hr;refine⟨hr,h.lo,by rw[List.length_set];exact h.len,h.room,?_,Xgj h.ok hy⟩;have h1:=h.all;rw[List.length_append]at h1 ⊢;rw[Xdr (Xgj h.ok hy),List.length_set];rw[Xdr h.ok]at h1;exact h1
theorem Xt6{α:Type}(l:List α){i:Nat}(u:α)(h:i<l.length):l.set i u=l.take i++[u]++l.drop (i+[u].length):=by
 rw[List.set_eq_take_append_cons_drop,if_pos h];simp
theorem OutAt.one(h:OutAt V base g cap n rest out)(hk:k<n){o:Nat}{u:Value}{y:LAcc}(hy:AccOk y)(ho:o<34)(hc:(getA out k).cells.set o u=y.cells):OutAt (V.setCell ⟨g,k*34+o,none⟩ u) base g cap n rest (out.set k y):=by
 have hr:=h.row.set_ (k*34+o) u;have ha:(getA out k).cells.length=34:=Xbs (Xaf h.ok k).o.1;have hall:=h.all;have hle:k*34+34≤cap*34:=by have:=Nat.mul_le_mul_right 34 (show k+1≤cap from Lq hk h.room.1);omega
 rw[Xt6 _ u (by omega)]at hr hc
 ·exact h.part hk hy hc (by simp;omega) hr
end
theorem do_is{l:List LAcc}{r:List LRole}{acc dat:List Int}{x:LAsk}{a b:Nat}(hn:l.length=r.length)(hdat:dat14 dat=some x)(hp:plc14 x r acc=0)(ha:acc.getD 0 0=a)(hb:acc.getD (need14 x - 1) 0=b):do14 l r acc dat=deed14 l x a b:=by
 unfold do14;rw[if_neg (by omega),hdat];dsimp only
 rw[if_neg (by rw[hp];simp),ha,hb,Int.toNat_natCast,Int.toNat_natCast]
theorem Xjy{w:World}{base n:Nat}{v:Value}{L:List LAcc}(h:w.ownsRow base 72 34 v n (accsC L))(hn:L.length=n)(h0:0<n)(ho:∀x ∈ L,AccOk x):∃g cap rest,v=.slice (some ⟨g,0,none⟩) n cap∧OutAt w base g cap n rest L:=by
 rcases h.2 with⟨_,e⟩ | ⟨g,cap,cur,hv,hg,hh,h1,h2,h3,h4⟩
 ·omega
 ·have e:cur.toList=accsC L++cur.toList.drop (n*34):=by rw[←h4,List.take_append_drop]
  refine⟨g,cap,cur.toList.drop (n*34),hv,⟨⟨?_⟩,hg,hn,⟨h1,h2⟩,?_,ho⟩⟩
  ·rw[hh,←e]
  ·rw[←e,Array.length_toList,h3]
theorem Xff{w w':World}{R:Res14}{v:Value}{L:List LAcc}{n:Int}(h:R=⟨0,L,n⟩)(ho:OA14 w' w.heap.size v L)(hb:Below w.heap.size w w'):DoDone w R (.returned (.tuple #[v,.int .u64 n,.int .i64 0])) w':=by
 subst h;exact⟨_,rfl,ho,hb⟩
theorem Xel(a:LAcc)(z:Int):a.cells.set 0 (.int .u64 z)=(LAcc.mk z a.o a.s).cells:=rfl
theorem Xns{a:LAcc}(h:a.o.length=32)(z:Int):a.cells.set 33 (.int .u64 z)=(LAcc.mk a.c a.o z).cells:=by
 unfold LAcc.cells;rw[show(33:Nat)=32+1 from rfl,List.set_cons_succ,List.set_append_right _ _ (by rw[bL,h];omega),bL,h];rfl
theorem Xmq{a:LAcc}(h:a.o.length=32){o:List Int}(ho:o.length=32):a.cells.take 1++bv o++a.cells.drop (1+(bv o).length)=(LAcc.mk a.c o a.s).cells:=by
 unfold LAcc.cells;rw[bL,ho,show(1+32:Nat)=32+1 from rfl,List.drop_succ_cons,List.drop_append,bL,h];simp[bL,h]
theorem Xg6{a:LAcc}(h:a.o.length=32){y:LAcc}(hy:y.o.length=32):a.cells.take 0++y.cells++a.cells.drop (0+y.cells.length)=y.cells:=by
 rw[List.take_zero,List.nil_append,Nat.zero_add,List.drop_of_length_le (by rw[Xbs h,Xbs hy];exact Lr _),List.append_nil]
theorem Xkg(c s:Int){o:List Int}(ho:o.length=32):Tryd.prog.built 72 [(0,.int .u64 c),(1,.agg (bv o).toArray),(2,.int .u64 s)]=some (LAcc.mk c o s).cells.toArray:=by
 have e:∀f:Fin 32→Int,Tryd.prog.built 72 [(0,.int .u64 c),(1,.agg (bv (List.ofFn f)).toArray),(2,.int .u64 s)]=some (LAcc.mk c (List.ofFn f) s).cells.toArray:=fun f=>by kernel_rfl
 have h:o=List.ofFn fun i:Fin 32=>o.getD i.1 0:=by
  apply List.ext_getElem
  ·rw[List.length_ofFn,ho]
  ·intro i h1 h2;rw[List.getElem_ofFn,List.getD_eq_getElem?_getD,List.getElem?_eq_getElem h1];rfl
 rw[h];exact e _
open Go.ChangeShapes Go.WideShapes Go.RowKit
theorem Xgp:Tryd.prog.cellsOf 82=34:=by kernel_rfl
theorem Xpx:Tryd.prog.bytesOf 82=34:=by kernel_rfl
theorem Xtz{sz:Nat}{w:World}{B:Nat}{A:Option Addr}{n:Nat}{l:List (List Value)}(h0:0<sz)(hn:l.length=n)(h:∀(i:Nat) x,l[i]?=some x→x.length=sz∧∃a,A=some a∧a.block<B∧∀j u,x[j]?=some u→w.cell? (a.add (i*sz+j))=some u):CsIn sz w B A n l:=by
 have he:∀k ∈ l,k.length=sz:=fun k hk=>by
  obtain⟨i,hi,rfl⟩:=List.getElem_of_mem hk;exact(h i _ (List.getElem?_eq_getElem hi)).1
 refine⟨hn,he,by rw[Xdc he,hn],fun i u hu=>?_⟩;have hi:=(List.getElem?_eq_some_iff.1 hu).1;rw[Xdc he]at hi;have hk:i / sz<l.length:=(Nat.div_lt_iff_lt_mul h0).2 hi;obtain⟨h1,a,rfl,h2,h3⟩:=h (i / sz) _ (List.getElem?_eq_getElem hk);refine⟨_,rfl,h2,?_⟩;have hj:i % sz<sz:=Nat.mod_lt _ h0;obtain⟨v,hv⟩:∃v,(l[i / sz])[i % sz]?=some v:=⟨_,List.getElem?_eq_getElem (by rw[h1];exact hj)⟩;have hf:=Xcn sz l (i / sz) _ (fun i y hy=>he y (List.mem_of_getElem? hy)) (List.getElem?_eq_getElem hk) _ _ hv;have hmm:i / sz*sz+i % sz=i:=by rw[Nat.mul_comm];exact Nat.div_add_mod i sz
 rw[hmm,hu]at hf;obtain rfl:=Option.some.inj hf;have:=h3 _ _ hv;rwa [hmm]at this
section
variable{H:Type}{enc:TypeId × Value→H}{w:World}{base b0:Nat}{held:Bool}
theorem Xq5{fuel:Nat}{cs:List Value}{x:DataW H × List MemPlace}(hf:DataW.trod enc Tryd.prog w base (fun _=>true) held fuel 82 cs=some x)(e3:cs.length=34):∃r:LRole,cs=r.cells∧RoleOk r:=by
 obtain⟨y0,y1,y2,k,_,hl,t0,t1,t2⟩:=Go.Deep.trod_struct3 Tryd.underlying82 hf;have t0':DataW.trod enc Tryd.prog w base (fun _=>true) held k 68 (cs.take 32)=some y0:=by simpa [Xbz]using t0
 obtain⟨z,hz,hz1,hz2⟩:=Xfq Tryd.underlying68 Xbz t0';obtain⟨c1,c2,hc12⟩:∃c1 c2,cs.drop 32=[c1,c2]:=Xsx (by rw[List.length_drop,e3]);have hcs:cs=bv z++[c1,c2]:=by rw[←hz,←hc12,List.take_append_drop]
 have t1':DataW.trod enc Tryd.prog w base (fun _=>true) held k 4 [c1]=some y1:=by
  have:=t1;simp only[Xgv]at this;rw[hc12]at this;exact this
 have t2':DataW.trod enc Tryd.prog w base (fun _=>true) held k 4 [c2]=some y2:=by
  have:=t2;simp only[Xgv]at this;rw[show(33:Nat)=32+1 from rfl,←List.drop_drop,hc12]at this;exact this
 obtain⟨b1,hb1,_⟩:=DataW.trod_bool Tryd.underlying4 t1';obtain⟨b2,hb2,_⟩:=DataW.trod_bool Tryd.underlying4 t2';obtain rfl:c1=.bool b1:=by simpa using hb1
 obtain rfl:c2=.bool b2:=by simpa using hb2
 exact⟨⟨z,b1,b2⟩,hcs,hz1,hz2⟩
theorem Xja{A:Option Addr}{n c:Nat}{d:DataW H}{p:List MemPlace}(h:DataW.Trod enc Tryd.prog w base (fun _=>true) held 43 (.slice A n c) d p)(hw:Wt 43 d) :
 ∃l,n≤c∧c≤maxLen∧RolesIn w w.heap.size A n l∧l.length≤140737488355328:=by
 obtain⟨fuel,hf⟩:=h;obtain⟨A',n',c',hcs,h1,h2,h3,h4⟩:=Xde (cs:=[.slice A n c]) Tryd.underlying43 (by rw[Xgp];omega) hf hw;obtain⟨rfl,rfl,rfl⟩:A=A'∧n=n'∧c=c':=by simpa using hcs
 rw[Xpx]at h3;have:=Xeu;obtain⟨l,hl,hp⟩:=Xc6 (α:=LRole) (p:=fun i z=>RoleOk z∧∃a,A=some a∧a.block<w.heap.size∧∀j u,z.cells[j]?=some u→w.cell? (a.add (i*34+j))=some u) n fun i hi=>by
  obtain⟨a,cs',y,m,e1,e2,e3,e4,e5,_⟩:=h4 i hi;rw[Xgp]at e3 e4;obtain⟨z,rfl,hz⟩:=Xq5 e5 e3;exact⟨z,hz,a,e1,e2,e4⟩
 subst hl;refine⟨l,h1,h2,⟨Xtz (by omega) (by simp) fun i x hx=>?_,fun r hr=>?_⟩,by omega⟩
 ·rw[List.getElem?_map]at hx;obtain⟨r,hr,rfl⟩:=Option.map_eq_some_iff.1 hx;exact⟨Xe8 (hp i r hr).1.1,(hp i r hr).2⟩
 ·obtain⟨i,hi,rfl⟩:=List.getElem_of_mem hr;exact(hp i _ (List.getElem?_eq_getElem hi)).1
end
def holdsC(L:List LHold):List Value:=(L.map LHold.cells).flatten
theorem Xml{L:List LHold}(h:∀x ∈ L,HoldOk x):∀k ∈ L.map LHold.cells,k.length=66:=fun k hk=>by
 obtain⟨x,hx,rfl⟩:=List.mem_map.1 hk;exact Xch (h x hx).k.1 (h x hx).a.o.1
theorem Xlc(L:List LHold)(x:LHold):holdsC (L++[x])=holdsC L++x.cells:=by simp[holdsC]
structure HoldsIn(w:World)(B:Nat)(A:Option Addr)(n:Nat)(L:List LHold):Prop where
 len:L.length=n
 ok:∀x ∈ L,HoldOk x
 sees:Sees w B A (n*66) (holdsC L)
section
variable{n B B':Nat}{w w':World}{A:Option Addr}{L:List LHold}
theorem HoldsIn.below(h:HoldsIn w B A n L)(hb:Below B w w'):HoldsIn w' B A n L:=⟨h.len,h.ok,h.sees.below hb⟩
theorem HoldsIn.more(h:HoldsIn w B A n L)(hB:B≤B'):HoldsIn w B' A n L:=⟨h.len,h.ok,h.sees.more hB⟩
theorem HoldsIn.get(h:HoldsIn w B A n L){k:Nat}(hk:k<n):∃a x,A=some a∧a.block<B∧L[k]?=some x∧HoldOk x∧∀j u,x.cells[j]?=some u→w.cell? ((a.add (k*66)).add j)=some u:=by
 have hc:CsIn 66 w B A n (L.map LHold.cells):=⟨by rw[List.length_map,h.len],Xml h.ok,h.sees⟩;obtain⟨a,x,e,hb,hx,_,hcell⟩:=hc.get hk (by omega);rw[List.getElem?_map]at hx;obtain⟨r,hr,rfl⟩:=Option.map_eq_some_iff.1 hx;exact⟨a,r,e,hb,hr,h.ok r (List.mem_of_getElem? hr),hcell⟩
theorem Xk7{base c:Nat}(h:w.ownsRow base 78 66 (.slice A n c) L.length (holdsC L))(ho:∀x ∈ L,HoldOk x):HoldsIn w w.heap.size A n L:=by
 obtain⟨A',c',h1,h2,_⟩:=Xan h;cases h1
 exact⟨rfl,ho,h2⟩
end
structure RS13(w:World)(pb base:Nat)(v:Value)(L:List LHold):Prop where
 row:Row w pb 76 [v]
 own:w.ownsRow base 78 66 v L.length (holdsC L)
 sto:Sto L
theorem RS13.below{w w':World}{pb base:Nat}{v:Value}{L:List LHold}(h:RS13 w pb base v L)(hb:Below w.heap.size w w'):RS13 w' pb base v L:=
 ⟨h.row.below hb h.row.lt,Xaa h.own hb,h.sto⟩
theorem RS13.form{w:World}{pb base:Nat}{v:Value}{L:List LHold}(h:RS13 w pb base v L):∃A c,v=.slice A L.length c∧HoldsIn w w.heap.size A L.length L∧L.length≤c∧c≤maxLen:=by
 obtain⟨A,c,rfl,_,h3,h4,_⟩:=Xan h.own;exact⟨A,c,rfl,Xk7 h.own h.sto.ok,h3,h4⟩
theorem RS13.holds{w:World}{pb base n c:Nat}{A:Option Addr}{L:List LHold}(h:RS13 w pb base (.slice A n c) L):HoldsIn w w.heap.size A n L:=Xk7 h.own h.sto.ok
theorem Xdk{z:Int}(h:(Lit.int .u64 z).wf=true):0≤z∧z<18446744073709551616:=by
 have h':(decide ((0:Int)≤z)&&decide (z≤18446744073709551615))=true:=h;rw[Bool.and_eq_true,decide_eq_true_iff,decide_eq_true_iff]at h';omega
theorem Xhv:Tryd.prog.cellsOf 72=34:=by kernel_rfl
theorem Xh3:Tryd.prog.cellsOf 44=1:=by kernel_rfl
theorem Xt1{α:Type}{xs:List α}(h:xs.length=3):∃a b c,xs=[a,b,c]:=by
 match xs,h with
 | [a,b,c],_=>exact⟨a,b,c,rfl⟩
section
variable{H:Type}{enc:TypeId × Value→H}{w:World}{base b0:Nat}{held:Bool}
theorem Xs2{fuel:Nat}{cs:List Value}{x:DataW H × List MemPlace}(hf:DataW.trod enc Tryd.prog w base (fun _=>true) held fuel 72 cs=some x):∃a:LAcc,cs=a.cells∧AccOk a:=by
 obtain⟨xs,n,_,hx,hl,hlen,ht⟩:=DataW.trod_struct Tryd.underlying72 hf;rw[Xhv]at hl;obtain⟨y0,y1,y2,rfl⟩:=Xt1 hlen;have t0:DataW.trod enc Tryd.prog w base (fun _=>true) held n 44 ((cs.drop 0).take 1)=some y0:=by rw[←Xh3];exact ht 0 _ rfl
 have t1:DataW.trod enc Tryd.prog w base (fun _=>true) held n 68 ((cs.drop 1).take 32)=some y1:=by rw[←Xbz];exact ht 1 _ rfl
 have t2:DataW.trod enc Tryd.prog w base (fun _=>true) held n 44 ((cs.drop 33).take 1)=some y2:=by rw[←Xh3];exact ht 2 _ rfl
 have hsplit:cs=(cs.drop 0).take 1++((cs.drop 1).take 32++(cs.drop 33).take 1):=by
  have e5:cs.drop 33=(cs.drop 33).take 1:=(List.take_of_length_le (by rw[List.length_drop];omega)).symm;rw[←e5,←cut cs 1 32 33 rfl,←cut cs 0 1 1 rfl];rfl
 obtain⟨c0,hc0⟩:=Xf0 (cs:=(cs.drop 0).take 1) (by simp;omega);obtain⟨c2,hc2⟩:=Xf0 (cs:=(cs.drop 33).take 1) (by simp;omega);rw[hc0]at t0;rw[hc2]at t2;obtain⟨i0,hi0,_,wi0⟩:=DataW.trod_int Tryd.underlying44 t0;obtain rfl:c0=.int .u64 i0:=by simpa using hi0
 obtain⟨i2,hi2,_,wi2⟩:=DataW.trod_int Tryd.underlying44 t2;obtain rfl:c2=.int .u64 i2:=by simpa using hi2
 obtain⟨z,hz,hz1,hz2⟩:=Xfq Tryd.underlying68 Xbz t1;refine⟨⟨i0,z,i2⟩,?_,⟨Xdk wi0,⟨hz1,hz2⟩,Xdk wi2⟩⟩;rw[hsplit,hc0,hz,hc2];rfl
theorem Xhc{sz:Nat}{w:World}{B:Nat}{A:Option Addr}{n:Nat}{l:List (List Value)}(h0:0<sz)(hn:l.length=n)(h:∀(i:Nat) x,l[i]?=some x→x.length=sz∧∃a,A=some a∧a.block<B∧∀j u,x[j]?=some u→w.cell? (a.add (i*sz+j))=some u):CsIn sz w B A n l:=by
 have he:∀k ∈ l,k.length=sz:=fun k hk=>by
  obtain⟨i,hi,rfl⟩:=List.getElem_of_mem hk;exact(h i _ (List.getElem?_eq_getElem hi)).1
 refine⟨hn,he,by rw[Xdc he,hn],fun i u hu=>?_⟩;have hi:=(List.getElem?_eq_some_iff.1 hu).1;rw[Xdc he]at hi;have hk:i / sz<l.length:=(Nat.div_lt_iff_lt_mul h0).2 hi;obtain⟨h1,a,rfl,h2,h3⟩:=h (i / sz) _ (List.getElem?_eq_getElem hk);refine⟨_,rfl,h2,?_⟩;have hj:i % sz<sz:=Nat.mod_lt _ h0;obtain⟨v,hv⟩:∃v,(l[i / sz])[i % sz]?=some v:=⟨_,List.getElem?_eq_getElem (by rw[h1];exact hj)⟩;have hf:=Xcn sz l (i / sz) _ (fun i y hy=>he y (List.mem_of_getElem? hy)) (List.getElem?_eq_getElem hk) _ _ hv;have hmm:i / sz*sz+i % sz=i:=by rw[Nat.mul_comm];exact Nat.div_add_mod i sz
 rw[hmm,hu]at hf;obtain rfl:=Option.some.inj hf;have:=h3 _ _ hv;rwa [hmm]at this
end
end Go.Proofs.YtkhcgclnmdgpbaaDoor
