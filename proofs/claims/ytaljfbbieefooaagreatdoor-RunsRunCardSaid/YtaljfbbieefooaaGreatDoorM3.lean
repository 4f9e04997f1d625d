import Derived.Test.YtaljfbbieefooaaGreatDoorM2
set_option maxRecDepth 100000
set_option maxHeartbeats 16000000
set_option linter.unusedSimpArgs false
set_option linter.unusedVariables false
namespace Go.Proofs.YtaljfbbieefooaaGreatDoor
def kless:List Int→List Int→Bool
 | _,[]=>false
 | [],_::_=>true
 | a::x,b::y=>decide (a<b)||(decide (a=b)&&kless x y)
theorem Xed:∀x:List Int,kless x x=false
 | []=>rfl
 | a::x=>by simp[kless,Xed x]
theorem Xfi:∀x y z:List Int,kless x y=true→kless y z=true→kless x z=true
 | _,_,[],_,h=>by simp[kless]at h
 | _,[],_::_,h,_=>by simp[kless]at h
 | [],_::_,_::_,_,_=>rfl
 | a::x,b::y,c::z,h1,h2=>by
  simp only[kless,Bool.or_eq_true,Bool.and_eq_true,decide_eq_true_iff]at h1 h2 ⊢;rcases h1 with h1 | ⟨h1,h1'⟩ <;> rcases h2 with h2 | ⟨h2,h2'⟩
  ·left;omega
  ·left;omega
  ·left;omega
  ·right;exact⟨by omega,Xfi x y z h1' h2'⟩
theorem Xhl:∀x y:List Int,kless x y=false→kless y x=false→x=y
 | [],[],_,_=>rfl
 | [],_::_,h,_=>by simp[kless]at h
 | _::_,[],_,h=>by simp[kless]at h
 | a::x,b::y,h1,h2=>by
  simp only[kless,Bool.or_eq_false_iff,Bool.and_eq_false_iff,decide_eq_false_iff_not]at h1 h2;have e:a=b:=by omega
  subst e;have h3:kless x y=false:=by rcases h1.2 with h | h <;> simp_all
  have h4:kless y x=false:=by rcases h2.2 with h | h <;> simp_all
  rw[Xhl x y h3 h4]
theorem Xlb{x y:List Int}(h:kless x y=true):kless y x=false:=by
 cases h2:kless y x with
 | false=>rfl
 | true =>
  have:=Xfi x y x h h2;rw[Xed]at this;cases this
theorem Xfz{x y:List Int}(h:kless x y=true):x≠y:=fun e=>by
 subst e;rw[Xed]at h;cases h
structure LAcc where
 c:Int
 o:List Int
 s:Int
 deriving DecidableEq
structure LHold where
 k:List Int
 a:LAcc
 deriving DecidableEq
def blank13:LAcc:=⟨0,List.replicate 32 0,0⟩
structure AccOk(a:LAcc):Prop where
 c:0≤a.c∧a.c<18446744073709551616
 o:a.o.length=32∧AllBytes a.o
 s:0≤a.s∧a.s<18446744073709551616
theorem Xdd:AccOk blank13:=⟨by decide,⟨rfl,fun z hz=>by rw[List.eq_of_mem_replicate hz];constructor <;> decide⟩,by decide⟩
structure HoldOk(x:LHold):Prop where
 k:x.k.length=32∧AllBytes x.k
 a:AccOk x.a
structure Sto(L:List LHold):Prop where
 rise:L.Pairwise fun x y=>kless x.k y.k=true
 nb:∀x ∈ L,x.a≠blank13
 ok:∀x ∈ L,HoldOk x
theorem Xvk:Sto []:=⟨List.Pairwise.nil,by simp,by simp⟩
theorem Sto.tail{x:LHold}{r:List LHold}(h:Sto (x::r)):Sto r:=⟨(List.pairwise_cons.1 h.rise).2,fun y hy=>h.nb y (List.mem_cons_of_mem _ hy),fun y hy=>h.ok y (List.mem_cons_of_mem _ hy)⟩
def getH:List LHold→List Int→LAcc
 | [],_=>blank13
 | x::r,k=>if x.k=k then x.a else getH r k
theorem Xhs:∀{L:List LHold} {k:List Int},(∀x ∈ L,x.k≠k)→getH L k=blank13
 | [],_,_=>rfl
 | x::r,k,h=>by
  unfold getH;rw[if_neg (h x (by simp)),Xhs fun y hy=>h y (List.mem_cons_of_mem _ hy)]
theorem Xdn:∀(L:List LHold) (k:List Int),((∀x ∈ L,x.k≠k)∧getH L k=blank13)∨⟨k,getH L k⟩ ∈ L
 | [],_=>.inl ⟨by simp,rfl⟩
 | x::r,k=>by
  unfold getH;by_cases e:x.k=k
  ·rw[if_pos e];right
   subst e;exact List.mem_cons_self
  ·rw[if_neg e];rcases Xdn r k with⟨h1,h2⟩ | h
   ·exact .inl ⟨fun y hy=>by
     rcases List.mem_cons.1 hy with rfl | hy
     ·exact e
     ·exact h1 y hy,h2⟩
   ·exact .inr (List.mem_cons_of_mem _ h)
theorem Xj0:∀{L:List LHold},(L.Pairwise fun x y=>kless x.k y.k=true)→∀{x:LHold},x ∈ L→getH L x.k=x.a
 | y::r,h,x,hx=>by
  obtain⟨h1,h2⟩:=List.pairwise_cons.1 h;unfold getH;rcases List.mem_cons.1 hx with rfl | hx
  ·rw[if_pos rfl]
  ·rw[if_neg (Xfz (h1 x hx)),Xj0 h2 hx]
theorem Sto.mem{L:List LHold}(h:Sto L){x:LHold}:x ∈ L↔x.a≠blank13∧getH L x.k=x.a:=by
 constructor
 ·intro hx;exact⟨h.nb x hx,Xj0 h.rise hx⟩
 ·rintro⟨h1,h2⟩;rcases Xdn L x.k with⟨_,h3⟩ | h3
  ·exact absurd (h2.symm.trans h3) h1
  ·rw[h2]at h3;exact h3
theorem Sto.get_ok{L:List LHold}(h:Sto L)(k:List Int):AccOk (getH L k):=by
 rcases Xdn L k with⟨_,h1⟩ | h1
 ·rw[h1];exact Xdd
 ·exact(h.ok _ h1).a
theorem Xmk:∀{L M:List LHold},(L.Pairwise fun x y=>kless x.k y.k=true)→(M.Pairwise fun x y=>kless x.k y.k=true)→(∀x,x ∈ L↔x ∈ M)→L=M
 | [],[],_,_,_=>rfl
 | [],y::r,_,_,h=>absurd ((h y).2 List.mem_cons_self) (by simp)
 | x::r,[],_,_,h=>absurd ((h x).1 List.mem_cons_self) (by simp)
 | x::r,y::t,h1,h2,h=>by
  obtain⟨a1,a2⟩:=List.pairwise_cons.1 h1;obtain⟨b1,b2⟩:=List.pairwise_cons.1 h2;have e:x=y:=by
   rcases List.mem_cons.1 ((h x).1 List.mem_cons_self)with e | hx
   ·exact e
   rcases List.mem_cons.1 ((h y).2 List.mem_cons_self)with e | hy
   ·exact e.symm
   have h3:=Xlb (b1 x hx);rw[a1 y hy]at h3;cases h3
  subst e;congr 1
  refine Xmk a2 b2 fun z=>?_
  constructor
  ·intro hz;rcases List.mem_cons.1 ((h z).1 (List.mem_cons_of_mem _ hz))with rfl | hz'
   ·exact absurd rfl (Xfz (a1 z hz))
   ·exact hz'
  ·intro hz;rcases List.mem_cons.1 ((h z).2 (List.mem_cons_of_mem _ hz))with rfl | hz'
   ·exact absurd rfl (Xfz (b1 z hz))
   ·exact hz'
theorem Sto.ext{L M:List LHold}(h:Sto L)(h':Sto M)(he:∀k,getH L k=getH M k):L=M:=
 Xmk h.rise h'.rise fun x=>by rw[h.mem,h'.mem,he]
def putG(k:List Int)(a:LAcc):Bool→List LHold→List LHold
 | put,[]=>if put then[]else[⟨k,a⟩]
 | put,x::r=>(if !put&&kless k x.k then[⟨k,a⟩]else[])++((if x.k=k then[]else[x])++putG k a (put||kless k x.k) r)
def putH(L:List LHold)(k:List Int)(a:LAcc):List LHold:=putG k a (decide (a=blank13)) L
theorem Xja(k:List Int)(a:LAcc):∀(L:List LHold) (put:Bool) (x:LHold),x ∈ putG k a put L↔(x ∈ L∧x.k≠k)∨(put=false∧x=⟨k,a⟩)
 | [],put,x=>by cases put <;> simp[putG]
 | y::r,put,x=>by
  unfold putG;rw[List.mem_append,List.mem_append,Xja k a r];have h1:(x ∈ (if y.k=k then([]:List LHold)else[y]))↔(x=y∧x.k≠k):=by
   split
   ·rename_i e
    constructor
    ·simp
    ·rintro⟨rfl,h⟩;exact absurd e h
   ·rename_i e
    constructor
    ·intro h;obtain rfl:=List.mem_singleton.1 h;exact⟨rfl,e⟩
    ·rintro⟨rfl,_⟩;simp
  rw[h1,List.mem_cons];cases put <;> cases hk:kless k y.k <;> simp <;> grind
theorem Xi1(k:List Int)(a:LAcc):∀(L:List LHold),putG k a true L=L.filter fun x=>x.k≠k
 | []=>rfl
 | x::r=>by
  unfold putG;rw[Bool.true_or,Xi1 k a r];by_cases e:x.k=k <;> simp[e]
theorem Xh9(k:List Int)(a:LAcc):∀(L:List LHold) (put:Bool),(L.Pairwise fun x y=>kless x.k y.k=true)→(putG k a put L).Pairwise fun x y=>kless x.k y.k=true
 | [],put,_=>by cases put <;> simp[putG]
 | x::r,true,h=>by
  rw[Xi1];exact h.sublist List.filter_sublist
 | x::r,false,h=>by
  obtain⟨h1,h2⟩:=List.pairwise_cons.1 h;unfold putG;cases hk:kless k x.k with
  | true =>
   have hne:x.k≠k:=fun e=>Xfz hk e.symm
   simp only[Bool.not_false,Bool.true_and,if_true,Bool.false_or,if_neg hne];rw[Xi1];refine List.pairwise_cons.2 ⟨fun y hy=>?_,List.pairwise_cons.2 ⟨fun y hy=>h1 y (List.mem_filter.1 hy).1,h2.sublist List.filter_sublist⟩⟩;rcases List.mem_cons.1 hy with rfl | hy
   ·exact hk
   ·exact Xfi _ _ _ hk (h1 y (List.mem_filter.1 hy).1)
  | false =>
   simp only[Bool.not_false,Bool.true_and,Bool.false_eq_true,if_false,Bool.false_or,List.nil_append];by_cases e:x.k=k
   ·rw[if_pos e,List.nil_append];exact Xh9 k a r false h2
   ·rw[if_neg e];refine List.pairwise_cons.2 ⟨fun y hy=>?_,Xh9 k a r false h2⟩;rcases(Xja k a r false y).1 hy with⟨hy,_⟩ | ⟨_,rfl⟩
    ·exact h1 y hy
    ·cases h3:kless x.k k with
     | true=>rfl
     | false=>exact absurd (Xhl _ _ h3 hk) e
theorem Xcx{L:List LHold}{k:List Int}{a:LAcc}{x:LHold}:x ∈ putH L k a↔(x ∈ L∧x.k≠k)∨(a≠blank13∧x=⟨k,a⟩):=by
 unfold putH;rw[Xja];simp
theorem Sto.put{L:List LHold}(h:Sto L){k:List Int}{a:LAcc}(hk:k.length=32∧AllBytes k)(ha:AccOk a):Sto (putH L k a):=by
 refine⟨Xh9 k a L _ h.rise,fun x hx=>?_,fun x hx=>?_⟩
 ·rcases Xcx.1 hx with⟨hx,_⟩ | ⟨h1,rfl⟩
  ·exact h.nb x hx
  ·exact h1
 ·rcases Xcx.1 hx with⟨hx,_⟩ | ⟨h1,rfl⟩
  ·exact h.ok x hx
  ·exact⟨hk,ha⟩
theorem Xmf{L:List LHold}(h:Sto L){k:List Int}{a:LAcc}(hk:k.length=32∧AllBytes k)(ha:AccOk a)(k':List Int):getH (putH L k a) k'=if k'=k then a else getH L k':=by
 have hs:=h.put hk ha;by_cases e:k'=k
 ·rw[if_pos e];subst e;by_cases hb:a=blank13
  ·rw[hb,Xhs];intro x hx;rcases Xcx.1 hx with⟨_,h1⟩ | ⟨h1,_⟩
   ·exact h1
   ·exact absurd rfl h1
  ·have:(⟨k',a⟩:LHold) ∈ putH L k' a:=Xcx.2 (.inr ⟨hb,rfl⟩);exact Xj0 hs.rise this
 ·rw[if_neg e];rcases Xdn L k' with⟨h1,h2⟩ | h1
  ·rw[h2,Xhs];intro x hx;rcases Xcx.1 hx with⟨hx,_⟩ | ⟨_,rfl⟩
   ·exact h1 x hx
   ·exact fun e'=>e e'.symm
  ·have:(⟨k',getH L k'⟩:LHold) ∈ putH L k a:=Xcx.2 (.inl ⟨h1,e⟩);exact Xj0 hs.rise this
open Go.RowKit
def LAcc.cells(a:LAcc):List Value:=.int .u64 a.c::(bv a.o++[.int .u64 a.s])
def LHold.cells(x:LHold):List Value:=bv x.k++x.a.cells
theorem Xbt{a:LAcc}(h:a.o.length=32):a.cells.length=34:=by simp[LAcc.cells,bL,h]
theorem Xee(a:LAcc):∀u ∈ a.cells,u.oneCell'=true:=by
 intro u hu;rcases List.mem_cons.1 hu with rfl | hu
 ·rfl
 rcases List.mem_append.1 hu with hu | hu
 ·exact Xbj _ _ hu
 ·obtain rfl:=List.mem_singleton.1 hu;rfl
theorem Xf3{x:LHold}(hk:x.k.length=32)(h:x.a.o.length=32):x.cells.length=66:=by
 unfold LHold.cells;rw[List.length_append,bL,hk,Xbt h]
theorem Xjj(x:LHold):∀u ∈ x.cells,u.oneCell'=true:=by
 intro u hu;rcases List.mem_append.1 hu with hu | hu
 ·exact Xbj _ _ hu
 ·exact Xee _ _ hu
theorem acc_c(a:LAcc):a.cells[0]?=some (.int .u64 a.c):=rfl
theorem acc_s{a:LAcc}(h:a.o.length=32):a.cells[33]?=some (.int .u64 a.s):=by
 unfold LAcc.cells;rw[show(33:Nat)=32+1 from rfl,List.getElem?_cons_succ,List.getElem?_append_right (by rw[bL,h];omega),bL,h];rfl
theorem acc_o{a:LAcc}{j:Nat}{u:Value}(h:(bv a.o)[j]?=some u):a.cells[1+j]?=some u:=by
 unfold LAcc.cells;rw[Nat.add_comm,List.getElem?_cons_succ,List.getElem?_append_left (List.getElem?_eq_some_iff.1 h).1];exact h
theorem Xlu{a b:LAcc}:a=b↔a.c=b.c∧a.o=b.o∧a.s=b.s:=by
 obtain⟨x,y,z⟩:=a;obtain⟨x',y',z'⟩:=b;simp
theorem Xt6{a b:LHold}:a=b↔a.k=b.k∧a.a=b.a:=by
 obtain⟨x,y⟩:=a;obtain⟨x',y'⟩:=b;simp
theorem Xam{a:LAcc}(h:a.o.length=32):(Tryz.prog.info? 69).map (·.size)=some a.cells.length:=by
 rw[Xbt h];kernel_rfl
theorem Xs1{x:LHold}(hk:x.k.length=32)(h:x.a.o.length=32):(Tryz.prog.info? 74).map (·.size)=some x.cells.length:=by
 rw[Xf3 hk h];kernel_rfl
theorem Xmn:(Tryz.prog.info? 74).map (fun i=>(i.zero,i.size,i.bytes))=some (some (.agg (LHold.cells ⟨List.replicate 32 0,blank13⟩).toArray),66,80):=by kernel_rfl
theorem zszHo:(Value.agg (LHold.cells ⟨List.replicate 32 0,blank13⟩).toArray).cells.size=66:=by kernel_rfl
theorem Xiw:(Tryz.prog.info? 69).map (·.zero)=some (some (.agg blank13.cells.toArray)):=by kernel_rfl
theorem Xbx:Tryz.prog.built 69 []=some blank13.cells.toArray:=by kernel_rfl
theorem Xgp(xs:Array Value)(off:Nat)(w:World):(part 69 xs off).run Tryz.prog w=.ok (.agg (xs.extract off (off+34))) w:=by
 have h1:(isAgg 69).run Tryz.prog w=.ok true w:=by kernel_rfl
 simp[part,h1]
theorem Xdi(xs:Array Value)(off:Nat)(w:World){v:Value}(h:xs[off]?=some v):(part 36 xs off).run Tryz.prog w=.ok v w:=
 run_part_plain (P:=Tryz.prog) w (by kernel_rfl) h
theorem Xko{a:LAcc}(h:a.o.length=32):a.cells.toArray.extract 1 (1+32)=(bv a.o).toArray:=by
 apply Array.ext'
 unfold LAcc.cells;rw[Array.toList_extract];simp[List.extract,bL,h]
theorem Xip{x:LHold}(h:x.k.length=32):x.cells.toArray.extract 0 (0+32)=(bv x.k).toArray:=by
 apply Array.ext'
 unfold LHold.cells;rw[Array.toList_extract];simp[List.extract,bL,h]
theorem Xij{x:LHold}(h:x.k.length=32)(ho:x.a.o.length=32):x.cells.toArray.extract 32 (32+34)=x.a.cells.toArray:=by
 apply Array.ext'
 unfold LHold.cells;rw[Array.toList_extract];simp[List.extract,bL,h];exact List.take_of_length_le (by rw[Xbt ho];omega)
theorem Xt8:Tryz.prog.stoodInHeld 69=false:=by kernel_rfl
theorem Xp0:Tryz.prog.underlying 69=some (.struct (Tryz.prog.fieldsOf 69)):=by kernel_rfl
theorem Xrf:Tryz.prog.stoodInHeld 74=false:=by kernel_rfl
theorem Xog:Tryz.prog.underlying 74=some (.struct (Tryz.prog.fieldsOf 74)):=by kernel_rfl
theorem u64_eq(e:Nat)(a b:Int)(w:World):(Op.equalIn (e+1) 36 (.int .u64 a) (.int .u64 b)).run Tryz.prog w=.ok (a==b) w:=
 run_equalIn_int w e 36 .u64 .u64 _ _ Tryz.underlying36
theorem Xnx(e:Nat)(X Y:Array Value)(w:World){a b:Value}{s s' v v':Int}{c:Bool}(pa:(part 62 X 1).run Tryz.prog w=.ok a w)(pb:(part 62 Y 1).run Tryz.prog w=.ok b w)
 (ps:(part 36 X 0).run Tryz.prog w=.ok (.int .u64 s) w) (ps':(part 36 Y 0).run Tryz.prog w=.ok (.int .u64 s') w) (pv:(part 36 X 33).run Tryz.prog w=.ok (.int .u64 v) w) (pv':(part 36 Y 33).run Tryz.prog w=.ok (.int .u64 v') w)
 (hk:(Op.equalIn (e+1) 62 a b).run Tryz.prog w=.ok c w):(Op.eqFields (e+1) X Y (Tryz.prog.fieldsOf 69).toList).run Tryz.prog w=.ok ((s==s')&&c&&(v==v')) w:=by
 simp only[Program.fieldsOf,Tryz.underlying69];have hb:=u64_eq e;simp only[Op.eqFields,ne_eq,String.reduceEq,not_false_eq_true,if_true,Sem.run_bind,ps,ps',Result.andThen_ok,hb];cases hs:(s==s')
 ·simp
 ·simp only[Bool.not_true,Bool.false_eq_true,if_false,pa,pb,Sem.run_bind,Result.andThen_ok,hk];cases c
  ·simp
  ·simp only[Bool.not_true,Bool.false_eq_true,if_false,pv,pv',Sem.run_bind,Result.andThen_ok,hb];cases hv:(v==v') <;> simp
theorem Xm2(d:Nat){x y:LAcc}(hx:x.o.length=32)(hy:y.o.length=32)(w:World) :
 (Op.equalIn (d+1+1+1) 69 (.agg x.cells.toArray) (.agg y.cells.toArray)).run Tryz.prog w=.ok (decide (x=y)) w:=by
 have px1:=Xcc x.cells.toArray 1 w;have py1:=Xcc y.cells.toArray 1 w;rw[Xko hx]at px1;rw[Xko hy]at py1;have px2:=Xdi x.cells.toArray 0 w (v:=.int .u64 x.c) (by rw[List.getElem?_toArray];exact acc_c x);have py2:=Xdi y.cells.toArray 0 w (v:=.int .u64 y.c) (by rw[List.getElem?_toArray];exact acc_c y);have px3:=Xdi x.cells.toArray 33 w (v:=.int .u64 x.s) (by rw[List.getElem?_toArray];exact acc_s hx);have py3:=Xdi y.cells.toArray 33 w (v:=.int .u64 y.s) (by rw[List.getElem?_toArray];exact acc_s hy);rw[run_equalIn_struct w (d+1+1) 69 _ _ Xp0 Xt8,Xnx (d+1) _ _ w px1 py1 px2 py2 px3 py3 (Xhj d hx hy w)];congr 1
 rw[Bool.eq_iff_iff,Bool.and_eq_true,Bool.and_eq_true,decide_eq_true_iff,decide_eq_true_iff,beq_iff_eq,beq_iff_eq,Xlu,and_assoc]
theorem Xrl{x y:LAcc}(hx:x.o.length=32)(hy:y.o.length=32)(w:World)(d:Nat)(hd:d=9997) :
 (Op.equalIn 10000 69 (.agg x.cells.toArray) (.agg y.cells.toArray)).run Tryz.prog w=.ok (decide (x=y)) w:=by
 have h:=Xm2 d hx hy w;subst hd;exact h
theorem Xvb{x y:LAcc}(hx:x.o.length=32)(hy:y.o.length=32)(w:World):(binOp .eql 69 (.agg x.cells.toArray) (.agg y.cells.toArray)).run Tryz.prog w=.ok (.bool (decide (x=y))) w:=by
 rw[run_eql_struct,Xrl hx hy w _ rfl];rfl
theorem Xcq{x y:LAcc}(hx:x.o.length=32)(hy:y.o.length=32)(w:World):(binOp .neq 69 (.agg x.cells.toArray) (.agg y.cells.toArray)).run Tryz.prog w=.ok (.bool (!decide (x=y))) w:=by
 rw[run_neq_struct,Xrl hx hy w _ rfl];rfl
theorem Xls(e:Nat)(X Y:Array Value)(w:World){a b a' b':Value}{c c':Bool}(pa:(part 62 X 0).run Tryz.prog w=.ok a w)(pb:(part 62 Y 0).run Tryz.prog w=.ok b w)
 (ps:(part 69 X 32).run Tryz.prog w=.ok a' w) (ps':(part 69 Y 32).run Tryz.prog w=.ok b' w)
 (hk:(Op.equalIn e 62 a b).run Tryz.prog w=.ok c w) (ha:(Op.equalIn e 69 a' b').run Tryz.prog w=.ok c' w):(Op.eqFields e X Y (Tryz.prog.fieldsOf 74).toList).run Tryz.prog w=.ok (c&&c') w:=by
 simp only[Program.fieldsOf,Tryz.underlying74];simp only[Op.eqFields,ne_eq,String.reduceEq,not_false_eq_true,if_true,Sem.run_bind,pa,pb,Result.andThen_ok,hk];cases c
 ·simp
 ·simp only[Bool.not_true,Bool.false_eq_true,if_false,ps,ps',Sem.run_bind,Result.andThen_ok,ha];cases c' <;> simp
theorem Xpk(d:Nat){x y:LHold}(hkx:x.k.length=32)(hky:y.k.length=32)(hx:x.a.o.length=32)(hy:y.a.o.length=32)(w:World) :
 (Op.equalIn (d+1+1+1+1) 74 (.agg x.cells.toArray) (.agg y.cells.toArray)).run Tryz.prog w=.ok (decide (x=y)) w:=by
 have px1:=Xcc x.cells.toArray 0 w;have py1:=Xcc y.cells.toArray 0 w;rw[Xip hkx]at px1;rw[Xip hky]at py1;have px2:=Xgp x.cells.toArray 32 w;have py2:=Xgp y.cells.toArray 32 w;rw[Xij hkx hx]at px2;rw[Xij hky hy]at py2;rw[run_equalIn_struct w (d+1+1+1) 74 _ _ Xog Xrf,Xls (d+1+1+1) _ _ w px1 py1 px2 py2 (Xhj (d+1) hkx hky w) (Xm2 d hx hy w)];congr 1
 rw[Bool.eq_iff_iff,Bool.and_eq_true,decide_eq_true_iff,decide_eq_true_iff,decide_eq_true_iff,Xt6]
theorem Xmr{x y:LHold}(hkx:x.k.length=32)(hky:y.k.length=32)(hx:x.a.o.length=32)(hy:y.a.o.length=32)(w:World)(d:Nat)(hd:d=9996) :
 (Op.equalIn 10000 74 (.agg x.cells.toArray) (.agg y.cells.toArray)).run Tryz.prog w=.ok (decide (x=y)) w:=by
 have h:=Xpk d hkx hky hx hy w;subst hd;exact h
theorem Xu1{x y:LHold}(hkx:x.k.length=32)(hky:y.k.length=32)(hx:x.a.o.length=32)(hy:y.a.o.length=32)(w:World):(binOp .neq 74 (.agg x.cells.toArray) (.agg y.cells.toArray)).run Tryz.prog w=.ok (.bool (!decide (x=y))) w:=by
 rw[run_neq_struct,Xmr hkx hky hx hy w _ rfl];rfl
theorem Xgj{x y:List Int}(hx:x.length=32)(hy:y.length=32)(w:World) :
 (binOp .neq 62 (.agg (bv x).toArray) (.agg (bv y).toArray)).run Tryz.prog w=.ok (.bool (!decide (x=y))) w:=by
 obtain⟨i,hi⟩:=Xkj;rw[run_neq_struct,show(10000:Nat)=9999+1 from rfl,run_equalIn_array w 9999 _ _ Tryz.underlying62 hi,Xek,Xfj x y w _ (fun i hi=>by simp at hi;omega),Xgf hx hy];rfl
theorem Xud{x:LAcc}(ho:x.o.length=32):IsAc x.cells:=⟨Xbt ho,Xee x,fun w=>by rw[Xcq ho ho];simp,Xam ho⟩
def acS(n s:Int):LAcc:=⟨n,List.replicate 32 0,s⟩
structure IsHo(h:List Value):Prop where
 len:h.length=66
 one:∀u ∈ h,u.oneCell'=true
 neq:∀w,(binOp .neq 74 (.agg h.toArray) (.agg h.toArray)).run Tryz.prog w=.ok (.bool false) w
 size:(Tryz.prog.info? 74).map (·.size)=some h.length
theorem Xmg{k:Nat}{z:List Value}(hz:z.length=66)(xs ys:List Value)(hys:(k+1)*66≤ys.length) :
 (xs++(rowOf k z++ys.drop (k*66))).take (xs.length+k*66)++z++(xs++(rowOf k z++ys.drop (k*66))).drop (xs.length+k*66+z.length)=xs++(rowOf (k+1) z++ys.drop ((k+1)*66)):=by
 have hl:=Xbo k hz;have hl2:(xs++rowOf k z).length=xs.length+k*66:=by rw[List.length_append,hl]
 have e2:xs.length+k*66+z.length=(xs++rowOf k z).length+66:=by rw[hl2,hz]
 rw[←List.append_assoc,List.take_left' hl2,e2,List.drop_length_add_append,List.drop_drop,Xg8,show k*66+66=(k+1)*66 by omega];simp only[List.append_assoc]
theorem Xgt{w:World}{g t:Nat}{l:Value}{h f:List Value}(hr:Row w g t (sheetC l h f))(hh:h.length=66):∀j v,h[j]?=some v→w.cell? ((⟨g,1,none⟩:Addr).add j)=some v:=fun j v hv=>by
 have hj:=(List.getElem?_eq_some_iff.1 hv).1;rw[Xa5,hr.cell,show 1+j=j+1 by omega];show(h++f)[j]?=_
 rw[List.getElem?_append_left hj];exact hv
theorem Xhr{w:World}{g t:Nat}{l:Value}{h f:List Value}(hr:Row w g t (sheetC l h f))(hh:h.length=66):∀j v,f[j]?=some v→w.cell? ((⟨g,67,none⟩:Addr).add j)=some v:=fun j v hv=>by
 rw[Xa5,hr.cell,show 67+j=(66+j)+1 by omega];show(h++f)[66+j]?=_
 rw[List.getElem?_append_right (by omega),hh,show 66+j - 66=j by omega];exact hv
theorem Xk1(g n c:Nat)(h f:List Value)(xs:List Value)(w:World)(hr:Row w g 74 xs)(hl:c*66≤xs.length)(hnc:n≤c)(hc:c≤9223372036854775807)(hh:IsHo h)(hf:IsHo f) :
 Calls Tryz.prog 134 #[.agg (sheetC (.slice (some ⟨g,0,none⟩) n c) h f).toArray,.bool false] w fun e w'=>e=.returned (.tuple #[])∧Row w' g 74 (rowOf n h++xs.drop (n*66))∧w.grownBy w' (some g):=by
 have hlt:=hr.lt;have HL:=Hd hl;have HH:=Hd (And.intro hh hf);have R:=Hd (hr.alloc (.cells (sheetC (.slice (some ⟨g,0,none⟩) n c) h f).toArray 155));have HB:=Hd (Row.new w 155 (sheetC (.slice (some ⟨g,0,none⟩) n c) h f));have G0:=World.grownBy_alloc w (.cells (sheetC (.slice (some ⟨g,0,none⟩) n c) h f).toArray 155) (some g);clear hr hl hh hf;generalize hC:(sheetC (.slice (some ⟨g,0,none⟩) n c) h f).toArray=C at *;go_enter Tryz.func134,Tryz.ntmps134
 go_wp2_with fail;go_loopw [4] (fun i wr=>∃k:Nat,k≤n∧i=.int .i64 k∧Row wr g 74 (rowOf k h++xs.drop (k*66))∧Row wr w.heap.size 155 (sheetC (.slice (some ⟨g,0,none⟩) n c) h f)∧w.grownBy wr (some g)) (fun i _=>n - (intOf i).toNat)
 case atStart=>exact⟨0,Nat.zero_le _,rfl,by simpa [rowOf]using R.out,hC ▸ HB.out,G0⟩
 case round =>
  obtain⟨k,hk,rfl,hr,hb,hg⟩:=hrel;clear R HB G0;have RR:=Hd hr;have RB:=Hd hb;have GG:=Hd hg;have b0:wr.cell? ⟨w.heap.size,0,none⟩=some (.slice (some ⟨g,0,none⟩) n c):=hb.cell 0;clear hr hb hg;by_cases hlt2:k<n
  ·go_wp2_with (first
    | ((with_reducible show wpList _ _ _ (⟨some 20,_,_,_,_,_⟩::_) _ _);go_must(refine Xa3 rfl 74 (.tmp 19) rfl ⟨w.heap.size,1,none⟩ h _ Tryz.underlying74 rfl (HH.out.1.size) (Xgt RB.out HH.out.1.len) ?_ ?_;go_simp))
    | ((with_reducible show wpList _ _ _ (⟨none,Op.store 74 _ _,_,_,_,_⟩::_) _ _);go_must(refine Xak rfl 74 (.tmp 21) (.tmp 20) rfl g 74 (k*66) _ h RR.out (HH.out.1.size) (by have:=HL.out;have:=Xbo k HH.out.1.len;rw[List.length_append,List.length_drop,HH.out.1.len];omega) HH.out.1.one ?_ ?_ ?_;go_simp;go_simp;intro w2 hr2 ht2;have HR2:=Hd hr2;have HT2:=Hd ht2;clear hr2 ht2)))
   go_roundw
   case rel =>
    refine⟨k+1,by omega,by go_num,?_,HT2.out.row RB.out (by omega),Xfq GG.out ⟨HT2.out.os,HT2.out.tape,HT2.out.output,by rw[HT2.out.size];exact Lr _,fun q hq hne=>HT2.out.block q (fun e=>hne (by rw[e]))⟩⟩;have:=HR2.out;have e:=Xmg (k:=k) HH.out.1.len [] xs (by have:=HL.out;omega);simp only[List.nil_append,List.length_nil,Nat.zero_add]at e;rwa [e]at this
   case measure=>simp[intOf];omega
  ·have hk':k=n:=by omega
   have R2:Hid (Row wr g 74 (rowOf n h++xs.drop (n*66))):=by rw[←hk'];exact RR.out
   clear hk' RR;go_wp2_with fail;refine bodyPost_ret (results_none rfl _ _ _) rfl ?_;exact⟨rfl,R2.out,GG.out⟩
theorem Xle(g n c:Nat)(h f:List Value)(xs ys:List Value)(w:World)(hr:Row w g 74 (xs++ys))(hn:xs.length=n*66)(hl:(c - n)*66≤ys.length)(hnc:n≤c)(hc:c≤9223372036854775807)(hh:IsHo h)(hf:IsHo f) :
 Calls Tryz.prog 134 #[.agg (sheetC (.slice (some ⟨g,0,none⟩) n c) h f).toArray,.bool true] w fun e w'=>e=.returned (.tuple #[])∧Row w' g 74 (xs++(rowOf (c - n) f++ys.drop ((c - n)*66)))∧w.grownBy w' (some g):=by
 have hlt:=hr.lt;have HL:=Hd hl;have HN:=Hd hn;have HH:=Hd (And.intro hh hf);have R:=Hd (hr.alloc (.cells (sheetC (.slice (some ⟨g,0,none⟩) n c) h f).toArray 155));have hB:=Row.new w 155 (sheetC (.slice (some ⟨g,0,none⟩) n c) h f);have HB:=Hd hB;have G0:=World.grownBy_alloc w (.cells (sheetC (.slice (some ⟨g,0,none⟩) n c) h f).toArray 155) (some g);have b0:(w.alloc (.cells (sheetC (.slice (some ⟨g,0,none⟩) n c) h f).toArray 155)).cell? ⟨w.heap.size,0,none⟩=some (.slice (some ⟨g,0,none⟩) n c):=hB.cell 0;clear hr hl hn hh hf hB;generalize hC:(sheetC (.slice (some ⟨g,0,none⟩) n c) h f).toArray=C at *;go_enter Tryz.func134,Tryz.ntmps134
 go_wp2_with fail;go_loopw [6] (fun i wr=>∃k:Nat,n+k≤c∧i=.int .i64 ((n+k:Nat):Int)∧Row wr g 74 (xs++(rowOf k f++ys.drop (k*66)))∧Row wr w.heap.size 155 (sheetC (.slice (some ⟨g,0,none⟩) n c) h f)∧w.grownBy wr (some g)) (fun i _=>c - (intOf i).toNat)
 case atStart=>exact⟨0,by omega,rfl,by simpa [rowOf]using R.out,hC ▸ HB.out,G0⟩
 case round =>
  obtain⟨k,hk,rfl,hr,hb,hg⟩:=hrel;clear R HB G0;have RR:=Hd hr;have RB:=Hd hb;have GG:=Hd hg;clear hr hb hg b0;by_cases hlt2:n+k<c
  ·generalize hj:n+k=j at *;have HJ:=Hd hj;clear hj;go_wp2_with (first
    | ((with_reducible show wpList _ _ _ (⟨some 40,_,_,_,_,_⟩::_) _ _);go_must(refine Xa3 rfl 74 (.tmp 39) rfl ⟨w.heap.size,67,none⟩ f _ Tryz.underlying74 rfl (HH.out.2.size) (Xhr RB.out HH.out.1.len) ?_ ?_;go_simp))
    | ((with_reducible show wpList _ _ _ (⟨none,Op.store 74 _ _,_,_,_,_⟩::_) _ _);go_must(refine Xak rfl 74 (.tmp 41) (.tmp 40) rfl g 74 (j*66) _ f RR.out (HH.out.2.size) (by have:=HL.out;have:=HN.out;have:=HJ.out;have:=Xbo k HH.out.2.len;simp only[List.length_append,List.length_drop,HH.out.2.len];omega) HH.out.2.one ?_ ?_ ?_;go_simp;go_simp;intro w2 hr2 ht2;have HR2:=Hd hr2;have HT2:=Hd ht2;clear hr2 ht2)))
   go_roundw
   case rel =>
    refine⟨k+1,by have:=HJ.out;omega,by rw[←HJ.out];go_num,?_,HT2.out.row RB.out (by omega),Xfq GG.out ⟨HT2.out.os,HT2.out.tape,HT2.out.output,by rw[HT2.out.size];exact Lr _,fun q hq hne=>HT2.out.block q (fun e=>hne (by rw[e]))⟩⟩;have:=HR2.out;have e:=Xmg (k:=k) HH.out.2.len xs ys (by have:=HL.out;have:=HJ.out;omega);rw[show xs.length+k*66=j*66 by have:=HN.out;have:=HJ.out;omega]at e;rwa [e]at this
   case measure=>simp[intOf];omega
  ·have hk':k=c - n:=by omega
   have R2:Hid (Row wr g 74 (xs++(rowOf (c - n) f++ys.drop ((c - n)*66)))):=by
    have:=RR.out;rw[hk']at this;exact this
   have hj2:¬(((n+k:Nat):Int)<(c:Int)):=by omega
   clear hk' RR;generalize n+k=j at *;go_wp2_with fail;go_end0
   exact⟨rfl,R2.out,GG.out⟩
theorem Xo3(g n c:Nat)(h f:List Value)(zs:List Value)(w:World)(hr:Row w g 74 (rowOf n h++(rowOf (c - n) f++zs)))(hnc:n≤c)(hc:c≤9223372036854775807)(hh:IsHo h)(hf:IsHo f) :
 Calls Tryz.prog 133 #[.agg (sheetC (.slice (some ⟨g,0,none⟩) n c) h f).toArray] w fun e w'=>e=.returned (.bool true)∧w.grownBy w' none:=by
 have hlt:=hr.lt;have HH:=Hd (And.intro hh hf);have R0:=Hd (hr.alloc (.cells (sheetC (.slice (some ⟨g,0,none⟩) n c) h f).toArray 155));have HB:=Hd (Row.new w 155 (sheetC (.slice (some ⟨g,0,none⟩) n c) h f));have b0:(w.alloc (.cells (sheetC (.slice (some ⟨g,0,none⟩) n c) h f).toArray 155)).cell? ⟨w.heap.size,0,none⟩=some (.slice (some ⟨g,0,none⟩) n c):=HB.out.cell 0;have G0:=World.grownBy_alloc w (.cells (sheetC (.slice (some ⟨g,0,none⟩) n c) h f).toArray 155) none;have NH:=fun w=>hh.neq w
 have NF:=fun w=>hf.neq w
 have C1:Hid (∀k,k<n→∀j v,h[j]?=some v→(w.alloc (.cells (sheetC (.slice (some ⟨g,0,none⟩) n c) h f).toArray 155)).cell? ((⟨g,k*66,none⟩:Addr).add j)=some v):=Hd fun k hk j v hv=>by
  rw[Xa5,R0.out.cell,List.getElem?_append_left (by rw[Xbo n hh.len];have:=(List.getElem?_eq_some_iff.1 hv).1;rw[hh.len]at this;omega)];exact Xf1 hh.len hk hv
 have C2:Hid (∀k,k<c - n→∀j v,f[j]?=some v→(w.alloc (.cells (sheetC (.slice (some ⟨g,0,none⟩) n c) h f).toArray 155)).cell? ((⟨g,(n+k)*66,none⟩:Addr).add j)=some v):=Hd fun k hk j v hv=>by
  rw[Xa5,R0.out.cell,List.getElem?_append_right (by rw[Xbo n hh.len];omega),Xbo n hh.len,show(n+k)*66+j - n*66=k*66+j by omega,List.getElem?_append_left (by rw[Xbo _ hf.len];have:=(List.getElem?_eq_some_iff.1 hv).1;rw[hf.len]at this;omega)];exact Xf1 hf.len hk hv
 have C3:Hid (∀j v,h[j]?=some v→(w.alloc (.cells (sheetC (.slice (some ⟨g,0,none⟩) n c) h f).toArray 155)).cell? ((⟨w.heap.size,1,none⟩:Addr).add j)=some v):=Hd (Xgt HB.out hh.len);have C4:Hid (∀j v,f[j]?=some v→(w.alloc (.cells (sheetC (.slice (some ⟨g,0,none⟩) n c) h f).toArray 155)).cell? ((⟨w.heap.size,67,none⟩:Addr).add j)=some v):=Hd (Xhr HB.out hh.len);have SH:=Hd (hh.size);have SF:=Hd (hf.size);clear hr hh hf R0 HB HH;generalize hC:(sheetC (.slice (some ⟨g,0,none⟩) n c) h f).toArray=C at *;clear hC;go_enter Tryz.func133,Tryz.ntmps133
 go_wp2_with fail;generalize w.alloc (.cells C 155)=W at *;go_loopw [3] (fun i wr=>∃k j:Nat,k≤n∧i=.int .i64 k∧wr=W.drewN j) (fun i _=>n - (intOf i).toNat)
 case atStart=>exact⟨0,0,Nat.zero_le _,rfl,rfl⟩
 case round =>
  obtain⟨k,j,hk,rfl,rfl⟩:=hrel;by_cases hlt2:k<n
  ·go_wp2_with fail;refine wp_region_quiet_lit (by kernel_rfl) (by kernel_rfl) ?_;repeat (first
    | ((with_reducible show wpQuiet _ _ _ _ (⟨some 17,_,_,_,_,_⟩::_) _);go_must(refine Xai (by kernel_rfl) 74 (.tmp 16) rfl ⟨g,k*66,none⟩ h _ Tryz.underlying74 rfl SH.out (by rintro _ ⟨nq,rfl⟩;exact C1.out k hlt2) ?_ ?_;go_simp;go_simp))
    | ((with_reducible show wpQuiet _ _ _ _ (⟨some 19,_,_,_,_,_⟩::_) _);go_must(refine Xai (by kernel_rfl) 74 (.tmp 18) rfl ⟨w.heap.size,1,none⟩ h _ Tryz.underlying74 rfl SH.out (by rintro _ ⟨nq,rfl⟩;exact C3.out) ?_ ?_;go_simp;go_simp))
    | go_big_quiet_step (fail))
   refine wpQuiet_nil ?_;intro nq;go_wp2_with fail;go_roundw
   case rel=>exact⟨k+1,j+nq,by omega,by go_num,by simp⟩
   case measure=>simp[intOf];omega
  ·go_wp2_with fail;go_loopw [5] (fun i wr=>∃k j:Nat,n+k≤c∧i=.int .i64 ((n+k:Nat):Int)∧wr=W.drewN j) (fun i _=>c - (intOf i).toNat)
   case atStart=>exact⟨0,j,by omega,rfl,rfl⟩
   case round =>
    obtain⟨k,j,hk,rfl,rfl⟩:=hrel;by_cases hlt2:n+k<c
    ·have C2k:=Hd (C2.out k (by omega));generalize hjj:n+k=t at *;have HJ:=Hd hjj;clear hjj;go_wp2_with fail;refine wp_region_quiet_lit (by kernel_rfl) (by kernel_rfl) ?_;repeat (first
      | ((with_reducible show wpQuiet _ _ _ _ (⟨some 39,_,_,_,_,_⟩::_) _);go_must(refine Xai (by kernel_rfl) 74 (.tmp 38) rfl ⟨g,t*66,none⟩ f _ Tryz.underlying74 rfl SF.out (by rintro _ ⟨nq,rfl⟩;exact C2k.out) ?_ ?_;go_simp;go_simp))
      | ((with_reducible show wpQuiet _ _ _ _ (⟨some 41,_,_,_,_,_⟩::_) _);go_must(refine Xai (by kernel_rfl) 74 (.tmp 40) rfl ⟨w.heap.size,67,none⟩ f _ Tryz.underlying74 rfl SF.out (by rintro _ ⟨nq,rfl⟩;exact C4.out) ?_ ?_;go_simp;go_simp))
      | go_big_quiet_step (fail))
     refine wpQuiet_nil ?_;intro nq;go_wp2_with fail;go_roundw
     case rel=>exact⟨k+1,j+nq,by have:=HJ.out;omega,by rw[←HJ.out];go_num,by simp⟩
     case measure=>simp[intOf];omega
    ·have hj2:¬(((n+k:Nat):Int)<(c:Int)):=by omega
     generalize n+k=t at *;go_wp2_with fail;go_ret;exact⟨rfl,Xfq G0 ⟨rfl,rfl,rfl,Lr _,fun _ _ _=>rfl⟩⟩
theorem Xir(b:Bool)(h f:List Value)(w:World) :
 Calls Tryz.prog 134 #[.agg (sheetC (.slice none 0 0) h f).toArray,.bool b] w fun e w'=>e=.returned (.tuple #[])∧w.grownBy w' none:=by
 have G0:=World.grownBy_alloc w (.cells (sheetC (.slice none 0 0) h f).toArray 155) none;have b0:(w.alloc (.cells (sheetC (.slice none 0 0) h f).toArray 155)).cell? ⟨w.heap.size,0,none⟩=some (.slice none 0 0):=(Row.new w 155 (sheetC (.slice none 0 0) h f)).cell 0;generalize (sheetC (.slice none 0 0) h f).toArray=C at *;cases b
 ·go_enter Tryz.func134,Tryz.ntmps134
  go_wp2;go_loop [4] (fun i=>i=.int .i64 0) (fun _=>0)
  case atStart=>rfl
  case round =>
   subst hrel;go_wp2;refine bodyPost_ret (results_none rfl _ _ _) rfl ?_;exact⟨rfl,G0⟩
 ·go_enter Tryz.func134,Tryz.ntmps134
  go_wp2;go_loop [6] (fun i=>i=.int .i64 0) (fun _=>0)
  case atStart=>rfl
  case round =>
   subst hrel;go_wp2;go_end0
   exact⟨rfl,G0⟩
theorem Xp8(h f:List Value)(w:World) :
 Calls Tryz.prog 133 #[.agg (sheetC (.slice none 0 0) h f).toArray] w fun e w'=>e=.returned (.bool true)∧w.grownBy w' none:=by
 have G0:=World.grownBy_alloc w (.cells (sheetC (.slice none 0 0) h f).toArray 155) none;have b0:(w.alloc (.cells (sheetC (.slice none 0 0) h f).toArray 155)).cell? ⟨w.heap.size,0,none⟩=some (.slice none 0 0):=(Row.new w 155 (sheetC (.slice none 0 0) h f)).cell 0;generalize (sheetC (.slice none 0 0) h f).toArray=C at *;go_enter Tryz.func133,Tryz.ntmps133
 go_wp2;go_loop [3] (fun i=>i=.int .i64 0) (fun _=>0)
 case atStart=>rfl
 case round =>
  subst hrel;go_wp2;go_loop [5] (fun i=>i=.int .i64 0) (fun _=>0)
  case atStart=>rfl
  case round =>
   subst hrel;go_wp2;go_ret;exact⟨rfl,G0⟩
theorem Xpg{x:LHold}(hk:x.k.length=32)(ho:x.a.o.length=32):IsHo x.cells:=⟨Xf3 hk ho,Xjj x,fun w=>by rw[Xu1 hk hk ho ho];simp,Xs1 hk ho⟩
def hoK(z:List Int):List Value:=LHold.cells ⟨z,blank13⟩
theorem Xg5{z:List Int}(h:z.length=32):(hoK z).length=66:=Xf3 (x:=⟨z,blank13⟩) h rfl
theorem Xdc{z:List Int}(hz:z.length=32):Tryz.prog.built 74 [(0,.agg (bv z).toArray)]=some (hoK z).toArray:=by
 have h:∀l:List Value,l.length=32→Tryz.prog.built 74 [(0,.agg l.toArray)]=some (l++blank13.cells).toArray:=fun l hl=>by
  obtain⟨f,rfl⟩:∃f:Fin 32→Value,l=List.ofFn f:=⟨fun i=>l.getD i undef,by
   refine List.ext_getElem (by simpa using hl) fun i h1 h2=>?_
   rw[List.getElem_ofFn,List.getD_eq_getElem?_getD,List.getElem?_eq_getElem h1];rfl⟩
  kernel_rfl
 exact h (bv z) (by rw[bL,hz])
theorem Xdw(B:Option Addr)(m d:Nat)(h f:List Value)(h1:h.length=66)(h2:f.length=66):Tryz.prog.built 155 [(0,.slice B m d),(1,.agg h.toArray),(2,.agg f.toArray)]=some (sheetC (.slice B m d) h f).toArray:=by
 obtain⟨u,rfl⟩:∃u:Fin 66→Value,h=List.ofFn u:=⟨fun i=>h.getD i undef,by
  refine List.ext_getElem (by simpa using h1) fun i h3 h4=>?_
  rw[List.getElem_ofFn,List.getD_eq_getElem?_getD,List.getElem?_eq_getElem h3];rfl⟩
 obtain⟨g,rfl⟩:∃u:Fin 66→Value,f=List.ofFn u:=⟨fun i=>f.getD i undef,by
  refine List.ext_getElem (by simpa using h2) fun i h3 h4=>?_
  rw[List.getElem_ofFn,List.getD_eq_getElem?_getD,List.getElem?_eq_getElem h3];rfl⟩
 kernel_rfl
theorem Xke(p base:Nat)(A B:Option Addr)(n c m d:Nat)(ps:List Value)(w0 w:World)(h:BookW w0 p base A n c ps w)(hn:n≤1000000) :
 Calls Tryz.prog 38 #[.pointer (some ⟨p,0,none⟩),.slice B m d] w fun e w'=>∃z1 z2 A' c',e=.returned (.tuple #[])∧IsHo z1∧IsHo z2 ∧
  BookW w0 p base A' (n+1) c' (ps++[.iface 155 (.agg (sheetC (.slice B m d) z1 z2).toArray)]) w':=by
 obtain⟨i0,hi,hz0,hz1,hz2⟩:=info_parts Xpa;have HI:=Hd (And.intro hi (And.intro hz0 (And.intro hz1 hz2)));have HM:Hid (∀z:List Int,z.length=32→IsHo (hoK z)):=Hd fun z hz=>Xpg (x:=⟨z,blank13⟩) hz rfl
 have HN:=Hd (Xvm p A n c w h.row hn);have H0:=Hd (h.drewN 1);clear h hi hz0 hz1 hz2;go_enter Tryz.func38,Tryz.ntmps38
 go_wp2_with fail;refine HN.out.mono ?_;rintro e w1 ⟨rfl,rfl⟩;go_wp2_with fail;refine wp_region_held (S:=fun _=>True) (by kernel_rfl) ?_;try(change wpAnyH _ _ _ _ _ _ _ _ (World.drew _))
 refine Tk 0 rfl ?_ trivial ?_ ⟨?_,rfl⟩
 ·intro w _;go_simp;try with_reducible rfl
 try simp only[nm]
 refine Tk 1 rfl ?_ trivial ?_ ⟨?_,rfl⟩
 ·intro w _;go_simp;try with_reducible rfl
 try simp only[nm]
 refine Tk 2 rfl ?_ trivial ?_ ⟨?_,rfl⟩
 ·intro w _;go_simp;try with_reducible rfl
 try simp only[nm]
 refine Tk 3 rfl ?_ trivial ?_ ⟨?_,rfl⟩
 ·intro w _;go_simp;try with_reducible rfl
 try simp only[nm]
 refine Tk 5 rfl ?_ trivial ?_ ⟨?_,rfl⟩
 ·intro w _;go_simp;try with_reducible rfl
 try simp only[nm]
 refine Tk 6 rfl ?_ trivial ?_ ⟨?_,rfl⟩
 ·intro w _;go_simp;try with_reducible rfl
 try simp only[nm]
 refine Tk 9 rfl ?_ trivial ?_ ⟨?_,rfl⟩
 ·intro w _;go_simp;try with_reducible rfl
 try simp only[nm]
 refine wpAnyH_ready (rs:=[4,7]) (by kernel_rfl) (by simp) ?_;refine allL rfl (by kernel_rfl) (fun K hK=>?_) (allL rfl (by kernel_rfl) (fun K hK=>?_) (AllReadyH.nil))
 ·have c1:w.drew.cell? ⟨p,0,none⟩=some (.slice A n c):=H0.out.row.cell 0;go_simp;clear c1;refine hK _ _ trivial ?_;clear hK K;try simp only[nm]
  refine Rl 7 rfl fun K hK=>?_
  go_simp;refine(Xh7 _ _ _).mono ?_;rintro e w12 ⟨z1,rfl,hz1,hb⟩;have H12:=Hd (H0.out.below hb);clear hb;simp only[];refine hK _ _ trivial ?_;clear hK K;try simp only[nm]
  refine Tl 8 (v:=.agg (hoK z1).toArray) rfl (Or.inl ⟨by rfl,fun w _=>?_⟩) trivial ?_
  ·exact Xa9 w _ _ _ rfl (by simp only[List.map_toArray,List.map_cons,List.map_nil];exact Xdc (z:=z1) hz1)
  try simp only[nm]
  refine Rl 10 rfl fun K hK=>?_
  go_simp;refine(Xh7 _ _ _).mono ?_;rintro e w23 ⟨z2,rfl,hz2,hb⟩;have H23:=Hd (H12.out.below hb);clear hb;simp only[];refine hK _ _ trivial ?_;clear hK K;try simp only[nm]
  refine Tl 11 (v:=.agg (hoK z2).toArray) rfl (Or.inl ⟨by rfl,fun w _=>?_⟩) trivial ?_
  ·exact Xa9 w _ _ _ rfl (by simp only[List.map_toArray,List.map_cons,List.map_nil];exact Xdc (z:=z2) hz2)
  try simp only[nm]
  refine Tl 12 (v:=.agg (sheetC (.slice B m d) (hoK z1) (hoK z2)).toArray) rfl (Or.inl ⟨by rfl,fun w _=>?_⟩) trivial ?_
  ·exact Xa9 w _ _ _ rfl (by simp only[List.map_toArray,List.map_cons,List.map_nil];exact Xdw B m d _ _ (Xg5 hz1) (Xg5 hz2))
  try simp only[nm]
  refine Tk 13 rfl ?_ trivial ?_ ⟨?_,rfl⟩
  ·intro w _;go_simp;try with_reducible rfl
  try simp only[nm]
  refine Rl 14 rfl fun K hK=>?_
  go_simp;refine hK _ _ trivial ?_;clear hK K;try simp only[nm]
  have HB4:=Hd (H23.out.alloc (.cells [Value.iface 155 (.agg (sheetC (.slice B m d) (hoK z1) (hoK z2)).toArray)].toArray 106));have hsee:=(Row.new w23 106 [Value.iface 155 (.agg (sheetC (.slice B m d) (hoK z1) (hoK z2)).toArray)]).sees0;have HSEE:=Hd hsee;clear hsee;refine Rl 15 rfl fun K hK=>?_
  refine Xcl (.tmp 11) (.tmp 21) rfl Tryz.underlying52 HI.out.1 HI.out.2.1 HI.out.2.2.1 HI.out.2.2.2 rfl rfl HB4.out.own rfl HSEE.out (by simp[Value.oneCell']) (by unfold maxLen;omega) (by omega) HB4.out.lt ?_;intro v5 w5 ho5 hg5 hat5;obtain⟨A5,c5,rfl⟩:=Xfs ho5;refine hK _ _ trivial ?_;clear hK K;try simp only[nm]
  have hr5:=HB4.out.row.grown hg5 (Xd0 HB4.out.own HB4.out.row (by decide));have e5:w5.cell? ⟨p,0,none⟩=some (.slice A n c):=hr5.cell 0;have g5:=hr5.frozen 0;refine Tk 16 rfl ?_ trivial ?_ ⟨?_,rfl⟩
  ·intro w _;go_simp;try with_reducible rfl
  try simp only[nm]
  refine Tk 17 rfl ?_ trivial ?_ ⟨?_,rfl⟩
  ·intro w _;go_simp;try with_reducible rfl
  try simp only[nm]
  refine Rl 18 rfl fun K hK=>?_
  go_simp;refine hK _ _ trivial ?_;clear hK K;try simp only[nm]
  refine wpAnyH_done (by kernel_rfl) ?_ _;have HE:=Hd (HB4.out.last hr5 ho5 hg5);clear e5 g5 hr5 ho5 hg5 hat5;go_wp2_with fail;go_end0
  exact⟨_,_,A5,c5,rfl,HM.out z1 hz1,HM.out z2 hz2,HE.out⟩
 ·go_simp;refine(Xh7 _ _ _).mono ?_;rintro e w11 ⟨z1,rfl,hz1,hb⟩;have H11:=Hd (H0.out.below hb);clear hb;simp only[];refine hK _ _ trivial ?_;clear hK K;try simp only[nm]
  refine Tl 8 (v:=.agg (hoK z1).toArray) rfl (Or.inl ⟨by rfl,fun w _=>?_⟩) trivial ?_
  ·exact Xa9 w _ _ _ rfl (by simp only[List.map_toArray,List.map_cons,List.map_nil];exact Xdc (z:=z1) hz1)
  try simp only[nm]
  refine wpAnyH_ready (rs:=[4,10]) (by kernel_rfl) (by simp) ?_;refine allL rfl (by kernel_rfl) (fun K hK=>?_) (allL rfl (by kernel_rfl) (fun K hK=>?_) (AllReadyH.nil))
  ·have c2:w11.cell? ⟨p,0,none⟩=some (.slice A n c):=H11.out.row.cell 0;go_simp;clear c2;refine hK _ _ trivial ?_;clear hK K;try simp only[nm]
   refine Rl 10 rfl fun K hK=>?_
   go_simp;refine(Xh7 _ _ _).mono ?_;rintro e w23 ⟨z2,rfl,hz2,hb⟩;have H23:=Hd (H11.out.below hb);clear hb;simp only[];refine hK _ _ trivial ?_;clear hK K;try simp only[nm]
   refine Tl 11 (v:=.agg (hoK z2).toArray) rfl (Or.inl ⟨by rfl,fun w _=>?_⟩) trivial ?_
   ·exact Xa9 w _ _ _ rfl (by simp only[List.map_toArray,List.map_cons,List.map_nil];exact Xdc (z:=z2) hz2)
   try simp only[nm]
   refine Tl 12 (v:=.agg (sheetC (.slice B m d) (hoK z1) (hoK z2)).toArray) rfl (Or.inl ⟨by rfl,fun w _=>?_⟩) trivial ?_
   ·exact Xa9 w _ _ _ rfl (by simp only[List.map_toArray,List.map_cons,List.map_nil];exact Xdw B m d _ _ (Xg5 hz1) (Xg5 hz2))
   try simp only[nm]
   refine Tk 13 rfl ?_ trivial ?_ ⟨?_,rfl⟩
   ·intro w _;go_simp;try with_reducible rfl
   try simp only[nm]
   refine Rl 14 rfl fun K hK=>?_
   go_simp;refine hK _ _ trivial ?_;clear hK K;try simp only[nm]
   have HB4:=Hd (H23.out.alloc (.cells [Value.iface 155 (.agg (sheetC (.slice B m d) (hoK z1) (hoK z2)).toArray)].toArray 106));have hsee:=(Row.new w23 106 [Value.iface 155 (.agg (sheetC (.slice B m d) (hoK z1) (hoK z2)).toArray)]).sees0;have HSEE:=Hd hsee;clear hsee;refine Rl 15 rfl fun K hK=>?_
   refine Xcl (.tmp 11) (.tmp 21) rfl Tryz.underlying52 HI.out.1 HI.out.2.1 HI.out.2.2.1 HI.out.2.2.2 rfl rfl HB4.out.own rfl HSEE.out (by simp[Value.oneCell']) (by unfold maxLen;omega) (by omega) HB4.out.lt ?_;intro v5 w5 ho5 hg5 hat5;obtain⟨A5,c5,rfl⟩:=Xfs ho5;refine hK _ _ trivial ?_;clear hK K;try simp only[nm]
   have hr5:=HB4.out.row.grown hg5 (Xd0 HB4.out.own HB4.out.row (by decide));have e5:w5.cell? ⟨p,0,none⟩=some (.slice A n c):=hr5.cell 0;have g5:=hr5.frozen 0;refine Tk 16 rfl ?_ trivial ?_ ⟨?_,rfl⟩
   ·intro w _;go_simp;try with_reducible rfl
   try simp only[nm]
   refine Tk 17 rfl ?_ trivial ?_ ⟨?_,rfl⟩
   ·intro w _;go_simp;try with_reducible rfl
   try simp only[nm]
   refine Rl 18 rfl fun K hK=>?_
   go_simp;refine hK _ _ trivial ?_;clear hK K;try simp only[nm]
   refine wpAnyH_done (by kernel_rfl) ?_ _;have HE:=Hd (HB4.out.last hr5 ho5 hg5);clear e5 g5 hr5 ho5 hg5 hat5;go_wp2_with fail;go_end0
   exact⟨_,_,A5,c5,rfl,HM.out z1 hz1,HM.out z2 hz2,HE.out⟩
  ·go_simp;refine(Xh7 _ _ _).mono ?_;rintro e w22 ⟨z2,rfl,hz2,hb⟩;have H22:=Hd (H11.out.below hb);clear hb;simp only[];refine hK _ _ trivial ?_;clear hK K;try simp only[nm]
   refine Tl 11 (v:=.agg (hoK z2).toArray) rfl (Or.inl ⟨by rfl,fun w _=>?_⟩) trivial ?_
   ·exact Xa9 w _ _ _ rfl (by simp only[List.map_toArray,List.map_cons,List.map_nil];exact Xdc (z:=z2) hz2)
   try simp only[nm]
   refine Tl 12 (v:=.agg (sheetC (.slice B m d) (hoK z1) (hoK z2)).toArray) rfl (Or.inl ⟨by rfl,fun w _=>?_⟩) trivial ?_
   ·exact Xa9 w _ _ _ rfl (by simp only[List.map_toArray,List.map_cons,List.map_nil];exact Xdw B m d _ _ (Xg5 hz1) (Xg5 hz2))
   try simp only[nm]
   refine Tk 13 rfl ?_ trivial ?_ ⟨?_,rfl⟩
   ·intro w _;go_simp;try with_reducible rfl
   try simp only[nm]
   refine wpAnyH_ready (rs:=[4,14]) (by kernel_rfl) (by simp) ?_;refine allL rfl (by kernel_rfl) (fun K hK=>?_) (allL rfl (by kernel_rfl) (fun K hK=>?_) (AllReadyH.nil))
   ·have c3:w22.cell? ⟨p,0,none⟩=some (.slice A n c):=H22.out.row.cell 0;go_simp;clear c3;refine hK _ _ trivial ?_;clear hK K;try simp only[nm]
    refine Rl 14 rfl fun K hK=>?_
    go_simp;refine hK _ _ trivial ?_;clear hK K;try simp only[nm]
    have HB4:=Hd (H22.out.alloc (.cells [Value.iface 155 (.agg (sheetC (.slice B m d) (hoK z1) (hoK z2)).toArray)].toArray 106));have hsee:=(Row.new w22 106 [Value.iface 155 (.agg (sheetC (.slice B m d) (hoK z1) (hoK z2)).toArray)]).sees0;have HSEE:=Hd hsee;clear hsee;refine Rl 15 rfl fun K hK=>?_
    refine Xcl (.tmp 11) (.tmp 21) rfl Tryz.underlying52 HI.out.1 HI.out.2.1 HI.out.2.2.1 HI.out.2.2.2 rfl rfl HB4.out.own rfl HSEE.out (by simp[Value.oneCell']) (by unfold maxLen;omega) (by omega) HB4.out.lt ?_;intro v5 w5 ho5 hg5 hat5;obtain⟨A5,c5,rfl⟩:=Xfs ho5;refine hK _ _ trivial ?_;clear hK K;try simp only[nm]
    have hr5:=HB4.out.row.grown hg5 (Xd0 HB4.out.own HB4.out.row (by decide));have e5:w5.cell? ⟨p,0,none⟩=some (.slice A n c):=hr5.cell 0;have g5:=hr5.frozen 0;refine Tk 16 rfl ?_ trivial ?_ ⟨?_,rfl⟩
    ·intro w _;go_simp;try with_reducible rfl
    try simp only[nm]
    refine Tk 17 rfl ?_ trivial ?_ ⟨?_,rfl⟩
    ·intro w _;go_simp;try with_reducible rfl
    try simp only[nm]
    refine Rl 18 rfl fun K hK=>?_
    go_simp;refine hK _ _ trivial ?_;clear hK K;try simp only[nm]
    refine wpAnyH_done (by kernel_rfl) ?_ _;have HE:=Hd (HB4.out.last hr5 ho5 hg5);clear e5 g5 hr5 ho5 hg5 hat5;go_wp2_with fail;go_end0
    exact⟨_,_,A5,c5,rfl,HM.out z1 hz1,HM.out z2 hz2,HE.out⟩
   ·go_simp;refine hK _ _ trivial ?_;clear hK K;try simp only[nm]
    have HB3:=Hd (H22.out.alloc (.cells [Value.iface 155 (.agg (sheetC (.slice B m d) (hoK z1) (hoK z2)).toArray)].toArray 106));have hsee:=(Row.new w22 106 [Value.iface 155 (.agg (sheetC (.slice B m d) (hoK z1) (hoK z2)).toArray)]).sees0;have HSEE:=Hd hsee;clear hsee;refine Rl 4 rfl fun K hK=>?_
    have c4:(w22.alloc (.cells [Value.iface 155 (.agg (sheetC (.slice B m d) (hoK z1) (hoK z2)).toArray)].toArray 106)).cell? ⟨p,0,none⟩=some (.slice A n c):=HB3.out.row.cell 0;go_simp;clear c4;refine hK _ _ trivial ?_;clear hK K;try simp only[nm]
    refine Rl 15 rfl fun K hK=>?_
    refine Xcl (.tmp 11) (.tmp 21) rfl Tryz.underlying52 HI.out.1 HI.out.2.1 HI.out.2.2.1 HI.out.2.2.2 rfl rfl HB3.out.own rfl HSEE.out (by simp[Value.oneCell']) (by unfold maxLen;omega) (by omega) HB3.out.lt ?_;intro v5 w5 ho5 hg5 hat5;obtain⟨A5,c5,rfl⟩:=Xfs ho5;refine hK _ _ trivial ?_;clear hK K;try simp only[nm]
    have hr5:=HB3.out.row.grown hg5 (Xd0 HB3.out.own HB3.out.row (by decide));have e5:w5.cell? ⟨p,0,none⟩=some (.slice A n c):=hr5.cell 0;have g5:=hr5.frozen 0;refine Tk 16 rfl ?_ trivial ?_ ⟨?_,rfl⟩
    ·intro w _;go_simp;try with_reducible rfl
    try simp only[nm]
    refine Tk 17 rfl ?_ trivial ?_ ⟨?_,rfl⟩
    ·intro w _;go_simp;try with_reducible rfl
    try simp only[nm]
    refine Rl 18 rfl fun K hK=>?_
    go_simp;refine hK _ _ trivial ?_;clear hK K;try simp only[nm]
    refine wpAnyH_done (by kernel_rfl) ?_ _;have HE:=Hd (HB3.out.last hr5 ho5 hg5);clear e5 g5 hr5 ho5 hg5 hat5;go_wp2_with fail;go_end0
    exact⟨_,_,A5,c5,rfl,HM.out z1 hz1,HM.out z2 hz2,HE.out⟩
inductive Kd where
 | ho
inductive Sg where
 | ho (h f:List Value)
def Sg.et:Sg→TypeId
 | .ho _ _=>74
def Sg.sz:Sg→Nat
 | .ho _ _=>66
def Sg.here:Sg→Nat→List Value
 | .ho h _,n=>rowOf n h
def Sg.far:Sg→Nat→List Value
 | .ho _ f,n=>rowOf n f
def Sg.pay:Sg→Value→Value
 | .ho h f,l=>.agg (sheetC l h f).toArray
def Sg.ty:Sg→TypeId
 | .ho _ _=>155
def Sg.Wf:Sg→Prop
 | .ho h f=>IsHo h∧IsHo f
def Sg.signFn:Sg→FuncId
 | .ho _ _=>134
def Sg.ownFn:Sg→FuncId
 | .ho _ _=>133
structure Pg2 where
 A:Option Nat
 n:Nat
 c:Nat
 s:Sg
def Pg2.list(p:Pg2):Value:=.slice (p.A.map fun g=>⟨g,0,none⟩) p.n p.c
def Pg2.val(p:Pg2):Value:=.iface p.s.ty (p.s.pay p.list)
def Pg2.Fit(w:World)(q:Pg2)(a b:Prop):Prop:=
 match q.A with
 | none=>q.n=0∧q.c=0
 | some g=>q.n≤q.c∧q.c≤9223372036854775807∧∃xs ys zs,Row w g q.s.et (xs++(ys++zs))∧xs.length=q.n*q.s.sz∧ys.length=(q.c - q.n)*q.s.sz∧(q.s.sz=64→zs=[])∧(a→xs=q.s.here q.n)∧(b→ys=q.s.far (q.c - q.n))
theorem Pg2.Fit.keep{w w':World}{q:Pg2}{a b:Prop}{r:Option Nat}(h:q.Fit w a b)(hg:w.grownBy w' r)(hne:∀g,q.A=some g→some g≠r):q.Fit w' a b:=by
 obtain⟨A,n,c,s⟩:=q;cases A with
 | none=>exact h
 | some g =>
  obtain⟨h1,h2,xs,ys,zs,hr,h3⟩:=h;exact⟨h1,h2,xs,ys,zs,hr.grown hg (hne g rfl),h3⟩
theorem Xnd(q:Pg2)(w:World)(a b:Prop)(h:q.Fit w a b)(hs:q.s.Wf) :
 Calls Tryz.prog q.s.signFn #[q.s.pay q.list,.bool false] w fun e w'=>e=.returned (.tuple #[])∧q.Fit w' True b∧w.grownBy w' q.A:=by
 obtain⟨A,n,c,s⟩:=q;cases A with
 | none =>
  obtain⟨rfl,rfl⟩:=h;cases s with
  | ho hh ff =>
   refine(Xir false hh ff w).mono ?_;rintro e w' ⟨rfl,hg⟩;exact⟨rfl,⟨rfl,rfl⟩,hg⟩
 | some g =>
  obtain⟨h1,h2,xs,ys,zs,hr,h3,h4,hz,h5,h6⟩:=h;have h1:n≤c:=h1;cases s with
  | ho hh ff =>
   have h3':xs.length=n*66:=h3;have h4':ys.length=(c - n)*66:=h4;refine(Xk1 g n c hh ff (xs++(ys++zs)) w hr (by simp only[List.length_append];omega) h1 h2 hs.1 hs.2).mono ?_;rintro e w' ⟨rfl,hr',hg⟩;refine⟨rfl,⟨h1,h2,rowOf n hh,ys,zs,?_,Xbo n hs.1.len,h4,hz,fun _=>rfl,h6⟩,hg⟩;rwa [List.drop_append_of_le_length (by omega),List.drop_of_length_le (by omega),List.nil_append]at hr'
theorem Xo7(q:Pg2)(w:World)(a b:Prop)(h:q.Fit w a b)(hs:q.s.Wf) :
 Calls Tryz.prog q.s.signFn #[q.s.pay q.list,.bool true] w fun e w'=>e=.returned (.tuple #[])∧q.Fit w' a True∧w.grownBy w' q.A:=by
 obtain⟨A,n,c,s⟩:=q;cases A with
 | none =>
  obtain⟨rfl,rfl⟩:=h;cases s with
  | ho hh ff =>
   refine(Xir true hh ff w).mono ?_;rintro e w' ⟨rfl,hg⟩;exact⟨rfl,⟨rfl,rfl⟩,hg⟩
 | some g =>
  obtain⟨h1,h2,xs,ys,zs,hr,h3,h4,hz,h5,h6⟩:=h;have h1:n≤c:=h1;cases s with
  | ho hh ff =>
   have h4':ys.length=(c - n)*66:=h4;refine(Xle g n c hh ff xs (ys++zs) w hr h3 (by rw[List.length_append];omega) h1 h2 hs.1 hs.2).mono ?_;rintro e w' ⟨rfl,hr',hg⟩;rw[List.drop_append_of_le_length (by omega),List.drop_of_length_le (by omega),List.nil_append]at hr';exact⟨rfl,⟨h1,h2,xs,_,zs,hr',h3,Xbo _ hs.2.len,hz,h5,fun _=>rfl⟩,hg⟩
theorem Xr6(q:Pg2)(w:World)(h:q.Fit w True True)(hs:q.s.Wf) :
 Calls Tryz.prog q.s.ownFn #[q.s.pay q.list] w fun e w'=>e=.returned (.bool true)∧w.grownBy w' none:=by
 obtain⟨A,n,c,s⟩:=q;cases A with
 | none =>
  obtain⟨rfl,rfl⟩:=h;cases s with
  | ho hh ff=>exact Xp8 hh ff w
 | some g =>
  obtain⟨h1,h2,xs,ys,zs,hr,h3,h4,hz,h5,h6⟩:=h;rw[h5 trivial,h6 trivial]at hr;cases s with
  | ho hh ff=>exact Xo3 g n c hh ff zs w hr h1 h2 hs.1 hs.2
structure Touched(P:List Pg2)(w w':World):Prop where
 os:w'.os=w.os
 tape:w'.tape=w.tape
 output:w'.output=w.output
 size:w.heap.size≤w'.heap.size
 block:∀k,k<w.heap.size→(∀q ∈ P,q.A≠some k)→w'.heap[k]?=w.heap[k]?
theorem Touched.refl(P:List Pg2)(w:World):Touched P w w:=⟨rfl,rfl,rfl,Lr _,fun _ _ _=>rfl⟩
theorem Touched.step{P:List Pg2}{w a b:World}{r:Option Nat}(h:Touched P w a)(hg:a.grownBy b r)(hr:∀g,r=some g→∃q ∈ P,q.A=some g):Touched P w b:=
 ⟨hg.os.trans h.os,hg.tape.trans h.tape,hg.output.trans h.output,Lq h.size hg.size,fun k hk hne=>by
  rw[hg.block k (Nat.lt_of_lt_of_le hk h.size) (fun e=>by obtain⟨q,hq,e'⟩:=hr k e.symm;exact hne q hq e'),h.block k hk hne]⟩
theorem Touched.below{P:List Pg2}{w w':World}{B:Nat}(h:Touched P w w')(hB:B≤w.heap.size)(hp:∀q ∈ P,∀g,q.A=some g→B≤g):Below B w w':=
 ⟨h.os,h.tape,h.output,h.size,fun k hk=>h.block k (by omega) fun q hq e=>by have:=hp q hq k e;omega⟩
structure BookAt(w:World)(p:Nat)(base:Nat)(A:Option Addr)(c:Nat)(P:List Pg2)(ka kb:Nat):Prop where
 row:Row w p 54 [.slice A P.length c]
 own:w.ownsRow base 106 1 (.slice A P.length c) P.length (P.map Pg2.val)
 fit:∀i (hi:i<P.length),P[i].Fit w (i<ka) (i<kb)
def Parted(P:List Pg2):Prop:=∀i j (hi:i<P.length) (hj:j<P.length) g,P[i].A=some g→P[j].A=some g→i=j
theorem row_ne{w:World}{g g' t t':Nat}{xs ys:List Value}(h:Row w g t xs)(h':Row w g' t' ys)(hne:t≠t'):g≠g':=by
 rintro rfl;have a:=h.is;rw[h'.is]at a;injection a with a
 injection a with _ a
 exact hne a.symm
theorem Xqb{w:World}{q:Pg2}{a b:Prop}{g:Nat}(h:q.Fit w a b)(hg:q.A=some g):∃xs,Row w g q.s.et xs:=by
 obtain⟨A,n,c,s⟩:=q;cases hg
 obtain⟨_,_,xs,ys,zs,hr,_⟩:=h;exact⟨_,hr⟩
theorem Xuq(s:Sg):54≠s.et:=by
 cases s with
 | ho=>exact(by decide:(54:Nat)≠74)
theorem Xvd(s:Sg):106≠s.et:=by
 cases s with
 | ho=>exact(by decide:(106:Nat)≠74)
theorem BookAt.signed{w w':World}{p base:Nat}{A:Option Addr}{c:Nat}{P:List Pg2}{ka kb:Nat}(h:BookAt w p base A c P ka kb)(hP:Parted P){k:Nat}(hk:k<P.length){a b:Prop}
 (hf:P[k].Fit w' a b) (hg:w.grownBy w' P[k].A) {ka' kb':Nat} (h1:(k<ka')→a) (h2:(k<kb')→b) (h3:∀i,i≠k→(i<ka'→i<ka)) (h4:∀i,i≠k→(i<kb'→i<kb)):BookAt w' p base A c P ka' kb':=by
 have fitk:=h.fit k hk;refine⟨h.row.grown hg ?_,h.own.kept hg ?_,fun i hi=>?_⟩
 ·intro e;obtain⟨xs,hr⟩:=Xqb fitk e.symm;exact row_ne h.row hr (Xuq _) rfl
 ·cases e:P[k].A with
  | none=>cases (Value.slice A P.length c).ownBlock <;> simp
  | some g =>
   obtain⟨xs,hr⟩:=Xqb fitk e;exact .inr (fun e'=>Xd0 h.own hr (Xvd _) e'.symm)
 ·by_cases hik:i=k
  ·subst hik;obtain⟨⟨A',n',c',s'⟩,hq⟩:∃q,q=P[i]:=⟨_,rfl⟩;rw[←hq]at hf ⊢;cases A' with
   | none=>exact hf
   | some g =>
    obtain⟨e1,e2,xs,ys,zs,hr,e3,e4,ez,e5,e6⟩:=hf;exact⟨e1,e2,xs,ys,zs,hr,e3,e4,ez,fun x=>e5 (h1 x),fun x=>e6 (h2 x)⟩
  ·have:=(h.fit i hi).keep hg (fun g e e'=>hik (hP i k hi hk g e e'.symm));obtain⟨⟨A',n',c',s'⟩,hq⟩:∃q,q=P[i]:=⟨_,rfl⟩;rw[←hq]at this ⊢;cases A' with
   | none=>exact this
   | some g =>
    obtain⟨e1,e2,xs,ys,zs,hr,e3,e4,ez,e5,e6⟩:=this;exact⟨e1,e2,xs,ys,zs,hr,e3,e4,ez,fun x=>e5 (h3 i hik x),fun x=>e6 (h4 i hik x)⟩
theorem BookAt.page{w:World}{p base:Nat}{A:Option Addr}{c:Nat}{P:List Pg2}{ka kb:Nat}(h:BookAt w p base A c P ka kb){k:Nat}(hk:k<P.length):∃a,A=some a∧w.cell? (a.add k)=some P[k].val:=by
 have hl:=h.own;obtain⟨a,u,e,_,hx,hc⟩:=(Sees.of_own hl).at_ hk;refine⟨a,e,?_⟩;rw[hc];rw[List.getElem?_map,List.getElem?_eq_getElem hk]at hx;exact hx.symm
theorem Xlm (v : Array Value) (w : World) : (method 335 155 (.agg v) "ferryhouse/ferryhouselaw01.sign").run Tryz.prog w = .ok (134, .agg v) w := by kernel_rfl
theorem Xnv (v : Array Value) (w : World) : (method 335 155 (.agg v) "ferryhouse/ferryhouselaw01.own").run Tryz.prog w = .ok (133, .agg v) w := by kernel_rfl
theorem Xk8 (s : Sg) (l : Value) (w : World) : (method 335 s.ty (s.pay l) "ferryhouse/ferryhouselaw01.sign").run Tryz.prog w = .ok (s.signFn, s.pay l) w := by
 cases s with
 | ho h f=>exact Xlm _ w
theorem Xuc (s : Sg) (l : Value) (w : World) : (method 335 s.ty (s.pay l) "ferryhouse/ferryhouselaw01.own").run Tryz.prog w = .ok (s.ownFn, s.pay l) w := by
 cases s with
 | ho h f=>exact Xnv _ w
theorem Xkn(s:Sg)(args:Array Value)(w:World):(callFunc s.signFn args).run Tryz.prog w=.ok (.enter s.signFn args) w:=by
 cases s with
 | ho=>exact(by kernel_rfl:(callFunc 134 args).run Tryz.prog w=.ok (.enter 134 args) w)
theorem Xtf(s:Sg)(args:Array Value)(w:World):(callFunc s.ownFn args).run Tryz.prog w=.ok (.enter s.ownFn args) w:=by
 cases s with
 | ho=>exact(by kernel_rfl:(callFunc 133 args).run Tryz.prog w=.ok (.enter 133 args) w)
theorem Xoa(p:Nat)(A:Option Addr)(n c:Nat)(w:World)(h:Row w p 54 [.slice A n c])(hn:120<n) :
 Calls Tryz.prog 14 #[.pointer (some ⟨p,0,none⟩)] w fun e w'=>e=.returned (.bool true)∧w=w':=by
 have c0:w.cell? ⟨p,0,none⟩=some (.slice A n c):=h.cell 0;clear h;go_enter Tryz.func14,Tryz.ntmps14
 go_wp2_with fail;go_ret;exact⟨rfl,rfl⟩
theorem apart(p base:Nat)(A:Option Addr)(c:Nat)(P:List Pg2)(w:World)(h:BookAt w p base A c P 0 0)(hP:Parted P)(hW:∀q ∈ P,q.s.Wf)(hn:P.length≤120) :
 Calls Tryz.prog 14 #[.pointer (some ⟨p,0,none⟩)] w fun e w'=>e=.returned (.bool true)∧Touched P w w':=by
 have c0:w.cell? ⟨p,0,none⟩=some (.slice A P.length c):=h.row.cell 0;obtain⟨n,hN⟩:∃n,P.length=n:=⟨_,rfl⟩;have HN:=Hd hN;rw[hN]at c0;clear hN;have H:=Hd h;have HW:=Hd hW;have hn:n≤120:=by rw[←HN.out];exact hn
 clear h hW;go_enter Tryz.func14,Tryz.ntmps14
 go_wp2_with fail;go_loopw [3] (fun i wr=>∃k:Nat,k≤n∧i=.int .i64 k∧BookAt wr p base A c P k 0∧Touched P w wr) (fun i _=>n - (intOf i).toNat)
 case atStart=>exact⟨0,Nat.zero_le _,rfl,H.out,Touched.refl _ _⟩
 case round =>
  obtain⟨k,hk,rfl,hbk,ht⟩:=hrel;have HB:=Hd hbk;clear c0 H;have c0:wr.cell? ⟨p,0,none⟩=some (.slice A P.length c):=hbk.row.cell 0;rw[HN.out]at c0;by_cases hlt:k<n
  ·have hkP:k<P.length:=by rw[HN.out];exact hlt
   obtain⟨a,rfl,hc⟩:=hbk.page hkP;have HC:=Hd (Xnd P[k] wr _ _ (HB.out.fit k hkP) (HW.out _ (List.getElem_mem hkP)));have ms:=Xk8 P[k].s P[k].list;have cf:=Xkn P[k].s;simp only[Pg2.val]at hc;clear hbk;generalize P[k].s.ty=T at *;generalize P[k].s.pay P[k].list=V at *;generalize P[k].s.signFn=FN at *;go_wp2_with fail;refine HC.out.mono ?_;rintro e w2 ⟨rfl,hf,hg⟩;go_wp2_with fail;go_roundw
   case rel=>exact⟨k+1,by omega,by go_num,HB.out.signed hP hkP hf hg (fun _=>trivial) (fun h=>h) (fun i hi h=>by omega) (fun i _ h=>h),ht.step hg (fun g e=>⟨P[k],List.getElem_mem hkP,e⟩)⟩
   case measure=>simp[intOf];omega
  ·have hkn:k=n:=by omega
   have HB1:Hid (BookAt wr p base A c P n 0):=by rw[←hkn];exact HB.out
   clear hbk HB hkn;go_wp2_with fail;go_loopw [4] (fun i wr=>∃k:Nat,k≤n∧i=.int .i64 k∧BookAt wr p base A c P n k∧Touched P w wr) (fun i _=>n - (intOf i).toNat)
   case atStart=>exact⟨0,Nat.zero_le _,rfl,HB1.out,ht⟩
   case round =>
    clear c0 HB1 ht;obtain⟨k,hk,rfl,hbk,ht⟩:=hrel;have HB:=Hd hbk;rename World=>wr0
    obtain⟨wr,hwr⟩:∃wr,wr=wr0:=⟨_,rfl⟩;subst hwr;have c0:wr.cell? ⟨p,0,none⟩=some (.slice A P.length c):=hbk.row.cell 0;rw[HN.out]at c0;by_cases hlt:k<n
    ·have hkP:k<P.length:=by rw[HN.out];exact hlt
     obtain⟨a,rfl,hc⟩:=hbk.page hkP;have HC:=Hd (Xo7 P[k] wr _ _ (HB.out.fit k hkP) (HW.out _ (List.getElem_mem hkP)));have ms:=Xk8 P[k].s P[k].list;have cf:=Xkn P[k].s;simp only[Pg2.val]at hc;clear hbk;generalize P[k].s.ty=T at *;generalize P[k].s.pay P[k].list=V at *;generalize P[k].s.signFn=FN at *;go_wp2_with fail;refine HC.out.mono ?_;rintro e w2 ⟨rfl,hf,hg⟩;go_wp2_with fail;go_roundw
     case rel=>exact⟨k+1,by omega,by go_num,HB.out.signed hP hkP hf hg (fun h=>h) (fun _=>trivial) (fun i _ h=>h) (fun i hi h=>by omega),ht.step hg (fun g e=>⟨P[k],List.getElem_mem hkP,e⟩)⟩
     case measure=>simp[intOf];omega
    ·have hkn:k=n:=by omega
     have HB1:Hid (BookAt wr p base A c P n n):=by
      have:=HB.out;rw[hkn]at this;exact this
     clear hbk HB hkn;go_wp2_with fail;go_loopw [5] (fun i wr=>∃k:Nat,k≤n∧i=.int .i64 k∧BookAt wr p base A c P n n∧Touched P w wr) (fun i _=>n - (intOf i).toNat)
     case atStart=>exact⟨0,Nat.zero_le _,rfl,HB1.out,ht⟩
     case round =>
      clear c0 HB1 ht;obtain⟨k,hk,rfl,hbk,ht⟩:=hrel;have HB:=Hd hbk;rename World=>wr0
      obtain⟨wr,hwr⟩:∃wr,wr=wr0:=⟨_,rfl⟩;subst hwr;have c0:wr.cell? ⟨p,0,none⟩=some (.slice A P.length c):=hbk.row.cell 0;rw[HN.out]at c0;by_cases hlt:k<n
      ·have hkP:k<P.length:=by rw[HN.out];exact hlt
       obtain⟨a,rfl,hc⟩:=hbk.page hkP;have HC:=Hd (Xr6 P[k] wr (by have:=HB.out.fit k hkP;simpa [HN.out,hlt]using this) (HW.out _ (List.getElem_mem hkP)));have ms:=Xuc P[k].s P[k].list;have cf:=Xtf P[k].s;simp only[Pg2.val]at hc;clear hbk;generalize P[k].s.ty=T at *;generalize P[k].s.pay P[k].list=V at *;generalize P[k].s.ownFn=FN at *;go_wp2_with fail;refine HC.out.mono ?_;rintro e w2 ⟨rfl,hg⟩;go_wp2_with fail;go_roundw
       case rel =>
        refine⟨k+1,by omega,by go_num,⟨HB.out.row.grown hg (by simp),HB.out.own.kept hg (by cases (Value.slice (some a) P.length c).ownBlock <;> simp),fun i hi=>(HB.out.fit i hi).keep hg (by simp)⟩,ht.step hg (fun g e=>by cases e)⟩
       case measure=>simp[intOf];omega
      ·clear hbk;go_wp2_with fail;go_ret;exact⟨rfl,ht⟩
end Go.Proofs.YtaljfbbieefooaaGreatDoor
