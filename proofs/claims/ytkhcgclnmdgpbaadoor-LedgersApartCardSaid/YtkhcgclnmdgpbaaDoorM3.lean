import Derived.Test.YtkhcgclnmdgpbaaDoorM2
import Derived.Maps.RangeWalk
import Derived.Shelf.SlMaps.Clone
import Derived.Laws.Append
import Derived.Laws.AppendOwn
import Derived.LaidMore
set_option maxRecDepth 100000
set_option maxHeartbeats 16000000
set_option linter.unusedSimpArgs false
set_option linter.unusedVariables false
namespace Go.Proofs.YtkhcgclnmdgpbaaDoor
open Go.ChangeShapes Go.WideShapes Go.RowKit
theorem Xo6:Tryd.prog.cellsOf 30=1:=by kernel_rfl
theorem Xqd:Tryd.prog.cellsOf 42=40:=by kernel_rfl
theorem Xoh:Tryd.prog.cellsOf 43=1:=by kernel_rfl
theorem Xji:Tryd.prog.cellsOf 46=3:=by kernel_rfl
theorem Xfc:Tryd.prog.cellsOf 44=1:=by kernel_rfl
theorem Xrj:Tryd.prog.cellsOf 3=1:=by kernel_rfl
theorem Xgi:Tryd.prog.cellsOf 48=48:=by kernel_rfl
structure RdOk(x:LReady):Prop where
 wf:x.tx.Wf
 sized:Sized x.tx.m
 sl:x.tx.sigs.length≤140737488355328
 bs:AllBytes x.bytes
 bl:x.bytes.length≤140737488355328
 rl:x.roles.length≤140737488355328
 u:0≤x.u∧x.u<18446744073709551616
 p:0≤x.p∧x.p<18446744073709551616
 bad : -9223372036854775808≤x.bad∧x.bad<9223372036854775808
 fee:0≤x.fee∧x.fee<18446744073709551616
 cost:0≤x.cost∧x.cost<18446744073709551616
 pri:0≤x.pri∧x.pri<18446744073709551616
theorem Xre{z:Int}(h:(Lit.int .i64 z).wf=true) : -9223372036854775808≤z∧z<9223372036854775808:=by
 have h':(decide ((-9223372036854775808:Int)≤z)&&decide (z≤9223372036854775807))=true:=h;rw[Bool.and_eq_true,decide_eq_true_iff,decide_eq_true_iff]at h';omega
section
variable{H:Type}{enc:TypeId × Value→H}{w:World}{base b0:Nat}{held:Bool}
theorem Xnd{y0 y1 y2 y3 y4 y5 y6:DataW H}(h:Wt 48 (.agg [y0,y1,y2,y3,y4,y5,y6])):Wt 30 y0∧Wt 42 y1∧Wt 43 y2:=by
 refine⟨fun n hn=>h n ?_,fun n hn=>h n ?_,fun n hn=>h n ?_⟩ <;> simp only[DataW.weights,Tryd.underlying48] <;> simp[DataW.weightsEach,hn]
theorem Xea{t:TypeId}{q:IntKind}{n:Nat}{cs:List Value}{x:DataW H × List MemPlace}(ht:Tryd.prog.underlying t=some (.int q))(h:DataW.trod enc Tryd.prog w base (fun _=>true) held n t cs=some x)(hl:cs.length=1):∃z,cs=[.int q z]∧(Lit.int q z).wf=true:=by
 obtain⟨v,rfl⟩:=Xf0 hl;obtain⟨z,hz,_,hz'⟩:=DataW.trod_int ht h;exact⟨z,by simpa using hz,hz'⟩
theorem Xi3{fuel:Nat}{cs:List Value}{x:DataW H × List MemPlace}(hf:DataW.trod enc Tryd.prog w base (fun _=>true) held fuel 46 cs=some x):∃u p b,cs=[.int .u64 u,.int .u64 p,.int .i64 b]∧(0≤u∧u<18446744073709551616)∧(0≤p∧p<18446744073709551616)∧(-9223372036854775808≤b∧b<9223372036854775808):=by
 obtain⟨xs,n,_,hx,hl,hlen,ht⟩:=DataW.trod_struct Tryd.underlying46 hf;rw[Xji]at hl;obtain⟨y0,y1,y2,rfl⟩:∃a b c,xs=[a,b,c]:=by
  match xs,hlen with
  | [a,b,c],_=>exact⟨a,b,c,rfl⟩
 match cs,hl with
 | [a,b,c],_ =>
 have t0:DataW.trod enc Tryd.prog w base (fun _=>true) held n 44 (([a,b,c].drop 0).take 1)=some y0:=by rw[←Xfc];exact ht 0 _ rfl
 have t1:DataW.trod enc Tryd.prog w base (fun _=>true) held n 44 (([a,b,c].drop 1).take 1)=some y1:=by rw[←Xfc];exact ht 1 _ rfl
 have t2:DataW.trod enc Tryd.prog w base (fun _=>true) held n 3 (([a,b,c].drop 2).take 1)=some y2:=by rw[←Xrj];exact ht 2 _ rfl
 obtain⟨u,e0,w0⟩:=Xea Tryd.underlying44 t0 rfl;obtain⟨p,e1,w1⟩:=Xea Tryd.underlying44 t1 rfl;obtain⟨z,e2,w2⟩:=Xea Tryd.underlying3 t2 rfl;have e0':[a]=[Value.int .u64 u]:=e0;have e1':[b]=[Value.int .u64 p]:=e1;have e2':[c]=[Value.int .i64 z]:=e2;injection e0' with e0' _
 injection e1' with e1' _
 injection e2' with e2' _
 subst e0' e1' e2';exact⟨u,p,z,rfl,Xdk w0,Xdk w1,Xre w2⟩
theorem cut15(cs:List Value)(a n:Nat):cs.drop a=(cs.drop a).take n++cs.drop (a+n):=by
 rw[←List.drop_drop];exact(List.take_append_drop n (cs.drop a)).symm
theorem Xjo{fuel:Nat}{c0:Value}{x:DataW H × List MemPlace}(hf:DataW.trod enc Tryd.prog w base (fun _=>true) held fuel 43 [c0]=some x)(hw:Wt 43 x.1) :
 ∃A n c l,c0=.slice A n c∧(n≤c∧c≤maxLen)∧RolesIn w w.heap.size A n l∧l.length≤140737488355328:=by
 obtain⟨A,n,c,hcs,h1,h2,h3,h4⟩:=Xde (cs:=[c0]) Tryd.underlying43 (by rw[Xgp];omega) hf hw;obtain rfl:c0=.slice A n c:=by simpa using hcs
 obtain⟨l,k1,k2,k3,k4⟩:=Xja (A:=A) (n:=n) (c:=c) (d:=x.1) (p:=x.2) ⟨fuel,hf⟩ hw;exact⟨A,n,c,l,rfl,⟨k1,k2⟩,k3,k4⟩
end
open Go.RowKit Go.Maps
def accD(a:LAcc):DataW Unit:=.agg (.lit (.int .u64 a.c)::.lit (.int .u64 a.s)::a.o.map fun z=>.lit (.int .u8 z))
theorem Xfd{a b:LAcc}(h:accD a=accD b):a=b:=by
 unfold accD at h;injection h with h
 injection h with h1 h
 injection h with h2 h3
 injection h1 with h1
 injection h1 with _ h1
 injection h2 with h2
 injection h2 with _ h2
 have h4:a.o=b.o:=(List.map_inj_right (fun x y hxy=>by injection hxy with hxy;injection hxy)).1 h3;exact Xla.2 ⟨h1,h4,h2⟩
theorem Xil{a b:LAcc}(ha:AccOk a)(hb:AccOk b)(h:a.cells=b.cells):a=b:=by
 unfold LAcc.cells at h;injection h with h1 h
 injection h1 with _ h1
 have h2:=List.append_inj h (by rw[bL,bL,ha.o.1,hb.o.1]);have h3:a.o=b.o:=by
  have:=h2.1;unfold bv cv at this;exact(List.map_inj_right (fun x y hxy=>by injection hxy)).1 this
 have h4:=h2.2;injection h4 with h4
 injection h4 with _ h4
 exact Xla.2 ⟨h1,h3,h4⟩
open Classical in
noncomputable def accE (v:Value):Option (DataW Unit × List MemPlace):=if h:∃a:LAcc,v=.agg a.cells.toArray∧AccOk a then some (accD h.choose,[])else none
theorem Xks{a:LAcc}(ha:AccOk a):accE (.agg a.cells.toArray)=some (accD a,[]):=by
 have h:∃b:LAcc,Value.agg a.cells.toArray=.agg b.cells.toArray∧AccOk b:=⟨a,rfl,ha⟩;unfold accE;rw[dif_pos h];have h1:=h.choose_spec;have h2:a=h.choose:=Xil ha h1.2 (by simpa using h1.1);rw[←h2]
theorem Xit{v:Value}{z:DataW Unit × List MemPlace}(h:accE v=some z):∃a:LAcc,v=.agg a.cells.toArray∧AccOk a∧z=(accD a,[]):=by
 unfold accE at h;split at h
 ·rename_i hx
  exact⟨hx.choose,hx.choose_spec.1,hx.choose_spec.2,(Option.some.inj h).symm⟩
 ·cases h
theorem Xg7(w:World):(zeroValue 72).run Tryd.prog w=.ok (.agg blank13.cells.toArray) w:=by kernel_rfl
structure AD(D:DataW Unit)(ks:List (List Int))(f:List Int→LAcc):Prop where
 tidy:Tidy D
 has:∀kl,Go.Maps.has D kl=true↔∃k ∈ ks,kl=KL k
 at_:∀k ∈ ks,∀z,D.atKey (KL k) z=accD (f k)
 nodup:ks.Nodup
 ok:∀k ∈ ks,(k.length=32∧AllBytes k)∧AccOk (f k)
 size:Go.Maps.size D=ks.length
theorem ad_nil(f:List Int→LAcc):AD (.map []) [] f:=⟨tidy_empty,fun kl=>by simp[has_eq],by simp,List.nodup_nil,by simp,rfl⟩
theorem AD.has_key{D:DataW Unit}{ks:List (List Int)}{f:List Int→LAcc}(h:AD D ks f){k:List Int}(hk:k.length=32∧AllBytes k):Go.Maps.has D (KL k)=decide (k ∈ ks):=by
 rw[Bool.eq_iff_iff,decide_eq_true_iff,h.has];constructor
 ·rintro⟨x,hx,e⟩;rwa [Xdl hk.1 hk.2 (h.ok x hx).1.1 (h.ok x hx).1.2 e]
 ·intro hk';exact⟨k,hk',rfl⟩
theorem AD.at_key{D:DataW Unit}{ks:List (List Int)}{f:List Int→LAcc}(h:AD D ks f){k:List Int}(hk:k.length=32∧AllBytes k)(z:DataW Unit):D.atKey (KL k) z=if k ∈ ks then accD (f k)else z:=by
 by_cases e:k ∈ ks
 ·rw[if_pos e,h.at_ k e]
 ·rw[if_neg e];exact atKey_of_not_has (by rw[h.has_key hk,decide_eq_false e]) z
def addK(ks:List (List Int))(k:List Int):List (List Int):=if k ∈ ks then ks else ks++[k]
def updF(f:List Int→LAcc)(k:List Int)(a:LAcc):List Int→LAcc:=fun x=>if x=k then a else f x
theorem Xeb{ks:List (List Int)}{k x:List Int}:x ∈ addK ks k↔x ∈ ks∨x=k:=by
 unfold addK;split
 ·rename_i h
  exact⟨.inl,fun hx=>hx.elim id (fun e=>e ▸ h)⟩
 ·simp
theorem AD.put{D:DataW Unit}{ks:List (List Int)}{f:List Int→LAcc}(h:AD D ks f){k:List Int}(hk:k.length=32∧AllBytes k){a:LAcc}(ha:AccOk a):AD (D.put (KL k) (accD a)) (addK ks k) (updF f k a):=by
 have hkl:=Xg0 hk.1 hk.2;refine⟨h.tidy.put hkl _,fun kl=>?_,fun x hx z=>?_,?_,fun x hx=>?_,?_⟩
 ·by_cases e:kl=KL k
  ·subst e;rw[has_put_same h.tidy.isMap hkl];exact⟨fun _=>⟨k,Xeb.2 (.inr rfl),rfl⟩,fun _=>rfl⟩
  ·rw[has_put_other e,h.has];constructor
   ·rintro⟨x,hx,rfl⟩;exact⟨x,Xeb.2 (.inl hx),rfl⟩
   ·rintro⟨x,hx,rfl⟩;rcases Xeb.1 hx with hx | rfl
    ·exact⟨x,hx,rfl⟩
    ·exact absurd rfl e
 ·unfold updF;by_cases e:x=k
  ·subst e;rw[if_pos rfl,atKey_put_same h.tidy.isMap hkl]
  ·have hx':x ∈ ks:=(Xeb.1 hx).resolve_right e;rw[if_neg e,atKey_put_other (fun e'=>e (Xdl (h.ok x hx').1.1 (h.ok x hx').1.2 hk.1 hk.2 e')),h.at_ x hx']
 ·unfold addK;split
  ·exact h.nodup
  ·rename_i hn
   exact List.nodup_append.2 ⟨h.nodup,by simp,fun x hx y hy e=>hn (by rw[List.mem_singleton]at hy;rw[←hy,←e];exact hx)⟩
 ·unfold updF;by_cases e:x=k
  ·subst e;rw[if_pos rfl];exact⟨hk,ha⟩
  ·rw[if_neg e];exact h.ok x ((Xeb.1 hx).resolve_right e)
 ·rw[size_put h.tidy,h.has_key hk,h.size];unfold addK;by_cases e:k ∈ ks
  ·rw[decide_eq_true e,if_pos rfl,if_pos e]
  ·rw[decide_eq_false e,if_neg e];simp
theorem AD.del{D:DataW Unit}{ks:List (List Int)}{f:List Int→LAcc}(h:AD D ks f){k:List Int}(hk:k.length=32∧AllBytes k):AD (D.del (KL k)) (ks.filter fun x=>x≠k) f:=by
 have hm:∀x,x ∈ (ks.filter fun x=>x≠k)↔x ∈ ks∧x≠k:=fun x=>by simp[List.mem_filter]
 refine⟨h.tidy.del _,fun kl=>?_,fun x hx z=>?_,h.nodup.filter _,fun x hx=>h.ok x ((hm x).1 hx).1,?_⟩
 ·by_cases e:kl=KL k
  ·subst e;rw[has_del_same];refine⟨fun h=>(by cases h),?_⟩;rintro⟨x,hx,e⟩;have hx':=(hm x).1 hx;exact absurd (Xdl hk.1 hk.2 (h.ok x hx'.1).1.1 (h.ok x hx'.1).1.2 e).symm hx'.2
  ·rw[has_del_other e,h.has];constructor
   ·rintro⟨x,hx,rfl⟩;exact⟨x,(hm x).2 ⟨hx,fun e'=>e (by rw[e'])⟩,rfl⟩
   ·rintro⟨x,hx,rfl⟩;exact⟨x,((hm x).1 hx).1,rfl⟩
 ·have hx':=(hm x).1 hx;rw[atKey_del_other (fun e'=>hx'.2 (Xdl (h.ok x hx'.1).1.1 (h.ok x hx'.1).1.2 hk.1 hk.2 e')),h.at_ x hx'.1]
 ·have h1:=size_del (k:=KL k) h.tidy;rw[h.has_key hk,h.size]at h1;have h2:∀(l:List (List Int)),l.Nodup→(l.filter fun x=>x≠k).length+(if decide (k ∈ l)=true then 1 else 0)=l.length:=fun l=>by
   induction l with
   | nil=>intro _;rfl
   | cons y r ih =>
    intro hd;have hd':=List.nodup_cons.1 hd;have:=ih hd'.2;by_cases e:y=k
    ·subst e;simp only[hd'.1,decide_false,if_neg Bool.false_ne_true]at this;simp at this ⊢;exact this
    ·have e':k≠y:=fun h=>e h.symm
     simp[e,e']at this ⊢;omega
  have:=h2 ks h.nodup;omega
section
variable{w:World}{ops:Array Oper}{rest:List Oper}{o:Oper}{a:Act}{Q:Exit→Act→World→Prop}
theorem Xmk{b n:Nat}{D:DataW Unit}{ks:List (List Int)}{f:List Int→LAcc}(hown:w.ownsMap Tryd.prog 68 accE b n D)(h:AD D ks f){k:List Int}(hk:k.length=32∧AllBytes k) :
 (Instr.lookup 84 (.map (some b)) (.agg (bv k).toArray) false).run Tryd.prog w=.ok (.agg (if k ∈ ks then f k else blank13).cells.toArray) w:=by
 obtain⟨v,ps,hrun,hv⟩:=hown.lookup Xb9 Tryd.underlying84 (Xg7 w) (Xks Xcf) (KL_is hk.1 hk.2);rw[h.at_key hk]at hv;obtain⟨x,rfl,hx,e⟩:=Xit hv;rw[hrun];have:x=if k ∈ ks then f k else blank13:=by
  injection e with e _
  by_cases hm:k ∈ ks
  ·rw[if_pos hm]at e ⊢;exact(Xfd e).symm
  ·rw[if_neg hm]at e ⊢;exact(Xfd e).symm
 rw[this]
theorem Xgu(hg:o.guard=none)(it:Operand)(hop:o.op=Op.next it false)(b r n:Nat)(D:DataW Unit)(ks:List (List Int))(f:List Int→LAcc)(left:Lit→Bool)(cnt:Nat)
 (hit:a.eval it=.pointer (some ⟨r,0,none⟩)) (h:w.ranges Tryd.prog 68 accE b r n D left cnt) (had:AD D ks f) (hleft:∀kl,left kl=true→Go.Maps.has D kl=true)
 (hDone:cnt=0→(∀kl,left kl=false)→wpList Tryd.prog ops Q rest (a.put o.dst (.tuple #[.bool false])) w)
 (hMore:∀(k:List Int) (w':World) (cnt':Nat),k ∈ ks→left (KL k)=true→w'.ranges Tryd.prog 68 accE b r n D (fun z=>left z&&!z.sameKey (KL k)) cnt'→cnt'<cnt →
   w.grownBy w' (some r)→w'.heap.size=w.heap.size→(Instr.entry (.pointer (some ⟨r,0,none⟩))).run Tryd.prog w'=.ok (.tuple #[.agg (bv k).toArray,.agg (f k).cells.toArray]) w'→wpList Tryd.prog ops Q rest (a.put o.dst (.tuple #[.bool true,.agg (bv k).toArray,.agg (f k).cells.toArray])) w') :
 wpList Tryd.prog ops Q (o::rest) a w:=by
 refine wpList_plain hg fun K' hK'=>?_
 unfold Oper.wp;rcases h.next Xb9 o.type with⟨h0,hl,hrun⟩ | ⟨key,v,kl,y,w',cnt',hkey,hlk,hv,hat,hrun,hrg,hlt,hgr,hsz,hen⟩
 ·simp[execOp,hop,hit,hrun,Result.andThen];exact hK' _ _ (hDone h0 hl)
 ·obtain⟨k,hk,rfl⟩:=(had.has kl).1 (hleft kl hlk);have hok:=(had.ok k hk).1;obtain rfl:=Xb9.inj hkey (KL_is hok.1 hok.2);obtain⟨c,rfl,hc,rfl⟩:=Xit hv;have hcf:c=f k:=Xfd ((hat (accD c)).symm.trans (had.at_ k hk _));subst hcf;simp[execOp,hop,hit,hrun,Result.andThen];exact hK' _ _ (hMore k w' cnt' hk hlk hrg hlt hgr hsz hen)
theorem Xld{left:Lit→Bool}{vs:List (List Int)}{D:DataW Unit}{ks:List (List Int)}{f:List Int→LAcc}(had:AD D ks f)(h:∀k ∈ ks,left (KL k)=decide (k ∉ vs)){k:List Int}(hk:k ∈ ks) :
 ∀x ∈ ks,(left (KL x)&&!(KL x).sameKey (KL k))=decide (x ∉ k::vs):=fun x hx=>by
 have hok:=(had.ok k hk).1;have hox:=(had.ok x hx).1;rw[h x hx];by_cases e:x=k
 ·subst e;rw[WideAt.sameKey_self (Xg0 hok.1 hok.2)];simp
 ·rw[sameKey_ne fun e'=>e (Xdl hox.1 hox.2 hok.1 hok.2 e')];simp[e]
end
theorem Xrg:(Tryd.prog.info? 68).map (·.zero)=some (some (.agg (bv (List.replicate 32 0)).toArray)):=by kernel_rfl
def ks13(L:List LHold):List (List Int):=L.map LHold.k
theorem Xfk{L:List LHold}{k:List Int}:k ∈ ks13 L↔∃x ∈ L,x.k=k:=by simp[ks13]
theorem Xed(L:List LHold):(ks13 L).length=L.length:=List.length_map _
theorem Xd4:∀{L:List LHold},(L.Pairwise fun x y=>kless x.k y.k=true)→(ks13 L).Nodup
 | [],_=>List.nodup_nil
 | x::r,h=>by
  obtain⟨h1,h2⟩:=List.pairwise_cons.1 h;refine List.nodup_cons.2 ⟨fun hm=>?_,Xd4 h2⟩;obtain⟨y,hy,e⟩:=Xfk.1 hm;exact Xei (h1 y hy) e.symm
theorem Xi8{L:List LHold}{k:List Int}:(k ∈ ks13 L→⟨k,getH L k⟩ ∈ L)∧(k ∉ ks13 L→getH L k=blank13):=by
 rcases Xd1 L k with⟨h1,h2⟩ | h1
 ·exact⟨fun hm=>by obtain⟨x,hx,e⟩:=Xfk.1 hm;exact absurd e (h1 x hx),fun _=>h2⟩
 ·exact⟨fun _=>h1,fun hm=>absurd (Xfk.2 ⟨_,h1,rfl⟩) hm⟩
theorem AD.swap{D:DataW Unit}{ks ks':List (List Int)}{f f':List Int→LAcc}(h:AD D ks f)(hd:ks'.Nodup)(hm:∀x,x ∈ ks'↔x ∈ ks)(hf:∀x ∈ ks,f' x=f x):AD D ks' f':=by
 refine⟨h.tidy,fun kl=>?_,fun k hk z=>?_,hd,fun k hk=>?_,?_⟩
 ·rw[h.has];constructor
  ·rintro⟨x,hx,rfl⟩;exact⟨x,(hm x).2 hx,rfl⟩
  ·rintro⟨x,hx,rfl⟩;exact⟨x,(hm x).1 hx,rfl⟩
 ·rw[hf k ((hm k).1 hk)];exact h.at_ k ((hm k).1 hk) z
 ·rw[hf k ((hm k).1 hk)];exact h.ok k ((hm k).1 hk)
 ·rw[h.size];exact((List.perm_ext_iff_of_nodup h.nodup hd).2 fun x=>(hm x).symm).length_eq
theorem Xn9{H:Type}{P:Program}{k:TypeId}{R:Value→Option (DataW H × List MemPlace)}{w:World}{b n:Nat}{D:DataW H}(h:w.ownsMap P k R b n D):w.ownsMap P k R b (Go.Maps.size D) D:=by
 obtain⟨es,clock,hb,F,hs,rfl⟩:=h;exact⟨es,clock,hb,F,by simp[Go.Maps.size,length_sorted],rfl⟩
structure StIn(w:World)(sb mb:Nat)(L:List LHold):Prop where
 row:Row w sb 87 [.map (some mb)]
 map:∃D,w.ownsMap Tryd.prog 68 accE mb L.length D∧AD D (ks13 L) (getH L)
 sto:Sto L
theorem StIn.keep{w w':World}{sb mb:Nat}{L:List LHold}(h:StIn w sb mb L)(h1:w'.heap[sb]?=w.heap[sb]?)(h2:w'.heap[mb]?=w.heap[mb]?):StIn w' sb mb L:=by
 obtain⟨D,⟨es,cl,hm,F,hs,hD⟩,had⟩:=h.map;exact⟨⟨h1.trans h.row.is⟩,⟨D,⟨es,cl,h2.trans hm,F,hs,hD⟩,had⟩,h.sto⟩
theorem StIn.heap{w:World}{sb mb:Nat}{L:List LHold}(h:StIn w sb mb L):∃es cl,w.heap[mb]?=some (.map es cl):=by
 obtain⟨D,⟨es,cl,hm,_⟩,_⟩:=h.map;exact⟨es,cl,hm⟩
theorem StIn.lt{w:World}{sb mb:Nat}{L:List LHold}(h:StIn w sb mb L):sb<w.heap.size∧mb<w.heap.size:=by
 obtain⟨es,cl,hm⟩:=h.heap;exact⟨h.row.lt,(Array.getElem?_eq_some_iff.1 hm).1⟩
theorem StIn.below{w w':World}{sb mb:Nat}{L:List LHold}(h:StIn w sb mb L)(hb:Below w.heap.size w w'):StIn w' sb mb L:=h.keep (hb.block _ h.lt.1) (hb.block _ h.lt.2)
theorem StIn.row_ne{w:World}{sb mb g t:Nat}{L:List LHold}{xs:List Value}(h:StIn w sb mb L)(hr:Row w g t xs):g≠mb:=by
 rintro rfl;obtain⟨es,cl,hm⟩:=h.heap;rw[hr.is]at hm;cases hm
theorem StIn.ne{w:World}{sb mb:Nat}{L:List LHold}(h:StIn w sb mb L):sb≠mb:=h.row_ne h.row
theorem Xnz(w:World)(r:Option Nat):(binOp .neq 84 (.map r) (.map none)).run Tryd.prog w=.ok (.bool (!r.isNone)) w:=run_neq_map_nil w _ _ _ r Tryd.underlying84
theorem Xqo(w:World)(r:Option Nat):(binOp .eql 84 (.map r) (.map none)).run Tryd.prog w=.ok (.bool r.isNone) w:=run_eql_map_nil_sl (P:=Tryd.prog) w 84 _ _ r Tryd.underlying84
theorem Xfw(sb mb:Nat)(L:List LHold)(w:World)(h:StIn w sb mb L):Calls Tryd.prog 24 #[.pointer (some ⟨sb,0,none⟩)] w fun e w'=>e=.returned (.bool true)∧w=w':=by
 have hm:=Xnz;have c0:w.cell? ⟨sb,0,none⟩=some (.map (some mb)):=h.row.cell 0;clear h;go_enter Tryd.func24,Tryd.ntmps24
 go_wp2_with fail;go_ret;exact⟨rfl,rfl⟩
theorem Xm3{W:World}{sb mb n:Nat}{D:DataW Unit}{L:List LHold}(hr:Row W sb 87 [.map (some mb)])(ho:W.ownsMap Tryd.prog 68 accE mb n D)(ha:AD D (ks13 L) (getH L))(hs:Sto L):StIn W sb mb L:=by
 have h1:=Xn9 ho;rw[ha.size,Xed]at h1;exact⟨hr,⟨D,h1,ha⟩,hs⟩
theorem new13(w:World):Calls Tryd.prog 17 #[] w fun e w'=>∃sb mb,e=.returned (.pointer (some ⟨sb,0,none⟩))∧StIn w' sb mb []∧w.heap.size≤sb∧w.heap.size≤mb∧Below w.heap.size w w':=by
 have hmm:=@run_makeMap Tryd.prog;have HR:Hid (StIn ((w.alloc (.map #[] 0)).alloc (.cells #[.map (some w.heap.size)] 87)) (w.heap.size+1) w.heap.size []):=Hd
  (Xm3 (Row.new' _ 87 [.map (some w.heap.size)] (by simp)) ((World.ownsMap_made w Tryd.prog 68 accE).kept (World.grownBy_alloc _ _ none) (by simp)) (ad_nil _) Xqy)
 have HB:=Hd (((Br w.heap.size w).alloc (Lr _) (.map #[] 0)).alloc (by simp) (.cells #[.map (some w.heap.size)] 87));go_enter Tryd.func17,Tryd.ntmps17
 go_wp2_with fail;go_ret;exact⟨_,_,rfl,HR.out,Nat.le_succ _,Lr _,HB.out⟩
theorem StIn.look{w:World}{sb mb:Nat}{L:List LHold}(h:StIn w sb mb L){k:List Int}(hk:k.length=32∧AllBytes k):(Instr.lookup 84 (.map (some mb)) (.agg (bv k).toArray) false).run Tryd.prog w=.ok (.agg (getH L k).cells.toArray) w:=by
 obtain⟨D,ho,ha⟩:=h.map;rw[Xmk ho ha hk];split
 ·rfl
 ·rename_i hn
  rw[Xi8.2 hn]
theorem Xid{a:Act}{o:Oper}(w:World)(m x:Operand)(hop:o.op=Op.lookup 84 m x false)(b:Nat)(k:List Int)(v:Value)(hm:a.eval m=.map (some b))(hx:a.eval x=.agg (bv k).toArray)
 (hr:(Instr.lookup 84 (.map (some b)) (.agg (bv k).toArray) false).run Tryd.prog w=.ok v w):(execOp a.eval o).run Tryd.prog w=.ok (.value v) w:=by
 unfold execOp;simp only[hop,hm,hx,Sem.run_bind,Sem.run_pure,hr,Result.andThen_ok]
theorem get13(sb mb:Nat)(L:List LHold)(k:List Int)(w:World)(h:StIn w sb mb L)(hk:k.length=32∧AllBytes k):Calls Tryd.prog 20 #[.pointer (some ⟨sb,0,none⟩),.agg (bv k).toArray] w fun e w'=>e=.returned (.agg (getH L k).cells.toArray)∧Below w.heap.size w w':=by
 have hbw:=((Br w.heap.size w).alloc (Lr _) (.cells (bv k).toArray 68)).alloc (by simp) (.cells blank13.cells.toArray 72);have S0:=Hd (h.below hbw);have RX0:=Hd ((Row.new w 68 (bv k)).alloc (.cells blank13.cells.toArray 72));have RF0:=Hd (Row.new' (w.alloc (.cells (bv k).toArray 68)) 72 blank13.cells (g:=w.heap.size+1) (by simp));have HSZ:Hid ((Tryd.prog.info? 68).map (·.size)=some (bv k).length):=Hd (by rw[Xb7,bL,hk.1]);have HGA:=Hd (h.sto.get_ok k);have HSA:=Hd (Xay HGA.out.o.1);have HLA:Hid (blank13.cells.length=(getH L k).cells.length):=Hd (by rw[Xbs HGA.out.o.1];rfl);have HBW:=Hd hbw;have HK:=Hd hk;have H0:=Hd h;have HGF:Hid (w.heap.size≠w.heap.size+1):=Hd (by omega);obtain⟨f,hf⟩:∃f,f=w.heap.size+1:=⟨_,rfl⟩;obtain⟨g,hg⟩:∃g,g=w.heap.size:=⟨_,rfl⟩;have HF:Hid (w.heap.size+1=f):=Hd hf.symm;have HG:Hid (w.heap.size=g):=Hd hg.symm;have HFG:Hid (w.heap.size≤f):=Hd (by omega);rw[←hf]at RF0 HGF;rw[←hg]at RX0 HGF;generalize hWW:(w.alloc (.cells (bv k).toArray 68)).alloc (.cells blank13.cells.toArray 72)=W at *;have HWW:=Hd hWW;clear hWW hf hg hbw h hk;have HT:=Hd (Xfw sb mb L W S0.out);generalize hGL:getH L k=y at *;have HGL:=Hd hGL;clear hGL;go_enter Tryd.func20,Tryd.ntmps20
 go_wp2_with ((with_reducible show wpList _ _ _ (⟨some 4,_,_,_,_,_⟩::_) _ _);go_must(refine Xa2 rfl 72 rfl blank13.cells Xgh ?_))
 rw[HF.out,HG.out,HWW.out];clear HF HG HWW;refine HT.out.mono ?_;rintro e w' ⟨rfl,rfl⟩;clear HT;go_wp2_with fail;have HB0:=Hd (show Below w.heap.size w W.drew from HBW.out.drew);have RX1:=Hd RX0.out.drew;refine wp_region_held_drew (S:=(fun V=>Below w.heap.size w V∧Row V g 68 (bv k))) (by kernel_rfl) ⟨HB0.out,RX1.out⟩ (fun _=>?_);refine Tk 0 rfl ?_ ⟨HB0.out,RX1.out⟩ ?_ ⟨?_,rfl⟩
 ·intro w hw;(try dsimp only at hw);go_simp;try with_reducible rfl
 try simp only[nm]
 refine Tk 1 rfl ?_ ⟨HB0.out,RX1.out⟩ ?_ ⟨?_,rfl⟩
 ·intro w hw;(try dsimp only at hw);go_simp;try with_reducible rfl
 try simp only[nm]
 refine Tk 2 rfl ?_ ⟨HB0.out,RX1.out⟩ ?_ ⟨?_,rfl⟩
 ·intro w hw;(try dsimp only at hw);go_simp;try with_reducible rfl
 try simp only[nm]
 refine Tk 3 rfl ?_ ⟨HB0.out,RX1.out⟩ ?_ ⟨?_,rfl⟩
 ·intro w hw;try dsimp only at hw
  have hc:=(H0.out.below hw.1).row.cell 0;go_simp;try with_reducible rfl
 try simp only[nm]
 refine Tl 4 (v:=.agg (bv k).toArray) rfl (Or.inl ⟨by rfl,fun wz hwz=>Xa4 wz 68 (.tmp 3) rfl ⟨g,0,none⟩ (bv k) _ Tryd.underlying68 rfl HSZ.out (fun j u hu=>by rw[Xac,Nat.zero_add];exact(hwz.2.cell j).trans hu) (by go_simp)⟩) ⟨HB0.out,RX1.out⟩ ?_;try simp only[nm]
 refine Tl 5 (v:=.agg y.cells.toArray) rfl (Or.inl ⟨by rfl,fun wz hwz=>Xid wz (.tmp 12) (.tmp 13) rfl mb k _ (by go_simp) (by go_simp) (by rw[(H0.out.below hwz.1).look HK.out,HGL.out])⟩) ⟨HB0.out,RX1.out⟩ ?_;try simp only[nm]
 refine Rl 6 rfl fun K hK=>?_
 refine Xbp 72 (.tmp 4) (.tmp 14) rfl f blank13.cells y.cells RF0.out.drew HSA.out HLA.out (Xe3 _) ?_ ?_ ?_
 ·go_simp
 ·go_simp
 intro w5 hr ht;have R5:=Hd hr;have B5:=Hd (show Below w.heap.size w w5 from HB0.out.trans (ht.below HFG.out));have X5:=Hd (show Row w5 g 68 (bv k)from ht.row RX1.out HGF.out);clear hr ht;refine hK.out _ _ ⟨B5.out,X5.out⟩ ?_;clear hK K;try simp only[Act.put]
 refine wpAnyH_done (by kernel_rfl) ?_ _;go_wp2_with fail;refine bodyPost_ret (results_cell_row (h:=rfl) _ w5 f 72 _ (0,0) _ (by rfl) R5.out.is Tryd.underlying72 rfl HSA.out) rfl ?_;exact⟨rfl,B5.out⟩
theorem Xcl{w V V':World}{b:Nat}(hg:w.grownBy V (some b))(h:V.grownBy V' (some b)):w.grownBy V' (some b):=
 ⟨h.os.trans hg.os,h.tape.trans hg.tape,h.output.trans hg.output,Lq hg.size h.size,fun k hk hr=>(h.block k (Nat.lt_of_lt_of_le hk hg.size) hr).trans (hg.block k hk hr)⟩
theorem Xgb{o:Oper}{a:Act}{w:World}{K:Act→World→Prop}{Q:Exit→Act→World→Prop}(m x v:Operand)(hop:o.op=Op.mapUpdate 84 m x v)(b n:Nat)(D:DataW Unit)
 (hm:a.eval m=.map (some b)) (hown:w.ownsMap Tryd.prog 68 accE b n D) (hn:n<maxLen) {k:List Int} (hk:k.length=32∧AllBytes k) {y:LAcc} (hy:AccOk y) (hx:a.eval x=.agg (bv k).toArray) (hv:a.eval v=.agg y.cells.toArray)
 (h:∀w',w'.ownsMap Tryd.prog 68 accE b (n+1) (D.put (KL k) (accD y))→w.grownBy w' (some b)→K (a.put o.dst undef) w'):o.wp Tryd.prog a w K Q:=by
 obtain⟨w',hrun,r1,r2⟩:=hown.update Xb9 Tryd.underlying84 hn (KL_is hk.1 hk.2) (Xks hy);unfold Oper.wp;simp[execOp,hop,hm,hx,hv,hrun,Result.andThen];exact h _ r1 r2
theorem Xi4{o:Oper}{a:Act}{w:World}{K:Act→World→Prop}{Q:Exit→Act→World→Prop}(m x:Operand)(hop:o.op=Op.call { callee:=Callee.builtin Builtin.delete,args:=#[m,x],argTypes:=#[84,68] })(b n:Nat)(D:DataW Unit)
 (hm:a.eval m=.map (some b)) (hown:w.ownsMap Tryd.prog 68 accE b n D) {k:List Int} (hk:k.length=32∧AllBytes k) (hx:a.eval x=.agg (bv k).toArray)
 (h:∀w',w'.ownsMap Tryd.prog 68 accE b n (D.del (KL k))→w.grownBy w' (some b)→K (a.put o.dst (.tuple #[])) w'):o.wp Tryd.prog a w K Q:=by
 obtain⟨w',hrun,r1,r2⟩:=hown.drop Xb9 Tryd.underlying84 (KL_is hk.1 hk.2) o.type;unfold Oper.wp;simp[execOp,hop,resolve,invoke,builtin,hm,hx,hrun,Result.andThen];exact h _ r1 r2.grown
theorem Xlq(L:List LHold)(k:List Int)(a:LAcc)(x:List Int):x ∈ ks13 (putH L k a)↔(x ∈ ks13 L∧x≠k)∨(a≠blank13∧x=k):=by
 rw[Xfk,Xfk];constructor
 ·rintro⟨y,hy,rfl⟩;rcases Xc7.1 hy with⟨h1,h2⟩ | ⟨h1,rfl⟩
  ·exact .inl ⟨⟨y,h1,rfl⟩,h2⟩
  ·exact .inr ⟨h1,rfl⟩
 ·rintro(⟨⟨y,hy,rfl⟩,h2⟩ | ⟨h1,rfl⟩)
  ·exact⟨y,Xc7.2 (.inl ⟨hy,h2⟩),rfl⟩
  ·exact⟨_,Xc7.2 (.inr ⟨h1,rfl⟩),rfl⟩
theorem Xrn{D:DataW Unit}{L:List LHold}{k:List Int}{a:LAcc}(h:AD D (ks13 L) (getH L))(hs:Sto L)(hk:k.length=32∧AllBytes k)(ha:AccOk a)(hb:a≠blank13):AD (D.put (KL k) (accD a)) (ks13 (putH L k a)) (getH (putH L k a)):=by
 refine(h.put hk ha).swap (Xd4 (hs.put hk ha).rise) (fun x=>?_) (fun x _=>?_)
 ·rw[Xlq,Xeb];by_cases e:x=k
  ·simp[e,hb]
  ·simp[e]
 ·rw[Xgf hs hk ha];rfl
theorem Xs1{D:DataW Unit}{L:List LHold}{k:List Int}(h:AD D (ks13 L) (getH L))(hs:Sto L)(hk:k.length=32∧AllBytes k):AD (D.del (KL k)) (ks13 (putH L k blank13)) (getH (putH L k blank13)):=by
 refine(h.del hk).swap (Xd4 (hs.put hk Xcf).rise) (fun x=>?_) (fun x hx=>?_)
 ·rw[Xlq];simp
 ·have hx':x≠k:=by simpa using (List.mem_filter.1 hx).2
  rw[Xgf hs hk Xcf,if_neg hx']
theorem put13(sb mb:Nat)(L:List LHold)(k:List Int)(a:LAcc)(w:World)(h:StIn w sb mb L)(hk:k.length=32∧AllBytes k)(ha:AccOk a)(hL:L.length≤5000):Calls Tryd.prog 18 #[.pointer (some ⟨sb,0,none⟩),.agg (bv k).toArray,.agg a.cells.toArray] w fun e w'=>e=.returned (.int .i64 0)∧StIn w' sb mb (putH L k a)∧w.grownBy w' (some mb):=by
 have hbw:=((Br w.heap.size w).alloc (Lr _) (.cells (bv k).toArray 68)).alloc (by simp) (.cells a.cells.toArray 72);have S0:=Hd (h.below hbw);have RX0:=Hd ((Row.new w 68 (bv k)).alloc (.cells a.cells.toArray 72));have RF0:=Hd (Row.new' (w.alloc (.cells (bv k).toArray 68)) 72 a.cells (g:=w.heap.size+1) (by simp));have HSZ:Hid ((Tryd.prog.info? 68).map (·.size)=some (bv k).length):=Hd (by rw[Xb7,bL,hk.1]);have HSA:=Hd (Xay ha.o.1);have HA:=Hd ha;have HK:=Hd hk;have HLT:=Hd h.lt;have HNE:=Hd h.ne;obtain⟨f,hf⟩:∃f,f=w.heap.size+1:=⟨_,rfl⟩;obtain⟨g,hg⟩:∃g,g=w.heap.size:=⟨_,rfl⟩;have HF:Hid (w.heap.size+1=f):=Hd hf.symm;have HG:Hid (w.heap.size=g):=Hd hg.symm;have NG:Hid (some g≠some mb):=Hd (by have:=HLT.out;intro e;cases e;omega);have NF:Hid (some f≠some mb):=Hd (by have:=HLT.out;intro e;cases e;omega);have NS:Hid (some sb≠some mb):=Hd (by have:=HNE.out;intro e;cases e;exact this rfl);rw[←hf]at RF0;rw[←hg]at RX0;have HGB:=Hd (gb_of (some mb) hbw);generalize hWW:(w.alloc (.cells (bv k).toArray 68)).alloc (.cells a.cells.toArray 72)=W at *;have HWW:=Hd hWW;have HSB:=Hd hbw.size;clear hWW hf hg hbw h hk ha;have HT:=Hd (Xfw sb mb L W S0.out);have HEQ:=Hd (fun w=>Xov (x:=a) (y:=blank13) HA.out.o.1 rfl w);go_enter Tryd.func18,Tryd.ntmps18
 go_upto_region 1 with fail
 rw[HF.out,HG.out,HWW.out];clear HF HG HWW;go_wp2_with fail;refine HT.out.mono ?_;rintro e w' ⟨rfl,rfl⟩;clear HT;have S1:=Hd (show StIn W.drew sb mb L from S0.out.below (Br _ _).drew);have RX1:=Hd RX0.out.drew;have RF1:=Hd RF0.out.drew;have HG1:Hid (w.grownBy W.drew (some mb)):=Hd (Xm5 HGB.out (Br _ _).drew);by_cases hb:a=blank13
 ·rw[decide_eq_true hb]at HEQ;have HBK:=Hd hb;clear hb;have NEQ:=HEQ.out;clear HEQ;go_wp2_with (first
   | ((with_reducible show wpList _ _ _ (⟨some 10,_,_,_,_,_⟩::_) _ _);go_must(refine Xa3 rfl 72 (.tmp 5) rfl f 72 a.cells _ Tryd.underlying72 rfl HSA.out RF0.out ?_ ?_;go_simp))
   | ((with_reducible show wpList _ _ _ (⟨some 11,_,_,_,_,_⟩::_) _ _);go_must(refine wpList_plain rfl fun K hK=>Xau _ _ _ rfl (by simp only[List.map_toArray,List.map_nil];exact Xez) (hK _ _ ?_))))
  clear NEQ;refine wp_region_held_drew (S:=(fun V=>Row V sb 87 [.map (some mb)]∧Row V g 68 (bv k))) (by kernel_rfl) ⟨S1.out.row,RX1.out⟩ (fun _=>?_);refine Tk 0 rfl ?_ ⟨S1.out.row,RX1.out⟩ ?_ ⟨?_,rfl⟩
  ·intro w hw;(try dsimp only at hw);go_simp;try with_reducible rfl
  try simp only[nm]
  refine Tk 1 rfl ?_ ⟨S1.out.row,RX1.out⟩ ?_ ⟨?_,rfl⟩
  ·intro w hw;(try dsimp only at hw);go_simp;try with_reducible rfl
  try simp only[nm]
  refine Tk 2 rfl ?_ ⟨S1.out.row,RX1.out⟩ ?_ ⟨?_,rfl⟩
  ·intro w hw;(try dsimp only at hw);go_simp;try with_reducible rfl
  try simp only[nm]
  refine Tk 3 rfl ?_ ⟨S1.out.row,RX1.out⟩ ?_ ⟨?_,rfl⟩
  ·intro w hw;try dsimp only at hw
   have hc:=hw.1.cell 0;go_simp;try with_reducible rfl
  try simp only[nm]
  refine Tl 4 (v:=.agg (bv k).toArray) rfl (Or.inl ⟨by rfl,fun wz hwz=>Xa4 wz 68 (.tmp 4) rfl ⟨g,0,none⟩ (bv k) _ Tryd.underlying68 rfl HSZ.out (fun j u hu=>by rw[Xac,Nat.zero_add];exact(hwz.2.cell j).trans hu) (by go_simp)⟩) ⟨S1.out.row,RX1.out⟩ ?_;try simp only[nm]
  refine Rl 5 rfl fun K hK=>?_
  obtain⟨D,ho,had⟩:=S1.out.map;refine Xi4 (.tmp 16) (.tmp 17) rfl mb _ D ?_ ho HK.out ?_ ?_
  ·go_simp
  ·go_simp
  intro w5 ho5 hg5;have S5:Hid (StIn w5 sb mb (putH L k a)):=Hd (by rw[HBK.out];exact Xm3 (S1.out.row.grown hg5 NS.out) ho5 (Xs1 had S1.out.sto HK.out) (S1.out.sto.put HK.out Xcf));have X5:=Hd (RX1.out.grown hg5 NG.out);have G5:=Hd (Xcl HG1.out hg5);clear ho had ho5 hg5;refine hK.out _ _ ⟨S5.out.row,X5.out⟩ ?_;clear hK K;try simp only[Act.put]
  refine wpAnyH_done (by kernel_rfl) ?_ _;go_wp2_with fail;go_ret;exact⟨rfl,S5.out,G5.out⟩
 ·rw[decide_eq_false hb]at HEQ;have HBK:=Hd hb;clear hb;have NEQ:=HEQ.out;clear HEQ;go_wp2_with (first
   | ((with_reducible show wpList _ _ _ (⟨some 10,_,_,_,_,_⟩::_) _ _);go_must(refine Xa3 rfl 72 (.tmp 5) rfl f 72 a.cells _ Tryd.underlying72 rfl HSA.out RF0.out ?_ ?_;go_simp))
   | ((with_reducible show wpList _ _ _ (⟨some 11,_,_,_,_,_⟩::_) _ _);go_must(refine wpList_plain rfl fun K hK=>Xau _ _ _ rfl (by simp only[List.map_toArray,List.map_nil];exact Xez) (hK _ _ ?_))))
  clear NEQ;refine wp_region_held_drew (S:=(fun V=>Row V sb 87 [.map (some mb)]∧Row V g 68 (bv k)∧Row V f 72 a.cells)) (by kernel_rfl) ⟨S1.out.row,RX1.out,RF1.out⟩ (fun _=>?_);refine Tk 0 rfl ?_ ⟨S1.out.row,RX1.out,RF1.out⟩ ?_ ⟨?_,rfl⟩
  ·intro w hw;(try dsimp only at hw);go_simp;try with_reducible rfl
  try simp only[nm]
  refine Tk 1 rfl ?_ ⟨S1.out.row,RX1.out,RF1.out⟩ ?_ ⟨?_,rfl⟩
  ·intro w hw;(try dsimp only at hw);go_simp;try with_reducible rfl
  try simp only[nm]
  refine Tk 2 rfl ?_ ⟨S1.out.row,RX1.out,RF1.out⟩ ?_ ⟨?_,rfl⟩
  ·intro w hw;(try dsimp only at hw);go_simp;try with_reducible rfl
  try simp only[nm]
  refine Tk 3 rfl ?_ ⟨S1.out.row,RX1.out,RF1.out⟩ ?_ ⟨?_,rfl⟩
  ·intro w hw;try dsimp only at hw
   have hc:=hw.1.cell 0;go_simp;try with_reducible rfl
  try simp only[nm]
  refine Tl 4 (v:=.agg (bv k).toArray) rfl (Or.inl ⟨by rfl,fun wz hwz=>Xa4 wz 68 (.tmp 4) rfl ⟨g,0,none⟩ (bv k) _ Tryd.underlying68 rfl HSZ.out (fun j u hu=>by rw[Xac,Nat.zero_add];exact(hwz.2.1.cell j).trans hu) (by go_simp)⟩) ⟨S1.out.row,RX1.out,RF1.out⟩ ?_;try simp only[nm]
  refine Tl 5 (v:=.agg a.cells.toArray) rfl (Or.inl ⟨by rfl,fun wz hwz=>Xa4 wz 72 (.tmp 5) rfl ⟨f,0,none⟩ a.cells _ Tryd.underlying72 rfl HSA.out (fun j u hu=>by rw[Xac,Nat.zero_add];exact(hwz.2.2.cell j).trans hu) (by go_simp)⟩) ⟨S1.out.row,RX1.out,RF1.out⟩ ?_;try simp only[nm]
  refine Rl 6 rfl fun K hK=>?_
  obtain⟨D,ho,had⟩:=S1.out.map;refine Xgb (.tmp 21) (.tmp 22) (.tmp 23) rfl mb _ D ?_ ho (by unfold maxLen;omega) HK.out HA.out ?_ ?_ ?_
  ·go_simp
  ·go_simp
  ·go_simp
  intro w5 ho5 hg5;have S5:Hid (StIn w5 sb mb (putH L k a)):=Hd (Xm3 (S1.out.row.grown hg5 NS.out) ho5 (Xrn had S1.out.sto HK.out HA.out HBK.out) (S1.out.sto.put HK.out HA.out));have X5:=Hd (RX1.out.grown hg5 NG.out);have F5:=Hd (RF1.out.grown hg5 NF.out);have G5:=Hd (Xcl HG1.out hg5);clear ho had ho5 hg5;refine hK.out _ _ ⟨S5.out.row,X5.out,F5.out⟩ ?_;clear hK K;try simp only[Act.put]
  refine wpAnyH_done (by kernel_rfl) ?_ _;go_wp2_with fail;go_ret;exact⟨rfl,S5.out,G5.out⟩
theorem Xtu(b:Nat)(es:Array MapEntry)(clock:Nat)(w:World)(hb:w.heap[b]?=some (.map es clock)) :
 Calls Tryd.prog 25 #[.map (some b)] w fun e w'=>e=.returned (.map (some w.heap.size))∧w'=w.alloc (.map es clock):=by
 have hq:=Xqo;go_enter Tryd.func25,Tryd.ntmps25
 go_wp2;rw[run_callFunc_extern Tryd.func39 (by kernel_rfl) (by kernel_rfl) (by kernel_rfl) (e:=Extern.MapsClone.clone) (by kernel_rfl),run_maps_clone_sl w 84 hb];simp only[Result.andThen];rw[Oper.upon_value];go_wp2;rw[run_typeAssert_map_sl _ 84 20 _ _ _ Tryd.underlying84];simp only[Result.andThen];rw[Oper.upon_value];go_wp2;go_ret;exact⟨rfl,rfl⟩
theorem copy13(sb mb:Nat)(L:List LHold)(w:World)(h:StIn w sb mb L)(hL:L.length≤5000):Calls Tryd.prog 9 #[.pointer (some ⟨sb,0,none⟩)] w fun e w'=>∃sb' mb',e=.returned (.pointer (some ⟨sb',0,none⟩))∧StIn w' sb' mb' L∧w.heap.size≤sb'∧w.heap.size≤mb'∧Below w.heap.size w w':=by
 have HT:=Hd (Xfw sb mb L w h);have c0:w.cell? ⟨sb,0,none⟩=some (.map (some mb)):=h.row.cell 0;obtain⟨D,⟨es,cl,hm,F,hsz,hD⟩,had⟩:=h.map;have HC:=Hd (Xtu mb es cl w hm);have b0:Below w.heap.size w (w.alloc (.map es cl)):=(Br w.heap.size w).alloc (Lr _) _;have HB:=Hd (b0.alloc (o:=.cells #[.map (some w.heap.size)] 87) (by simp));have HR:Hid (StIn ((w.alloc (.map es cl)).alloc (.cells #[.map (some w.heap.size)] 87)) (w.heap.size+1) w.heap.size L):=Hd
  (Xm3 (n:=L.length) (D:=D) (Row.new' _ 87 [.map (some w.heap.size)] (by simp)) (World.ownsMap.kept (w:=w.alloc (.map es cl)) ⟨es,cl,(MapKept.heap_alloc w _).1,F,hsz,hD⟩ (World.grownBy_alloc _ _ none) (by simp)) had h.sto)
 clear h hm F hsz hD had b0;go_enter Tryd.func9,Tryd.ntmps9
 go_wp2_with (first
  | (go_at_call 24;refine HT.out.mono ?_;rintro e w' ⟨rfl,rfl⟩)
  | (go_at_call 25;refine HC.out.mono ?_;rintro e w' ⟨rfl,rfl⟩))
 go_ret;refine⟨_,_,?_,HR.out,Nat.le_succ _,Lr _,HB.out⟩;simp
section
variable{w0 V V':World}{u v u' v':Value}{a b a':List (List Int)}
theorem Xbb{w:World}{base size n g t:Nat}{e:TypeId}{v:Value}{xs ys:List Value}(h:w.ownsRow base e size v n xs)(hr:Row w g t ys)(hne:e≠t):some g≠v.ownBlock:=by
 intro hg;obtain⟨cur,hc⟩:=Xfy h hg.symm;rw[hr.is]at hc;injection hc with hc
 injection hc with _ hc
 exact hne hc.symm
end
open Go.RowKit
def y1:List LLook:=[⟨xk 9,[2],[0,1]⟩]
def y2:List LLook:=[⟨xk 9,[],[3]⟩]
def k0:List Int:=List.replicate 32 0
def k3:List Int:=3::List.replicate 31 0
def kn(x:List Int):Bool:=decide (x=k0)||decide (x=k3)
theorem Xso:Tryd.prog.built 68 []=some (bv k0).toArray:=by kernel_rfl
theorem Xsp:Tryd.prog.built 68 [(0,.int .u8 3)]=some (bv k3).toArray:=by kernel_rfl
theorem Xbw(w:World):Calls Tryd.prog 36 #[] w fun e w'=>e=.returned (.agg (bv k0).toArray)∧Below w.heap.size w w':=by
 go_enter Tryd.func36,Tryd.ntmps36
 go_wp2_with (first
  | ((with_reducible show wpList _ _ _ (⟨some 1,_,_,_,_,_⟩::_) _ _);go_must(refine wpList_plain rfl fun K hK=>Xau _ _ _ rfl (by simp only[List.map_toArray,List.map_nil];exact Xso) (hK _ _ ?_)))
  | ((with_reducible show wpList _ _ _ (⟨none,Op.store 68 _ _,_,_,_,_⟩::_) _ _);go_must(refine Xa6 rfl 68 (.tmp 0) (.tmp 1) rfl (bv k0) Xb7 (Xcd _) rfl ?_ ?_ ?_;go_simp;go_simp;intro w1 hr1 hb1 hz1;have HR1:=Hd hr1;have HB1:=Hd hb1;clear hr1 hb1)))
 refine bodyPost_ret (results_cell_row (h:=rfl) _ w1 w.heap.size 68 _ (0,0) _ (by rfl) HR1.out.is Tryd.underlying68 rfl Xb7) rfl ?_;exact⟨rfl,HB1.out⟩
theorem Xgw(w:World):Calls Tryd.prog 56 #[] w fun e w'=>e=.returned (.agg (bv k3).toArray)∧Below w.heap.size w w':=by
 go_enter Tryd.func56,Tryd.ntmps56
 go_wp2_with (first
  | ((with_reducible show wpList _ _ _ (⟨some 1,_,_,_,_,_⟩::_) _ _);go_must(refine wpList_plain rfl fun K hK=>Xau _ _ _ rfl (by simp only[List.map_toArray,List.map_cons,List.map_nil];exact Xsp) (hK _ _ ?_)))
  | ((with_reducible show wpList _ _ _ (⟨none,Op.store 68 _ _,_,_,_,_⟩::_) _ _);go_must(refine Xa6 rfl 68 (.tmp 0) (.tmp 1) rfl (bv k3) Xb7 (Xcd _) rfl ?_ ?_ ?_;go_simp;go_simp;intro w1 hr1 hb1 hz1;have HR1:=Hd hr1;have HB1:=Hd hb1;clear hr1 hb1)))
 refine bodyPost_ret (results_cell_row (h:=rfl) _ w1 w.heap.size 68 _ (0,0) _ (by rfl) HR1.out.is Tryd.underlying68 rfl Xb7) rfl ?_;exact⟨rfl,HB1.out⟩
structure LOut where
 fail:Int
 at_:Int
 units:Int
 fee:Int
 space:Int
 ch:List LHold
structure S15 where
 now:List LAcc
 units:Int
 space:Int
def prog15(x:LReady)(a:LIn):List Int:=(rol14 x.roles a.p).key
def step15(x:LReady)(i:Nat)(a:LIn)(s:S15):Int × S15:=
 if x.u<150∨x.u - 150<s.units then(20,⟨s.now,x.u,s.space⟩)
 else if (i:Int)=x.bad then(21,⟨s.now,s.units+150,s.space⟩)
 else if prog15 x a=k0 then
  if (do14 s.now x.roles a.acc a.dat).e=0 then(0,⟨(do14 s.now x.roles a.acc a.dat).l,s.units+150,s.space+(do14 s.now x.roles a.acc a.dat).n⟩)
  else((do14 s.now x.roles a.acc a.dat).e,⟨s.now,s.units+150,s.space⟩)
 else if prog15 x a=k3 then(0,⟨s.now,s.units+150,s.space⟩)
 else(19,⟨s.now,s.units+150,s.space⟩)
def go15(x:LReady):List LIn→Nat→S15→Int × Int × S15
 | [],_,s=>(0,-1,s)
 | a::r,i,s=>if (step15 x i a s).1=0 then go15 x r (i+1) (step15 x i a s).2 else((step15 x i a s).1,(i:Int),(step15 x i a s).2)
def chg15:List LRole→List LAcc→List LHold
 | r::rs,a::l=>if r.wr then⟨r.key,a⟩::chg15 rs l else chg15 rs l
 | _,_=>[]
def out0:LOut:=⟨0,0,0,0,0,[]⟩
def run15(x:LReady)(l:List LAcc):LOut × Int:=
 if l.length≠x.roles.length then(out0,1)
 else if ∃a ∈ x.tx.m.ins,(x.roles.length:Int)≤a.p then(out0,1)
 else if (go15 x x.tx.m.ins 0 ⟨l,0,0⟩).1=0 then
  (⟨0,-1,(go15 x x.tx.m.ins 0 ⟨l,0,0⟩).2.2.units,x.fee,(go15 x x.tx.m.ins 0 ⟨l,0,0⟩).2.2.space,chg15 x.roles (go15 x x.tx.m.ins 0 ⟨l,0,0⟩).2.2.now⟩,0)
 else(⟨(go15 x x.tx.m.ins 0 ⟨l,0,0⟩).1,(go15 x x.tx.m.ins 0 ⟨l,0,0⟩).2.1,(go15 x x.tx.m.ins 0 ⟨l,0,0⟩).2.2.units,x.fee,0,chg15 x.roles l⟩,0)
def KeyOk7(k:List Int):Prop:=k.length=32∧AllBytes k
theorem Xc0{w:World}{base base' size n:Nat}{e:TypeId}{v:Value}{xs:List Value}(h:w.ownsRow base e size v n xs)(hb:base'≤base):w.ownsRow base' e size v n xs:=by
 refine⟨h.1,?_⟩;rcases h.2 with h2 | ⟨g,cap,cur,h1,h2,h3⟩
 ·exact .inl h2
 ·exact .inr ⟨g,cap,cur,h1,Lq hb h2,h3⟩
theorem Xk1{l m:List Value}(hl:l.length=32)(hm:m.length=34):Tryd.prog.built 78 [(0,.agg l.toArray),(1,.agg m.toArray)]=some (l++m).toArray:=by
 obtain⟨f,rfl⟩:=Xtk hl;obtain⟨g,rfl⟩:∃u:Fin 34→Value,m=List.ofFn u:=⟨fun i=>m.getD i undef,by
  refine List.ext_getElem (by simpa using hm) fun i h3 h4=>?_
  rw[List.getElem_ofFn,List.getD_eq_getElem?_getD,List.getElem?_eq_getElem h3];rfl⟩
 kernel_rfl
def holC(L:List LHold):List Value:=(L.map LHold.cells).flatten
theorem Xoo(L:List LHold)(x:LHold):holC (L++[x])=holC L++x.cells:=by simp[holC]
theorem Xhr:∀{k:Nat} {rs:List LRole} {l:List LAcc} {r:LRole} {a:LAcc},rs[k]?=some r→l[k]?=some a→chg15 (rs.take (k+1)) (l.take (k+1))=chg15 (rs.take k) (l.take k)++(if r.wr then[⟨r.key,a⟩]else[])
 | 0,r'::rs,a'::l,r,a,hr,ha=>by
  have h1:r'=r:=by simpa using hr
  have h2:a'=a:=by simpa using ha
  subst h1 h2;simp[chg15]
 | k+1,r'::rs,a'::l,r,a,hr,ha=>by
  have ih:=Xhr (k:=k) (rs:=rs) (l:=l) (r:=r) (a:=a) (by simpa using hr) (by simpa using ha);simp only[List.take_succ_cons,chg15];rw[ih];split
  ·rfl
  ·rfl
 | 0,[],_,r,a,hr,_=>by cases hr
 | 0,_::_,[],r,a,_,ha=>by cases ha
 | k+1,[],_,r,a,hr,_=>by cases hr
 | k+1,_::_,[],r,a,_,ha=>by cases ha
theorem Xh1:∀(rs:List LRole) (l:List LAcc),(chg15 rs l).length≤l.length
 | [],_=>by simp[chg15]
 | _::_,[]=>by simp[chg15]
 | r::rs,a::l=>by
  have ih:=Xh1 rs l;unfold chg15;split
  ·simpa using ih
  ·exact Nat.le_succ_of_le ih
theorem sameHo(A B:Option Addr)(n c d:Nat)(l:List (List Value))(w:World)(S T:Nat)(hx:CsIn 66 w S A n l)(hy:CsIn 66 w T B n l)(ho:∀k ∈ l,IsHo k)(hn:n≤maxLen) :
 Calls Tryd.prog 52 #[.slice A n c,.slice B n d] w fun e w'=>e=.returned (.bool true)∧∃k,w'=w.drewN k:=by
 unfold maxLen at hn;have HX:=Hd hx;have HY:=Hd hy;have HO:=Hd ho;clear hx hy ho;go_enter Tryd.func52,Tryd.ntmps52
 go_wp2;go_loopw [5] (fun i wr=>∃k j:Nat,k≤n∧i=.int .i64 k∧wr=w.drewN j) (fun i _=>n - (intOf i).toNat)
 case atStart=>exact⟨0,0,Nat.zero_le _,rfl,rfl⟩
 case round =>
  obtain⟨k,j,hk,rfl,rfl⟩:=hrel;by_cases hlt:k<n
  ·obtain⟨a,x,rfl,ha,hxl,_,ca⟩:=HX.out.get hlt (by omega);obtain⟨b,y,rfl,hb,hyl,_,cb⟩:=HY.out.get hlt (by omega);obtain rfl:x=y:=by rw[hxl]at hyl;exact Option.some.inj hyl
   have hxo:=HO.out x (List.mem_of_getElem? hxl);have NQ:=fun w=>hxo.neq w
   have HSZ:=Hd hxo.size;have CA:=Hd ca;have CB:=Hd cb;clear ca cb hxl hyl hxo;go_wp2;refine wp_region_quiet_lit (by kernel_rfl) (by kernel_rfl) ?_;repeat (first
    | ((with_reducible show wpQuiet _ _ _ _ (⟨some 20,_,_,_,_,_⟩::_) _);go_must(refine Xbu (by kernel_rfl) 78 (.tmp 19) rfl (a.add (k*66)) x _ Tryd.underlying78 rfl HSZ.out (by rintro _ ⟨nq,rfl⟩;exact CA.out) ?_ ?_;go_simp;go_simp))
    | ((with_reducible show wpQuiet _ _ _ _ (⟨some 24,_,_,_,_,_⟩::_) _);go_must(refine Xbu (by kernel_rfl) 78 (.tmp 23) rfl (b.add (k*66)) x _ Tryd.underlying78 rfl HSZ.out (by rintro _ ⟨nq,rfl⟩;exact CB.out) ?_ ?_;go_simp;go_simp))
    | go_big_quiet_step (fail))
   refine wpQuiet_nil ?_;intro nq;go_wp2;go_roundw
   case rel=>exact⟨k+1,j+nq,by omega,by go_num,by simp⟩
   case measure=>simp[intOf];omega
  ·go_wp2;go_ret;exact⟨rfl,j,rfl⟩
def LOut.cells(o:LOut)(v:Value):List Value:=[.int .i64 o.fail,.int .i64 o.at_,.int .u64 o.units,.int .u64 o.fee,.int .u64 o.space,v]
theorem Xag(o:LOut)(v:Value):(Tryd.prog.info? 60).map (·.size)=some (o.cells v).length:=by kernel_rfl
theorem Xbh:(Tryd.prog.info? 60).map (·.zero)=some (some (.agg (out0.cells (.slice none 0 0)).toArray)):=by kernel_rfl
theorem Xbe(o:LOut){v:Value}(hv:v.oneCell'=true):∀u ∈ o.cells v,u.oneCell'=true:=by
 intro u hu;unfold LOut.cells at hu;simp only[List.mem_cons,List.not_mem_nil,or_false]at hu;rcases hu with rfl | rfl | rfl | rfl | rfl | rfl
 ·rfl
 ·rfl
 ·rfl
 ·rfl
 ·rfl
 ·exact hv
def HolsOk(l:List LHold):Prop:=∀x ∈ l,x.k.length=32∧x.a.o.length=32
theorem Xor(o:LOut)(A B:Option Addr)(n c d:Nat)(S T:Nat)(w:World)(hx:CsIn 66 w S A n (o.ch.map LHold.cells))(hS:S≤w.heap.size)(hy:CsIn 66 w T B n (o.ch.map LHold.cells))(hT:T≤w.heap.size)(ho:HolsOk o.ch)(hn:n≤maxLen) :
 Calls Tryd.prog 34 #[.agg (o.cells (.slice A n c)).toArray,.agg (o.cells (.slice B n d)).toArray] w fun e w'=>e=.returned (.bool true)∧Below w.heap.size w w':=by
 have hb0:=((Br w.heap.size w).alloc (Lr _) (.cells (o.cells (.slice A n c)).toArray 60)).alloc (by simp) (.cells (o.cells (.slice B n d)).toArray 60);have R1:=Hd ((Row.new w 60 (o.cells (.slice A n c))).alloc (.cells (o.cells (.slice B n d)).toArray 60));have R2:=Hd (Row.new' (w.alloc (.cells (o.cells (.slice A n c)).toArray 60)) 60 (o.cells (.slice B n d)) (g:=w.heap.size+1) (by simp));have HB0:=Hd hb0;have HIS:Hid (∀k ∈ o.ch.map LHold.cells,IsHo k):=Hd fun k hk=>by
  obtain⟨x,hx,rfl⟩:=List.mem_map.1 hk;exact Xtl (ho x hx).1 (ho x hx).2
 have HSM:=Hd (sameHo A B n c d _ _ S T (hx.below (hb0.mono hS)) (hy.below (hb0.mono hT)) HIS.out hn);obtain⟨g2,hg2⟩:∃g,g=w.heap.size+1:=⟨_,rfl⟩;obtain⟨g1,hg1⟩:∃g,g=w.heap.size:=⟨_,rfl⟩;have HG2:Hid (w.heap.size+1=g2):=Hd hg2.symm;have HG1:Hid (w.heap.size=g1):=Hd hg1.symm;rw[←hg2]at R2;rw[←hg1]at R1;clear hb0 hg2 hg1 hx hy hS hT ho hn;have R2':Hid (Row ((w.alloc (.cells (o.cells (.slice A n c)).toArray 60)).alloc (.cells (o.cells (.slice B n d)).toArray 60)) g2 60 (o.cells (.slice B n d))):=Hd R2.out;clear R2;generalize hW:(w.alloc (.cells (o.cells (.slice A n c)).toArray 60)).alloc (.cells (o.cells (.slice B n d)).toArray 60)=W at *;have HW:=Hd hW;clear hW;go_enter Tryd.func34,Tryd.ntmps34
 go_upto_region 1 with fail
 try rw[HG2.out]
 try rw[HG1.out]
 rw[HW.out];clear HG2 HG1 HW;have a0:W.cell? ⟨g1,0,none⟩=some (.int .i64 o.fail):=R1.out.cell 0;have a1:W.cell? ⟨g1,1,none⟩=some (.int .i64 o.at_):=R1.out.cell 1;have a2:W.cell? ⟨g1,2,none⟩=some (.int .u64 o.units):=R1.out.cell 2;have a3:W.cell? ⟨g1,3,none⟩=some (.int .u64 o.fee):=R1.out.cell 3;have a4:W.cell? ⟨g1,4,none⟩=some (.int .u64 o.space):=R1.out.cell 4;have a5:W.cell? ⟨g1,5,none⟩=some (.slice A n c):=R1.out.cell 5;have b0:W.cell? ⟨g2,0,none⟩=some (.int .i64 o.fail):=R2'.out.cell 0;have b1:W.cell? ⟨g2,1,none⟩=some (.int .i64 o.at_):=R2'.out.cell 1;have b2:W.cell? ⟨g2,2,none⟩=some (.int .u64 o.units):=R2'.out.cell 2;have b3:W.cell? ⟨g2,3,none⟩=some (.int .u64 o.fee):=R2'.out.cell 3;have b4:W.cell? ⟨g2,4,none⟩=some (.int .u64 o.space):=R2'.out.cell 4;have b5:W.cell? ⟨g2,5,none⟩=some (.slice B n d):=R2'.out.cell 5;go_wp2_with fail;refine HSM.out.mono ?_;rintro e w1 ⟨rfl,k,hw1⟩;have B1:Hid (Below w.heap.size w w1):=Hd (by rw[hw1];exact Go.below_drewN HB0.out k);clear hw1;go_wp2_with fail;go_ret;exact⟨rfl,B1.out⟩
def xq(a:Int):List Int:=a::List.replicate 31 0
def e7:List LRole:=[⟨xq 1,true,true⟩,⟨xq 2,true,false⟩,⟨xq 4,false,true⟩,⟨k0,false,false⟩]
def q8(g:Nat)(A:Option Addr)(n c:Nat):Raw:=⟨some ⟨g,0,none⟩,3,3,A,n,c,none,0,0⟩
theorem InsIn.take{w:World}{B n k:Nat}{A:Option Addr}{l:List LIn}(h:InsIn w B A n l)(hk:k≤n):InsIn w B A k (l.take k):=
 ⟨by rw[List.length_take,h.len];omega,fun i x hx=>by
  rw[List.getElem?_take]at hx;split at hx
  ·exact h.at_ i x hx
  ·cases hx⟩
section
variable{P:Program}{w:World}{o:Oper}{a:Act}
theorem Xsk(t e:TypeId)(x j:Operand)(sz:Nat)(ho:o.op=.slice t x none (some j) none)(ht:P.underlying t=some (.slice e))(hsz:(P.info? e).map (·.size)=some sz)
 (A:Option Addr) (n c k:Nat) (hx:a.eval x=.slice A n c) (hj:a.eval j=.int .i64 k) (hk:k≤c) :
 (execOp a.eval o).run P w=.ok (.value (.slice A k c)) w:=by
 obtain⟨ie,hie,hs1⟩:∃i,P.info? e=some i∧i.size=sz:=by
  cases h:P.info? e with
  | none=>rw[h]at hsz;cases hsz
  | some i=>rw[h]at hsz;exact⟨i,rfl,by simpa using hsz⟩
 have he:P.elem t=e:=by simp[Program.elem,ht]
 have ht':P.underlying t=some (.slice (P.elem t)):=by rw[he];exact ht
 have hso:(sizeOf e).run P w=.ok sz w:=by simp[sizeOf,typeInfo,hie,hs1]
 have h0:(0:Int)≤k:=by omega
 have h2:(k:Int)≤c:=by omega
 have ha:(if c=0 then A else A.map (·.add (0*sz)))=A:=by
  split
  ·rfl
  ·cases A with
   | none=>rfl
   | some ad=>simp[Addr.add]
 unfold execOp;simp only[ho,hx,hj,Option.map_some,Option.map_none];simp only[Sem.run_bind,run_sliceAt_slice w t _ _ _ _ ht',run_slice_h w t A n c ht' .i64 k h0 h2,he,hso,Result.andThen_ok,sliced,Int.toNat_natCast,Sem.run_pure,Nat.sub_zero,ha]
theorem Xli{ops:Array Oper}{rest:List Oper}{Q:Exit→Act→World→Prop}(hgd:o.guard=none)(t e:TypeId)(x j:Operand)(sz:Nat)(ho:o.op=.slice t x none (some j) none)(ht:P.underlying t=some (.slice e))(hsz:(P.info? e).map (·.size)=some sz)
 (A:Option Addr) (n c k:Nat) (hx:a.eval x=.slice A n c) (hj:a.eval j=.int .i64 k) (hk:k≤c)
 (h:wpList P ops Q rest (a.put o.dst (.slice A k c)) w):wpList P ops Q (o::rest) a w:=
 wpList_plain hgd fun K hK=>by
  unfold Oper.wp;rw[Xsk t e x j sz ho ht hsz A n c k hx hj hk];exact hK _ _ h
end
def fldC(A:Option Addr)(n c:Nat)(sh:Bool):List Value:=[.slice A n c,.bool sh]
theorem pre14{w:World}{B n m:Nat}{A:Option Addr}{zs:List Int}(h:Sees w B A n (bv zs))(hm:m≤n):Sees w B A m (bv (zs.take m)):=by
 have hl:=h.len;rw[bL]at hl;refine⟨by rw[bL,List.length_take];omega,fun i u hu=>h.cell i u ?_⟩;rw[bv_getElem?]at hu ⊢;rw[List.getElem?_take]at hu;split at hu
 ·exact hu
 ·cases hu
theorem Xhx(zs:List Int):∀(k m:Nat),k≤m→num (zs.take m) k=num zs k
 | 0,_,_=>rfl
 | k+1,m,h=>by
  have ih:=Xhx zs k m (by omega);have hg:(zs.take m).getD k 0=zs.getD k 0:=by
   rw[List.getD_eq_getElem?_getD,List.getD_eq_getElem?_getD,List.getElem?_take,if_pos (by omega)]
  rw[num,num,ih,hg]
theorem Xni{zs:List Int}(h:AllBytes zs)(m:Nat):AllBytes (zs.take m):=fun z hz=>h z (List.mem_of_mem_take hz)
theorem Xnm{zs:List Int}(h:AllBytes zs)(m:Nat):AllBytes (zs.drop m):=fun z hz=>h z (List.mem_of_mem_drop hz)
theorem Xn5{m:Nat}(h1:1≤m)(h8:m≤8):getN [] m=(0,5):=Xnv h1 h8 (by simp;omega)
theorem Xjl(g:Nat)(A:Option Addr)(n c m:Nat)(sh:Bool)(w:World)(hr:Row w g 180 (fldC A n c sh))(hm:m≤n)(hnc:n≤c)(hc:c≤maxLen) :
 Calls Tryd.prog 78 #[.pointer (some ⟨g,0,none⟩),.int .i64 m] w fun e w'=>e=.returned (.slice A m c)∧w'=w.setCell ⟨g,0,none⟩ (.slice (tailAt A c m) (n - m) (c - m)):=by
 have c0:w.cell? ⟨g,0,none⟩=some (.slice A n c):=hr.cell 0;have f0:=hr.frozen 0;have hlt':¬(n:Int)<m:=by omega
 have HM:=Hd hm;have HMC:=Hd (Lq hm hnc);have HNC:=Hd hnc;have HC:=Hd hc;clear hr hm hnc hc;go_enter Tryd.func78,Tryd.ntmps78
 go_wp2_with (first
  | ((with_reducible show wpList _ _ _ (⟨some 21,_,_,_,_,_⟩::_) _ _);go_must(refine Xli rfl 30 5 (.tmp 19) (.tmp 20) 1 rfl Tryd.underlying30 Xe7 A n c m ?_ ?_ HMC.out ?_;go_simp;go_simp))
  | ((with_reducible show wpList _ _ _ (⟨some 28,_,_,_,_,_⟩::_) _ _);go_must(refine Xkf rfl 30 5 (.tmp 26) (.tmp 27) rfl Tryd.underlying30 Xe7 A n c m ?_ ?_ HM.out HNC.out HC.out ?_;go_simp;go_simp)))
 go_ret;exact⟨rfl,rfl⟩
theorem Xkd(g:Nat)(A:Option Addr)(n c m:Nat)(sh:Bool)(w:World)(hr:Row w g 180 (fldC A n c sh))(hm:n<m) :
 Calls Tryd.prog 78 #[.pointer (some ⟨g,0,none⟩),.int .i64 m] w fun e w'=>e=.returned (.slice none 0 0)∧w'=w.setCell ⟨g,1,none⟩ (.bool true):=by
 have c0:w.cell? ⟨g,0,none⟩=some (.slice A n c):=hr.cell 0;have c1:w.cell? ⟨g,1,none⟩=some (.bool sh):=hr.cell 1;have f1:=hr.frozen 1;have hlt':(n:Int)<m:=by omega
 clear hr hm;go_enter Tryd.func78,Tryd.ntmps78
 go_wp2_with fail;go_ret;exact⟨rfl,rfl⟩
theorem Xkw(g:Nat)(A:Option Addr)(n c m S:Nat)(sh:Bool)(zs:List Int)(w:World)(hr:Row w g 180 (fldC A n c sh))(hs:Sees w S A n (bv zs))(hS:S≤g)(hz:AllBytes zs)(h1:1≤m)(h8:m≤8)(hm:m≤n)(hnc:n≤c)(hc:c≤maxLen) :
 Calls Tryd.prog 69 #[.pointer (some ⟨g,0,none⟩),.int .i64 m] w fun e w'=>e=.returned (.int .u64 (num zs m))∧w'=w.setCell ⟨g,0,none⟩ (.slice (tailAt A c m) (n - m) (c - m)):=by
 have HN:=Hd (Xjl g A n c m sh w hr hm hnc hc);have hT:Turned w (w.setCell ⟨g,0,none⟩ (.slice (tailAt A c m) (n - m) (c - m))) g:=Xa0 w ⟨g,0,none⟩ _;have HG:=Hd (Xp3 A m c (zs.take m) m _ S ((pre14 hs hm).below (hT.below hS)) (by omega) (Xdt (Xni hz m)));rw[Xtb h1 h8 (by have:=hs.len;rw[bL]at this;rw[List.length_take];omega),Xhx zs m m (Lr _)]at HG;generalize w.setCell ⟨g,0,none⟩ (.slice (tailAt A c m) (n - m) (c - m))=W at *;clear hr hs hS hz h1 h8 hm hnc hc hT;go_enter Tryd.func69,Tryd.ntmps69
 go_wp2_with fail;refine HN.out.mono ?_;rintro e w1 ⟨rfl,hw⟩;obtain rfl:=hw.symm;go_wp2_with fail;refine HG.out.mono ?_;rintro e w2 ⟨rfl,rfl⟩;go_wp2_with fail;go_ret;exact⟨rfl,rfl⟩
theorem Xl7(g:Nat)(A:Option Addr)(n c m:Nat)(sh:Bool)(w:World)(hr:Row w g 180 (fldC A n c sh))(h1:1≤m)(h8:m≤8)(hm:n<m) :
 Calls Tryd.prog 69 #[.pointer (some ⟨g,0,none⟩),.int .i64 m] w fun e w'=>e=.returned (.int .u64 0)∧w'=w.setCell ⟨g,1,none⟩ (.bool true):=by
 have HN:=Hd (Xkd g A n c m sh w hr hm);have HG:=Hd (Xp3 none 0 0 [] m (w.setCell ⟨g,1,none⟩ (.bool true)) 0 ⟨rfl,fun i u hu=>by simp[bv,cv]at hu⟩ (Nat.zero_le _) (Xdt (by intro z hz;cases hz)));rw[Xn5 h1 h8]at HG;generalize w.setCell ⟨g,1,none⟩ (.bool true)=W at *;clear hr h1 h8 hm;go_enter Tryd.func69,Tryd.ntmps69
 go_wp2_with fail;refine HN.out.mono ?_;rintro e w1 ⟨rfl,hw⟩;obtain rfl:=hw.symm;go_wp2_with fail;refine HG.out.mono ?_;rintro e w2 ⟨rfl,rfl⟩;go_wp2_with fail;go_ret;exact⟨rfl,rfl⟩
theorem Xej:(Tryd.prog.info? 68).map (·.zero)=some (some (.agg (bv key0).toArray)):=by kernel_rfl
theorem Xbf{o:List Int}(h:o.length=32):(Tryd.prog.info? 68).map (·.size)=some (bv o).length:=by rw[bL,h];exact Xb7
theorem Xl2{o:List Int}(h:o.length=32):(bv key0).take 0++bv o++(bv key0).drop (0+(bv o).length)=bv o:=by
 rw[List.take_zero,List.nil_append,Nat.zero_add,List.drop_of_length_le (by rw[bL,bL,h];decide),List.append_nil]
theorem Xfh{W V:World}{g:Nat}(h:Turned W.drew V g):Turned W V g:=⟨h.os,h.tape,h.output,h.size,h.block⟩
theorem Xhd{w w' V:World}{g B:Nat}(h:But g w w')(hb:Below B w' V)(hB:w.heap.size≤B):But g w V:=
 ⟨hb.os.trans h.os,hb.tape.trans h.tape,hb.output.trans h.output,Lq h.size hb.size,fun k hk hg=>(hb.block k (Nat.lt_of_lt_of_le hk hB)).trans (h.block k hk hg)⟩
theorem Xga{w w' V:World}{g p:Nat}(h:But g w w')(ht:Turned w' V p)(hp:w.heap.size≤p):But g w V:=Xhd h (ht.below hp) (Lr _)
theorem Xkv{w:World}{B n m:Nat}{A:Option Addr}{zs:List Int}(h:Sees w B A n (bv zs))(hm:m≤n)(h0:0<m):∃ad,A=some ad∧∀j u,(bv (zs.take m))[j]?=some u→w.cell? (ad.add j)=some u:=by
 have h1:=pre14 h hm;obtain⟨ad,u,e,_⟩:=h1.at_ (k:=0) h0;refine⟨ad,e,fun j u hu=>?_⟩;obtain⟨a,e2,_,hc⟩:=h1.cell j u hu;rw[e]at e2;cases e2
 exact hc
theorem Xrt(g:Nat)(A:Option Addr)(n c S:Nat)(sh:Bool)(zs:List Int)(w:World)(hr:Row w g 180 (fldC A n c sh))(hs:Sees w S A n (bv zs))(hS:S≤g)(hm:32≤n)(hnc:n≤c)(hc:c≤maxLen) :
 Calls Tryd.prog 70 #[.pointer (some ⟨g,0,none⟩)] w fun e w'=>e=.returned (.agg (bv (zs.take 32)).toArray)∧Row w' g 180 (fldC (tailAt A c 32) (n - 32) (c - 32) sh)∧But g w w':=by
 have hlt:=hr.lt;have HR:=Hd hr;have HS:=Hd hs;have HSG:=Hd hS;have HLT:=Hd hlt;have HM:=Hd hm;have HNC:=Hd hnc;have HC:=Hd hc;clear hm hnc hc;obtain⟨g2,hg2⟩:∃k,k=w.heap.size:=⟨_,rfl⟩;obtain⟨g3,hg3'⟩:∃k,k=(w.alloc (.cells (bv key0).toArray 68)).heap.size:=⟨_,rfl⟩;have HG2:Hid (w.heap.size=g2):=Hd hg2.symm;have HG3:Hid ((w.alloc (.cells (bv key0).toArray 68)).heap.size=g3):=Hd hg3'.symm;have hg3:g3=w.heap.size+1:=by rw[hg3'];simp
 clear hg3';have hb:=((Br w.heap.size w).alloc (Lr _) (.cells (bv key0).toArray 68)).alloc (by simp) (.cells (bv key0).toArray 68);have HB:=Hd hb;have R2:Hid (Row ((w.alloc (.cells (bv key0).toArray 68)).alloc (.cells (bv key0).toArray 68)) g2 68 (bv key0)):=Hd (by rw[hg2];exact(Row.new w 68 (bv key0)).alloc _);have R3:Hid (Row ((w.alloc (.cells (bv key0).toArray 68)).alloc (.cells (bv key0).toArray 68)) g3 68 (bv key0)):=Hd (Row.new' _ 68 _ (by rw[hg3];simp));have NG:Hid (g2≠g∧g3≠g∧g2≠g3):=Hd (by omega);have HG23:Hid (g<g3∧g2<g3∧w.heap.size≤g3∧w.heap.size≤g2):=Hd (by omega);have RF:=Hd (hr.below hb hlt);have HSW:=Hd (hs.below (hb.mono (Nat.le_of_lt (Nat.lt_of_le_of_lt hS hlt))));clear hg2 hg3 hb hr hs hS hlt HR HS;generalize hW:(w.alloc (.cells (bv key0).toArray 68)).alloc (.cells (bv key0).toArray 68)=W at *;have HW:=Hd hW;clear hW;go_enter Tryd.func70,Tryd.ntmps70
 go_upto_region 2 with(first
  | ((with_reducible show wpList _ _ _ (⟨some 2,_,_,_,_,_⟩::_) _ _);go_must(refine Xa2 rfl 68 rfl (bv key0) Xej ?_))
  | ((with_reducible show wpList _ _ _ (⟨some 3,_,_,_,_,_⟩::_) _ _);go_must(refine Xa2 rfl 68 rfl (bv key0) Xej ?_)))
 rw[HG3.out,HG2.out,HW.out];clear HG3 HG2 HW;have HN:=Hd (Xjl g A n c 32 sh W.drew RF.out.drew HM.out HNC.out HC.out);obtain⟨ad,hA,hsrc⟩:=Xkv HSW.out HM.out (by decide);have HSRC:=Hd hsrc;have HTL:Hid ((zs.take 32).length=32):=Hd (by have:=HSW.out.len;have:=HM.out;rw[bL]at *;rw[List.length_take];omega);subst hA;clear hsrc;have hT:Turned W (W.drew.setCell ⟨g,0,none⟩ (.slice (tailAt (some ad) c 32) (n - 32) (c - 32))) g:=Xfh (Xa0 W.drew ⟨g,0,none⟩ _);have HT:=Hd hT;have RF2:Hid (Row (W.drew.setCell ⟨g,0,none⟩ (.slice (tailAt (some ad) c 32) (n - 32) (c - 32))) g 180 (fldC (tailAt (some ad) c 32) (n - 32) (c - 32) sh)):=Hd (RF.out.drew.set_ 0 _);have HSR2:Hid (∀j u,(bv (zs.take 32))[j]?=some u→(W.drew.setCell ⟨g,0,none⟩ (.slice (tailAt (some ad) c 32) (n - 32) (c - 32))).cell? (ad.add j)=some u):=Hd fun j u hu=>by
  obtain⟨a,e,hb,hc⟩:=((pre14 HSW.out HM.out).below (hT.below HSG.out)).cell j u hu;cases e
  exact hc
 clear hT;generalize W.drew.setCell ⟨g,0,none⟩ (.slice (tailAt (some ad) c 32) (n - 32) (c - 32))=W1 at *;have BW:=Hd (But.trans (But.of_below HB.out g) (But.of_turned HT.out));have R22:=Hd (HT.out.row R2.out NG.out.1);have R32:=Hd (HT.out.row R3.out NG.out.2.1);clear R2 R3 RF HT HB;refine wp_region_held_drew (S:=(fun V=>True)) (by kernel_rfl) trivial (fun _=>?_);refine Tk 0 rfl ?_ trivial ?_ ⟨?_,rfl⟩
 ·intro w hw;(try dsimp only at hw);go_simp;try with_reducible rfl
 try simp only[nm]
 refine Tk 1 rfl ?_ trivial ?_ ⟨?_,rfl⟩
 ·intro w hw;(try dsimp only at hw);go_simp;try with_reducible rfl
 try simp only[nm]
 refine Rl 2 rfl fun K hK=>?_
 go_simp;refine HN.out.mono ?_;rintro e w1 ⟨rfl,hw⟩;obtain rfl:=hw.symm;clear hw HN;refine hK.out _ _ trivial ?_;clear hK K;try simp only[nm]
 refine Rl 3 rfl fun K hK=>?_
 refine Xko (.tmp 4) (.tmp 6) 30 30 5 rfl Tryd.underlying30 Xe7 g3 0 32 32 ad 32 c (by go_simp) (by go_simp) (bv key0) 68 R32.out (bv (zs.take 32)) (by rw[bL,HTL.out];rfl) HSR2.out (by rw[bL,bL,HTL.out];decide) (Xcd _) (fun w3 hr3 ht3=>?_);rw[Xl2 HTL.out]at hr3;have R33:=Hd hr3;have B3:=Hd (ht3.below (Lr g3));have R23:=Hd (R22.out.below B3.out HG23.out.2.1);have RF3:=Hd (RF2.out.below B3.out HG23.out.1);have BT:=Hd (Xhd BW.out B3.out HG23.out.2.2.1);clear hr3 ht3 R22 R32 RF2 BW;refine hK.out _ _ trivial ?_;clear hK K;try simp only[nm]
 refine wpAnyH_done (by kernel_rfl) ?_ _;go_wp2_with (first
  | ((with_reducible show wpList _ _ _ (⟨some 8,_,_,_,_,_⟩::_) _ _);go_must(refine Xa3 rfl 68 (.tmp 3) rfl g3 68 (bv (zs.take 32)) _ Tryd.underlying68 rfl (Xbf HTL.out) R33.out ?_ ?_;go_simp))
  | ((with_reducible show wpList _ _ _ (⟨none,Op.store 68 _ _,_,_,_,_⟩::_) _ _);go_must(refine Xai rfl 68 (.tmp 2) (.tmp 8) rfl g2 (bv key0) (bv (zs.take 32)) R23.out (Xbf HTL.out) (by rw[bL,bL,HTL.out];rfl) (Xcd _) ?_ ?_ ?_;go_simp;go_simp;intro w4 hr4 ht4;have R4:=Hd hr4;have T4:=Hd ht4;clear hr4 ht4)))
 refine bodyPost_ret (results_cell_row (h:=rfl) _ w4 g2 68 _ (0,0) _ (by rfl) R4.out.is Tryd.underlying68 rfl (Xbf HTL.out)) rfl ?_;exact⟨rfl,T4.out.row RF3.out (Ne.symm NG.out.1),Xga BT.out T4.out HG23.out.2.2.2⟩
theorem Xk4{cur:List Value}:splice cur 0 []=cur:=by simp[splice]
theorem Xsn(g:Nat)(A:Option Addr)(n c S:Nat)(sh:Bool)(zs:List Int)(w:World)(hr:Row w g 180 (fldC A n c sh))(hs:Sees w S A n (bv zs))(hS:S≤g)(hm:n<32) :
 Calls Tryd.prog 70 #[.pointer (some ⟨g,0,none⟩)] w fun e w'=>e=.returned (.agg (bv key0).toArray)∧Row w' g 180 (fldC A n c true)∧But g w w':=by
 have hlt:=hr.lt;have HR:=Hd hr;have HS:=Hd hs;have HSG:=Hd hS;have HLT:=Hd hlt;have HM:=Hd hm;clear hm;obtain⟨g2,hg2⟩:∃k,k=w.heap.size:=⟨_,rfl⟩;obtain⟨g3,hg3'⟩:∃k,k=(w.alloc (.cells (bv key0).toArray 68)).heap.size:=⟨_,rfl⟩;have HG2:Hid (w.heap.size=g2):=Hd hg2.symm;have HG3:Hid ((w.alloc (.cells (bv key0).toArray 68)).heap.size=g3):=Hd hg3'.symm;have hg3:g3=w.heap.size+1:=by rw[hg3'];simp
 clear hg3';have hb:=((Br w.heap.size w).alloc (Lr _) (.cells (bv key0).toArray 68)).alloc (by simp) (.cells (bv key0).toArray 68);have HB:=Hd hb;have R2:Hid (Row ((w.alloc (.cells (bv key0).toArray 68)).alloc (.cells (bv key0).toArray 68)) g2 68 (bv key0)):=Hd (by rw[hg2];exact(Row.new w 68 (bv key0)).alloc _);have R3:Hid (Row ((w.alloc (.cells (bv key0).toArray 68)).alloc (.cells (bv key0).toArray 68)) g3 68 (bv key0)):=Hd (Row.new' _ 68 _ (by rw[hg3];simp));have NG:Hid (g2≠g∧g3≠g∧g2≠g3):=Hd (by omega);have HG23:Hid (g<g3∧g2<g3∧w.heap.size≤g3∧w.heap.size≤g2):=Hd (by omega);have RF:=Hd (hr.below hb hlt);have HSW:=Hd (hs.below (hb.mono (Nat.le_of_lt (Nat.lt_of_le_of_lt hS hlt))));clear hg2 hg3 hb hr hs hS hlt HR HS;generalize hW:(w.alloc (.cells (bv key0).toArray 68)).alloc (.cells (bv key0).toArray 68)=W at *;have HW:=Hd hW;clear hW;go_enter Tryd.func70,Tryd.ntmps70
 go_upto_region 2 with(first
  | ((with_reducible show wpList _ _ _ (⟨some 2,_,_,_,_,_⟩::_) _ _);go_must(refine Xa2 rfl 68 rfl (bv key0) Xej ?_))
  | ((with_reducible show wpList _ _ _ (⟨some 3,_,_,_,_,_⟩::_) _ _);go_must(refine Xa2 rfl 68 rfl (bv key0) Xej ?_)))
 rw[HG3.out,HG2.out,HW.out];clear HG3 HG2 HW;have HN:=Hd (Xkd g A n c 32 sh W.drew RF.out.drew HM.out);have hT:Turned W (W.drew.setCell ⟨g,1,none⟩ (.bool true)) g:=Xfh (Xa0 W.drew ⟨g,1,none⟩ _);have HT:=Hd hT;have RF2:Hid (Row (W.drew.setCell ⟨g,1,none⟩ (.bool true)) g 180 (fldC A n c true)):=Hd (RF.out.drew.set_ 1 _);clear hT;generalize W.drew.setCell ⟨g,1,none⟩ (.bool true)=W1 at *;have BW:=Hd (But.trans (But.of_below HB.out g) (But.of_turned HT.out));have R22:=Hd (HT.out.row R2.out NG.out.1);have R32:=Hd (HT.out.row R3.out NG.out.2.1);clear R2 R3 RF HT HB;refine wp_region_held_drew (S:=(fun V=>True)) (by kernel_rfl) trivial (fun _=>?_);refine Tk 0 rfl ?_ trivial ?_ ⟨?_,rfl⟩
 ·intro w hw;(try dsimp only at hw);go_simp;try with_reducible rfl
 try simp only[nm]
 refine Tk 1 rfl ?_ trivial ?_ ⟨?_,rfl⟩
 ·intro w hw;(try dsimp only at hw);go_simp;try with_reducible rfl
 try simp only[nm]
 refine Rl 2 rfl fun K hK=>?_
 go_simp;refine HN.out.mono ?_;rintro e w1 ⟨rfl,hw⟩;obtain rfl:=hw.symm;clear hw HN;refine hK.out _ _ trivial ?_;clear hK K;try simp only[nm]
 refine Rl 3 rfl fun K hK=>?_
 refine Xhh (by rfl) (.tmp 4) (.tmp 6) 30 30 rfl 5 Tryd.underlying30 Xe7 (some ⟨g3,0,none⟩) none 32 32 0 0 (by go_simp) (by go_simp) g3 0 (bv key0) 68 R32.out.is [] rfl (fun h=>absurd h (by decide)) (by simp) (by simp) g3 W1 (Br _ _) (Lr _) (fun w3 hr3 ht3=>?_);have R33:Hid (Row w3 g3 68 (bv key0)):=Hd ⟨by have:=hr3.out;rw[Xk4]at this;exact this⟩;have B3:=Hd ht3;have R23:=Hd (R22.out.below B3.out HG23.out.2.1);have RF3:=Hd (RF2.out.below B3.out HG23.out.1);have BT:=Hd (Xhd BW.out B3.out HG23.out.2.2.1);clear hr3 ht3 R22 R32 RF2 BW;refine hK.out _ _ trivial ?_;clear hK K;try simp only[nm]
 refine wpAnyH_done (by kernel_rfl) ?_ _;go_wp2_with (first
  | ((with_reducible show wpList _ _ _ (⟨some 8,_,_,_,_,_⟩::_) _ _);go_must(refine Xa3 rfl 68 (.tmp 3) rfl g3 68 (bv key0) _ Tryd.underlying68 rfl (Xbf Xbc.1) R33.out ?_ ?_;go_simp))
  | ((with_reducible show wpList _ _ _ (⟨none,Op.store 68 _ _,_,_,_,_⟩::_) _ _);go_must(refine Xai rfl 68 (.tmp 2) (.tmp 8) rfl g2 (bv key0) (bv key0) R23.out (Xbf Xbc.1) rfl (Xcd _) ?_ ?_ ?_;go_simp;go_simp;intro w4 hr4 ht4;have R4:=Hd hr4;have T4:=Hd ht4;clear hr4 ht4)))
 refine bodyPost_ret (results_cell_row (h:=rfl) _ w4 g2 68 _ (0,0) _ (by rfl) R4.out.is Tryd.underlying68 rfl (Xbf Xbc.1)) rfl ?_;exact⟨rfl,T4.out.row RF3.out (Ne.symm NG.out.1),Xga BT.out T4.out HG23.out.2.2.2⟩
def numS(zs:List Int)(sh:Bool)(m:Nat):Int:=if m≤zs.length then num zs m else 0
def keyS(zs:List Int):List Int:=if 32≤zs.length then zs.take 32 else key0
def resS(zs:List Int)(m:Nat):List Int:=if m≤zs.length then zs.drop m else zs
def shS(zs:List Int)(sh:Bool)(m:Nat):Bool:=if m≤zs.length then sh else true
structure FIn(w:World)(g S:Nat)(zs:List Int)(sh:Bool):Prop where
 is:∃A c,Row w g 180 (fldC A zs.length c sh)∧Sees w S A zs.length (bv zs)∧zs.length≤c∧c≤maxLen
 all:AllBytes zs
theorem FIn.lt{w:World}{g S:Nat}{zs:List Int}{sh:Bool}(h:FIn w g S zs sh):g<w.heap.size:=by
 obtain⟨A,c,hr,_⟩:=h.is;exact hr.lt
theorem FIn.keep{w w':World}{g S:Nat}{zs:List Int}{sh:Bool}(h:FIn w g S zs sh)(hS:S≤g){p:Nat}(hb:But p w w')(hp:p≠g)(hSp:S≤p):FIn w' g S zs sh:=by
 obtain⟨A,c,hr,hs,r⟩:=h.is;exact⟨⟨A,c,hb.row hr (Ne.symm hp),hs.below (hb.below hSp (Nat.le_of_lt (Nat.lt_of_le_of_lt hS hr.lt))),r⟩,h.all⟩
theorem Xj9{w w':World}{g S n c m:Nat}{sh:Bool}{A:Option Addr}{zs:List Int}(hr:Row w' g 180 (fldC (tailAt A c m) (n - m) (c - m) sh))(hs:Sees w S A n (bv zs))(hz:AllBytes zs)(hm:m≤n)(hnc:n≤c)(hc:c≤maxLen)(hb:Below S w w'):FIn w' g S (zs.drop m) sh:=by
 have hl:=hs.len;rw[bL]at hl;have h1:=(hs.tail hm hnc).below hb;have e:(zs.drop m).length=n - m:=by rw[List.length_drop,hl]
 refine⟨⟨tailAt A c m,c - m,by rw[e];exact hr,by rw[e];simpa [bv,cv]using h1,by rw[e];omega,by omega⟩,Xnm hz m⟩
theorem Xcj(g S m:Nat)(sh:Bool)(zs:List Int)(w:World)(h:FIn w g S zs sh)(hS:S≤g)(h1:1≤m)(h8:m≤8) :
 Calls Tryd.prog 69 #[.pointer (some ⟨g,0,none⟩),.int .i64 m] w fun e w'=>e=.returned (.int .u64 (numS zs sh m))∧FIn w' g S (resS zs m) (shS zs sh m)∧But g w w':=by
 obtain⟨A,c,hr,hs,hnc,hc⟩:=h.is;unfold numS resS shS;by_cases hm:m≤zs.length
 ·rw[if_pos hm,if_pos hm,if_pos hm];refine(Xkw g A zs.length c m S sh zs w hr hs hS h.all h1 h8 hm hnc hc).mono ?_;rintro e w' ⟨rfl,rfl⟩;have ht:=Xa0 w ⟨g,0,none⟩ (.slice (tailAt A c m) (zs.length - m) (c - m));exact⟨rfl,Xj9 (hr.set_ 0 _) hs h.all hm hnc hc (ht.below hS),But.of_turned ht⟩
 ·rw[if_neg hm,if_neg hm,if_neg hm];refine(Xl7 g A zs.length c m sh w hr h1 h8 (by omega)).mono ?_;rintro e w' ⟨rfl,rfl⟩;have ht:=Xa0 w ⟨g,1,none⟩ (.bool true);exact⟨rfl,⟨⟨A,c,hr.set_ 1 _,hs.below (ht.below hS),hnc,hc⟩,h.all⟩,But.of_turned ht⟩
theorem key14(g S:Nat)(sh:Bool)(zs:List Int)(w:World)(h:FIn w g S zs sh)(hS:S≤g) :
 Calls Tryd.prog 70 #[.pointer (some ⟨g,0,none⟩)] w fun e w'=>e=.returned (.agg (bv (keyS zs)).toArray)∧FIn w' g S (resS zs 32) (shS zs sh 32)∧But g w w':=by
 obtain⟨A,c,hr,hs,hnc,hc⟩:=h.is;have hlt:=hr.lt;unfold keyS resS shS;by_cases hm:32≤zs.length
 ·rw[if_pos hm,if_pos hm,if_pos hm];refine(Xrt g A zs.length c S sh zs w hr hs hS hm hnc hc).mono ?_;rintro e w' ⟨rfl,hr',hb⟩;exact⟨rfl,Xj9 hr' hs h.all hm hnc hc (hb.below hS (by omega)),hb⟩
 ·rw[if_neg hm,if_neg hm,if_neg hm];refine(Xsn g A zs.length c S sh zs w hr hs hS (by omega)).mono ?_;rintro e w' ⟨rfl,hr',hb⟩;exact⟨rfl,⟨⟨A,c,hr',hs.below (hb.below hS (by omega)),hnc,hc⟩,h.all⟩,hb⟩
theorem Xcv(zs:List Int):(keyS zs).length=32:=by
 unfold keyS;split
 ·rw[List.length_take];omega
 ·rfl
structure Rd14 where
 y:LAsk
 ok:Bool
def end14(y:LAsk)(zs:List Int)(sh:Bool):Rd14:=⟨y,!sh&&decide (zs.length=0)⟩
def rd14(zs:List Int):Rd14:=
 let t:=numS zs false 4
 let z1:=resS zs 4
 let s1:=shS zs false 4
 if t=0 then end14 ⟨0,numS z1 s1 8,numS (resS z1 8) (shS z1 s1 8) 8,keyS (resS (resS z1 8) 8)⟩ (resS (resS (resS z1 8) 8) 32) (shS (resS (resS z1 8) 8) (shS (resS z1 8) (shS z1 s1 8) 8) 32)
 else if t=1 then end14 ⟨1,0,0,keyS z1⟩ (resS z1 32) (shS z1 s1 32)
 else if t=2 then end14 ⟨2,numS z1 s1 8,0,key0⟩ (resS z1 8) (shS z1 s1 8)
 else if t=8 then end14 ⟨8,0,numS z1 s1 8,key0⟩ (resS z1 8) (shS z1 s1 8)
 else⟨ask0,false⟩
theorem Xbn(zs:List Int):(rd14 zs).ok=(dat14 zs).isSome∧∀x,dat14 zs=some x→(rd14 zs).y=x:=by
 unfold rd14 dat14;by_cases h4:zs.length<4
 ·have e1:numS zs false 4=0:=by unfold numS;rw[if_neg (by omega)]
  have e2:resS zs 4=zs:=by unfold resS;rw[if_neg (by omega)]
  have e3:resS zs 8=zs:=by unfold resS;rw[if_neg (by omega)]
  have e4:shS zs (shS zs false 4) 8=true:=by unfold shS;rw[if_neg (by omega:¬8≤zs.length)]
  have e5:∀b,shS zs b 8=true:=fun b=>by unfold shS;rw[if_neg (by omega)]
  have e6:∀b,shS zs b 32=true:=fun b=>by unfold shS;rw[if_neg (by omega)]
  rw[if_pos h4];dsimp only
  rw[e1,if_pos rfl,e2];simp only[e3,e6];exact⟨rfl,fun x hx=>by cases hx⟩
 ·have e1:numS zs false 4=num zs 4:=by unfold numS;rw[if_pos (by omega)]
  have e2:resS zs 4=zs.drop 4:=by unfold resS;rw[if_pos (by omega)]
  have e3:shS zs false 4=false:=by unfold shS;rw[if_pos (by omega)]
  rw[if_neg h4];dsimp only
  rw[e1,e2,e3];have hl:(zs.drop 4).length=zs.length - 4:=List.length_drop;by_cases t0:num zs 4=0
  ·rw[if_pos t0];by_cases hn:zs.length=52
   ·have a1:8≤(zs.drop 4).length:=by omega
    have f1:resS (zs.drop 4) 8=zs.drop 12:=by unfold resS;rw[if_pos a1,List.drop_drop]
    have l2:(zs.drop 12).length=40:=by rw[List.length_drop];omega
    have f2:resS (zs.drop 12) 8=zs.drop 20:=by unfold resS;rw[if_pos (by omega),List.drop_drop]
    have l3:(zs.drop 20).length=32:=by rw[List.length_drop];omega
    have f3:resS (zs.drop 20) 32=zs.drop 52:=by unfold resS;rw[if_pos (by omega),List.drop_drop]
    have l4:(zs.drop 52).length=0:=by rw[List.length_drop];omega
    rw[f1,f2,f3,if_pos ⟨t0,hn⟩];have g1:shS (zs.drop 4) false 8=false:=by unfold shS;rw[if_pos a1]
    have g2:shS (zs.drop 12) false 8=false:=by unfold shS;rw[if_pos (by omega)]
    have g3:shS (zs.drop 20) false 32=false:=by unfold shS;rw[if_pos (by omega)]
    rw[g1,g2,g3];have n1:numS (zs.drop 4) false 8=num (zs.drop 4) 8:=by unfold numS;rw[if_pos a1]
    have n2:numS (zs.drop 12) false 8=num (zs.drop 12) 8:=by unfold numS;rw[if_pos (by omega)]
    have k3:keyS (zs.drop 20)=zs.drop 20:=by unfold keyS;rw[if_pos (by omega),List.take_of_length_le (by omega)]
    rw[n1,n2,k3];exact⟨by simp[end14,l4],fun x hx=>by cases hx;rfl⟩
   ·have q0:¬(num zs 4=0∧zs.length=52):=fun h=>hn h.2
    have q1:¬(num zs 4=1∧zs.length=36):=fun h=>by omega
    have q2:¬(num zs 4=2∧zs.length=12):=fun h=>by omega
    have q8:¬(num zs 4=8∧zs.length=12):=fun h=>by omega
    rw[if_neg q0,if_neg q1,if_neg q2,if_neg q8];refine⟨?_,fun x hx=>by cases hx⟩;show(!_&&decide _)=false
    by_cases a1:8≤(zs.drop 4).length
    ·have f1:resS (zs.drop 4) 8=zs.drop 12:=by unfold resS;rw[if_pos a1,List.drop_drop]
     have l2:(zs.drop 12).length=zs.length - 12:=List.length_drop;rw[f1];by_cases a2:8≤(zs.drop 12).length
     ·have f2:resS (zs.drop 12) 8=zs.drop 20:=by unfold resS;rw[if_pos a2,List.drop_drop]
      have l3:(zs.drop 20).length=zs.length - 20:=List.length_drop;rw[f2];by_cases a3:32≤(zs.drop 20).length
      ·have f3:resS (zs.drop 20) 32=zs.drop 52:=by unfold resS;rw[if_pos a3,List.drop_drop]
       rw[f3,decide_eq_false (by rw[List.length_drop];omega),Bool.and_false]
      ·have:∀b,shS (zs.drop 20) b 32=true:=fun b=>by unfold shS;rw[if_neg a3]
       rw[this];rfl
     ·have f2:resS (zs.drop 12) 8=zs.drop 12:=by unfold resS;rw[if_neg a2]
      have:∀b,shS (zs.drop 12) b 32=true:=fun b=>by unfold shS;rw[if_neg (by omega)]
      rw[f2,this];rfl
    ·have f1:resS (zs.drop 4) 8=zs.drop 4:=by unfold resS;rw[if_neg a1]
     have:∀b,shS (zs.drop 4) b 32=true:=fun b=>by unfold shS;rw[if_neg (by omega)]
     rw[f1,f1,this];rfl
  ·have q0:¬(num zs 4=0∧zs.length=52):=fun h=>t0 h.1
   rw[if_neg t0,if_neg q0];by_cases t1:num zs 4=1
   ·rw[if_pos t1];by_cases a1:32≤(zs.drop 4).length
    ·have f1:resS (zs.drop 4) 32=zs.drop 36:=by unfold resS;rw[if_pos a1,List.drop_drop]
     have g1:shS (zs.drop 4) false 32=false:=by unfold shS;rw[if_pos a1]
     rw[f1,g1];by_cases hn:zs.length=36
     ·rw[if_pos ⟨t1,hn⟩];have k1:keyS (zs.drop 4)=zs.drop 4:=by unfold keyS;rw[if_pos a1,List.take_of_length_le (by omega)]
      have l4:(zs.drop 36).length=0:=by rw[List.length_drop];omega
      rw[k1];exact⟨by simp[end14,l4],fun x hx=>by cases hx;rfl⟩
     ·have q1:¬(num zs 4=1∧zs.length=36):=fun h=>hn h.2
      have q2:¬(num zs 4=2∧zs.length=12):=fun h=>by omega
      have q8:¬(num zs 4=8∧zs.length=12):=fun h=>by omega
      rw[if_neg q1,if_neg q2,if_neg q8];refine⟨?_,fun x hx=>by cases hx⟩;show(!false&&decide _)=false
      rw[decide_eq_false (by rw[List.length_drop];omega)];rfl
    ·have g1:shS (zs.drop 4) false 32=true:=by unfold shS;rw[if_neg a1]
     have q1:¬(num zs 4=1∧zs.length=36):=fun h=>by omega
     have q2:¬(num zs 4=2∧zs.length=12):=fun h=>by omega
     have q8:¬(num zs 4=8∧zs.length=12):=fun h=>by omega
     rw[if_neg q1,if_neg q2,if_neg q8,g1];exact⟨rfl,fun x hx=>by cases hx⟩
   ·have q1:¬(num zs 4=1∧zs.length=36):=fun h=>t1 h.1
    rw[if_neg t1,if_neg q1];have eight:∀(y y':LAsk) (b:Prop) [Decidable b],(8≤(zs.drop 4).length→y=y')→(b↔zs.length=12)→(end14 y (resS (zs.drop 4) 8) (shS (zs.drop 4) false 8)).ok=(if b then some y' else(none:Option LAsk)).isSome∧∀x,(if b then some y' else(none:Option LAsk))=some x→(end14 y (resS (zs.drop 4) 8) (shS (zs.drop 4) false 8)).y=x:=by
     intro y y' b _ hy hb;by_cases a1:8≤(zs.drop 4).length
     ·have f1:resS (zs.drop 4) 8=zs.drop 12:=by unfold resS;rw[if_pos a1,List.drop_drop]
      have g1:shS (zs.drop 4) false 8=false:=by unfold shS;rw[if_pos a1]
      rw[f1,g1,hy a1];by_cases hn:zs.length=12
      ·rw[if_pos (hb.2 hn)];have l4:(zs.drop 12).length=0:=by rw[List.length_drop];omega
       exact⟨by simp[end14,l4],fun x hx=>by cases hx;rfl⟩
      ·rw[if_neg (fun h=>hn (hb.1 h))];refine⟨?_,fun x hx=>by cases hx⟩;show(!false&&decide _)=false
       rw[decide_eq_false (by rw[List.length_drop];omega)];rfl
     ·have g1:shS (zs.drop 4) false 8=true:=by unfold shS;rw[if_neg a1]
      rw[if_neg (fun h=>by have:=hb.1 h;omega),g1];exact⟨rfl,fun x hx=>by cases hx⟩
    have n1:8≤(zs.drop 4).length→numS (zs.drop 4) false 8=num (zs.drop 4) 8:=fun a1=>by unfold numS;rw[if_pos a1]
    by_cases t2:num zs 4=2
    ·rw[if_pos t2];have:=eight ⟨2,numS (zs.drop 4) false 8,0,key0⟩ ⟨2,num (zs.drop 4) 8,0,key0⟩ (num zs 4=2∧zs.length=12) (fun a1=>by rw[n1 a1]) ⟨fun h=>h.2,fun h=>⟨t2,h⟩⟩;by_cases hn:num zs 4=2∧zs.length=12
     ·rw[if_pos hn]at this ⊢;exact this
     ·rw[if_neg hn]at this ⊢;have q8:¬(num zs 4=8∧zs.length=12):=fun h=>by omega
      rw[if_neg q8];exact this
    ·have q2:¬(num zs 4=2∧zs.length=12):=fun h=>t2 h.1
     rw[if_neg t2,if_neg q2];by_cases t8:num zs 4=8
     ·rw[if_pos t8];exact eight ⟨8,0,numS (zs.drop 4) false 8,key0⟩ ⟨8,0,num (zs.drop 4) 8,key0⟩ (num zs 4=8∧zs.length=12) (fun a1=>by rw[n1 a1]) ⟨fun h=>h.2,fun h=>⟨t8,h⟩⟩
     ·have q8:¬(num zs 4=8∧zs.length=12):=fun h=>t8 h.1
      rw[if_neg t8,if_neg q8];exact⟨rfl,fun x hx=>by cases hx⟩
end Go.Proofs.YtkhcgclnmdgpbaaDoor
