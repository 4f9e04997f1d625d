import Derived.Test.YtaljfbbieefooaaGreatDoorM14
import Derived.Maps.RangeWalk
import Derived.Laws.BytesArg
import Derived.Laws.Strings
import Derived.Lib.Strings
import Derived.Great.Walk
import Derived.Laws.Bits64b
import Derived.Laws.Externs
set_option maxRecDepth 100000
set_option maxHeartbeats 16000000
set_option linter.unusedSimpArgs false
set_option linter.unusedVariables false
namespace Go.Proofs.YtaljfbbieefooaaGreatDoor
open Go.RowKit Go.Maps
def accD(a:LAcc):DataW Unit:=.agg (.lit (.int .u64 a.c)::.lit (.int .u64 a.s)::a.o.map fun z=>.lit (.int .u8 z))
theorem Xm4{a b:LAcc}(h:accD a=accD b):a=b:=by
 unfold accD at h;injection h with h
 injection h with h1 h
 injection h with h2 h3
 injection h1 with h1
 injection h1 with _ h1
 injection h2 with h2
 injection h2 with _ h2
 have h4:a.o=b.o:=(List.map_inj_right (fun x y hxy=>by injection hxy with hxy;injection hxy)).1 h3;exact Xlu.2 ⟨h1,h4,h2⟩
theorem Xj7{a b:LAcc}(ha:AccOk a)(hb:AccOk b)(h:a.cells=b.cells):a=b:=by
 unfold LAcc.cells at h;injection h with h1 h
 injection h1 with _ h1
 have h2:=List.append_inj h (by rw[bL,bL,ha.o.1,hb.o.1]);have h3:a.o=b.o:=by
  have:=h2.1;unfold bv cv at this;exact(List.map_inj_right (fun x y hxy=>by injection hxy)).1 this
 have h4:=h2.2;injection h4 with h4
 injection h4 with _ h4
 exact Xlu.2 ⟨h1,h3,h4⟩
open Classical in
noncomputable def accE (v:Value):Option (DataW Unit × List MemPlace):=if h:∃a:LAcc,v=.agg a.cells.toArray∧AccOk a then some (accD h.choose,[])else none
theorem Xpl{a:LAcc}(ha:AccOk a):accE (.agg a.cells.toArray)=some (accD a,[]):=by
 have h:∃b:LAcc,Value.agg a.cells.toArray=.agg b.cells.toArray∧AccOk b:=⟨a,rfl,ha⟩;unfold accE;rw[dif_pos h];have h1:=h.choose_spec;have h2:a=h.choose:=Xj7 ha h1.2 (by simpa using h1.1);rw[←h2]
theorem Xs4{v:Value}{z:DataW Unit × List MemPlace}(h:accE v=some z):∃a:LAcc,v=.agg a.cells.toArray∧AccOk a∧z=(accD a,[]):=by
 unfold accE at h;split at h
 ·rename_i hx
  exact⟨hx.choose,hx.choose_spec.1,hx.choose_spec.2,(Option.some.inj h).symm⟩
 ·cases h
theorem Xkh(w:World):(zeroValue 69).run Tryz.prog w=.ok (.agg blank13.cells.toArray) w:=by kernel_rfl
structure AD(D:DataW Unit)(ks:List (List Int))(f:List Int→LAcc):Prop where
 tidy:Tidy D
 has:∀kl,Go.Maps.has D kl=true↔∃k ∈ ks,kl=KL k
 at_:∀k ∈ ks,∀z,D.atKey (KL k) z=accD (f k)
 nodup:ks.Nodup
 ok:∀k ∈ ks,(k.length=32∧AllBytes k)∧AccOk (f k)
 size:Go.Maps.size D=ks.length
theorem ad_nil(f:List Int→LAcc):AD (.map []) [] f:=⟨tidy_empty,fun kl=>by simp[has_eq],by simp,List.nodup_nil,by simp,rfl⟩
theorem AD.has_key{D:DataW Unit}{ks:List (List Int)}{f:List Int→LAcc}(h:AD D ks f){k:List Int}(hk:k.length=32∧AllBytes k):Go.Maps.has D (KL k)=decide (k ∈ ks):=by
 rw[Bool.eq_iff_iff,decide_eq_true_iff,h.has];constructor
 ·rintro⟨x,hx,e⟩;rwa [Xfd hk.1 hk.2 (h.ok x hx).1.1 (h.ok x hx).1.2 e]
 ·intro hk';exact⟨k,hk',rfl⟩
theorem AD.at_key{D:DataW Unit}{ks:List (List Int)}{f:List Int→LAcc}(h:AD D ks f){k:List Int}(hk:k.length=32∧AllBytes k)(z:DataW Unit):D.atKey (KL k) z=if k ∈ ks then accD (f k)else z:=by
 by_cases e:k ∈ ks
 ·rw[if_pos e,h.at_ k e]
 ·rw[if_neg e];exact atKey_of_not_has (by rw[h.has_key hk,decide_eq_false e]) z
def addK(ks:List (List Int))(k:List Int):List (List Int):=if k ∈ ks then ks else ks++[k]
def updF(f:List Int→LAcc)(k:List Int)(a:LAcc):List Int→LAcc:=fun x=>if x=k then a else f x
theorem Xex{ks:List (List Int)}{k x:List Int}:x ∈ addK ks k↔x ∈ ks∨x=k:=by
 unfold addK;split
 ·rename_i h
  exact⟨.inl,fun hx=>hx.elim id (fun e=>e ▸ h)⟩
 ·simp
theorem AD.put{D:DataW Unit}{ks:List (List Int)}{f:List Int→LAcc}(h:AD D ks f){k:List Int}(hk:k.length=32∧AllBytes k){a:LAcc}(ha:AccOk a):AD (D.put (KL k) (accD a)) (addK ks k) (updF f k a):=by
 have hkl:=Xka hk.1 hk.2;refine⟨h.tidy.put hkl _,fun kl=>?_,fun x hx z=>?_,?_,fun x hx=>?_,?_⟩
 ·by_cases e:kl=KL k
  ·subst e;rw[has_put_same h.tidy.isMap hkl];exact⟨fun _=>⟨k,Xex.2 (.inr rfl),rfl⟩,fun _=>rfl⟩
  ·rw[has_put_other e,h.has];constructor
   ·rintro⟨x,hx,rfl⟩;exact⟨x,Xex.2 (.inl hx),rfl⟩
   ·rintro⟨x,hx,rfl⟩;rcases Xex.1 hx with hx | rfl
    ·exact⟨x,hx,rfl⟩
    ·exact absurd rfl e
 ·unfold updF;by_cases e:x=k
  ·subst e;rw[if_pos rfl,atKey_put_same h.tidy.isMap hkl]
  ·have hx':x ∈ ks:=(Xex.1 hx).resolve_right e;rw[if_neg e,atKey_put_other (fun e'=>e (Xfd (h.ok x hx').1.1 (h.ok x hx').1.2 hk.1 hk.2 e')),h.at_ x hx']
 ·unfold addK;split
  ·exact h.nodup
  ·rename_i hn
   exact List.nodup_append.2 ⟨h.nodup,by simp,fun x hx y hy e=>hn (by rw[List.mem_singleton]at hy;rw[←hy,←e];exact hx)⟩
 ·unfold updF;by_cases e:x=k
  ·subst e;rw[if_pos rfl];exact⟨hk,ha⟩
  ·rw[if_neg e];exact h.ok x ((Xex.1 hx).resolve_right e)
 ·rw[size_put h.tidy,h.has_key hk,h.size];unfold addK;by_cases e:k ∈ ks
  ·rw[decide_eq_true e,if_pos rfl,if_pos e]
  ·rw[decide_eq_false e,if_neg e];simp
theorem AD.del{D:DataW Unit}{ks:List (List Int)}{f:List Int→LAcc}(h:AD D ks f){k:List Int}(hk:k.length=32∧AllBytes k):AD (D.del (KL k)) (ks.filter fun x=>x≠k) f:=by
 have hm:∀x,x ∈ (ks.filter fun x=>x≠k)↔x ∈ ks∧x≠k:=fun x=>by simp[List.mem_filter]
 refine⟨h.tidy.del _,fun kl=>?_,fun x hx z=>?_,h.nodup.filter _,fun x hx=>h.ok x ((hm x).1 hx).1,?_⟩
 ·by_cases e:kl=KL k
  ·subst e;rw[has_del_same];refine⟨fun h=>(by cases h),?_⟩;rintro⟨x,hx,e⟩;have hx':=(hm x).1 hx;exact absurd (Xfd hk.1 hk.2 (h.ok x hx'.1).1.1 (h.ok x hx'.1).1.2 e).symm hx'.2
  ·rw[has_del_other e,h.has];constructor
   ·rintro⟨x,hx,rfl⟩;exact⟨x,(hm x).2 ⟨hx,fun e'=>e (by rw[e'])⟩,rfl⟩
   ·rintro⟨x,hx,rfl⟩;exact⟨x,((hm x).1 hx).1,rfl⟩
 ·have hx':=(hm x).1 hx;rw[atKey_del_other (fun e'=>hx'.2 (Xfd (h.ok x hx'.1).1.1 (h.ok x hx'.1).1.2 hk.1 hk.2 e')),h.at_ x hx'.1]
 ·have h1:=size_del (k:=KL k) h.tidy;rw[h.has_key hk,h.size]at h1;have h2:∀(l:List (List Int)),l.Nodup→(l.filter fun x=>x≠k).length+(if decide (k ∈ l)=true then 1 else 0)=l.length:=fun l=>by
   induction l with
   | nil=>intro _;rfl
   | cons y r ih =>
    intro hd;have hd':=List.nodup_cons.1 hd;have:=ih hd'.2;by_cases e:y=k
    ·subst e;simp only[hd'.1,decide_false,if_neg Bool.false_ne_true]at this;simp at this ⊢;exact this
    ·have e':k≠y:=fun h=>e h.symm
     simp[e,e']at this ⊢;omega
  have:=h2 ks h.nodup;omega
section
variable{w:World}{ops:Array Oper}{rest:List Oper}{o:Oper}{a:Act}{Q:Exit→Act→World→Prop}
theorem Xop{b n:Nat}{D:DataW Unit}{ks:List (List Int)}{f:List Int→LAcc}(hown:w.ownsMap Tryz.prog 62 accE b n D)(h:AD D ks f){k:List Int}(hk:k.length=32∧AllBytes k) :
 (Instr.lookup 108 (.map (some b)) (.agg (bv k).toArray) false).run Tryz.prog w=.ok (.agg (if k ∈ ks then f k else blank13).cells.toArray) w:=by
 obtain⟨v,ps,hrun,hv⟩:=hown.lookup Xbh Tryz.underlying108 (Xkh w) (Xpl Xdd) (KL_is hk.1 hk.2);rw[h.at_key hk]at hv;obtain⟨x,rfl,hx,e⟩:=Xs4 hv;rw[hrun];have:x=if k ∈ ks then f k else blank13:=by
  injection e with e _
  by_cases hm:k ∈ ks
  ·rw[if_pos hm]at e ⊢;exact(Xm4 e).symm
  ·rw[if_neg hm]at e ⊢;exact(Xm4 e).symm
 rw[this]
end
def ks13(L:List LHold):List (List Int):=L.map LHold.k
theorem Xfw{L:List LHold}{k:List Int}:k ∈ ks13 L↔∃x ∈ L,x.k=k:=by simp[ks13]
theorem Xtg(L:List LHold):(ks13 L).length=L.length:=List.length_map _
theorem Xge:∀{L:List LHold},(L.Pairwise fun x y=>kless x.k y.k=true)→(ks13 L).Nodup
 | [],_=>List.nodup_nil
 | x::r,h=>by
  obtain⟨h1,h2⟩:=List.pairwise_cons.1 h;refine List.nodup_cons.2 ⟨fun hm=>?_,Xge h2⟩;obtain⟨y,hy,e⟩:=Xfw.1 hm;exact Xfz (h1 y hy) e.symm
theorem Xum{L:List LHold}{k:List Int}:(k ∈ ks13 L→⟨k,getH L k⟩ ∈ L)∧(k ∉ ks13 L→getH L k=blank13):=by
 rcases Xdn L k with⟨h1,h2⟩ | h1
 ·exact⟨fun hm=>by obtain⟨x,hx,e⟩:=Xfw.1 hm;exact absurd e (h1 x hx),fun _=>h2⟩
 ·exact⟨fun _=>h1,fun hm=>absurd (Xfw.2 ⟨_,h1,rfl⟩) hm⟩
theorem AD.swap{D:DataW Unit}{ks ks':List (List Int)}{f f':List Int→LAcc}(h:AD D ks f)(hd:ks'.Nodup)(hm:∀x,x ∈ ks'↔x ∈ ks)(hf:∀x ∈ ks,f' x=f x):AD D ks' f':=by
 refine⟨h.tidy,fun kl=>?_,fun k hk z=>?_,hd,fun k hk=>?_,?_⟩
 ·rw[h.has];constructor
  ·rintro⟨x,hx,rfl⟩;exact⟨x,(hm x).2 hx,rfl⟩
  ·rintro⟨x,hx,rfl⟩;exact⟨x,(hm x).1 hx,rfl⟩
 ·rw[hf k ((hm k).1 hk)];exact h.at_ k ((hm k).1 hk) z
 ·rw[hf k ((hm k).1 hk)];exact h.ok k ((hm k).1 hk)
 ·rw[h.size];exact((List.perm_ext_iff_of_nodup h.nodup hd).2 fun x=>(hm x).symm).length_eq
theorem Xo8{H:Type}{P:Program}{k:TypeId}{R:Value→Option (DataW H × List MemPlace)}{w:World}{b n:Nat}{D:DataW H}(h:w.ownsMap P k R b n D):w.ownsMap P k R b (Go.Maps.size D) D:=by
 obtain⟨es,clock,hb,F,hs,rfl⟩:=h;exact⟨es,clock,hb,F,by simp[Go.Maps.size,length_sorted],rfl⟩
structure StIn(w:World)(sb mb:Nat)(L:List LHold):Prop where
 row:Row w sb 110 [.map (some mb)]
 map:∃D,w.ownsMap Tryz.prog 62 accE mb L.length D∧AD D (ks13 L) (getH L)
 sto:Sto L
theorem StIn.keep{w w':World}{sb mb:Nat}{L:List LHold}(h:StIn w sb mb L)(h1:w'.heap[sb]?=w.heap[sb]?)(h2:w'.heap[mb]?=w.heap[mb]?):StIn w' sb mb L:=by
 obtain⟨D,⟨es,cl,hm,F,hs,hD⟩,had⟩:=h.map;exact⟨⟨h1.trans h.row.is⟩,⟨D,⟨es,cl,h2.trans hm,F,hs,hD⟩,had⟩,h.sto⟩
theorem StIn.heap{w:World}{sb mb:Nat}{L:List LHold}(h:StIn w sb mb L):∃es cl,w.heap[mb]?=some (.map es cl):=by
 obtain⟨D,⟨es,cl,hm,_⟩,_⟩:=h.map;exact⟨es,cl,hm⟩
theorem StIn.lt{w:World}{sb mb:Nat}{L:List LHold}(h:StIn w sb mb L):sb<w.heap.size∧mb<w.heap.size:=by
 obtain⟨es,cl,hm⟩:=h.heap;exact⟨h.row.lt,(Array.getElem?_eq_some_iff.1 hm).1⟩
theorem StIn.below{w w':World}{sb mb:Nat}{L:List LHold}(h:StIn w sb mb L)(hb:Below w.heap.size w w'):StIn w' sb mb L:=h.keep (hb.block _ h.lt.1) (hb.block _ h.lt.2)
theorem StIn.row_ne{w:World}{sb mb g t:Nat}{L:List LHold}{xs:List Value}(h:StIn w sb mb L)(hr:Row w g t xs):g≠mb:=by
 rintro rfl;obtain⟨es,cl,hm⟩:=h.heap;rw[hr.is]at hm;cases hm
theorem StIn.ne{w:World}{sb mb:Nat}{L:List LHold}(h:StIn w sb mb L):sb≠mb:=h.row_ne h.row
theorem Xpn(w:World)(r:Option Nat):(binOp .neq 108 (.map r) (.map none)).run Tryz.prog w=.ok (.bool (!r.isNone)) w:=run_neq_map_nil w _ _ _ r Tryz.underlying108
theorem Xlx(sb mb:Nat)(L:List LHold)(w:World)(h:StIn w sb mb L):Calls Tryz.prog 39 #[.pointer (some ⟨sb,0,none⟩)] w fun e w'=>e=.returned (.bool true)∧w=w':=by
 have hm:=Xpn;have c0:w.cell? ⟨sb,0,none⟩=some (.map (some mb)):=h.row.cell 0;clear h;go_enter Tryz.func39,Tryz.ntmps39
 go_wp2_with fail;go_ret;exact⟨rfl,rfl⟩
theorem Xpr{W:World}{sb mb n:Nat}{D:DataW Unit}{L:List LHold}(hr:Row W sb 110 [.map (some mb)])(ho:W.ownsMap Tryz.prog 62 accE mb n D)(ha:AD D (ks13 L) (getH L))(hs:Sto L):StIn W sb mb L:=by
 have h1:=Xo8 ho;rw[ha.size,Xtg]at h1;exact⟨hr,⟨D,h1,ha⟩,hs⟩
theorem new13(w:World):Calls Tryz.prog 15 #[] w fun e w'=>∃sb mb,e=.returned (.pointer (some ⟨sb,0,none⟩))∧StIn w' sb mb []∧w.heap.size≤sb∧w.heap.size≤mb∧Below w.heap.size w w':=by
 have hmm:=@run_makeMap Tryz.prog;have HR:Hid (StIn ((w.alloc (.map #[] 0)).alloc (.cells #[.map (some w.heap.size)] 110)) (w.heap.size+1) w.heap.size []):=Hd
  (Xpr (Row.new' _ 110 [.map (some w.heap.size)] (by simp)) ((World.ownsMap_made w Tryz.prog 62 accE).kept (World.grownBy_alloc _ _ none) (by simp)) (ad_nil _) Xvk)
 have HB:=Hd (((Br w.heap.size w).alloc (Lr _) (.map #[] 0)).alloc (by simp) (.cells #[.map (some w.heap.size)] 110));go_enter Tryz.func15,Tryz.ntmps15
 go_wp2_with fail;go_ret;exact⟨_,_,rfl,HR.out,Nat.le_succ _,Lr _,HB.out⟩
theorem StIn.look{w:World}{sb mb:Nat}{L:List LHold}(h:StIn w sb mb L){k:List Int}(hk:k.length=32∧AllBytes k):(Instr.lookup 108 (.map (some mb)) (.agg (bv k).toArray) false).run Tryz.prog w=.ok (.agg (getH L k).cells.toArray) w:=by
 obtain⟨D,ho,ha⟩:=h.map;rw[Xop ho ha hk];split
 ·rfl
 ·rename_i hn
  rw[Xum.2 hn]
theorem Xjb{a:Act}{o:Oper}(w:World)(m x:Operand)(hop:o.op=Op.lookup 108 m x false)(b:Nat)(k:List Int)(v:Value)(hm:a.eval m=.map (some b))(hx:a.eval x=.agg (bv k).toArray)
 (hr:(Instr.lookup 108 (.map (some b)) (.agg (bv k).toArray) false).run Tryz.prog w=.ok v w):(execOp a.eval o).run Tryz.prog w=.ok (.value v) w:=by
 unfold execOp;simp only[hop,hm,hx,Sem.run_bind,Sem.run_pure,hr,Result.andThen_ok]
theorem get13(sb mb:Nat)(L:List LHold)(k:List Int)(w:World)(h:StIn w sb mb L)(hk:k.length=32∧AllBytes k):Calls Tryz.prog 43 #[.pointer (some ⟨sb,0,none⟩),.agg (bv k).toArray] w fun e w'=>e=.returned (.agg (getH L k).cells.toArray)∧Below w.heap.size w w':=by
 have hbw:=((Br w.heap.size w).alloc (Lr _) (.cells (bv k).toArray 62)).alloc (by simp) (.cells blank13.cells.toArray 69);have S0:=Hd (h.below hbw);have RX0:=Hd ((Row.new w 62 (bv k)).alloc (.cells blank13.cells.toArray 69));have RF0:=Hd (Row.new' (w.alloc (.cells (bv k).toArray 62)) 69 blank13.cells (g:=w.heap.size+1) (by simp));have HSZ:Hid ((Tryz.prog.info? 62).map (·.size)=some (bv k).length):=Hd (by rw[Xan,bL,hk.1]);have HGA:=Hd (h.sto.get_ok k);have HSA:=Hd (Xam HGA.out.o.1);have HLA:Hid (blank13.cells.length=(getH L k).cells.length):=Hd (by rw[Xbt HGA.out.o.1];rfl);have HBW:=Hd hbw;have HK:=Hd hk;have H0:=Hd h;have HGF:Hid (w.heap.size≠w.heap.size+1):=Hd (by omega);obtain⟨f,hf⟩:∃f,f=w.heap.size+1:=⟨_,rfl⟩;obtain⟨g,hg⟩:∃g,g=w.heap.size:=⟨_,rfl⟩;have HF:Hid (w.heap.size+1=f):=Hd hf.symm;have HG:Hid (w.heap.size=g):=Hd hg.symm;have HFG:Hid (w.heap.size≤f):=Hd (by omega);rw[←hf]at RF0 HGF;rw[←hg]at RX0 HGF;generalize hWW:(w.alloc (.cells (bv k).toArray 62)).alloc (.cells blank13.cells.toArray 69)=W at *;have HWW:=Hd hWW;clear hWW hf hg hbw h hk;have HT:=Hd (Xlx sb mb L W S0.out);generalize hGL:getH L k=y at *;have HGL:=Hd hGL;clear hGL;go_enter Tryz.func43,Tryz.ntmps43
 go_wp2_with ((with_reducible show wpList _ _ _ (⟨some 4,_,_,_,_,_⟩::_) _ _);go_must(refine Xa0 rfl 69 rfl blank13.cells Xiw ?_))
 rw[HF.out,HG.out,HWW.out];clear HF HG HWW;refine HT.out.mono ?_;rintro e w' ⟨rfl,rfl⟩;clear HT;go_wp2_with fail;have HB0:=Hd (show Below w.heap.size w W.drew from HBW.out.drew);have RX1:=Hd RX0.out.drew;refine wp_region_held_drew (S:=(fun V=>Below w.heap.size w V∧Row V g 62 (bv k))) (by kernel_rfl) ⟨HB0.out,RX1.out⟩ (fun _=>?_);refine Tk 0 rfl ?_ ⟨HB0.out,RX1.out⟩ ?_ ⟨?_,rfl⟩
 ·intro w hw;(try dsimp only at hw);go_simp;try with_reducible rfl
 try simp only[nm]
 refine Tk 1 rfl ?_ ⟨HB0.out,RX1.out⟩ ?_ ⟨?_,rfl⟩
 ·intro w hw;(try dsimp only at hw);go_simp;try with_reducible rfl
 try simp only[nm]
 refine Tk 2 rfl ?_ ⟨HB0.out,RX1.out⟩ ?_ ⟨?_,rfl⟩
 ·intro w hw;(try dsimp only at hw);go_simp;try with_reducible rfl
 try simp only[nm]
 refine Tk 3 rfl ?_ ⟨HB0.out,RX1.out⟩ ?_ ⟨?_,rfl⟩
 ·intro w hw;try dsimp only at hw
  have hc:=(H0.out.below hw.1).row.cell 0;go_simp;try with_reducible rfl
 try simp only[nm]
 refine Tl 4 (v:=.agg (bv k).toArray) rfl (Or.inl ⟨by rfl,fun wz hwz=>Xa4 wz 62 (.tmp 3) rfl ⟨g,0,none⟩ (bv k) _ Tryz.underlying62 rfl HSZ.out (fun j u hu=>by rw[Xa5,Nat.zero_add];exact(hwz.2.cell j).trans hu) (by go_simp)⟩) ⟨HB0.out,RX1.out⟩ ?_;try simp only[nm]
 refine Tl 5 (v:=.agg y.cells.toArray) rfl (Or.inl ⟨by rfl,fun wz hwz=>Xjb wz (.tmp 12) (.tmp 13) rfl mb k _ (by go_simp) (by go_simp) (by rw[(H0.out.below hwz.1).look HK.out,HGL.out])⟩) ⟨HB0.out,RX1.out⟩ ?_;try simp only[nm]
 refine Rl 6 rfl fun K hK=>?_
 refine Xb4 69 (.tmp 4) (.tmp 14) rfl f blank13.cells y.cells RF0.out.drew HSA.out HLA.out (Xee _) ?_ ?_ ?_
 ·go_simp
 ·go_simp
 intro w5 hr ht;have R5:=Hd hr;have B5:=Hd (show Below w.heap.size w w5 from HB0.out.trans (ht.below HFG.out));have X5:=Hd (show Row w5 g 62 (bv k)from ht.row RX1.out HGF.out);clear hr ht;refine hK.out _ _ ⟨B5.out,X5.out⟩ ?_;clear hK K;try simp only[Act.put]
 refine wpAnyH_done (by kernel_rfl) ?_ _;go_wp2_with fail;refine bodyPost_ret (results_cell_row (h:=rfl) _ w5 f 69 _ (0,0) _ (by rfl) R5.out.is Tryz.underlying69 rfl HSA.out) rfl ?_;exact⟨rfl,B5.out⟩
theorem Xig{w V V':World}{b:Nat}(hg:w.grownBy V (some b))(h:V.grownBy V' (some b)):w.grownBy V' (some b):=
 ⟨h.os.trans hg.os,h.tape.trans hg.tape,h.output.trans hg.output,Lq hg.size h.size,fun k hk hr=>(h.block k (Nat.lt_of_lt_of_le hk hg.size) hr).trans (hg.block k hk hr)⟩
theorem Xgw{o:Oper}{a:Act}{w:World}{K:Act→World→Prop}{Q:Exit→Act→World→Prop}(m x v:Operand)(hop:o.op=Op.mapUpdate 108 m x v)(b n:Nat)(D:DataW Unit)
 (hm:a.eval m=.map (some b)) (hown:w.ownsMap Tryz.prog 62 accE b n D) (hn:n<maxLen) {k:List Int} (hk:k.length=32∧AllBytes k) {y:LAcc} (hy:AccOk y) (hx:a.eval x=.agg (bv k).toArray) (hv:a.eval v=.agg y.cells.toArray)
 (h:∀w',w'.ownsMap Tryz.prog 62 accE b (n+1) (D.put (KL k) (accD y))→w.grownBy w' (some b)→K (a.put o.dst undef) w'):o.wp Tryz.prog a w K Q:=by
 obtain⟨w',hrun,r1,r2⟩:=hown.update Xbh Tryz.underlying108 hn (KL_is hk.1 hk.2) (Xpl hy);unfold Oper.wp;simp[execOp,hop,hm,hx,hv,hrun,Result.andThen];exact h _ r1 r2
theorem Xji{o:Oper}{a:Act}{w:World}{K:Act→World→Prop}{Q:Exit→Act→World→Prop}(m x:Operand)(hop:o.op=Op.call { callee:=Callee.builtin Builtin.delete,args:=#[m,x],argTypes:=#[108,62] })(b n:Nat)(D:DataW Unit)
 (hm:a.eval m=.map (some b)) (hown:w.ownsMap Tryz.prog 62 accE b n D) {k:List Int} (hk:k.length=32∧AllBytes k) (hx:a.eval x=.agg (bv k).toArray)
 (h:∀w',w'.ownsMap Tryz.prog 62 accE b n (D.del (KL k))→w.grownBy w' (some b)→K (a.put o.dst (.tuple #[])) w'):o.wp Tryz.prog a w K Q:=by
 obtain⟨w',hrun,r1,r2⟩:=hown.drop Xbh Tryz.underlying108 (KL_is hk.1 hk.2) o.type;unfold Oper.wp;simp[execOp,hop,resolve,invoke,builtin,hm,hx,hrun,Result.andThen];exact h _ r1 r2.grown
theorem Xma(L:List LHold)(k:List Int)(a:LAcc)(x:List Int):x ∈ ks13 (putH L k a)↔(x ∈ ks13 L∧x≠k)∨(a≠blank13∧x=k):=by
 rw[Xfw,Xfw];constructor
 ·rintro⟨y,hy,rfl⟩;rcases Xcx.1 hy with⟨h1,h2⟩ | ⟨h1,rfl⟩
  ·exact .inl ⟨⟨y,h1,rfl⟩,h2⟩
  ·exact .inr ⟨h1,rfl⟩
 ·rintro(⟨⟨y,hy,rfl⟩,h2⟩ | ⟨h1,rfl⟩)
  ·exact⟨y,Xcx.2 (.inl ⟨hy,h2⟩),rfl⟩
  ·exact⟨_,Xcx.2 (.inr ⟨h1,rfl⟩),rfl⟩
theorem Xs5{D:DataW Unit}{L:List LHold}{k:List Int}{a:LAcc}(h:AD D (ks13 L) (getH L))(hs:Sto L)(hk:k.length=32∧AllBytes k)(ha:AccOk a)(hb:a≠blank13):AD (D.put (KL k) (accD a)) (ks13 (putH L k a)) (getH (putH L k a)):=by
 refine(h.put hk ha).swap (Xge (hs.put hk ha).rise) (fun x=>?_) (fun x _=>?_)
 ·rw[Xma,Xex];by_cases e:x=k
  ·simp[e,hb]
  ·simp[e]
 ·rw[Xmf hs hk ha];rfl
theorem Xtv{D:DataW Unit}{L:List LHold}{k:List Int}(h:AD D (ks13 L) (getH L))(hs:Sto L)(hk:k.length=32∧AllBytes k):AD (D.del (KL k)) (ks13 (putH L k blank13)) (getH (putH L k blank13)):=by
 refine(h.del hk).swap (Xge (hs.put hk Xdd).rise) (fun x=>?_) (fun x hx=>?_)
 ·rw[Xma];simp
 ·have hx':x≠k:=by simpa using (List.mem_filter.1 hx).2
  rw[Xmf hs hk Xdd,if_neg hx']
theorem put13(sb mb:Nat)(L:List LHold)(k:List Int)(a:LAcc)(w:World)(h:StIn w sb mb L)(hk:k.length=32∧AllBytes k)(ha:AccOk a)(hL:L.length≤900):Calls Tryz.prog 16 #[.pointer (some ⟨sb,0,none⟩),.agg (bv k).toArray,.agg a.cells.toArray] w fun e w'=>e=.returned (.int .i64 0)∧StIn w' sb mb (putH L k a)∧w.grownBy w' (some mb):=by
 have hbw:=((Br w.heap.size w).alloc (Lr _) (.cells (bv k).toArray 62)).alloc (by simp) (.cells a.cells.toArray 69);have S0:=Hd (h.below hbw);have RX0:=Hd ((Row.new w 62 (bv k)).alloc (.cells a.cells.toArray 69));have RF0:=Hd (Row.new' (w.alloc (.cells (bv k).toArray 62)) 69 a.cells (g:=w.heap.size+1) (by simp));have HSZ:Hid ((Tryz.prog.info? 62).map (·.size)=some (bv k).length):=Hd (by rw[Xan,bL,hk.1]);have HSA:=Hd (Xam ha.o.1);have HA:=Hd ha;have HK:=Hd hk;have HLT:=Hd h.lt;have HNE:=Hd h.ne;obtain⟨f,hf⟩:∃f,f=w.heap.size+1:=⟨_,rfl⟩;obtain⟨g,hg⟩:∃g,g=w.heap.size:=⟨_,rfl⟩;have HF:Hid (w.heap.size+1=f):=Hd hf.symm;have HG:Hid (w.heap.size=g):=Hd hg.symm;have NG:Hid (some g≠some mb):=Hd (by have:=HLT.out;intro e;cases e;omega);have NF:Hid (some f≠some mb):=Hd (by have:=HLT.out;intro e;cases e;omega);have NS:Hid (some sb≠some mb):=Hd (by have:=HNE.out;intro e;cases e;exact this rfl);rw[←hf]at RF0;rw[←hg]at RX0;have HGB:=Hd (gb_of (some mb) hbw);generalize hWW:(w.alloc (.cells (bv k).toArray 62)).alloc (.cells a.cells.toArray 69)=W at *;have HWW:=Hd hWW;have HSB:=Hd hbw.size;clear hWW hf hg hbw h hk ha;have HT:=Hd (Xlx sb mb L W S0.out);have HEQ:=Hd (fun w=>Xvb (x:=a) (y:=blank13) HA.out.o.1 rfl w);go_enter Tryz.func16,Tryz.ntmps16
 go_upto_region 1 with fail
 rw[HF.out,HG.out,HWW.out];clear HF HG HWW;go_wp2_with fail;refine HT.out.mono ?_;rintro e w' ⟨rfl,rfl⟩;clear HT;have S1:=Hd (show StIn W.drew sb mb L from S0.out.below (Br _ _).drew);have RX1:=Hd RX0.out.drew;have RF1:=Hd RF0.out.drew;have HG1:Hid (w.grownBy W.drew (some mb)):=Hd (Xsg HGB.out (Br _ _).drew);by_cases hb:a=blank13
 ·rw[decide_eq_true hb]at HEQ;have HBK:=Hd hb;clear hb;have NEQ:=HEQ.out;clear HEQ;go_wp2_with (first
   | ((with_reducible show wpList _ _ _ (⟨some 10,_,_,_,_,_⟩::_) _ _);go_must(refine Xa1 rfl 69 (.tmp 5) rfl f 69 a.cells _ Tryz.underlying69 rfl HSA.out RF0.out ?_ ?_;go_simp))
   | ((with_reducible show wpList _ _ _ (⟨some 11,_,_,_,_,_⟩::_) _ _);go_must(refine wpList_plain rfl fun K hK=>Xae _ _ _ rfl (by simp only[List.map_toArray,List.map_nil];exact Xbx) (hK _ _ ?_))))
  clear NEQ;refine wp_region_held_drew (S:=(fun V=>Row V sb 110 [.map (some mb)]∧Row V g 62 (bv k))) (by kernel_rfl) ⟨S1.out.row,RX1.out⟩ (fun _=>?_);refine Tk 0 rfl ?_ ⟨S1.out.row,RX1.out⟩ ?_ ⟨?_,rfl⟩
  ·intro w hw;(try dsimp only at hw);go_simp;try with_reducible rfl
  try simp only[nm]
  refine Tk 1 rfl ?_ ⟨S1.out.row,RX1.out⟩ ?_ ⟨?_,rfl⟩
  ·intro w hw;(try dsimp only at hw);go_simp;try with_reducible rfl
  try simp only[nm]
  refine Tk 2 rfl ?_ ⟨S1.out.row,RX1.out⟩ ?_ ⟨?_,rfl⟩
  ·intro w hw;(try dsimp only at hw);go_simp;try with_reducible rfl
  try simp only[nm]
  refine Tk 3 rfl ?_ ⟨S1.out.row,RX1.out⟩ ?_ ⟨?_,rfl⟩
  ·intro w hw;try dsimp only at hw
   have hc:=hw.1.cell 0;go_simp;try with_reducible rfl
  try simp only[nm]
  refine Tl 4 (v:=.agg (bv k).toArray) rfl (Or.inl ⟨by rfl,fun wz hwz=>Xa4 wz 62 (.tmp 4) rfl ⟨g,0,none⟩ (bv k) _ Tryz.underlying62 rfl HSZ.out (fun j u hu=>by rw[Xa5,Nat.zero_add];exact(hwz.2.cell j).trans hu) (by go_simp)⟩) ⟨S1.out.row,RX1.out⟩ ?_;try simp only[nm]
  refine Rl 5 rfl fun K hK=>?_
  obtain⟨D,ho,had⟩:=S1.out.map;refine Xji (.tmp 16) (.tmp 17) rfl mb _ D ?_ ho HK.out ?_ ?_
  ·go_simp
  ·go_simp
  intro w5 ho5 hg5;have S5:Hid (StIn w5 sb mb (putH L k a)):=Hd (by rw[HBK.out];exact Xpr (S1.out.row.grown hg5 NS.out) ho5 (Xtv had S1.out.sto HK.out) (S1.out.sto.put HK.out Xdd));have X5:=Hd (RX1.out.grown hg5 NG.out);have G5:=Hd (Xig HG1.out hg5);clear ho had ho5 hg5;refine hK.out _ _ ⟨S5.out.row,X5.out⟩ ?_;clear hK K;try simp only[Act.put]
  refine wpAnyH_done (by kernel_rfl) ?_ _;go_wp2_with fail;go_ret;exact⟨rfl,S5.out,G5.out⟩
 ·rw[decide_eq_false hb]at HEQ;have HBK:=Hd hb;clear hb;have NEQ:=HEQ.out;clear HEQ;go_wp2_with (first
   | ((with_reducible show wpList _ _ _ (⟨some 10,_,_,_,_,_⟩::_) _ _);go_must(refine Xa1 rfl 69 (.tmp 5) rfl f 69 a.cells _ Tryz.underlying69 rfl HSA.out RF0.out ?_ ?_;go_simp))
   | ((with_reducible show wpList _ _ _ (⟨some 11,_,_,_,_,_⟩::_) _ _);go_must(refine wpList_plain rfl fun K hK=>Xae _ _ _ rfl (by simp only[List.map_toArray,List.map_nil];exact Xbx) (hK _ _ ?_))))
  clear NEQ;refine wp_region_held_drew (S:=(fun V=>Row V sb 110 [.map (some mb)]∧Row V g 62 (bv k)∧Row V f 69 a.cells)) (by kernel_rfl) ⟨S1.out.row,RX1.out,RF1.out⟩ (fun _=>?_);refine Tk 0 rfl ?_ ⟨S1.out.row,RX1.out,RF1.out⟩ ?_ ⟨?_,rfl⟩
  ·intro w hw;(try dsimp only at hw);go_simp;try with_reducible rfl
  try simp only[nm]
  refine Tk 1 rfl ?_ ⟨S1.out.row,RX1.out,RF1.out⟩ ?_ ⟨?_,rfl⟩
  ·intro w hw;(try dsimp only at hw);go_simp;try with_reducible rfl
  try simp only[nm]
  refine Tk 2 rfl ?_ ⟨S1.out.row,RX1.out,RF1.out⟩ ?_ ⟨?_,rfl⟩
  ·intro w hw;(try dsimp only at hw);go_simp;try with_reducible rfl
  try simp only[nm]
  refine Tk 3 rfl ?_ ⟨S1.out.row,RX1.out,RF1.out⟩ ?_ ⟨?_,rfl⟩
  ·intro w hw;try dsimp only at hw
   have hc:=hw.1.cell 0;go_simp;try with_reducible rfl
  try simp only[nm]
  refine Tl 4 (v:=.agg (bv k).toArray) rfl (Or.inl ⟨by rfl,fun wz hwz=>Xa4 wz 62 (.tmp 4) rfl ⟨g,0,none⟩ (bv k) _ Tryz.underlying62 rfl HSZ.out (fun j u hu=>by rw[Xa5,Nat.zero_add];exact(hwz.2.1.cell j).trans hu) (by go_simp)⟩) ⟨S1.out.row,RX1.out,RF1.out⟩ ?_;try simp only[nm]
  refine Tl 5 (v:=.agg a.cells.toArray) rfl (Or.inl ⟨by rfl,fun wz hwz=>Xa4 wz 69 (.tmp 5) rfl ⟨f,0,none⟩ a.cells _ Tryz.underlying69 rfl HSA.out (fun j u hu=>by rw[Xa5,Nat.zero_add];exact(hwz.2.2.cell j).trans hu) (by go_simp)⟩) ⟨S1.out.row,RX1.out,RF1.out⟩ ?_;try simp only[nm]
  refine Rl 6 rfl fun K hK=>?_
  obtain⟨D,ho,had⟩:=S1.out.map;refine Xgw (.tmp 21) (.tmp 22) (.tmp 23) rfl mb _ D ?_ ho (by unfold maxLen;omega) HK.out HA.out ?_ ?_ ?_
  ·go_simp
  ·go_simp
  ·go_simp
  intro w5 ho5 hg5;have S5:Hid (StIn w5 sb mb (putH L k a)):=Hd (Xpr (S1.out.row.grown hg5 NS.out) ho5 (Xs5 had S1.out.sto HK.out HA.out HBK.out) (S1.out.sto.put HK.out HA.out));have X5:=Hd (RX1.out.grown hg5 NG.out);have F5:=Hd (RF1.out.grown hg5 NF.out);have G5:=Hd (Xig HG1.out hg5);clear ho had ho5 hg5;refine hK.out _ _ ⟨S5.out.row,X5.out,F5.out⟩ ?_;clear hK K;try simp only[Act.put]
  refine wpAnyH_done (by kernel_rfl) ?_ _;go_wp2_with fail;go_ret;exact⟨rfl,S5.out,G5.out⟩
open Go.RowKit
theorem Xuf{m:Bool}{x:LRole}(h:chk14 m x=0):(m=true→x.sg=true)∧x.wr=true:=by
 unfold chk14 at h;split at h
 ·cases h
 rename_i h1
 split at h
 ·cases h
 rename_i h2
 exact⟨fun e=>by subst e;simpa using h1,by simpa using h2⟩
theorem Xuj{x:LAsk}{r:List LRole}{acc:List Int}(h:plc14 x r acc=0):chk14 true (rol14 r (acc.getD 0 0))=0∧(two14 x→chk14 (decide (x.tag=0)) (rol14 r (acc.getD 1 0))=0):=by
 unfold plc14 at h;split at h
 ·cases h
 split at h
 ·cases h
 split at h
 ·rename_i h1
  exact absurd h h1
 rename_i h1
 refine⟨Classical.not_not.1 h1,fun h2=>?_⟩;rwa [if_pos h2]at h
structure Went(l:List LAcc)(r:List LRole)(R:Res14)(a b:Nat):Prop where
 len:l.length=r.length
 an:a<l.length
 bn:b<l.length
 d:Deed l R.l R.n a b true (rol14 r b).sg
 wa:(rol14 r a).wr=true
 wb:(rol14 r b).wr=true
 sa:(rol14 r a).sg=true
theorem Xi7{l:List LAcc}{r:List LRole}{acc dat:List Int}(hl:∀a ∈ l,AccOk a)(hd:AllBytes dat)(hb:AllBytes acc)(h:(do14 l r acc dat).e=0):∃a b,Went l r (do14 l r acc dat) a b:=by
 by_cases hn:l.length=r.length
 rotate_left
 ·unfold do14 at h;rw[if_pos hn]at h;cases h
 cases hdat:dat14 dat with
 | none =>
  unfold do14 at h;rw[if_neg (by omega),hdat]at h;cases h
 | some x =>
 by_cases hp:plc14 x r acc=0
 rotate_left
 ·unfold do14 at h;rw[if_neg (by omega),hdat]at h;dsimp only at h
  rw[if_pos hp]at h;exact absurd h hp
 obtain⟨h1,h2⟩:=Xrr hp;have h0:0<need14 x:=by unfold need14;split <;> omega
 obtain⟨a,ha,han⟩:=Xga (k:=0) hb (by omega) h2;obtain⟨b,hbb,hbn⟩:=Xga (k:=need14 x - 1) hb (by omega) h2;rw[←hn]at han hbn;rw[do_is hn hdat hp ha hbb]at h ⊢;have hx:=Xat hd hdat;obtain⟨c1,c2⟩:=Xuj hp;rw[ha]at c1;have k1:=Xuf c1;refine⟨a,b,?_⟩;by_cases ht:two14 x
 ·have hb1:acc.getD 1 0=b:=by rw[Xe3 ht]at hbb;exact hbb
  have c3:=c2 ht;rw[hb1]at c3;have k2:=Xuf c3;have hw:∀{R:Res14},Deed l R.l R.n a b true (rol14 r b).sg→Went l r R a b:=fun d=>⟨hn,han,hbn,d,k1.2,k2.2,k1.1 rfl⟩
  apply hw
  unfold deed14 at h ⊢;rcases ht with ht | ht
  ·rw[if_pos ht]at h ⊢;rw[k2.1 (by rw[ht];rfl)];exact Xq6 hl hx han hbn h
  ·rw[if_neg (by rw[ht];decide),if_neg (by rw[ht];decide),if_pos ht]at h ⊢;exact Xpy hl hx han hbn h _
 ·have hab:(b:Int)=a:=by rw[Xez ht]at hbb;rw[←hbb,←ha]
  have hab:b=a:=by exact_mod_cast hab
  subst hab;have hw:∀{R:Res14},Deed l R.l R.n b b true (rol14 r b).sg→Went l r R b b:=fun d=>⟨hn,han,hbn,d,k1.2,k1.2,k1.1 rfl⟩
  apply hw
  unfold deed14 at h ⊢;unfold two14 at ht;rw[if_neg (fun e=>ht (.inl e))]at h ⊢;by_cases h1:x.tag=1
  ·rw[if_pos h1]at h ⊢;exact Xlp hl hx b han h _
  ·rw[if_neg h1,if_neg (fun e=>ht (.inr e))]at h ⊢;exact Xos hl hx b han h _
structure Go15(x:LReady)(l:List LAcc)(ln k:Nat)(S:S15):Prop where
 len:S.now.length=ln
 eq:go15 x (x.tx.m.ins.drop k) k S=go15 x x.tx.m.ins 0 ⟨l,0,0⟩
 u:0≤S.units∧S.units≤x.u
 s:0≤S.space∧S.space≤(k:Int)*1048576
section
variable{x:LReady}{l:List LAcc}{ln k:Nat}{S S':S15}{a:LIn}{e:Int}
theorem Xik(hl:l.length=ln)(hu:0≤x.u):Go15 x l ln 0 ⟨l,0,0⟩:=⟨hl,by rw[List.drop_zero],⟨Int.le_refl _,hu⟩,⟨Int.le_refl _,by simp⟩⟩
theorem Xh8(ha:x.tx.m.ins[k]?=some a):x.tx.m.ins.drop k=a::x.tx.m.ins.drop (k+1):=by
 obtain⟨h,rfl⟩:=List.getElem?_eq_some_iff.1 ha;exact List.drop_eq_getElem_cons h
theorem Go15.next(h:Go15 x l ln k S)(ha:x.tx.m.ins[k]?=some a)(hs:step15 x k a S=(0,S'))(hl:S'.now.length=ln)(hu:0≤S'.units∧S'.units≤x.u)(hsp:0≤S'.space∧S'.space≤S.space+1048576):Go15 x l ln (k+1) S':=by
 refine⟨hl,?_,hu,hsp.1,?_⟩
 ·rw[←h.eq,Xh8 ha];conv=>rhs;unfold go15
  rw[hs,if_pos rfl]
 ·have:=h.s.2;have e:((k+1:Nat):Int)*1048576=(k:Int)*1048576+1048576:=by omega
  rw[e];omega
theorem Go15.bad(h:Go15 x l ln k S)(ha:x.tx.m.ins[k]?=some a)(hs:step15 x k a S=(e,S'))(he:e≠0)(hl:l.length=x.roles.length)(hp:∀a ∈ x.tx.m.ins,a.p<(x.roles.length:Int)):run15 x l=(⟨e,k,S'.units,x.fee,0,chg15 x.roles l⟩,0):=by
 have hg:go15 x x.tx.m.ins 0 ⟨l,0,0⟩=(e,(k:Int),S'):=by
  rw[←h.eq,Xh8 ha];unfold go15;rw[hs,if_neg he]
 unfold run15;rw[if_neg (by omega),if_neg (by rintro⟨b,hb,hc⟩;have:=hp b hb;omega),hg,if_neg he]
theorem Go15.done(h:Go15 x l ln k S)(hk:x.tx.m.ins.length≤k)(hl:l.length=x.roles.length)(hp:∀a ∈ x.tx.m.ins,a.p<(x.roles.length:Int)):run15 x l=(⟨0,-1,S.units,x.fee,S.space,chg15 x.roles S.now⟩,0):=by
 have hg:go15 x x.tx.m.ins 0 ⟨l,0,0⟩=(0,-1,S):=by
  rw[←h.eq,List.drop_of_length_le hk];rfl
 unfold run15;rw[if_neg (by omega),if_neg (by rintro⟨b,hb,hc⟩;have:=hp b hb;omega),hg,if_pos rfl]
theorem Xde(h:x.u<150∨x.u - 150<S.units):step15 x k a S=(20,⟨S.now,x.u,S.space⟩):=by
 unfold step15;rw[if_pos h]
theorem Xgk(h:¬(x.u<150∨x.u - 150<S.units))(hb:(k:Int)=x.bad):step15 x k a S=(21,⟨S.now,S.units+150,S.space⟩):=by
 unfold step15;rw[if_neg h,if_pos hb]
theorem Xgd(h:¬(x.u<150∨x.u - 150<S.units))(hb:¬(k:Int)=x.bad)(hp:prog15 x a=k0)(he:(do14 S.now x.roles a.acc a.dat).e=0):step15 x k a S=(0,⟨(do14 S.now x.roles a.acc a.dat).l,S.units+150,S.space+(do14 S.now x.roles a.acc a.dat).n⟩):=by
 unfold step15;rw[if_neg h,if_neg hb,if_pos hp,if_pos he]
theorem Xdu(h:¬(x.u<150∨x.u - 150<S.units))(hb:¬(k:Int)=x.bad)(hp:prog15 x a=k0)(he:¬(do14 S.now x.roles a.acc a.dat).e=0):step15 x k a S=((do14 S.now x.roles a.acc a.dat).e,⟨S.now,S.units+150,S.space⟩):=by
 unfold step15;rw[if_neg h,if_neg hb,if_pos hp,if_neg he]
theorem Xgh(h:¬(x.u<150∨x.u - 150<S.units))(hb:¬(k:Int)=x.bad)(hp:¬prog15 x a=k0)(hq:prog15 x a=k3):step15 x k a S=(0,⟨S.now,S.units+150,S.space⟩):=by
 unfold step15;rw[if_neg h,if_neg hb,if_neg hp,if_pos hq]
theorem Xfg(h:¬(x.u<150∨x.u - 150<S.units))(hb:¬(k:Int)=x.bad)(hp:¬prog15 x a=k0)(hq:¬prog15 x a=k3):step15 x k a S=(19,⟨S.now,S.units+150,S.space⟩):=by
 unfold step15;rw[if_neg h,if_neg hb,if_neg hp,if_neg hq]
end
structure Few15(q:YRaw)(x:LReady):Prop where
 b:q.bn≤65535
 r:q.rn≤65535
 s:x.tx.sigs.length≤65535
 k:x.tx.m.keys.length≤65535∧x.tx.m.ins.length≤65535∧x.tx.m.looks.length≤65535
 i:∀i ∈ x.tx.m.ins,i.acc.length≤65535∧i.dat.length≤65535
 l:∀l ∈ x.tx.m.looks,l.wr.length≤65535∧l.rd.length≤65535
structure TwRd(w:World)(q:YRaw)(x:LReady):Prop where
 is:ReadyIn w w.heap.size q x
 b:∃g,q.BA=some ⟨g,0,none⟩∧q.bc=q.bn+3∧Row w g 5 (bv (x.bytes++List.replicate 3 165))
 t:TwTx w q.t x.tx
 r:∃g,q.RA=some ⟨g,0,none⟩∧q.rc=q.rn+3∧Row w g 93 ((x.roles.map LRole.cells).flatten++rowOf 3 mkR.cells)
theorem TwRd.below{w w':World}{q:YRaw}{x:LReady}(h:TwRd w q x)(hb:Below w.heap.size w w'):TwRd w' q x:=by
 obtain⟨gb,b1,b2,b3⟩:=h.b;obtain⟨gr,r1,r2,r3⟩:=h.r;exact⟨(h.is.below hb).more hb.size,⟨gb,b1,b2,b3.below hb b3.lt⟩,h.t.below hb,⟨gr,r1,r2,r3.below hb r3.lt⟩⟩
def TwRdDone(w:World)(x:LReady)(e:Ending)(w':World):Prop:=∃q,e=.returned (.agg (YRaw.cells q x).toArray)∧TwRd w' q x∧Below w.heap.size w w'
theorem Xhh:(Tryz.prog.info? 40).map (·.zero)=some (some (.agg (zYRaw.cells zReady).toArray)):=by kernel_rfl
theorem Xb0{q:YRaw}{x:LReady}(h:x.tx.m.recent.length=32):(Tryz.prog.info? 40).map (·.size)=some (q.cells x).length:=by
 rw[Xc9 h];kernel_rfl
theorem Xi4:(zYRaw.cells zReady).length=48:=Xc9 rfl
theorem Xqd{w:World}{g n:Nat}{xs ys:List Int}(h:Row w g 5 (bv (xs++ys)))(hn:xs.length=n):Sees w w.heap.size (some ⟨g,0,none⟩) n (bv xs):=
 ⟨by rw[bL,hn],fun i u hu=>⟨_,rfl,h.lt,by
  rw[Xa5,Nat.zero_add,h.cell,Xes,List.getElem?_append_left (List.getElem?_eq_some_iff.1 hu).1];exact hu⟩⟩
theorem ytx15{q:YRaw}{x:LReady}{s:TRaw}(h:x.tx.m.recent.length=32):(q.cells x).take 1++s.cells x.tx++(q.cells x).drop (1+(s.cells x.tx).length)=YRaw.cells { q with t:=s } x:=by
 have h1:(s.cells x.tx).length=40:=Xbb h;have h2:(q.t.cells x.tx).length=40:=Xbb h;unfold YRaw.cells;rw[h1,show(1+40:Nat)=40+1 from rfl,List.drop_succ_cons,List.drop_append,h2,List.drop_of_length_le (by omega)];simp
theorem yr15{q:YRaw}{x:LReady}(h:x.tx.m.recent.length=32)(A:Option Addr)(n c:Nat):(q.cells x).set 41 (.slice A n c)=YRaw.cells { q with RA:=A,rn:=n,rc:=c } x:=by
 have h2:(q.t.cells x.tx).length=40:=Xbb h;unfold YRaw.cells;rw[show(41:Nat)=40+1 from rfl,List.set_cons_succ,List.set_append_right _ _ (by omega),h2];rfl
theorem Xlw(q:YRaw)(x:LReady)(B:Nat)(w:World)(h:ReadyIn w B q x)(hB:B≤w.heap.size)(hf:Few15 q x):Calls Tryz.prog 6 #[.agg (q.cells x).toArray] w (TwRdDone w x):=by
 have H32:=Hd h.tx.m.recent;have HIN:=Hd (fun(V:World) (hb:Below w.heap.size w V)=>h.below (hb.mono hB));have HB:=Hd hB;have HF:=Hd hf;have HBL:=Hd h.bs.len;have HRO:=Hd h.rs.ok;have HRL:=Hd h.rs.len;have hb0:=((Br w.heap.size w).alloc (Lr _) (.cells (q.cells x).toArray 40)).alloc (by simp) (.cells (zYRaw.cells zReady).toArray 40);have R1:=Hd ((Row.new w 40 (q.cells x)).alloc (.cells (zYRaw.cells zReady).toArray 40));have R2:=Hd (Row.new' (w.alloc (.cells (q.cells x).toArray 40)) 40 (zYRaw.cells zReady) (g:=w.heap.size+1) (by simp));have HB0:=Hd hb0;obtain⟨g2,hg2⟩:∃g,g=(w.alloc (.cells (q.cells x).toArray 40)).heap.size:=⟨_,rfl⟩;obtain⟨g1,hg1⟩:∃g,g=w.heap.size:=⟨_,rfl⟩;have HG2:Hid ((w.alloc (.cells (q.cells x).toArray 40)).heap.size=g2):=Hd hg2.symm;have HG1:Hid (w.heap.size=g1):=Hd hg1.symm;have hg2':w.heap.size+1=g2:=by rw[hg2];simp
 rw[hg2']at R2;rw[←hg1]at R1;have HLO:Hid (w.heap.size≤g2∧g1≠g2):=Hd (by omega);clear hb0 h hB hf hg2 hg1 hg2';generalize hW:(w.alloc (.cells (q.cells x).toArray 40)).alloc (.cells (zYRaw.cells zReady).toArray 40)=W at *;have HW:=Hd hW;clear hW;go_enter Tryz.func6,Tryz.ntmps6
 go_upto_region 1 with(first
  | ((with_reducible show wpList _ _ _ (⟨some 2,_,_,_,_,_⟩::_) _ _);go_must(refine Xa0 rfl 40 rfl (zYRaw.cells zReady) Xhh ?_)))
 rw[HG2.out,HG1.out,HW.out];clear HG2 HG1 HW;go_upto_region 2 with(first
  | ((with_reducible show wpList _ _ _ (⟨some 4,_,_,_,_,_⟩::_) _ _);go_must(refine Xa1 rfl 40 (.tmp 1) rfl g1 40 (q.cells x) _ Tryz.underlying40 rfl (Xb0 H32.out) R1.out ?_ ?_;go_simp))
  | ((with_reducible show wpList _ _ _ (⟨some 3,_,_,_,_,_⟩::_) _ _);go_must(refine Xa0 rfl 40 rfl (zYRaw.cells zReady) Xhh ?_))
  | ((with_reducible show wpList _ _ _ (⟨none,Op.store 40 (.tmp 3) _,_,_,_,_⟩::_) _ _);go_must(refine Xa2 rfl 40 (.tmp 3) (.tmp 4) rfl (q.cells x) (Xb0 H32.out) Xgl (by rw[List.size_toArray,Xi4,Xc9 H32.out]) ?_ ?_ ?_;go_simp;go_simp;intro w3 hr3 hb3 hz3)))
 obtain⟨g3,hg3⟩:∃g,g=W.heap.size:=⟨_,rfl⟩;rw[←hg3]at hr3 ⊢;have R3:=Hd hr3;have R13:=Hd (R1.out.below hb3 R1.out.lt);have R23:=Hd (R2.out.below hb3 R2.out.lt);have B3:=Hd (HB0.out.trans (hb3.mono HB0.out.size));have HG3:Hid (w.heap.size≤g3∧g1≠g3∧g2≠g3):=Hd ⟨by rw[hg3];exact HB0.out.size,by rw[hg3];exact Nat.ne_of_lt R1.out.lt,by rw[hg3];exact Nat.ne_of_lt R2.out.lt⟩;clear hr3 hb3 hz3 hg3 R1 R2 HB0;have c1:w3.cell? ⟨g1,0,none⟩=some (.slice q.BA q.bn q.bc):=R13.out.cell 0;have HT:=Hd (Xd9 q.BA q.bn q.bc x.bytes w3 B (HIN.out _ B3.out).bs (Lq HB.out B3.out.size) (by have:=HF.out.b;omega));go_wp2_with fail;refine HT.out.mono ?_;rintro e w4 ⟨gb,rfl,hgb,hrb,hb4⟩;clear c1 HT;have R14:=Hd (R13.out.below hb4 R13.out.lt);have R24:=Hd (R23.out.below hb4 R23.out.lt);have R34:=Hd (R3.out.below hb4 R3.out.lt);have B4:=Hd (B3.out.trans (hb4.mono B3.out.size));have HGB:Hid (gb≠g3):=Hd (by have:=R3.out.lt;omega);have HGB2:Hid (gb≠g2):=Hd (by have:=R23.out.lt;omega);have RB4:=Hd hrb;clear hgb hrb hb4 R13 R23 R3 B3;have c3:w4.cell? ⟨g3,0,none⟩=some (.slice q.BA q.bn q.bc):=R34.out.cell 0;have f3:=R34.out.frozen 0;go_upto_region 3 with fail
 clear c3 f3;have ht5:=Xa6 w4 ⟨g3,0,none⟩ (.slice (some ⟨gb,0,none⟩) q.bn (q.bn+3));have R15:=Hd (ht5.row R14.out HG3.out.2.1);have R25:=Hd (ht5.row R24.out HG3.out.2.2);have RB5:=Hd (ht5.row RB4.out HGB.out);have R35:Hid (Row (w4.setCell ⟨g3,0,none⟩ (.slice (some ⟨gb,0,none⟩) q.bn (q.bn+3))) g3 40 (YRaw.cells { q with BA:=some ⟨gb,0,none⟩,bn:=q.bn,bc:=q.bn+3 } x)):=Hd (R34.out.set_ 0 _);have B5:=Hd (B4.out.trans (ht5.below HG3.out.1));clear ht5 R14 R24 R34 RB4 B4;generalize w4.setCell ⟨g3,0,none⟩ (.slice (some ⟨gb,0,none⟩) q.bn (q.bn+3))=w5 at *;have HT:=Hd (Xoi q.t x.tx B w5 (HIN.out _ B5.out).tx (Lq HB.out B5.out.size) HF.out.s HF.out.k HF.out.i HF.out.l);have HCT:Hid (∀j u,(q.t.cells x.tx)[j]?=some u→w5.cell? ((⟨g1,1,none⟩:Addr).add j)=some u):=Hd fun j u hu=>by
  rw[Xa5,R15.out.cell];exact Xeb hu
 go_wp2_with (first
  | ((with_reducible show wpList _ _ _ (⟨some 10,_,_,_,_,_⟩::_) _ _);go_must(refine Xa3 rfl 34 (.tmp 9) rfl ⟨g1,1,none⟩ (q.t.cells x.tx) _ Tryz.underlying34 rfl (by rw[Xel,Xbb H32.out]) HCT.out ?_ ?_;go_simp)))
 refine HT.out.mono ?_;rintro e w6 ⟨s,lo,rfl,hlo,hlt,hb6,hlate⟩;clear HT HCT;have R16:=Hd (R15.out.below hb6 R15.out.lt);have R26:=Hd (R25.out.below hb6 R25.out.lt);have R36:=Hd (R35.out.below hb6 R35.out.lt);have RB6:=Hd (RB5.out.below hb6 RB5.out.lt);have B6:=Hd (B5.out.trans (hb6.mono B5.out.size));have HLATE:=Hd hlate;have HLO6:Hid (g3<lo∧g2<lo∧lo<w6.heap.size):=Hd ⟨Nat.lt_of_lt_of_le R35.out.lt hlo,Nat.lt_of_lt_of_le R25.out.lt hlo,hlt⟩;clear hlo hlt hlate hb6 R15 R25 R35 RB5 B5;go_upto_region 4 with(first
  | ((with_reducible show wpList _ _ _ (⟨none,Op.store 34 (.tmp 12) _,_,_,_,_⟩::_) _ _);go_must(refine Xak rfl 34 (.tmp 12) (.tmp 11) rfl g3 40 1 (YRaw.cells { q with BA:=some ⟨gb,0,none⟩,bn:=q.bn,bc:=q.bn+3 } x) (s.cells x.tx) R36.out (by rw[Xel,Xbb H32.out]) (by rw[Xbb H32.out,Xc9 H32.out];decide) Xf6 ?_ ?_ ?_;go_simp;go_simp;intro w7 hr7 ht7)))
 rw[ytx15 (q:={ q with BA:=some ⟨gb,0,none⟩,bn:=q.bn,bc:=q.bn+3 }) H32.out]at hr7;have R17:=Hd (ht7.row R16.out HG3.out.2.1);have R27:=Hd (ht7.row R26.out HG3.out.2.2);have RB7:=Hd (ht7.row RB6.out HGB.out);have R37:=Hd hr7;have B7:=Hd (B6.out.trans (ht7.below HG3.out.1));have T7:=Hd ht7;clear hr7 ht7 R16 R26 R36 RB6 B6;have c1:w7.cell? ⟨g1,41,none⟩=some (.slice q.RA q.rn q.rc):=(R17.out.cell 41).trans (Xaj H32.out 0);have HT:=Hd (Xp7 q.RA q.rn q.rc B x.roles w7 (HIN.out _ B7.out).rs (Lq HB.out B7.out.size) (by have:=HF.out.r;omega));go_wp2_with fail;refine HT.out.mono ?_;rintro e w8 ⟨gr,rfl,hgr,hrr,hb8⟩;clear c1 HT;have R28:=Hd (R27.out.below hb8 R27.out.lt);have R38:=Hd (R37.out.below hb8 R37.out.lt);have RB8:=Hd (RB7.out.below hb8 RB7.out.lt);have RR8:=Hd hrr;have B8:=Hd (B7.out.trans (hb8.mono B7.out.size));have HGR:Hid (gr≠g3∧gr≠g2):=Hd (by have:=R37.out.lt;have:=R27.out.lt;omega);have HB8:=Hd hb8;clear hgr hrr hb8 R17 R27 R37 RB7 B7;have c3:w8.cell? ⟨g3,41,none⟩=some (.slice q.RA q.rn q.rc):=(R38.out.cell 41).trans (Xaj H32.out 0);have f3:=R38.out.frozen 41;go_upto_region 5 with fail
 clear c3 f3;have ht9:=Xa6 w8 ⟨g3,41,none⟩ (.slice (some ⟨gr,0,none⟩) q.rn (q.rn+3));have T9:=Hd ht9;have R29:=Hd (ht9.row R28.out HG3.out.2.2);have RB9:=Hd (ht9.row RB8.out HGB.out);have RR9:=Hd (ht9.row RR8.out HGR.out.1);obtain⟨q3,hq3⟩:∃q3:YRaw,q3=⟨some ⟨gb,0,none⟩,q.bn,q.bn+3,s,some ⟨gr,0,none⟩,q.rn,q.rn+3⟩:=⟨_,rfl⟩;have R39:Hid (Row (w8.setCell ⟨g3,41,none⟩ (.slice (some ⟨gr,0,none⟩) q.rn (q.rn+3))) g3 40 (q3.cells x)):=Hd (by
  have:=R38.out.set_ 41 (.slice (some ⟨gr,0,none⟩) q.rn (q.rn+3));rw[yr15 H32.out]at this;rw[hq3];exact this)
 have HQ3:=Hd hq3;have B9:=Hd (B8.out.trans (ht9.below HG3.out.1));clear ht9 R28 R38 RB8 RR8 B8 hq3;generalize w8.setCell ⟨g3,41,none⟩ (.slice (some ⟨gr,0,none⟩) q.rn (q.rn+3))=w9 at *;go_wp2_with (first
  | ((with_reducible show wpList _ _ _ (⟨some 17,_,_,_,_,_⟩::_) _ _);go_must(refine Xa1 rfl 40 (.tmp 3) rfl g3 40 (q3.cells x) _ Tryz.underlying40 rfl (Xb0 H32.out) R39.out ?_ ?_;go_simp))
  | ((with_reducible show wpList _ _ _ (⟨none,Op.store 40 (.tmp 2) _,_,_,_,_⟩::_) _ _);go_must(refine Xab rfl 40 (.tmp 2) (.tmp 17) rfl g2 (zYRaw.cells zReady) (q3.cells x) R29.out (Xb0 H32.out) (by rw[Xi4,Xc9 H32.out]) Xgl ?_ ?_ ?_;go_simp;go_simp;intro w10 hr10 ht10)))
 refine bodyPost_ret (results_cell_row (h:=rfl) _ w10 g2 40 _ (0,0) _ (by rfl) hr10.is Tryz.underlying40 rfl (by rw[List.size_toArray];exact Xb0 H32.out)) rfl ?_;have hl:=HLO6.out;have hs:w6.heap.size≤w10.heap.size:=by rw[ht10.size,T9.out.size];exact Lq (Nat.le_of_eq T7.out.size.symm) HB8.out.size
 obtain⟨_,htw⟩:=HLATE.out w10 hs fun k a b=>by
  rw[ht10.block k (by omega),T9.out.block k (by omega),HB8.out.block k (by rw[T7.out.size];exact b),T7.out.block k (by omega)]
 have hrb:=ht10.row RB9.out (by have:=HGB.out;have:=HG3.out;have:=HGB2.out;omega);have hrr:=ht10.row RR9.out HGR.out.2;have hq:=HQ3.out;subst hq;have hf:=HF.out;refine⟨_,rfl,⟨⟨Xqd hrb (by have:=HBL.out;rwa [bL]at this),⟨by dsimp only;omega,by dsimp only;have:=hf.b;unfold maxLen;omega⟩,htw.tx,Xkc hrr HRL.out HRO.out hrr.lt,⟨by dsimp only;omega,by dsimp only;have:=hf.r;unfold maxLen;omega⟩⟩,⟨gb,rfl,rfl,hrb⟩,htw,⟨gr,rfl,rfl,hrr⟩⟩,B9.out.trans (ht10.below HLO.out.1)⟩
end Go.Proofs.YtaljfbbieefooaaGreatDoor
