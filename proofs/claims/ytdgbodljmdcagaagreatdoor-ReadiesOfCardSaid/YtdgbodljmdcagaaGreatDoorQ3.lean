import Derived.Test.YtdgbodljmdcagaaGreatDoorQ2
import Derived.Great.BuildSlice
import Derived.Recover
import Derived.Deep.RegionHeld
import Derived.ChangeKeysEq
set_option maxRecDepth 100000
set_option maxHeartbeats 16000000
set_option linter.unusedSimpArgs false
set_option linter.unusedVariables false
namespace Go.Proofs.YtdgbodljmdcagaaGreatDoor
open Go.RowKit
section
variable{P:Program}
theorem Xaa{ops:Array Oper}{rest:List Oper}{o:Oper}{a:Act}{w:World}{Q:Exit→Act→World→Prop}(hg:o.guard=none)(t e:TypeId)(y:Operand)(ho:o.op=.buildSlice t 1 #[(0,y)])
 (cs:List Value) (z:Value) (size bytes:Nat) (hu:P.underlying t=some (.slice e)) (hi:(P.info? e).map (fun i=>(i.zero,i.size,i.bytes))=some (some z,size,bytes)) (hzs:z.cells.size=size) (hs0:0<size) (hs1:size≤1000)
 (hcs:cs.length=size) (hy:a.eval y=.agg cs.toArray)
 (h:wpList P ops Q rest (a.put o.dst (.slice (some ⟨w.heap.size,0,none⟩) 1 1)) (w.alloc (.cells cs.toArray e))):wpList P ops Q (o::rest) a w:=by
 obtain⟨ie,hie,h1,h2,_⟩:=info_parts hi;subst h2;refine wpList_buildSlice hg t e 1 _ ho cs.toArray ie z hu hie h1 (by omega) (by omega) ?_ h;have:=Go.Great.fill_whole (s:=ie.size) hs0 [Value.agg cs.toArray] ((Array.range (1*ie.size)).map (z.cells[· % z.cells.size]!)) (by simp[Value.cells,hcs]) (by simp);simpa [hy,Value.cells]using this
theorem Xag{w0:World}{c:Array Value}{ops:Array Oper}{rest:List Oper}{o:Oper}{a:Act}{Q:Exit→Act→World→Prop}(hgd:o.guard=none)(s x:Operand)(t:TypeId)
 (ho:o.op=.call { callee:=.builtin .append,args:=#[s,x],argTypes:=#[t,t] })
 (base:Nat) (e:TypeId) (z:Value) (size bytes:Nat) (ht:P.underlying t=some (.slice e)) (hi:(P.info? e).map (fun i=>(i.zero,i.size,i.bytes))=some (some z,size,bytes)) (hzs:z.cells.size=size) (hs0:0<size)
 (v:Value) (n:Nat) (xs cs:List Value) (cc:Nat) (hcs:cs.length=size) (h1:∀u ∈ cs,u.oneCell'=true) (hc:c=cs.toArray) (hs:a.eval s=v) (hown:w0.ownsRow base e size v n xs)
 (hx:a.eval x=.slice (some ⟨w0.heap.size,0,none⟩) 1 cc) (hbase:base≤w0.heap.size) (hnm:n+1≤maxLen) (hbytes:(n+1)*bytes≤140737488355328)
 (h:∀v' w',w'.ownsRow base e size v' (n+1) (xs++cs)→Grew w0 w' v v'→wpList P ops Q rest (a.put o.dst v') w'):wpList P ops Q (o::rest) a (w0.alloc (.cells c e)):=by
 subst hc;obtain⟨i0,hi,hz0,hz1,hz2⟩:=info_parts hi;have hr:=Row.new w0 e cs;refine wpList_plain hgd fun K hK=>?_
 obtain⟨v',w',hrun,h2,h3,_,h5⟩:=run_append_own_at (P:=P) (w0.alloc (.cells cs.toArray e)) base t o.type e i0 z size bytes ht hi hz0 hz1 hz2 hzs hs0 v n xs (hown.alloc _) ⟨w0.heap.size,0,none⟩ 1 cc cs (by omega)
  (fun j u hu=>by rw[Xa5,hr.cell];simpa using hu) h1 hnm hbytes (by simp;omega)
 unfold Oper.wp execOp;simp only[ho,resolve,invoke,builtin,Sem.run_bind,Sem.run_pure,Result.andThen_ok,List.map_toArray,List.map_cons,List.map_nil,hs,hx,hrun];refine hK _ _ (h v' w' h2 ((Grew.of_below ((Br _ w0).alloc (Lr _) _) v).trans ⟨h3,fun k hk=>?_⟩));rcases h5 with h5 | h5
 ·exact .inl (h5 ▸ hk)
 ·rw[h5]at hk;cases hk
  exact .inr (Lr _)
end
def Stays{α:Type}(EV:World→Nat→Nat→List Value→α→Prop):Prop:=
 ∀w w' lo hi cs x,(∀k,lo≤k→k<hi→w'.heap[k]?=w.heap[k]?)→EV w lo hi cs x→EV w' lo hi cs x
theorem Xd7:Stays InV:=by
 rintro w w' lo hi cs x hk ⟨va,vd,mid,h1,h2,h3,h4,h5⟩;exact⟨va,vd,mid,h1,h2,h3,h4.stay fun k a b=>hk k a (by omega),h5.stay fun k a b=>hk k (by omega) b⟩
theorem Xe7:Stays LookV:=by
 rintro w w' lo hi cs x hk ⟨va,vd,mid,h1,h0,h2,h3,h4,h5⟩;exact⟨va,vd,mid,h1,h0,h2,h3,h4.stay fun k a b=>hk k a (by omega),h5.stay fun k a b=>hk k (by omega) b⟩
theorem Xaw:Stays KeyV:=fun w w' lo hi cs x hk h=>h
structure LV{α:Type}(EV:World→Nat→Nat→List Value→α→Prop)(e size:Nat)(w:World)(lo:Nat)(v:Value)(l:List α)(css:List (List Value))(L R:Nat→Nat):Prop where
 own:w.ownsRow lo e size v l.length css.flatten
 len:css.length=l.length
 rise:∀i,i+1<l.length→R i≤L (i+1)
 each:∀i cs x,css[i]?=some cs→l[i]?=some x→lo≤L i∧L i≤R i∧R i≤w.heap.size∧EV w (L i) (R i) cs x∧∀g,v.ownBlock=some g→g<L i∨R i≤g
section
variable{α:Type}{EV:World→Nat→Nat→List Value→α→Prop}{e size:Nat}{w w':World}{lo:Nat}{v:Value}{l:List α}{css:List (List Value)}{L R:Nat→Nat}
theorem LV.none(h:w.ownsRow lo e size v 0 []):LV EV e size w lo v [] [] L R:=⟨h,rfl,fun i hi=>by simp at hi,fun i cs x hi=>by simp at hi⟩
theorem LV.lt(h:LV EV e size w lo v l css L R):∀k,v.ownBlock=some k→lo≤k∧k<w.heap.size:=h.own.lt
theorem LV.form(h:LV EV e size w lo v l css L R):∃A c,v=.slice A l.length c:=by
 rcases h.own.2 with⟨rfl,h2⟩ | ⟨g,cap,cur,rfl,_⟩
 ·exact⟨_,_,by rw[h2]⟩
 ·exact⟨_,_,rfl⟩
theorem LV.stay(hS:Stays EV)(h:LV EV e size w lo v l css L R)(hz:w.heap.size≤w'.heap.size)(hk:∀k,lo≤k→k<w.heap.size→w'.heap[k]?=w.heap[k]?):LV EV e size w' lo v l css L R:=by
 refine⟨⟨h.own.1,?_⟩,h.len,h.rise,fun i cs x hi hx=>?_⟩
 ·rcases h.own.2 with h2 | ⟨g,cap,cur,hv,hg,hh,r⟩
  ·exact .inl h2
  ·exact .inr ⟨g,cap,cur,hv,hg,(hk g hg (Array.getElem?_eq_some_iff.1 hh).1).trans hh,r⟩
 ·obtain⟨h1,h2,h3,h4,h5⟩:=h.each i cs x hi hx;exact⟨h1,h2,by omega,hS _ _ _ _ _ _ (fun k a b=>hk k (by omega) (by omega)) h4,h5⟩
theorem LV.but{p:Nat}(hS:Stays EV)(h:LV EV e size w lo v l css L R)(hb:But p w w')(hp:p<lo):LV EV e size w' lo v l css L R:=
 h.stay hS hb.size fun k h1 h2=>hb.block k h2 (by omega)
theorem LV.snoc{p:Nat}{w1 w3:World}{v3:Value}{x:α}{cs:List Value}(hS:Stays EV)(h:LV EV e size w lo v l css L R)(hb:But p w w1)(hp:p<lo)(hlo:lo≤w.heap.size)
 (he:EV w1 w.heap.size w1.heap.size cs x) (hg:Grew w1 w3 v v3) (h3:w3.ownsRow lo e size v3 (l.length+1) (css.flatten++cs)) :
 LV EV e size w3 lo v3 (l++[x]) (css++[cs]) (fun i=>if i=l.length then w.heap.size else L i) (fun i=>if i=l.length then w1.heap.size else R i):=by
 have hz1:=hb.size;have hz3:=hg.size;have hlt:=h.lt;refine⟨by simpa using h3,by simp[h.len],fun i hi=>?_,fun i c y hi hy=>?_⟩
 ·simp only[List.length_append,List.length_singleton]at hi;have hil:i<l.length:=by omega
  simp only[Nat.ne_of_lt hil,if_false];split
  ·obtain⟨_,_,h3',_,_⟩:=h.each i _ _ (List.getElem?_eq_getElem (by rw[h.len];exact hil)) (List.getElem?_eq_getElem hil);exact h3'
  ·exact h.rise i (by omega)
 ·by_cases hil:i<l.length
  ·rw[List.getElem?_append_left (by rw[h.len];exact hil)]at hi;rw[List.getElem?_append_left hil]at hy;obtain⟨h1,h2,h3',h4,h5⟩:=h.each i c y hi hy;simp only[Nat.ne_of_lt hil,if_false];refine⟨h1,h2,by omega,hS w w3 _ _ _ _ (fun k a b=>?_) h4,fun g hg'=>?_⟩
   ·exact(hg.grown.block k (by omega) fun e'=>by
     have:=h5 k e'.symm;omega).trans (hb.block k (by omega) (by omega))
   ·rcases hg.fresh g hg' with h6 | h6
    ·exact h5 g h6
    ·right;omega
  ·have hi':i=l.length:=by
    have:=(List.getElem?_eq_some_iff.1 hy).1;simp at this;omega
   subst hi';have hc:cs=c:=by
    rw[List.getElem?_append_right (by rw[h.len];exact Lr _),h.len]at hi;simpa using hi
   have hx:x=y:=by
    rw[List.getElem?_append_right (Lr _)]at hy;simpa using hy
   subst hc;subst hx;simp only[if_true];refine⟨hlo,hz1,hz3,hS w1 w3 _ _ _ _ (fun k a b=>?_) he,fun g hg'=>?_⟩
   ·exact hg.grown.block k b fun e'=>by have:=(hlt k e'.symm).2;omega
   ·rcases hg.fresh g hg' with h6 | h6
    ·have:=(hlt g h6).2;omega
    ·exact .inr h6
theorem RdIn.grewV{p B:Nat}{v':Value}{n:Nat}{xs:List Value}{zs:List Int}(h:RdIn w p B zs)(hg:Grew w w' v v')(ho:w.ownsRow lo e size v n xs)(hp:p<lo)(hB:B≤p)(hlo:lo≤w.heap.size):RdIn w' p B zs:=by
 obtain⟨A,c,q1,q2,q3,q4⟩:=h.is;have hb:=hg.below ho hlo;exact⟨A,c,q1.below hb hp,q2.below (hb.mono (by omega)),q3,q4⟩
theorem But.grewV{p:Nat}{v':Value}{n:Nat}{xs:List Value}(hg:Grew w w' v v')(ho:w.ownsRow lo e size v n xs)(b:World)(hb:But p b w)(hlo:b.heap.size≤lo):But p b w':=
 ⟨hg.grown.os.trans hb.os,hg.grown.tape.trans hb.tape,hg.grown.output.trans hb.output,Lq hb.size hg.size,fun k hk hne =>
  (hg.grown.block k (Nat.lt_of_lt_of_le hk hb.size) fun e=>by have:=(ho.lt k e.symm).1;omega).trans (hb.block k hk hne)⟩
end
theorem Xaj:(Tryz.prog.info? 78).map (fun i=>(i.zero,i.size,i.bytes))=some (some (.agg (zeros 32).toArray),32,32):=by kernel_rfl
theorem Xbn:(Value.agg (zeros 32).toArray).cells.size=32:=by kernel_rfl
theorem Xq9{w:World}{lo hi:Nat}{cs:List Value}{x:(List Int)}(h:KeyV w lo hi cs x):cs.length=32:=by
 rw[h.1,bL,h.2]
theorem Xuu{w:World}{lo hi:Nat}{cs:List Value}{x:(List Int)}(h:KeyV w lo hi cs x):∀u ∈ cs,u.oneCell'=true:=by
 rw[h.1];exact Xae x
theorem key_c(p B:Nat)(zs:List Int)(w:World)(h:RdIn w p B zs)(hB:B≤p) :
 Calls Tryz.prog 166 #[.pointer (some ⟨p,0,none⟩)] w (Reads w p B (pTake 32 zs) fun w' v x=>∃cs:List Value,v=.agg cs.toArray∧KeyV w' w.heap.size w'.heap.size cs x):=by
 refine(key_ p B zs w h hB).mono ?_;rintro e w' (⟨x,r,v,h1,h2,⟨rfl,h3⟩,h4⟩ | h)
 ·exact .inl ⟨x,r,_,h1,h2,⟨_,rfl,rfl,h3⟩,h4⟩
 ·exact .inr h
def ListK(w:World)(p B:Nat)(zs:List Int)(e:Ending)(w':World):Prop:=
 Reads w p B (pList (pTake 32) zs) (fun w' v l=>l.length≤65535∧∃css L R,LV KeyV 78 32 w' w.heap.size v l css L R) e w'
theorem Xnd(p B:Nat)(zs:List Int)(w:World)(h:RdIn w p B zs)(hB:B≤p)(hz:AllBytes zs) :
 Calls Tryz.prog 165 #[.pointer (some ⟨p,0,none⟩),.func (.func 166) #[.pointer (some ⟨p,0,none⟩)] #[]] w (ListK w p B zs):=by
 have hp:=h.lt;have HS:=Hd (Xnn p B zs w h hB hz);have HZ:=Hd hz;have hmin:=@Xg6 Tryz.prog;obtain⟨i0,hi,hz0,hz1,hz2⟩:=info_parts Xaj;clear h hz;go_enter Tryz.func165,Tryz.ntmps165
 go_wp2_with fail;refine HS.out.mono ?_;rintro e w1 (⟨n,r,v,hP,rfl,⟨rfl,hn⟩,hr,hb⟩ | ⟨c,hP,rfl,hb⟩)
 ·have HP:=Hd hP;have HR:=Hd hr;have HB:=Hd hb;have hz1':=hb.size;have hrb:AllBytes r:=(Xee _ _ _ hP).bytes HZ.out;have HRB:=Hd hrb;clear hP hr hb hrb HS;by_cases h0:n=0
  ·subst h0;go_wp2_with fail;go_ret;refine .inl ⟨[],r,_,?_,rfl,⟨by simp,[],fun _=>0,fun _=>0,LV.none (World.ownsRow_nil _ _ _ _)⟩,HR.out,HB.out⟩;unfold pList;rw[HP.out];rfl
  ·have h0':((n:Int)==0)=false:=by simp;omega
   obtain⟨A,c,q1,q2,q3,q4⟩:=HR.out.is;have c0:w1.cell? ⟨p,0,none⟩=some (.slice A r.length c):=q1.cell 0;have HN0:=Hd h0;clear q1 q2 h0;unfold maxLen at q4;go_wp2_with (first
    | (at_make;go_must(refine wpList_make_own _ rfl (.const (.int .i64 0)) (.tmp 17) 34 rfl w.heap.size 78 i0 _ 32 Tryz.underlying34 hi hz0 hz1 .i64 .i64 _ (min n r.length) rfl ?_ rfl (by rw[hz2];omega) (by unfold maxLen;omega) hz1' ?_;go_simp;intro w2 hown hgrow)))
   have HO2:=Hd (LV.none (EV:=KeyV) (L:=fun _=>0) (R:=fun _=>0) hown);have hb2:Below w1.heap.size w1 w2:=(Br _ _).grown hgrow (Lr _) (fun k hk=>by cases hk);have HR2:=Hd (HR.out.below hb2 hB);have HB2:=Hd (HB.out.trans (But.of_below hb2 p));clear hown hgrow hb2 c0 hi hz0 hz1 hz2;go_loopw [6,20] (fun v i wr=>∃(k:Nat) (l:List (List Int)) (rest:List Int) (css:List (List Value)) (L R:Nat→Nat),k≤n∧i=.int .i64 k∧pMany (pTake 32) k r=.ok (l,rest)∧LV KeyV 78 32 wr w.heap.size v l css L R∧RdIn wr p B rest∧But p w wr) (fun v i _=>n - (intOf i).toNat)
   case atStart=>exact⟨0,[],r,[],_,_,Nat.zero_le _,rfl,rfl,HO2.out,HR2.out,HB2.out⟩
   case round =>
    clear HO2 HR2 HB2;obtain⟨k,l,rest,css,L,R,hk,rfl,hP2,ho,hr,hb⟩:=hrel;have HP2:=Hd hP2;have HO:=Hd ho;have HBR:=Hd hb;have hlk:=Xer _ _ _ _ _ hP2;by_cases hlt:k<n
    ·have HC:=Hd (key_c p B rest wr hr hB );have hzs:=hb.size;clear hP2 ho hr hb;go_wp2_with fail;refine HC.out.mono ?_;rintro e w3 (⟨x,rest',v,hP3,rfl,⟨cs,rfl,hev⟩,hr3,hb3⟩ | ⟨c,hP3,rfl,hb3⟩)
     ·have hz3:=hb3.size;have hcs:=Xq9 hev;have hc1:=Xuu hev;have ho3:=HO.out.but Xaw hb3 hp;have how:=ho3.own;have HP3:=Hd hP3;have HR3:=Hd hr3;have HB3':=Hd hb3;have HB3:=Hd (HBR.out.trans hb3);have HEV:=Hd hev;have HC1:=Hd hc1;have HOW:=Hd how;clear hP3 hr3 hb3 hev hc1 how ho3;go_wp2_with (first
       | (with_reducible show wpList _ _ _ (⟨some 25,_,_,_,_,_⟩::_) _ _;go_must(refine Xaa rfl 34 78 (.tmp 24) rfl cs _ 32 32 Tryz.underlying34 Xaj Xbn (by omega) (by omega) hcs ?_ ?_;go_simp))
       | (at_builtin;go_must(refine Xag rfl (.tmp 22) (.tmp 25) 34 rfl w.heap.size 78 _ 32 32 Tryz.underlying34 Xaj Xbn (by omega) _ l.length css.flatten cs 1 hcs HC1.out rfl ?_ HOW.out ?_ (by omega) (by unfold maxLen;omega) (by omega) ?_;go_simp;go_simp;intro v4 w4 ho4 hg4;have HO4:=Hd (HO.out.snoc Xaw HB3'.out hp hzs HEV.out hg4 ho4);have HR4:=Hd (HR3.out.grewV hg4 HOW.out hp hB (by omega));have HB4:=Hd (But.grewV hg4 HOW.out w HB3.out (Lr _));clear ho4 hg4)))
      go_roundw
      case rel =>
       refine⟨k+1,l++[x],rest',_,_,_,by omega,by go_num,?_,HO4.out,HR4.out,HB4.out⟩;rw[Xbd,HP2.out];simp only[HP3.out]
      case measure=>simp[intOf];omega
     ·refine⟨rfl,.inr ⟨c,?_,rfl,HBR.out.trans hb3⟩⟩;unfold pList;rw[HP.out];refine Xe2 (pTake 32) (k:=k+1) ?_ n (by omega);rw[Xbd,HP2.out];simp only[hP3]
    ·have HKK:=Hd (show k=n by omega);have HR2:=Hd hr;clear hP2 ho hr hb;go_wp2_with fail;go_ret;refine .inl ⟨l,rest,_,?_,rfl,⟨by have:=HKK.out;omega,_,_,_,HO.out⟩,HR2.out,HBR.out⟩;unfold pList;rw[HP.out,←HKK.out];exact HP2.out
 ·refine⟨rfl,.inr ⟨c,?_,rfl,hb⟩⟩;unfold pList;rw[hP]
theorem Xed:(Tryz.prog.info? 131).map (fun i=>(i.zero,i.size,i.bytes))=some (some (.agg (inCells 0 (.slice none 0 0) (.slice none 0 0)).toArray),3,56):=by kernel_rfl
theorem Xgt:(Value.agg (inCells 0 (.slice none 0 0) (.slice none 0 0)).toArray).cells.size=3:=by kernel_rfl
theorem Xmr{w:World}{lo hi:Nat}{cs:List Value}{x:LIn}(h:InV w lo hi cs x):cs.length=3:=by
 obtain⟨_,_,_,rfl,_⟩:=h;rfl
theorem Xwx{w:World}{lo hi:Nat}{cs:List Value}{x:LIn}(h:InV w lo hi cs x):∀u ∈ cs,u.oneCell'=true:=by
 obtain⟨va,vd,mid,rfl,_,_,h4,h5⟩:=h;intro u hu;simp only[inCells,List.mem_cons,List.not_mem_nil,or_false]at hu;rcases hu with rfl | rfl | rfl
 ·rfl
 ·exact h4.own.one
 ·exact h5.own.one
def ListI(w:World)(p B:Nat)(zs:List Int)(e:Ending)(w':World):Prop:=
 Reads w p B (pList pIn zs) (fun w' v l=>l.length≤65535∧∃css L R,LV InV 131 3 w' w.heap.size v l css L R) e w'
theorem Xsj(p B:Nat)(zs:List Int)(w:World)(h:RdIn w p B zs)(hB:B≤p)(hz:AllBytes zs) :
 Calls Tryz.prog 167 #[.pointer (some ⟨p,0,none⟩),.func (.func 168) #[.pointer (some ⟨p,0,none⟩)] #[]] w (ListI w p B zs):=by
 have hp:=h.lt;have HS:=Hd (Xnn p B zs w h hB hz);have HZ:=Hd hz;have hmin:=@Xg6 Tryz.prog;obtain⟨i0,hi,hz0,hz1,hz2⟩:=info_parts Xed;clear h hz;go_enter Tryz.func167,Tryz.ntmps167
 go_wp2_with fail;refine HS.out.mono ?_;rintro e w1 (⟨n,r,v,hP,rfl,⟨rfl,hn⟩,hr,hb⟩ | ⟨c,hP,rfl,hb⟩)
 ·have HP:=Hd hP;have HR:=Hd hr;have HB:=Hd hb;have hz1':=hb.size;have hrb:AllBytes r:=(Xee _ _ _ hP).bytes HZ.out;have HRB:=Hd hrb;clear hP hr hb hrb HS;by_cases h0:n=0
  ·subst h0;go_wp2_with fail;go_ret;refine .inl ⟨[],r,_,?_,rfl,⟨by simp,[],fun _=>0,fun _=>0,LV.none (World.ownsRow_nil _ _ _ _)⟩,HR.out,HB.out⟩;unfold pList;rw[HP.out];rfl
  ·have h0':((n:Int)==0)=false:=by simp;omega
   obtain⟨A,c,q1,q2,q3,q4⟩:=HR.out.is;have c0:w1.cell? ⟨p,0,none⟩=some (.slice A r.length c):=q1.cell 0;have HN0:=Hd h0;clear q1 q2 h0;unfold maxLen at q4;go_wp2_with (first
    | (at_make;go_must(refine wpList_make_own _ rfl (.const (.int .i64 0)) (.tmp 17) 37 rfl w.heap.size 131 i0 _ 3 Tryz.underlying37 hi hz0 hz1 .i64 .i64 _ (min n r.length) rfl ?_ rfl (by rw[hz2];omega) (by unfold maxLen;omega) hz1' ?_;go_simp;intro w2 hown hgrow)))
   have HO2:=Hd (LV.none (EV:=InV) (L:=fun _=>0) (R:=fun _=>0) hown);have hb2:Below w1.heap.size w1 w2:=(Br _ _).grown hgrow (Lr _) (fun k hk=>by cases hk);have HR2:=Hd (HR.out.below hb2 hB);have HB2:=Hd (HB.out.trans (But.of_below hb2 p));clear hown hgrow hb2 c0 hi hz0 hz1 hz2;go_loopw [6,20] (fun v i wr=>∃(k:Nat) (l:List LIn) (rest:List Int) (css:List (List Value)) (L R:Nat→Nat),k≤n∧i=.int .i64 k∧pMany pIn k r=.ok (l,rest)∧LV InV 131 3 wr w.heap.size v l css L R∧RdIn wr p B rest∧But p w wr) (fun v i _=>n - (intOf i).toNat)
   case atStart=>exact⟨0,[],r,[],_,_,Nat.zero_le _,rfl,rfl,HO2.out,HR2.out,HB2.out⟩
   case round =>
    clear HO2 HR2 HB2;obtain⟨k,l,rest,css,L,R,hk,rfl,hP2,ho,hr,hb⟩:=hrel;have HP2:=Hd hP2;have HO:=Hd ho;have HBR:=Hd hb;have hlk:=Xer _ _ _ _ _ hP2;by_cases hlt:k<n
    ·have HC:=Hd (instr_ p B rest wr hr hB ((Xf0 Xh6 _ _ _ _ hP2).bytes HRB.out));have hzs:=hb.size;clear hP2 ho hr hb;go_wp2_with fail;refine HC.out.mono ?_;rintro e w3 (⟨x,rest',v,hP3,rfl,⟨cs,rfl,hev⟩,hr3,hb3⟩ | ⟨c,hP3,rfl,hb3⟩)
     ·have hz3:=hb3.size;have hcs:=Xmr hev;have hc1:=Xwx hev;have ho3:=HO.out.but Xd7 hb3 hp;have how:=ho3.own;have HP3:=Hd hP3;have HR3:=Hd hr3;have HB3':=Hd hb3;have HB3:=Hd (HBR.out.trans hb3);have HEV:=Hd hev;have HC1:=Hd hc1;have HOW:=Hd how;clear hP3 hr3 hb3 hev hc1 how ho3;go_wp2_with (first
       | (with_reducible show wpList _ _ _ (⟨some 25,_,_,_,_,_⟩::_) _ _;go_must(refine Xaa rfl 37 131 (.tmp 24) rfl cs _ 3 56 Tryz.underlying37 Xed Xgt (by omega) (by omega) hcs ?_ ?_;go_simp))
       | (at_builtin;go_must(refine Xag rfl (.tmp 22) (.tmp 25) 37 rfl w.heap.size 131 _ 3 56 Tryz.underlying37 Xed Xgt (by omega) _ l.length css.flatten cs 1 hcs HC1.out rfl ?_ HOW.out ?_ (by omega) (by unfold maxLen;omega) (by omega) ?_;go_simp;go_simp;intro v4 w4 ho4 hg4;have HO4:=Hd (HO.out.snoc Xd7 HB3'.out hp hzs HEV.out hg4 ho4);have HR4:=Hd (HR3.out.grewV hg4 HOW.out hp hB (by omega));have HB4:=Hd (But.grewV hg4 HOW.out w HB3.out (Lr _));clear ho4 hg4)))
      go_roundw
      case rel =>
       refine⟨k+1,l++[x],rest',_,_,_,by omega,by go_num,?_,HO4.out,HR4.out,HB4.out⟩;rw[Xbd,HP2.out];simp only[HP3.out]
      case measure=>simp[intOf];omega
     ·refine⟨rfl,.inr ⟨c,?_,rfl,HBR.out.trans hb3⟩⟩;unfold pList;rw[HP.out];refine Xe2 pIn (k:=k+1) ?_ n (by omega);rw[Xbd,HP2.out];simp only[hP3]
    ·have HKK:=Hd (show k=n by omega);have HR2:=Hd hr;clear hP2 ho hr hb;go_wp2_with fail;go_ret;refine .inl ⟨l,rest,_,?_,rfl,⟨by have:=HKK.out;omega,_,_,_,HO.out⟩,HR2.out,HBR.out⟩;unfold pList;rw[HP.out,←HKK.out];exact HP2.out
 ·refine⟨rfl,.inr ⟨c,?_,rfl,hb⟩⟩;unfold pList;rw[hP]
theorem Xet:(Tryz.prog.info? 124).map (fun i=>(i.zero,i.size,i.bytes))=some (some (.agg lookZ.toArray),34,80):=by kernel_rfl
theorem Xh7:(Value.agg lookZ.toArray).cells.size=34:=by kernel_rfl
theorem Xj8{w:World}{lo hi:Nat}{cs:List Value}{x:LLook}(h:LookV w lo hi cs x):cs.length=34:=by
 obtain⟨_,_,_,rfl,h2,_⟩:=h;simp[bL,h2]
theorem Xt2{w:World}{lo hi:Nat}{cs:List Value}{x:LLook}(h:LookV w lo hi cs x):∀u ∈ cs,u.oneCell'=true:=by
 obtain⟨va,vd,mid,rfl,_,_,_,h4,h5⟩:=h;intro u hu;simp only[List.mem_append,List.mem_cons,List.not_mem_nil,or_false]at hu;rcases hu with hu | rfl | rfl
 ·exact Xae _ _ hu
 ·exact h4.own.one
 ·exact h5.own.one
def ListL(w:World)(p B:Nat)(zs:List Int)(e:Ending)(w':World):Prop:=
 Reads w p B (pList pLook zs) (fun w' v l=>l.length≤65535∧∃css L R,LV LookV 124 34 w' w.heap.size v l css L R) e w'
theorem Xsx(p B:Nat)(zs:List Int)(w:World)(h:RdIn w p B zs)(hB:B≤p)(hz:AllBytes zs) :
 Calls Tryz.prog 169 #[.pointer (some ⟨p,0,none⟩),.func (.func 170) #[.pointer (some ⟨p,0,none⟩)] #[]] w (ListL w p B zs):=by
 have hp:=h.lt;have HS:=Hd (Xnn p B zs w h hB hz);have HZ:=Hd hz;have hmin:=@Xg6 Tryz.prog;obtain⟨i0,hi,hz0,hz1,hz2⟩:=info_parts Xet;clear h hz;go_enter Tryz.func169,Tryz.ntmps169
 go_wp2_with fail;refine HS.out.mono ?_;rintro e w1 (⟨n,r,v,hP,rfl,⟨rfl,hn⟩,hr,hb⟩ | ⟨c,hP,rfl,hb⟩)
 ·have HP:=Hd hP;have HR:=Hd hr;have HB:=Hd hb;have hz1':=hb.size;have hrb:AllBytes r:=(Xee _ _ _ hP).bytes HZ.out;have HRB:=Hd hrb;clear hP hr hb hrb HS;by_cases h0:n=0
  ·subst h0;go_wp2_with fail;go_ret;refine .inl ⟨[],r,_,?_,rfl,⟨by simp,[],fun _=>0,fun _=>0,LV.none (World.ownsRow_nil _ _ _ _)⟩,HR.out,HB.out⟩;unfold pList;rw[HP.out];rfl
  ·have h0':((n:Int)==0)=false:=by simp;omega
   obtain⟨A,c,q1,q2,q3,q4⟩:=HR.out.is;have c0:w1.cell? ⟨p,0,none⟩=some (.slice A r.length c):=q1.cell 0;have HN0:=Hd h0;clear q1 q2 h0;unfold maxLen at q4;go_wp2_with (first
    | (at_make;go_must(refine wpList_make_own _ rfl (.const (.int .i64 0)) (.tmp 17) 38 rfl w.heap.size 124 i0 _ 34 Tryz.underlying38 hi hz0 hz1 .i64 .i64 _ (min n r.length) rfl ?_ rfl (by rw[hz2];omega) (by unfold maxLen;omega) hz1' ?_;go_simp;intro w2 hown hgrow)))
   have HO2:=Hd (LV.none (EV:=LookV) (L:=fun _=>0) (R:=fun _=>0) hown);have hb2:Below w1.heap.size w1 w2:=(Br _ _).grown hgrow (Lr _) (fun k hk=>by cases hk);have HR2:=Hd (HR.out.below hb2 hB);have HB2:=Hd (HB.out.trans (But.of_below hb2 p));clear hown hgrow hb2 c0 hi hz0 hz1 hz2;go_loopw [6,20] (fun v i wr=>∃(k:Nat) (l:List LLook) (rest:List Int) (css:List (List Value)) (L R:Nat→Nat),k≤n∧i=.int .i64 k∧pMany pLook k r=.ok (l,rest)∧LV LookV 124 34 wr w.heap.size v l css L R∧RdIn wr p B rest∧But p w wr) (fun v i _=>n - (intOf i).toNat)
   case atStart=>exact⟨0,[],r,[],_,_,Nat.zero_le _,rfl,rfl,HO2.out,HR2.out,HB2.out⟩
   case round =>
    clear HO2 HR2 HB2;obtain⟨k,l,rest,css,L,R,hk,rfl,hP2,ho,hr,hb⟩:=hrel;have HP2:=Hd hP2;have HO:=Hd ho;have HBR:=Hd hb;have hlk:=Xer _ _ _ _ _ hP2;by_cases hlt:k<n
    ·have HC:=Hd (look_ p B rest wr hr hB ((Xf0 Xj4 _ _ _ _ hP2).bytes HRB.out));have hzs:=hb.size;clear hP2 ho hr hb;go_wp2_with fail;refine HC.out.mono ?_;rintro e w3 (⟨x,rest',v,hP3,rfl,⟨cs,rfl,hev⟩,hr3,hb3⟩ | ⟨c,hP3,rfl,hb3⟩)
     ·have hz3:=hb3.size;have hcs:=Xj8 hev;have hc1:=Xt2 hev;have ho3:=HO.out.but Xe7 hb3 hp;have how:=ho3.own;have HP3:=Hd hP3;have HR3:=Hd hr3;have HB3':=Hd hb3;have HB3:=Hd (HBR.out.trans hb3);have HEV:=Hd hev;have HC1:=Hd hc1;have HOW:=Hd how;clear hP3 hr3 hb3 hev hc1 how ho3;go_wp2_with (first
       | (with_reducible show wpList _ _ _ (⟨some 25,_,_,_,_,_⟩::_) _ _;go_must(refine Xaa rfl 38 124 (.tmp 24) rfl cs _ 34 80 Tryz.underlying38 Xet Xh7 (by omega) (by omega) hcs ?_ ?_;go_simp))
       | (at_builtin;go_must(refine Xag rfl (.tmp 22) (.tmp 25) 38 rfl w.heap.size 124 _ 34 80 Tryz.underlying38 Xet Xh7 (by omega) _ l.length css.flatten cs 1 hcs HC1.out rfl ?_ HOW.out ?_ (by omega) (by unfold maxLen;omega) (by omega) ?_;go_simp;go_simp;intro v4 w4 ho4 hg4;have HO4:=Hd (HO.out.snoc Xe7 HB3'.out hp hzs HEV.out hg4 ho4);have HR4:=Hd (HR3.out.grewV hg4 HOW.out hp hB (by omega));have HB4:=Hd (But.grewV hg4 HOW.out w HB3.out (Lr _));clear ho4 hg4)))
      go_roundw
      case rel =>
       refine⟨k+1,l++[x],rest',_,_,_,by omega,by go_num,?_,HO4.out,HR4.out,HB4.out⟩;rw[Xbd,HP2.out];simp only[HP3.out]
      case measure=>simp[intOf];omega
     ·refine⟨rfl,.inr ⟨c,?_,rfl,HBR.out.trans hb3⟩⟩;unfold pList;rw[HP.out];refine Xe2 pLook (k:=k+1) ?_ n (by omega);rw[Xbd,HP2.out];simp only[hP3]
    ·have HKK:=Hd (show k=n by omega);have HR2:=Hd hr;clear hP2 ho hr hb;go_wp2_with fail;go_ret;refine .inl ⟨l,rest,_,?_,rfl,⟨by have:=HKK.out;omega,_,_,_,HO.out⟩,HR2.out,HBR.out⟩;unfold pList;rw[HP.out,←HKK.out];exact HP2.out
 ·refine⟨rfl,.inr ⟨c,?_,rfl,hb⟩⟩;unfold pList;rw[hP]
def LVR{α:Type}(EV:World→Nat→Nat→List Value→α→Prop)(e size:Nat)(w:World)(lo hi:Nat)(v:Value)(l:List α):Prop:=
 ∃w0 css L R,LV EV e size w0 lo v l css L R∧w0.heap.size=hi∧hi≤w.heap.size∧∀k,lo≤k→k<hi→w.heap[k]?=w0.heap[k]?
section
variable{α:Type}{EV:World→Nat→Nat→List Value→α→Prop}{e size:Nat}{w w':World}{lo hi:Nat}{v:Value}{l:List α}
theorem LVR.of{css:List (List Value)}{L R:Nat→Nat}(h:LV EV e size w lo v l css L R):LVR EV e size w lo w.heap.size v l:=⟨w,css,L,R,h,rfl,Lr _,fun _ _ _=>rfl⟩
theorem LVR.nil(w:World)(hlo:lo≤w.heap.size):LVR EV e size w lo w.heap.size (.slice none 0 0) []:=LVR.of (L:=fun _=>0) (R:=fun _=>0) (LV.none (World.ownsRow_nil w lo e size))
theorem LVR.but{p:Nat}(h:LVR EV e size w lo hi v l)(hb:But p w w')(hp:p<lo):LVR EV e size w' lo hi v l:=by
 obtain⟨w0,css,L,R,h1,h2,h3,h4⟩:=h;exact⟨w0,css,L,R,h1,h2,Lq h3 hb.size,fun k a b=>(hb.block k (by omega) (by omega)).trans (h4 k a b)⟩
theorem LVR.turned{g:Nat}(h:LVR EV e size w lo hi v l)(ht:Turned w w' g)(hg:g<lo):LVR EV e size w' lo hi v l:=by
 obtain⟨w0,css,L,R,h1,h2,h3,h4⟩:=h;exact⟨w0,css,L,R,h1,h2,by rw[ht.size];exact h3,fun k a b=>(ht.block k (by omega)).trans (h4 k a b)⟩
end
structure MsgV(w:World)(lo hi:Nat)(q:Raw)(m:LMsg):Prop where
 recent:m.recent.length=32
 short:m.keys.length≤65535∧m.ins.length≤65535∧m.looks.length≤65535
 is:∃a1 b1 a2 b2 a3 b3,(lo≤a1∧a1≤b1∧b1≤a2∧a2≤b2∧b2≤a3∧a3≤b3∧b3≤hi)∧LVR KeyV 78 32 w a1 b1 (.slice q.KA q.kn q.kc) m.keys∧LVR InV 131 3 w a2 b2 (.slice q.IA q.n q.ic) m.ins∧LVR LookV 124 34 w a3 b3 (.slice q.LA q.ln q.lc) m.looks
theorem MsgV.turned{w w':World}{lo hi g:Nat}{q:Raw}{m:LMsg}(h:MsgV w lo hi q m)(ht:Turned w w' g)(hg:g<lo):MsgV w' lo hi q m:=by
 obtain⟨a1,b1,a2,b2,a3,b3,h1,h5,h6,h7⟩:=h.is;exact⟨h.recent,h.short,a1,b1,a2,b2,a3,b3,h1,h5.turned ht (by omega),h6.turned ht (by omega),h7.turned ht (by omega)⟩
theorem MsgV.more{w:World}{lo hi hi':Nat}{q:Raw}{m:LMsg}(h:MsgV w lo hi q m)(hh:hi≤hi'):MsgV w lo hi' q m:=by
 obtain⟨a1,b1,a2,b2,a3,b3,h1,h5⟩:=h.is;exact⟨h.recent,h.short,a1,b1,a2,b2,a3,b3,by omega,h5⟩
theorem LVR.stay{α:Type}{EV:World→Nat→Nat→List Value→α→Prop}{e size:Nat}{w w':World}{lo hi:Nat}{v:Value}{l:List α}(h:LVR EV e size w lo hi v l)(hz:w.heap.size≤w'.heap.size)(hk:∀k,lo≤k→k<hi→w'.heap[k]?=w.heap[k]?):LVR EV e size w' lo hi v l:=by
 obtain⟨w0,css,L,R,h1,h2,h3,h4⟩:=h;exact⟨w0,css,L,R,h1,h2,Lq h3 hz,fun k a b=>(hk k a b).trans (h4 k a b)⟩
theorem MsgV.stay{w w':World}{lo hi:Nat}{q:Raw}{m:LMsg}(h:MsgV w lo hi q m)(hz:w.heap.size≤w'.heap.size)(hk:∀k,lo≤k→k<hi→w'.heap[k]?=w.heap[k]?):MsgV w' lo hi q m:=by
 obtain⟨a1,b1,a2,b2,a3,b3,h1,h5,h6,h7⟩:=h.is;exact⟨h.recent,h.short,a1,b1,a2,b2,a3,b3,h1,h5.stay hz fun k a b=>hk k (by omega) (by omega),h6.stay hz fun k a b=>hk k (by omega) (by omega),h7.stay hz fun k a b=>hk k (by omega) (by omega)⟩
def mcells(v0:Bool)(s r o:Int)(K:Value)(h:List Int)(I L:Value):List Value:=[.bool v0,.int .u8 s,.int .u8 r,.int .u8 o,K]++(bv h++[I,L])
def zero32:List Int:=List.replicate 32 0
theorem Xbc:zero32.length=32:=rfl
def mzero:List Value:=mcells false 0 0 0 (.slice none 0 0) zero32 (.slice none 0 0) (.slice none 0 0)
section
variable{w:World}{g t:Nat}{v0:Bool}{s r o:Int}{K I L:Value}{h:List Int}
theorem mset0(hr:Row w g t (mcells v0 s r o K h I L))(b:Bool):Row (w.setCell ⟨g,0,none⟩ (.bool b)) g t (mcells b s r o K h I L):=hr.set_ 0 _
theorem mset1(hr:Row w g t (mcells v0 s r o K h I L))(x:Int):Row (w.setCell ⟨g,1,none⟩ (.int .u8 x)) g t (mcells v0 x r o K h I L):=hr.set_ 1 _
theorem mset2(hr:Row w g t (mcells v0 s r o K h I L))(x:Int):Row (w.setCell ⟨g,2,none⟩ (.int .u8 x)) g t (mcells v0 s x o K h I L):=hr.set_ 2 _
theorem mset3(hr:Row w g t (mcells v0 s r o K h I L))(x:Int):Row (w.setCell ⟨g,3,none⟩ (.int .u8 x)) g t (mcells v0 s r x K h I L):=hr.set_ 3 _
theorem mset4(hr:Row w g t (mcells v0 s r o K h I L))(x:Value):Row (w.setCell ⟨g,4,none⟩ x) g t (mcells v0 s r o x h I L):=hr.set_ 4 _
theorem Xl4(hr:Row w g t (mcells v0 s r o K h I L))(hl:h.length=32)(x:Value):Row (w.setCell ⟨g,37,none⟩ x) g t (mcells v0 s r o K h x L):=by
 have e:=hr.set_ 37 x;unfold mcells at e;rw[List.set_append_right _ _ (by simp),List.set_append_right _ _ (by rw[bL,hl];simp),bL,hl]at e;exact e
theorem Xvk(hr:Row w g t (mcells v0 s r o K h I L))(hl:h.length=32)(x:Value):Row (w.setCell ⟨g,38,none⟩ x) g t (mcells v0 s r o K h I x):=by
 have e:=hr.set_ 38 x;unfold mcells at e;rw[List.set_append_right _ _ (by simp),List.set_append_right _ _ (by rw[bL,hl];simp),bL,hl]at e;exact e
theorem mpart{h':List Int}(hl:h.length=32)(hl':h'.length=32):(mcells v0 s r o K h I L).take 5++bv h'++(mcells v0 s r o K h I L).drop (5+(bv h').length)=mcells v0 s r o K h' I L:=by
 unfold mcells;rw[bL,hl',List.take_left' (by rfl),show 5+32=([Value.bool v0,.int .u8 s,.int .u8 r,.int .u8 o,K]:List Value).length+32 from rfl,List.drop_length_add_append];rw[List.drop_left' (by rw[bL,hl])];simp
theorem mlen(hl:h.length=32):(mcells v0 s r o K h I L).length=39:=by simp[mcells,bL,hl]
theorem mc37(hr:Row w g t (mcells v0 s r o K h I L))(hl:h.length=32):w.cell? ⟨g,37,none⟩=some I:=by
 rw[hr.cell];simp[mcells,bL,hl]
theorem mc38(hr:Row w g t (mcells v0 s r o K h I L))(hl:h.length=32):w.cell? ⟨g,38,none⟩=some L:=by
 rw[hr.cell];simp[mcells,bL,hl]
theorem mone(hK:K.oneCell'=true)(hI:I.oneCell'=true)(hL:L.oneCell'=true):∀u ∈ mcells v0 s r o K h I L,u.oneCell'=true:=by
 intro u hu;simp only[mcells,List.mem_append,List.mem_cons,List.not_mem_nil,or_false]at hu;rcases hu with(rfl | rfl | rfl | rfl | rfl) | hu | rfl | rfl
 all_goals first | rfl | assumption | exact Xae _ _ hu
end
structure At(w0 w:World)(p B g:Nat)(cs:List Value)(r:List Int):Prop where
 row:Row w g 40 cs
 rd:RdIn w p B r
 but:But p w0 w
theorem At.call{w0 w w':World}{p B g:Nat}{cs:List Value}{r r':List Int}(h:At w0 w p B g cs r)(hb:But p w w')(hr:RdIn w' p B r')(hg:g≠p):At w0 w' p B g cs r':=⟨hb.row h.row hg,hr,h.but.trans hb⟩
theorem At.set{w0 w:World}{p B g k:Nat}{v:Value}{cs cs':List Value}{r:List Int}(h:At w0 w p B g cs r)(hr:Row (w.setCell ⟨g,k,none⟩ v) g 40 cs')(hg:g≠p)(hB:B≤g)(h0:w0.heap.size≤g):At w0 (w.setCell ⟨g,k,none⟩ v) p B g cs' r:=
 ⟨hr,h.rd.turned (Xa2 w ⟨g,k,none⟩ v) hg hB,h.but.turned (Xa2 w ⟨g,k,none⟩ v) h0⟩
theorem At.turned{w0 w w':World}{p B g:Nat}{cs cs':List Value}{r:List Int}(h:At w0 w p B g cs r)(hr:Row w' g 40 cs')(ht:Turned w w' g)(hg:g≠p)(hB:B≤g)(h0:w0.heap.size≤g):At w0 w' p B g cs' r:=
 ⟨hr,h.rd.turned ht hg hB,h.but.turned ht h0⟩
def MsgDone(w:World)(p B:Nat)(zs:List Int)(e:Ending)(w':World):Prop:=
 Reads w p B (pMsg zs) (fun w' v m=>∃q:Raw,v=.agg (q.cells m).toArray∧MsgV w' w.heap.size w'.heap.size q m) e w'
theorem MsgDone.no{w w':World}{p B:Nat}{zs:List Int}{c:Int}(h:pMsg zs=.error c)(hb:But p w w'):MsgDone w p B zs (panics c) w':=.inr ⟨c,h,rfl,hb⟩
theorem Xu4(p B:Nat)(zs:List Int)(w:World)(h:RdIn w p B zs)(hB:B≤p)(hz:AllBytes zs) :
 Calls Tryz.prog 163 #[.pointer (some ⟨p,0,none⟩)] w (MsgDone w p B zs):=by
 have hp:=h.lt;have hgp:w.heap.size≠p:=Nat.ne_of_gt hp;have hBg:B≤w.heap.size:=by omega
 have HZ:=Hd hz;have ha0:At w (w.alloc (.cells mzero.toArray 40)) p B w.heap.size mzero zs:=⟨Row.new _ _ _,h.alloc hB _,(But.refl p w).alloc _⟩;have HA0:=Hd ha0;have hmf:∀(fn:Fn) (first cap:Array Value) (w:World),(Instr.makeFunc fn first cap).run Tryz.prog w=.ok (.func fn first cap) w:=fun _ _ _ _=>rfl
 have HC:=Hd (Xgx p B zs _ ha0.rd hB);have HG:=Hd (And.intro hgp (And.intro hBg (Lr w.heap.size)));clear h ha0 hz;go_enter Tryz.func163,Tryz.ntmps163
 go_wp2_with fail;refine HC.out.mono ?_;rintro e w1 (⟨x,r1,v,hP1,rfl,rfl,hr1,hb1⟩ | ⟨c,hP1,rfl,hb1⟩);rotate_left
 ·exact⟨rfl,MsgDone.no (by unfold pMsg pFirst;simp only[hP1]) (HA0.out.but.trans hb1)⟩
 have HA1:=Hd (HA0.out.call hb1 hr1 hgp);have HP1:=Hd hP1;have HZ1:=Hd ((Xau _ _ _ hP1).bytes HZ.out);clear hP1 hr1 hb1 HC HA0;by_cases hx:128<x
 ·go_wp2_with fail;exact⟨rfl,MsgDone.no (by unfold pMsg pFirst;simp only[HP1.out,if_pos hx]) HA1.out.but⟩
 have HNX:=Hd hx;have c0:=HA1.out.row.cell 0;have f0:=HA1.out.row.frozen 0;have c1:=HA1.out.row.cell 1;have f1:=HA1.out.row.frozen 1;have c0:w1.cell? ⟨w.heap.size,0,none⟩=some (.bool false):=c0;have c1:w1.cell? ⟨w.heap.size,1,none⟩=some (.int .u8 0):=c1;by_cases hx8:x=128
 ·have hx':(x==128)=true:=by simp[hx8]
  have HX:=Hd hx8;clear hx8;go_wp2_with fail;have HA:=Hd (((HA1.out.set (mset0 HA1.out.row true) HG.out.1 HG.out.2.1 HG.out.2.2)).set (mset1 (mset0 HA1.out.row true) x) HG.out.1 HG.out.2.1 HG.out.2.2);clear c0 f0 c1 f1 hx';generalize ((w1.setCell ⟨w.heap.size,0,none⟩ (.bool true)).setCell ⟨w.heap.size,1,none⟩ (.int .u8 x))=w1' at *;refine(Xgx p B r1 _ HA.out.rd hB).mono ?_;rintro e wa (⟨s,r,v,hPa,rfl,rfl,hra,hba⟩ | ⟨c,hPa,rfl,hba⟩);rotate_left
  ·exact⟨rfl,MsgDone.no (by unfold pMsg pFirst;simp only[HP1.out,if_neg (show ¬128<x by have:=HNX.out;omega),if_pos HX.out,hPa]) (HA.out.but.trans hba)⟩
  have HAa:=Hd (HA.out.call hba hra hgp);have c1:wa.cell? ⟨w.heap.size,1,none⟩=some (.int .u8 x):=HAa.out.row.cell 1;have f1:=HAa.out.row.frozen 1;have HPF:Hid (pFirst zs=.ok ((true,s),r)):=Hd (by unfold pFirst;simp only[HP1.out,if_neg (show ¬128<x by have:=HNX.out;omega),if_pos HX.out,hPa]);have HZR:=Hd ((Xau _ _ _ hPa).bytes HZ1.out);clear hPa hra hba HA;go_wp2_with fail;have HA:=Hd (HAa.out.set (mset1 HAa.out.row s) HG.out.1 HG.out.2.1 HG.out.2.2);clear c1 f1;generalize (wa.setCell ⟨w.heap.size,1,none⟩ (.int .u8 s))=wa' at *;refine(Xgx p B r _ HA.out.rd hB).mono ?_;rintro e w2 (⟨rs,r2,v,hP2,rfl,rfl,hr2,hb2⟩ | ⟨c,hP2,rfl,hb2⟩);rotate_left
  ·exact⟨rfl,MsgDone.no (by unfold pMsg;simp only[HPF.out,hP2]) (HA.out.but.trans hb2)⟩
  have HA2:=Hd (HA.out.call hb2 hr2 hgp);have HP2:=Hd hP2;have HZ2:=Hd ((Xau _ _ _ hP2).bytes HZR.out);have c2:w2.cell? ⟨w.heap.size,2,none⟩=some (.int .u8 0):=HA2.out.row.cell 2;have f2:=HA2.out.row.frozen 2;clear hP2 hr2 hb2;go_wp2_with fail;have HA2':=Hd (HA2.out.set (mset2 HA2.out.row rs) HG.out.1 HG.out.2.1 HG.out.2.2);clear c2 f2;generalize (w2.setCell ⟨w.heap.size,2,none⟩ (.int .u8 rs))=w2' at *;refine(Xgx p B r2 _ HA2'.out.rd hB).mono ?_;rintro e w3 (⟨ro,r3,v,hP3,rfl,rfl,hr3,hb3⟩ | ⟨c,hP3,rfl,hb3⟩);rotate_left
  ·exact⟨rfl,MsgDone.no (by unfold pMsg;simp only[HPF.out,HP2.out,hP3]) (HA2'.out.but.trans hb3)⟩
  have HA3:=Hd (HA2'.out.call hb3 hr3 hgp);have HP3:=Hd hP3;have HZ3:=Hd ((Xau _ _ _ hP3).bytes HZ2.out);have c3:w3.cell? ⟨w.heap.size,3,none⟩=some (.int .u8 0):=HA3.out.row.cell 3;have f3:=HA3.out.row.frozen 3;clear hP3 hr3 hb3;go_wp2_with fail;have HA3':=Hd (HA3.out.set (mset3 HA3.out.row ro) HG.out.1 HG.out.2.1 HG.out.2.2);clear c3 f3;generalize (w3.setCell ⟨w.heap.size,3,none⟩ (.int .u8 ro))=w3' at *;have hlt3:=HA3'.out.row.lt;refine(Xnd p B r3 _ HA3'.out.rd hB HZ3.out).mono ?_;rintro e w4 (⟨ks,r4,v,hP4,rfl,⟨hks,css,L,R,hv⟩,hr4,hb4⟩ | ⟨c,hP4,rfl,hb4⟩);rotate_left
  ·exact⟨rfl,MsgDone.no (by unfold pMsg;simp only[HPF.out,HP2.out,HP3.out,hP4]) (HA3'.out.but.trans hb4)⟩
  have HV4:=Hd (LVR.of hv);obtain⟨KA,kc,rfl⟩:=hv.form;have HA4:=Hd (HA3'.out.call hb4 hr4 hgp);have HP4:=Hd hP4;have HZ4:=Hd ((Xc0 (Xc4 32) _ _ _ hP4).bytes HZ3.out);have HS4:=Hd hb4.size;have HKS:=Hd hks;have c4:w4.cell? ⟨w.heap.size,4,none⟩=some (.slice none 0 0):=HA4.out.row.cell 4;have f4:=HA4.out.row.frozen 4;clear hP4 hr4 hb4 hv hks;go_wp2_with fail;have HA4':=Hd (HA4.out.set (mset4 HA4.out.row (.slice KA ks.length kc)) HG.out.1 HG.out.2.1 HG.out.2.2);have HT4:=Hd (Xa2 w4 ⟨w.heap.size,4,none⟩ (.slice KA ks.length kc));clear c4 f4;generalize (w4.setCell ⟨w.heap.size,4,none⟩ (.slice KA ks.length kc))=w4' at *;have HV4':=Hd (HV4.out.turned HT4.out hlt3);have HS4':=Hd HT4.out.size;refine(key_ p B r4 _ HA4'.out.rd hB).mono ?_;rintro e w5 (⟨hh,r5,v,hP5,rfl,⟨rfl,hh32⟩,hr5,hb5⟩ | ⟨c,hP5,rfl,hb5⟩);rotate_left
  ·exact⟨rfl,MsgDone.no (by unfold pMsg;simp only[HPF.out,HP2.out,HP3.out,HP4.out,hP5]) (HA4'.out.but.trans hb5)⟩
  have HA5:=Hd (HA4'.out.call hb5 hr5 hgp);have HP5:=Hd hP5;have HZ5:=Hd ((Xc4 32 _ _ _ hP5).bytes HZ4.out);have HV5:=Hd (HV4'.out.but hb5 (Nat.lt_trans hp hlt3));have HS5:=Hd hb5.size;have HH:=Hd hh32;have hsz:(Tryz.prog.info? 36).map (·.size)=some (bv hh).length:=by rw[Xec,bL,hh32]
  have HSZ:=Hd hsz;clear hP5 hr5 hb5 hh32 hsz;go_wp2_with (with_reducible show wpList _ _ _ (⟨none,Op.store 36 _ _,_,_,_,_⟩::_) _ _;go_must(refine Xa9 rfl 36 (.tmp 36) (.tmp 35) rfl w.heap.size 40 5 _ (bv hh) HA5.out.row HSZ.out (by rw[bL,HH.out,mlen Xbc];omega) (Xae hh) ?_ ?_ ?_;go_simp;go_simp;intro w5' hr5' ht5';have HA5':=Hd (HA5.out.turned (by rw[mpart Xbc HH.out]at hr5';exact hr5') ht5' HG.out.1 HG.out.2.1 HG.out.2.2);have HV5':=Hd (HV5.out.turned ht5' hlt3);have HS5':=Hd ht5'.size;clear hr5' ht5'))
  refine(Xsj p B r5 _ HA5'.out.rd hB HZ5.out).mono ?_;rintro e w6 (⟨is,r6,v,hP6,rfl,⟨his,css,L,R,hv⟩,hr6,hb6⟩ | ⟨c,hP6,rfl,hb6⟩);rotate_left
  ·exact⟨rfl,MsgDone.no (by unfold pMsg;simp only[HPF.out,HP2.out,HP3.out,HP4.out,HP5.out,hP6]) (HA5'.out.but.trans hb6)⟩
  have HW6:=Hd (LVR.of hv);obtain⟨IA,ic,rfl⟩:=hv.form;have HA6:=Hd (HA5'.out.call hb6 hr6 hgp);have HP6:=Hd hP6;have HZ6:=Hd ((Xc0 Xh6 _ _ _ hP6).bytes HZ5.out);have HV6:=Hd (HV5'.out.but hb6 (Nat.lt_trans hp hlt3));have HS6:=Hd hb6.size;have HIS:=Hd his;have c37:=mc37 HA6.out.row HH.out;have f37:=HA6.out.row.frozen 37;clear hP6 hr6 hb6 hv his;have c0:w6.cell? ⟨w.heap.size,0,none⟩=some (.bool true):=HA6.out.row.cell 0;go_wp2_with fail;have HA6':=Hd (HA6.out.set (Xl4 HA6.out.row HH.out (.slice IA is.length ic)) HG.out.1 HG.out.2.1 HG.out.2.2);have HT6:=Hd (Xa2 w6 ⟨w.heap.size,37,none⟩ (.slice IA is.length ic));clear c37 f37 c0;generalize (w6.setCell ⟨w.heap.size,37,none⟩ (.slice IA is.length ic))=w6' at *;have HS4a:=HS4.out;have HS5a:=HS5.out;have HS4b:=HS4'.out;have HS5b:=HS5'.out;have HV6':=Hd (HV6.out.turned HT6.out hlt3);have HW6':=Hd (HW6.out.turned HT6.out (by show w.heap.size<w5'.heap.size;omega));have HS6':=Hd HT6.out.size;clear HS4a HS5a HS4b HS5b;refine(Xsx p B r6 _ HA6'.out.rd hB HZ6.out).mono ?_;rintro e w7 (⟨ls,r7,v,hP7,rfl,⟨hls,css,L,R,hv⟩,hr7,hb7⟩ | ⟨c,hP7,rfl,hb7⟩);rotate_left
  ·exact⟨rfl,MsgDone.no (by unfold pMsg pLooks;simp only[HPF.out,HP2.out,HP3.out,HP4.out,HP5.out,HP6.out,if_true,hP7]) (HA6'.out.but.trans hb7)⟩
  have HX7:=Hd (LVR.of hv);obtain⟨LA,lc,rfl⟩:=hv.form;have HA7:=Hd (HA6'.out.call hb7 hr7 hgp);have HP7:=Hd hP7;have HS4a:=HS4.out;have HS5a:=HS5.out;have HS6a:=HS6.out;have HS4b:=HS4'.out;have HS5b:=HS5'.out;have HS6b:=HS6'.out;have HV7:=Hd (HV6'.out.but hb7 (Nat.lt_trans hp hlt3));have HW7:=Hd (HW6'.out.but hb7 (by omega));have HS7:=Hd hb7.size;have HLS:=Hd hls;have c38:=mc38 HA7.out.row HH.out;have f38:=HA7.out.row.frozen 38;have ha7:=HA7.out.set (Xvk HA7.out.row HH.out (.slice LA ls.length lc)) HG.out.1 HG.out.2.1 HG.out.2.2;have ht7:=Xa2 w7 ⟨w.heap.size,38,none⟩ (.slice LA ls.length lc);have HA7':=Hd ha7;have HT7:=Hd ht7;clear hP7 hr7 hb7 hv hls HS4a HS5a HS6a HS4b HS5b HS6b ha7 ht7;have hsz:(Tryz.prog.info? 40).map (·.size)=some (mcells true s rs ro (.slice KA ks.length kc) hh (.slice IA is.length ic) (.slice LA ls.length lc)).length:=by rw[Xat,mlen HH.out]
  have HSM:=Hd hsz;clear hsz;go_wp2_with (first
   | (with_reducible show wpList _ _ _ (⟨some 49,_,_,_,_,_⟩::_) _ _;go_must(refine Xa0 rfl 40 (.tmp 2) rfl w.heap.size 40 (mcells true s rs ro (.slice KA ks.length kc) hh (.slice IA is.length ic) (.slice LA ls.length lc)) _ Tryz.underlying40 rfl HSM.out HA7'.out.row ?_ ?_;go_simp))
   | (with_reducible show wpList _ _ _ (⟨none,Op.store 40 _ _,_,_,_,_⟩::_) _ _;go_must(refine Xa4 rfl 40 (.tmp 2) (.tmp 49) rfl w.heap.size (mcells true s rs ro (.slice KA ks.length kc) hh (.slice IA is.length ic) (.slice LA ls.length lc)) (mcells true s rs ro (.slice KA ks.length kc) hh (.slice IA is.length ic) (.slice LA ls.length lc)) HA7'.out.row HSM.out rfl (mone rfl rfl rfl) ?_ ?_ ?_;go_simp;go_simp;intro w8 hr8 ht8;have HA8:=Hd (HA7'.out.turned hr8 ht8 HG.out.1 HG.out.2.1 HG.out.2.2);have HT8:=Hd ht8;clear hr8 ht8)))
  refine bodyPost_ret (results_cell_row (h:=rfl) _ w8 w.heap.size 40 _ (0,0) _ (by rfl) HA8.out.row.is Tryz.underlying40 rfl (by rw[List.size_toArray];exact HSM.out)) rfl ?_;have e4:=HS4.out;have e4':=HS4'.out;have e5:=HS5.out;have e5':=HS5'.out;have e6:=HS6.out;have e7:=HT7.out.size;have e8:=HT8.out.size;have e6':=HS6'.out;have e7':=HS7.out;have v7:=HX7.out.turned HT7.out (by show w.heap.size<w6'.heap.size;omega);have v8:=v7.turned HT8.out (by omega);have k7:=HV7.out.turned HT7.out hlt3;have k8:=k7.turned HT8.out hlt3;have i7:=HW7.out.turned HT7.out (by show w.heap.size<w5'.heap.size;omega);have i8:=i7.turned HT8.out (by omega);refine .inl ⟨⟨true,s,rs,ro,ks,hh,is,ls⟩,r7,_,?_,rfl,⟨⟨KA,ks.length,kc,IA,is.length,ic,LA,ls.length,lc⟩,rfl,HH.out,⟨HKS.out,HIS.out,HLS.out⟩,_,_,_,_,_,_,?_,k8,i8,v8⟩,HA8.out.rd,HA8.out.but⟩
  ·unfold pMsg pLooks;simp only[HPF.out,HP2.out,HP3.out,HP4.out,HP5.out,HP6.out,if_true,HP7.out]
  ·refine⟨?_,?_,?_,?_,?_,?_,?_⟩ <;> omega
 ·have hx':(x==128)=false:=by simp[hx8]
  have HX:=Hd hx8;clear hx8;go_wp2_with fail;have HA:=Hd (((HA1.out.set (mset0 HA1.out.row false) HG.out.1 HG.out.2.1 HG.out.2.2)).set (mset1 (mset0 HA1.out.row false) x) HG.out.1 HG.out.2.1 HG.out.2.2);clear c0 f0 c1 f1 hx';generalize ((w1.setCell ⟨w.heap.size,0,none⟩ (.bool false)).setCell ⟨w.heap.size,1,none⟩ (.int .u8 x))=w1' at *;have HPF:Hid (pFirst zs=.ok ((false,x),r1)):=Hd (by unfold pFirst;simp only[HP1.out,if_neg (show ¬128<x by have:=HNX.out;omega),if_neg HX.out]);have HZR:=HZ1;refine(Xgx p B r1 _ HA.out.rd hB).mono ?_;rintro e w2 (⟨rs,r2,v,hP2,rfl,rfl,hr2,hb2⟩ | ⟨c,hP2,rfl,hb2⟩);rotate_left
  ·exact⟨rfl,MsgDone.no (by unfold pMsg;simp only[HPF.out,hP2]) (HA.out.but.trans hb2)⟩
  have HA2:=Hd (HA.out.call hb2 hr2 hgp);have HP2:=Hd hP2;have HZ2:=Hd ((Xau _ _ _ hP2).bytes HZR.out);have c2:w2.cell? ⟨w.heap.size,2,none⟩=some (.int .u8 0):=HA2.out.row.cell 2;have f2:=HA2.out.row.frozen 2;clear hP2 hr2 hb2;go_wp2_with fail;have HA2':=Hd (HA2.out.set (mset2 HA2.out.row rs) HG.out.1 HG.out.2.1 HG.out.2.2);clear c2 f2;generalize (w2.setCell ⟨w.heap.size,2,none⟩ (.int .u8 rs))=w2' at *;refine(Xgx p B r2 _ HA2'.out.rd hB).mono ?_;rintro e w3 (⟨ro,r3,v,hP3,rfl,rfl,hr3,hb3⟩ | ⟨c,hP3,rfl,hb3⟩);rotate_left
  ·exact⟨rfl,MsgDone.no (by unfold pMsg;simp only[HPF.out,HP2.out,hP3]) (HA2'.out.but.trans hb3)⟩
  have HA3:=Hd (HA2'.out.call hb3 hr3 hgp);have HP3:=Hd hP3;have HZ3:=Hd ((Xau _ _ _ hP3).bytes HZ2.out);have c3:w3.cell? ⟨w.heap.size,3,none⟩=some (.int .u8 0):=HA3.out.row.cell 3;have f3:=HA3.out.row.frozen 3;clear hP3 hr3 hb3;go_wp2_with fail;have HA3':=Hd (HA3.out.set (mset3 HA3.out.row ro) HG.out.1 HG.out.2.1 HG.out.2.2);clear c3 f3;generalize (w3.setCell ⟨w.heap.size,3,none⟩ (.int .u8 ro))=w3' at *;have hlt3:=HA3'.out.row.lt;refine(Xnd p B r3 _ HA3'.out.rd hB HZ3.out).mono ?_;rintro e w4 (⟨ks,r4,v,hP4,rfl,⟨hks,css,L,R,hv⟩,hr4,hb4⟩ | ⟨c,hP4,rfl,hb4⟩);rotate_left
  ·exact⟨rfl,MsgDone.no (by unfold pMsg;simp only[HPF.out,HP2.out,HP3.out,hP4]) (HA3'.out.but.trans hb4)⟩
  have HV4:=Hd (LVR.of hv);obtain⟨KA,kc,rfl⟩:=hv.form;have HA4:=Hd (HA3'.out.call hb4 hr4 hgp);have HP4:=Hd hP4;have HZ4:=Hd ((Xc0 (Xc4 32) _ _ _ hP4).bytes HZ3.out);have HS4:=Hd hb4.size;have HKS:=Hd hks;have c4:w4.cell? ⟨w.heap.size,4,none⟩=some (.slice none 0 0):=HA4.out.row.cell 4;have f4:=HA4.out.row.frozen 4;clear hP4 hr4 hb4 hv hks;go_wp2_with fail;have HA4':=Hd (HA4.out.set (mset4 HA4.out.row (.slice KA ks.length kc)) HG.out.1 HG.out.2.1 HG.out.2.2);have HT4:=Hd (Xa2 w4 ⟨w.heap.size,4,none⟩ (.slice KA ks.length kc));clear c4 f4;generalize (w4.setCell ⟨w.heap.size,4,none⟩ (.slice KA ks.length kc))=w4' at *;have HV4':=Hd (HV4.out.turned HT4.out hlt3);have HS4':=Hd HT4.out.size;refine(key_ p B r4 _ HA4'.out.rd hB).mono ?_;rintro e w5 (⟨hh,r5,v,hP5,rfl,⟨rfl,hh32⟩,hr5,hb5⟩ | ⟨c,hP5,rfl,hb5⟩);rotate_left
  ·exact⟨rfl,MsgDone.no (by unfold pMsg;simp only[HPF.out,HP2.out,HP3.out,HP4.out,hP5]) (HA4'.out.but.trans hb5)⟩
  have HA5:=Hd (HA4'.out.call hb5 hr5 hgp);have HP5:=Hd hP5;have HZ5:=Hd ((Xc4 32 _ _ _ hP5).bytes HZ4.out);have HV5:=Hd (HV4'.out.but hb5 (Nat.lt_trans hp hlt3));have HS5:=Hd hb5.size;have HH:=Hd hh32;have hsz:(Tryz.prog.info? 36).map (·.size)=some (bv hh).length:=by rw[Xec,bL,hh32]
  have HSZ:=Hd hsz;clear hP5 hr5 hb5 hh32 hsz;go_wp2_with (with_reducible show wpList _ _ _ (⟨none,Op.store 36 _ _,_,_,_,_⟩::_) _ _;go_must(refine Xa9 rfl 36 (.tmp 36) (.tmp 35) rfl w.heap.size 40 5 _ (bv hh) HA5.out.row HSZ.out (by rw[bL,HH.out,mlen Xbc];omega) (Xae hh) ?_ ?_ ?_;go_simp;go_simp;intro w5' hr5' ht5';have HA5':=Hd (HA5.out.turned (by rw[mpart Xbc HH.out]at hr5';exact hr5') ht5' HG.out.1 HG.out.2.1 HG.out.2.2);have HV5':=Hd (HV5.out.turned ht5' hlt3);have HS5':=Hd ht5'.size;clear hr5' ht5'))
  refine(Xsj p B r5 _ HA5'.out.rd hB HZ5.out).mono ?_;rintro e w6 (⟨is,r6,v,hP6,rfl,⟨his,css,L,R,hv⟩,hr6,hb6⟩ | ⟨c,hP6,rfl,hb6⟩);rotate_left
  ·exact⟨rfl,MsgDone.no (by unfold pMsg;simp only[HPF.out,HP2.out,HP3.out,HP4.out,HP5.out,hP6]) (HA5'.out.but.trans hb6)⟩
  have HW6:=Hd (LVR.of hv);obtain⟨IA,ic,rfl⟩:=hv.form;have HA6:=Hd (HA5'.out.call hb6 hr6 hgp);have HP6:=Hd hP6;have HZ6:=Hd ((Xc0 Xh6 _ _ _ hP6).bytes HZ5.out);have HV6:=Hd (HV5'.out.but hb6 (Nat.lt_trans hp hlt3));have HS6:=Hd hb6.size;have HIS:=Hd his;have c37:=mc37 HA6.out.row HH.out;have f37:=HA6.out.row.frozen 37;clear hP6 hr6 hb6 hv his;have c0:w6.cell? ⟨w.heap.size,0,none⟩=some (.bool false):=HA6.out.row.cell 0;have ha6:=HA6.out.set (Xl4 HA6.out.row HH.out (.slice IA is.length ic)) HG.out.1 HG.out.2.1 HG.out.2.2;have ht6:=Xa2 w6 ⟨w.heap.size,37,none⟩ (.slice IA is.length ic);have HA7':=Hd ha6;have HT7:=Hd ht6;clear ha6 ht6;have hsz:(Tryz.prog.info? 40).map (·.size)=some (mcells false x rs ro (.slice KA ks.length kc) hh (.slice IA is.length ic) (.slice none 0 0)).length:=by rw[Xat,mlen HH.out]
  have HSM:=Hd hsz;clear hsz;go_wp2_with (first
   | (with_reducible show wpList _ _ _ (⟨some 49,_,_,_,_,_⟩::_) _ _;go_must(refine Xa0 rfl 40 (.tmp 2) rfl w.heap.size 40 (mcells false x rs ro (.slice KA ks.length kc) hh (.slice IA is.length ic) (.slice none 0 0)) _ Tryz.underlying40 rfl HSM.out HA7'.out.row ?_ ?_;go_simp))
   | (with_reducible show wpList _ _ _ (⟨none,Op.store 40 _ _,_,_,_,_⟩::_) _ _;go_must(refine Xa4 rfl 40 (.tmp 2) (.tmp 49) rfl w.heap.size (mcells false x rs ro (.slice KA ks.length kc) hh (.slice IA is.length ic) (.slice none 0 0)) (mcells false x rs ro (.slice KA ks.length kc) hh (.slice IA is.length ic) (.slice none 0 0)) HA7'.out.row HSM.out rfl (mone rfl rfl rfl) ?_ ?_ ?_;go_simp;go_simp;intro w8 hr8 ht8;have HA8:=Hd (HA7'.out.turned hr8 ht8 HG.out.1 HG.out.2.1 HG.out.2.2);have HT8:=Hd ht8;clear hr8 ht8)))
  refine bodyPost_ret (results_cell_row (h:=rfl) _ w8 w.heap.size 40 _ (0,0) _ (by rfl) HA8.out.row.is Tryz.underlying40 rfl (by rw[List.size_toArray];exact HSM.out)) rfl ?_;have e4:=HS4.out;have e4':=HS4'.out;have e5:=HS5.out;have e5':=HS5'.out;have e6:=HS6.out;have e7:=HT7.out.size;have e8:=HT8.out.size;have k7:=HV6.out.turned HT7.out hlt3;have k8:=k7.turned HT8.out hlt3;have i7:=HW6.out.turned HT7.out (by show w.heap.size<w5'.heap.size;omega);have i8:=i7.turned HT8.out (by omega);have v8:=LVR.nil (EV:=LookV) (e:=124) (size:=34) (lo:=w8.heap.size) w8 (Lr _);refine .inl ⟨⟨false,x,rs,ro,ks,hh,is,[]⟩,r6,_,?_,rfl,⟨⟨KA,ks.length,kc,IA,is.length,ic,none,0,0⟩,rfl,HH.out,⟨HKS.out,HIS.out,by simp⟩,_,_,_,_,_,_,?_,k8,i8,v8⟩,HA8.out.rd,HA8.out.but⟩
  ·unfold pMsg pLooks;simp only[HPF.out,HP2.out,HP3.out,HP4.out,HP5.out,HP6.out];rfl
  ·refine⟨?_,?_,?_,?_,?_,?_,?_⟩ <;> omega
theorem Xmg(c:Int)(w:World):(Instr.typeAssert (.iface 49 (.int .i64 c)) 20 49 true).run Tryz.prog w=.ok (.tuple #[.int .i64 c,.bool true]) w:=by kernel_rfl
theorem Xhz(w:World):(Instr.typeAssert .nilIface 20 49 true).run Tryz.prog w=.ok (.tuple #[.int .i64 0,.bool false]) w:=by kernel_rfl
theorem Xbv:∀u ∈ mzero,u.oneCell'=true:=by unfold mzero;exact mone rfl rfl rfl
theorem Xrv(a b d i t x u:Value):(#[a,b,d]:Array Value)++(((((((Array.replicate 10 undef).setIfInBounds 3 i).setIfInBounds 4 t).setIfInBounds 2 t).setIfInBounds 5 x).setIfInBounds 6 u).setIfInBounds 0 x).setIfInBounds 1 u=#[a,b,d,x,u,t,i,t,x,u,undef,undef,undef]:=by kernel_rfl
theorem Xlc(g:Nat)(c:Int)(cs₀:List Value)(x y:Int)(w:World)(h0:Row w g 40 cs₀)(hl:cs₀.length=39)(h1:Row w (g+1) 3 [.int .i64 x])(h2:Row w (g+2) 49 [.int .i64 y]) :
 CallsD Tryz.prog 162 #[.pointer (some ⟨g,0,none⟩),.pointer (some ⟨g+1,0,none⟩),.pointer (some ⟨g+2,0,none⟩)] (.panicking ({ v:=.iface 49 (.int .i64 c),recovered:=false }::[])) w fun e u' w' =>
  e=.returned (.tuple #[])∧u'=.panicking ({ v:=.iface 49 (.int .i64 c),recovered:=true }::[])∧Row w' g 40 mzero∧Row w' (g+1) 3 [.int .i64 0]∧Row w' (g+2) 49 [.int .i64 c]∧Below g w w':=by
 refine callsD_of_wpS Tryz.func162 rfl fun c₀ cs hu=>?_
 apply wpS_seq
 apply wpS_region
 simp[wpOpsS,go_sem,Xmg,recoverD,hu,Tryz.ntmps162,Exit.thenS];refine wpS_of_wp ?_;rw[Xrv];have HS:=Hd (show(Tryz.prog.info? 40).map (·.size)=some mzero.length from Xat);have H0:=Hd h0;have H1:=Hd h1;have H2:=Hd h2;have HL:=Hd (show cs₀.length=mzero.length by rw[hl];rfl);clear h0 h1 h2 hl;go_wp2_with ((with_reducible show wpList _ _ _ (⟨none,Op.store 40 _ _,_,_,_,_⟩::_) _ _);go_must(refine Xa4 rfl 40 (.tmp 0) (.tmp 11) rfl g _ mzero H0.out HS.out HL.out Xbv ?_ ?_ ?_;go_simp;(go_simp;kernel_rfl);intro w1 hr1 ht1;have c1:=(ht1.row H1.out (by omega)).cell 0;have f1:=(ht1.row H1.out (by omega)).frozen 0;have c1:w1.cell? ⟨g+1,0,none⟩=some (.int .i64 x):=c1;have ht2:=Xa2 w1 ⟨g+1,0,none⟩ (.int .i64 0);have c2:=(ht2.row (ht1.row H2.out (by omega)) (show g+2≠g+1 by omega)).cell 0;have f2:=(ht2.row (ht1.row H2.out (by omega)) (show g+2≠g+1 by omega)).frozen 0;have c2:(w1.setCell ⟨g+1,0,none⟩ (.int .i64 0)).cell? ⟨g+2,0,none⟩=some (.int .i64 y):=c2;have HT1:=Hd ht1;have HR1:=Hd hr1;have HT2:=Hd ht2;clear ht1 hr1 ht2))
 have q1:=HT1.out.row H1.out (show g+1≠g by omega);have q2:=HT1.out.row H2.out (show g+2≠g by omega);have ht3:=Xa2 (w1.setCell ⟨g+1,0,none⟩ (.int .i64 0)) ⟨g+2,0,none⟩ (.int .i64 c);refine⟨rfl,_,rfl,.tuple #[],by simp[results,Tryz.results162],rfl,rfl,?_,?_,?_,?_⟩
 ·exact(HR1.out.far (show g≠g+1 by omega) _).far (show g≠g+2 by omega) _
 ·exact(q1.set_ 0 _).far (show g+1≠g+2 by omega) _
 ·exact(q2.far (show g+2≠g+1 by omega) _).set_ 0 _
 ·exact((HT1.out.below (Lr _)).setCell (show g≤g+1 by omega) _).setCell (show g≤g+2 by omega) _
theorem Xo9(p0 p1 p2:Addr)(w:World) :
 CallsD Tryz.prog 162 #[.pointer (some p0),.pointer (some p1),.pointer (some p2)] .returning w fun e u' w'=>e=.returned (.tuple #[])∧u'=.returning∧w'=w:=by
 refine callsD_of_wpS Tryz.func162 rfl fun c₀ cs hu=>?_
 apply wpS_seq
 apply wpS_region
 simp[wpOpsS,go_sem,Xhz,recoverD,hu,Tryz.ntmps162,Exit.thenS];refine wpS_of_wp ?_;rw[Xrv];go_wp2_with fail;exact⟨rfl,.returning,by rw[←hu],.tuple #[],by simp[results,Tryz.results162],rfl,rfl,rfl⟩
theorem Xm5:FromFront pFirst:=by
 intro zs x r h;unfold pFirst at h;split at h
 ·cases h
 ·rename_i e1
  split at h
  ·cases h
  ·split at h
   ·split at h
    ·cases h
    ·rename_i e2
     cases h
     exact(Xau _ _ _ e1).trans (Xau _ _ _ e2)
   ·cases h
    exact Xau _ _ _ e1
theorem Xlx(v0:Bool):FromFront (pLooks v0):=by
 intro zs x r h;unfold pLooks at h;split at h
 ·exact Xc0 Xj4 _ _ _ h
 ·cases h
  exact Left.refl _
theorem Xe0:FromFront pMsg:=by
 intro zs m r h;unfold pMsg at h;split at h
 ·cases h
 rename_i e1
 split at h
 ·cases h
 rename_i e2
 split at h
 ·cases h
 rename_i e3
 split at h
 ·cases h
 rename_i e4
 split at h
 ·cases h
 rename_i e5
 split at h
 ·cases h
 rename_i e6
 split at h
 ·cases h
 rename_i e7
 cases h
 exact((((((Xm5 _ _ _ e1).trans (Xau _ _ _ e2)).trans (Xau _ _ _ e3)).trans (Xc0 (Xc4 32) _ _ _ e4)).trans (Xc4 32 _ _ _ e5)).trans (Xc0 Xh6 _ _ _ e6)).trans (Xlx _ _ _ _ e7)
def GetDone(w:World)(zs:List Int)(e:Ending)(w':World):Prop:=
 (∃m r q lo,pMsg zs=.ok (m,r)∧e=.returned (.tuple #[.agg (Raw.cells q m).toArray,.int .i64 ((zs.length:Int) - r.length),.int .i64 0])∧w.heap.size≤lo∧MsgV w' lo w'.heap.size q m∧Below w.heap.size w w') ∨
 (∃c,pMsg zs=.error c∧e=.returned (.tuple #[.agg mzero.toArray,.int .i64 0,.int .i64 c])∧Below w.heap.size w w')
theorem Xci:(Tryz.prog.info? 40).map (·.size)=some mzero.length:=Xat
section
variable{P:Program}
theorem Xas(w:World)(a:Addr)(ty:TypeId)(v:Value)(d:TypeDesc)(hu:P.underlying ty=some d)(hd:d.isRow=false)(hc:w.cell? a=some v):(loadVar ty a).run P w=.ok v w:=by
 have hagg:(isAgg ty).run P w=.ok false w:=by
  unfold isAgg;rw[Sem.run_bind,run_underlying hu w];cases d <;> simp_all
 simp only[loadVar,Sem.run_bind,hagg,Result.andThen_ok];simp[load,Sem.run,hc]
theorem Xg1{fn:Func}{p0 p1 p2:Tmp}{t0 t1 t2:TypeId}(h:fn.results=#[.cell p0 t0,.cell p1 t1,.cell p2 t2])(tmps:Array Value)(w:World)(a0 a1 a2:Addr)(v0 v1 v2:Value)
 (h0:tmps.getD p0 undef=.pointer (some a0)) (h1:tmps.getD p1 undef=.pointer (some a1)) (h2:tmps.getD p2 undef=.pointer (some a2))
 (l0:(loadVar t0 a0).run P w=.ok v0 w) (l1:(loadVar t1 a1).run P w=.ok v1 w) (l2:(loadVar t2 a2).run P w=.ok v2 w) :
 (results fn tmps).run P w=.ok (.tuple #[v0,v1,v2]) w:=by
 have h0':tmps[p0]?.getD undef=.pointer (some a0):=by simpa using h0
 have h1':tmps[p1]?.getD undef=.pointer (some a1):=by simpa using h1
 have h2':tmps[p2]?.getD undef=.pointer (some a2):=by simpa using h2
 simp[results,h,h0',h1',h2',asAddr,l0,l1,l2]
theorem Xah{op:Oper}{a:Act}{w:World}{K:Act→World→Prop}{Q:Exit→Act→World→Prop}(ty:TypeId)(x y:Operand)(ho:op.op=.store ty x y)
 (g:Nat) (c cs:List Value) (hr:Row w g ty c) (hi:(P.info? ty).map (·.size)=some cs.length) (hl:c.length=cs.length) (h1:∀u ∈ cs,u.oneCell'=true)
 (hx:a.eval x=.pointer (some ⟨g,0,none⟩)) (hy:a.eval y=.agg cs.toArray)
 (h:∀w',Row w' g ty cs→Turned w w' g→K (a.put op.dst undef) w'):op.wp P a w K Q:=by
 unfold Oper.wp execOp;simp only[ho,hx,hy,Sem.run_bind,Sem.run_pure,Xdz w g ty c cs hr hi hl h1,Result.andThen_ok];exact h _ (Xgb hr cs) (Xek w g _)
end
theorem Xfc{P:Program}{fn:Func}{t t':Array Value}{R:Ending→World→Prop}(h:∀w,(results fn t').run P w=(results fn t).run P w):∀(ds:List Deferred) (u:FrameMode) (w:World),Leaves P fn t' R ds u w→Leaves P fn t R ds u w
 | [],.returning,w,⟨v,hr,hR⟩=>⟨v,(h w) ▸ hr,hR⟩
 | [],.panicking c,w,hR=>hR
 | [],.run,w,hR=>hR
 | d::ds,u,w,⟨hu,fv,cap,f,args,ht,hi,hc⟩=>⟨hu,fv,cap,f,args,ht,hi,hc.mono fun e u' w' he=>by
  cases e with
  | returned v=>exact Xfc h ds _ _ he
  | panicked c=>exact Xfc h ds _ _ he
  | outgrown=>exact he⟩
theorem Xjw(t:Array Value)(d a:Nat)(v:Value)(h:d≠a):(t.setIfInBounds d v).getD a undef=t.getD a undef:=by
 simp[Array.getElem?_setIfInBounds_ne h]
theorem Xco{K:Act→World→Prop}{R:Ending→World→Prop}(d:Nat)(hd:5≤d)(v:Value):∀c a w,Exit.then K (bodyPostD Tryz.prog Tryz.f153 R) (.panic c) (a.put (some d) v) w→Exit.then K (bodyPostD Tryz.prog Tryz.f153 R) (.panic c) a w:=by
 intro c a w h;refine Xfc (t':=(a.put (some d) v).tmps) (fun w=>?_) _ _ _ h;simp only[results,Tryz.results153];simp only[Act.put,List.mapM_toArray,List.mapM_cons,List.mapM_nil,Xjw _ d 2 v (by omega),Xjw _ d 3 v (by omega),Xjw _ d 4 v (by omega)]
theorem takeL{P:Program}{L:List Oper}{Q:Exit→Act→World→Prop}{md:Region.Mode}{S:World→Prop}{i:Nat}{oi:Oper}{v:Value}{fuel:Nat}{listed:Array Bool}{a:Act}{w:World}(hi:L[i]?=some oi)
 (hs:Region.noSelect L.toArray=true) (hf:Region.free md L.toArray listed i=true) (hr:(Region.ready md L.toArray listed).contains i=true)
 (hQ:∀c a w,Q (.panic c) (a.put oi.dst v) w→Q (.panic c) a w) (hy:YieldsIf P L.toArray S oi v a) (hS:S w)
 (h:wpAnyH P md L.toArray Q S fuel (listed.setIfInBounds i true) (a.put oi.dst v) w):wpAnyH P md L.toArray Q S (fuel+1) listed a w:=
 wpAnyH_take (by simpa using hi) hs hf hr hQ hy hS h
theorem readyL{P:Program}{L:List Oper}{Q:Exit→Act→World→Prop}{md:Region.Mode}{S:World→Prop}{i:Nat}{o:Oper}{fuel:Nat}{listed:Array Bool}{a:Act}{w:World}(ho:L[i]?=some o)(hr:Region.ready md L.toArray listed=[i])
 (hw:Region.wanted o (yielded L.toArray a.tmps)=true)
 (h:∀K':Act→World→Prop,Shut (∀a w,S w→wpAnyH P md L.toArray Q S fuel (listed.setIfInBounds i true) a w→K' a w)→Oper.wp P o a w K' Q):wpAnyH P md L.toArray Q S (fuel+1) listed a w:=
 wpAnyH_ready hr (by simp) (AllReadyH.cons (by simpa using ho) (fun K hK=>by
  rw[if_pos hw];exact h K (fun a w hS hW=>hK a w hS fun _=>hW)) AllReadyH.nil)
theorem Tk {P:Program} {L:List Oper} {Q:Exit → Act → World → Prop} {md:Region.Mode} {S:World → Prop} (i:Nat) {oi:Oper} {fuel:Nat} {listed:Array Bool} {a:Act} {w:World} (hi:L[i]? = some oi) {v:Value}
 (hy:∀ w, S w → (execOp a.eval oi).run P w = .ok (.value v) w) (hS:S w) (h:wpAnyH P md L.toArray Q S fuel (listed.setIfInBounds i true) (a.put oi.dst v) w) (_v:{u:Value // u=v})
 (hs:Region.noSelect L.toArray = true := by kernel_rfl) (hf:Region.free md L.toArray listed i = true := by kernel_rfl) (hr:(Region.ready md L.toArray listed).contains i = true := by kernel_rfl)
 (hQ:∀ c a w, Q (.panic c) (a.put oi.dst v) w → Q (.panic c) a w := by exact fun _ _ _ h => h) (hg:Region.wanted oi (yielded L.toArray a.tmps) = true := by rfl) : wpAnyH P md L.toArray Q S (fuel + 1) listed a w :=
 takeL hi hs hf hr hQ (Or.inl ⟨hg, hy⟩) hS h
theorem Tl {P:Program} {L:List Oper} {Q:Exit → Act → World → Prop} {md:Region.Mode} {S:World → Prop} (i:Nat) {oi:Oper} {v:Value} {fuel:Nat} {listed:Array Bool} {a:Act} {w:World} (hi:L[i]? = some oi)
 (hy:YieldsIf P L.toArray S oi v a) (hS:S w) (h:wpAnyH P md L.toArray Q S fuel (listed.setIfInBounds i true) (a.put oi.dst v) w)
 (hs:Region.noSelect L.toArray = true := by kernel_rfl) (hf:Region.free md L.toArray listed i = true := by kernel_rfl) (hr:(Region.ready md L.toArray listed).contains i = true := by kernel_rfl)
 (hQ:∀ c a w, Q (.panic c) (a.put oi.dst v) w → Q (.panic c) a w := by exact fun _ _ _ h => h) : wpAnyH P md L.toArray Q S (fuel + 1) listed a w :=
 takeL hi hs hf hr hQ hy hS h
theorem Rl {P:Program} {L:List Oper} {Q:Exit → Act → World → Prop} {md:Region.Mode} {S:World → Prop} (i:Nat) {o:Oper} {fuel:Nat} {listed:Array Bool} {a:Act} {w:World} (ho:L[i]? = some o)
 (h:∀ K':Act → World → Prop, Shut (∀ a w, S w → wpAnyH P md L.toArray Q S fuel (listed.setIfInBounds i true) a w → K' a w) → Oper.wp P o a w K' Q)
 (hr:Region.ready md L.toArray listed = [i] := by kernel_rfl) (hw:Region.wanted o (yielded L.toArray a.tmps) = true := by kernel_rfl) : wpAnyH P md L.toArray Q S (fuel + 1) listed a w :=
 readyL ho hr hw h
structure Last(g p:Nat)(cs:List Value)(v:Value)(w:World):Prop where
 c:w.cell? ⟨p,0,none⟩=some v
 r:w.rangeAt g 0 cs
theorem get_(A:Option Addr)(n c B:Nat)(zs:List Int)(w:World)(hs:Sees w B A n (bv zs))(hB:B≤w.heap.size)(hnc:n≤c)(hc:c≤maxLen)(hz:AllBytes zs) :
 Calls Tryz.prog 153 #[.slice A n c] w (GetDone w zs):=by
 have hn:zs.length=n:=by have:=hs.len;rwa [bL]at this
 subst hn;have hmf:∀(fn:Fn) (first cap:Array Value) (w:World),(Instr.makeFunc fn first cap).run Tryz.prog w=.ok (.func fn first cap) w:=fun _ _ _ _=>rfl
 obtain⟨w3,hw3⟩:∃w3,w3=((((w.alloc (.cells mzero.toArray 40)).alloc (.cells #[.int .i64 0] 3)).alloc (.cells #[.int .i64 0] 49)).alloc (.cells #[.slice A zs.length c] 243)):=⟨_,rfl⟩;have hsz3:w3.heap.size=w.heap.size+4:=by rw[hw3];simp
 have r0:Row w3 w.heap.size 40 mzero:=by rw[hw3];exact(((Row.new w _ mzero).alloc _).alloc _).alloc _
 have r1:Row w3 (w.heap.size+1) 3 [.int .i64 0]:=by rw[hw3];exact((Row.new' _ _ [.int .i64 0] (by simp)).alloc _).alloc _
 have r2:Row w3 (w.heap.size+2) 49 [.int .i64 0]:=by rw[hw3];exact(Row.new' _ _ [.int .i64 0] (by simp)).alloc _
 have r3:Row w3 (w.heap.size+3) 243 [.slice A zs.length c]:=by rw[hw3];exact Row.new' _ _ [.slice A zs.length c] (by simp)
 have b3:Below w.heap.size w w3:=by rw[hw3];exact((((Br _ w).alloc (Lr _) _).alloc (by simp) _).alloc (by simp;omega) _).alloc (by simp;omega) _
 have hrd:RdIn w3 (w.heap.size+3) B zs:=⟨A,c,r3,hs.below (b3.mono hB),hnc,hc⟩;have HM:=Hd (Xu4 (w.heap.size+3) B zs w3 hrd (by omega) hz);have R0:=Hd r0;have R1:=Hd r1;have R2:=Hd r2;have B3:=Hd b3;have HSZ:=Hd hsz3;have HN:=Hd (show zs.length≤maxLen by omega);have HM':∀W,W=w3→Hid (Calls Tryz.prog 163 #[.pointer (some ⟨w.heap.size+1+1+1,0,none⟩)] W (MsgDone w3 (w.heap.size+1+1+1) B zs)):=by rintro _ rfl;exact HM
 have HWW:=Hd HM';have HW3:=Hd hw3;clear r0 r1 r2 r3 b3 hrd hsz3 hs HM HM' hw3;go_enter_defers Tryz.func153,Tryz.ntmps153
 go_wp2_with fail;refine(HWW.out _ (by rw[HW3.out];kernel_rfl)).out.mono ?_;rintro e w4 (⟨m,r,v,hP,rfl,⟨q,rfl,hv⟩,hr,hb⟩ | ⟨x,hP,rfl,hb⟩)
 ·have hl39:=Xaq (q:=q) hv.recent;have HSM:=Hd (show(Tryz.prog.info? 40).map (·.size)=some (q.cells m).length by rw[Xat,hl39]);have hr0:=hb.row R0.out (by omega);have hr1:=hb.row R1.out (by omega);have hr2:=hb.row R2.out (by omega);have HR0:=Hd hr0;have HR1:=Hd hr1;have HR2:=Hd hr2;have HRD:=Hd hr;have HV:=Hd hv;have HP:=Hd hP;have HB4:=Hd (B3.out.trans (hb.below (show w.heap.size≤w.heap.size+3 by omega) (by rw[HSZ.out];omega)));have HS4:=Hd hb.size;have HL39:=Hd hl39;clear hr0 hr1 hr2 hr hv hP hb hl39;go_wp2_with ((with_reducible show wpList _ _ _ (⟨none,Op.store 40 _ _,_,_,_,_⟩::_) _ _);go_must(refine Xa4 rfl 40 (.tmp 2) (.tmp 11) rfl w.heap.size mzero (q.cells m) HR0.out HSM.out (by rw[HL39.out];rfl) Xcz ?_ ?_ ?_;go_simp;go_simp;intro w5 hr5 ht5;have HR5:=Hd hr5;have HT5:=Hd ht5;clear hr5 ht5))
  obtain⟨A',c',e1,e2,e3,e4⟩:=HRD.out.is;have hr5p:=HT5.out.row e1 (show w.heap.size+1+1+1≠w.heap.size by omega);have hS5:Last w.heap.size (w.heap.size+1+1+1) (q.cells m) (.slice A' r.length c') w5.drew:=⟨hr5p.drew.cell 0,fun j u hu=>by rw[HR5.out.drew.cell,Nat.zero_add];exact hu⟩;have HS5:=Hd hS5;have hr51:Row w5 (w.heap.size+1) 3 [.int .i64 0]:=HT5.out.row HR1.out (by omega);have hr52:Row w5 (w.heap.size+1+1) 49 [.int .i64 0]:=HT5.out.row HR2.out (by omega);have HR51:=Hd hr51;have HR52:=Hd hr52;clear hr5p hS5 e1 e2 hr51 hr52;refine wp_region_held (S:=Last w.heap.size (w.heap.size+1+1+1) (q.cells m) (.slice A' r.length c')) (by kernel_rfl) ?_;try(change wpAnyH _ _ _ _ _ _ _ _ (World.drew _))
  refine takeL (i:=0) (v:=.agg (q.cells m).toArray) rfl (by kernel_rfl) (by kernel_rfl) (by kernel_rfl) (Xco 12 (by omega) _) (yieldsIf_load_mid (by rfl) 40 (.tmp 2) rfl w.heap.size 0 (by go_simp) (q.cells m) _ (fun w hw=>hw.r) Tryz.underlying40 rfl HSM.out) HS5.out ?_;refine takeL (i:=1) (v:=?_) rfl (by kernel_rfl) (by kernel_rfl) (by kernel_rfl) (Xco 13 (by omega) _) (Or.inl ⟨by rfl,?_⟩) HS5.out ?_;rotate_left
  ·intro w hw;go_simp;try with_reducible rfl
  try simp only[nm]
  refine takeL (i:=2) (v:=?_) rfl (by kernel_rfl) (by kernel_rfl) (by kernel_rfl) (Xco 14 (by omega) _) (Or.inl ⟨by rfl,?_⟩) HS5.out ?_;rotate_left
  ·intro w hw;go_simp;try with_reducible rfl
  try simp only[nm]
  refine takeL (i:=3) (v:=?_) rfl (by kernel_rfl) (by kernel_rfl) (by kernel_rfl) (Xco 15 (by omega) _) (Or.inl ⟨by rfl,?_⟩) HS5.out ?_;rotate_left
  ·intro w hw;go_simp;try with_reducible rfl
  try simp only[nm]
  refine takeL (i:=4) (v:=?_) rfl (by kernel_rfl) (by kernel_rfl) (by kernel_rfl) (Xco 16 (by omega) _) (Or.inl ⟨by rfl,?_⟩) HS5.out ?_;rotate_left
  ·intro w hw;go_simp;try with_reducible rfl
  try simp only[nm]
  refine takeL (i:=5) (v:=?_) rfl (by kernel_rfl) (by kernel_rfl) (by kernel_rfl) (Xco 17 (by omega) _) (Or.inl ⟨by rfl,?_⟩) HS5.out ?_;rotate_left
  ·intro w hw;go_simp;try with_reducible rfl
  try simp only[nm]
  refine takeL (i:=6) (v:=?_) rfl (by kernel_rfl) (by kernel_rfl) (by kernel_rfl) (Xco 18 (by omega) _) (Or.inl ⟨by rfl,?_⟩) HS5.out ?_;rotate_left
  ·intro w hw;have hc:=hw.c;go_simp;try with_reducible rfl
  try simp only[nm]
  refine takeL (i:=7) (v:=?_) rfl (by kernel_rfl) (by kernel_rfl) (by kernel_rfl) (Xco 19 (by omega) _) (Or.inl ⟨by rfl,?_⟩) HS5.out ?_;rotate_left
  ·intro w hw;go_simp;try with_reducible rfl
  try simp only[nm]
  refine takeL (i:=8) (v:=?_) rfl (by kernel_rfl) (by kernel_rfl) (by kernel_rfl) (Xco 20 (by omega) _) (Or.inl ⟨by rfl,?_⟩) HS5.out ?_;rotate_left
  ·intro w hw;go_simp;try with_reducible rfl
  try simp only[nm]
  clear hmf;refine Rl 9 rfl fun K hK=>?_
  have HD:=Hd HR5.out.drew;refine Xah (P:=Tryz.prog) (w:=w5.drew) (K:=K) 40 (.tmp 2) (.tmp 12) ?_ w.heap.size (q.cells m) (q.cells m) HD.out HSM.out ?_ ?_ ?_ ?_ ?_
  ·rfl
  ·rfl
  ·exact Xcz
  ·go_simp
  ·go_simp
  intro w6 hr6 ht6;have hS6:Last w.heap.size (w.heap.size+1+1+1) (q.cells m) (.slice A' r.length c') w6:=⟨(World.cell?_of_block (ht6.block (w.heap.size+1+1+1) (by omega))).trans HS5.out.c,fun j u hu=>by rw[hr6.cell,Nat.zero_add];exact hu⟩;have hr61:=ht6.row HR51.out.drew (by omega);have hr62:=ht6.row HR52.out.drew (by omega);have c1:w6.cell? ⟨w.heap.size+1,0,none⟩=some (.int .i64 0):=hr61.cell 0;have f1:=hr61.frozen 0;have HR6:=Hd hr6;have HT6:=Hd ht6;have HR61:=Hd hr61;have HR62:=Hd hr62;have HS6:=Hd hS6;refine hK.out _ _ hS6 ?_;clear hK K hr6 ht6 hr61 hr62 hS6;refine Rl 10 rfl fun K hK=>?_
  have HK:=Hd hK.out;clear hK;go_simp;have hle:=(Xe0 _ _ _ HP.out).le;have hmx:=HN.out;unfold maxLen at hmx;have hwr:IntKind.i64.wrap ((zs.length:Int) - r.length)=(zs.length:Int) - r.length:=by rw[IntKind.wrap_i64];omega
  have ht7:=Xa2 w6 ⟨w.heap.size+1,0,none⟩ (.int .i64 (IntKind.i64.wrap ((zs.length:Int) - r.length)));have hr71:Row _ (w.heap.size+1) 3 [.int .i64 (IntKind.i64.wrap ((zs.length:Int) - r.length))]:=HR61.out.set_ 0 _;rw[hwr]at ht7 hr71 ⊢;have hr7:=ht7.row HR6.out (show w.heap.size≠w.heap.size+1 by omega);have hr72:=ht7.row HR62.out (show w.heap.size+1+1≠w.heap.size+1 by omega);have hS7:Last w.heap.size (w.heap.size+1+1+1) (q.cells m) (.slice A' r.length c') (w6.setCell ⟨w.heap.size+1,0,none⟩ (.int .i64 ((zs.length:Int) - r.length))):=
   ⟨(World.cell?_of_block (ht7.block (w.heap.size+1+1+1) (show w.heap.size+1+1+1≠w.heap.size+1 by omega))).trans HS6.out.c,fun j u hu=>by rw[hr7.cell,Nat.zero_add];exact hu⟩
  refine HK.out _ _ hS7 ?_;clear HK K c1 f1 hwr hmx hle;generalize (w6.setCell ⟨w.heap.size+1,0,none⟩ (.int .i64 ((zs.length:Int) - r.length)))=w7 at *;have HT7:=Hd ht7;have HR71:=Hd hr71;have HR7:=Hd hr7;have HR72:=Hd hr72;have HS7:=Hd hS7;have c2:w7.cell? ⟨w.heap.size+1+1,0,none⟩=some (.int .i64 0):=hr72.cell 0;have f2:=hr72.frozen 0;clear ht7 hr71 hr7 hr72 hS7;refine Rl 11 rfl fun K hK=>?_
  have HK:=Hd hK.out;clear hK;go_simp;have ht8:=Xa2 w7 ⟨w.heap.size+1+1,0,none⟩ (.int .i64 0);have hr82:Row _ (w.heap.size+1+1) 49 [.int .i64 0]:=HR72.out.set_ 0 _;have hr8:=ht8.row HR7.out (show w.heap.size≠w.heap.size+1+1 by omega);have hr81:=ht8.row HR71.out (show w.heap.size+1≠w.heap.size+1+1 by omega);have hS8:Last w.heap.size (w.heap.size+1+1+1) (q.cells m) (.slice A' r.length c') (w7.setCell ⟨w.heap.size+1+1,0,none⟩ (.int .i64 0)):=
   ⟨(World.cell?_of_block (ht8.block (w.heap.size+1+1+1) (show w.heap.size+1+1+1≠w.heap.size+1+1 by omega))).trans HS7.out.c,fun j u hu=>by rw[hr8.cell,Nat.zero_add];exact hu⟩
  refine HK.out _ _ hS8 ?_;clear HK K c2 f2;generalize (w7.setCell ⟨w.heap.size+1+1,0,none⟩ (.int .i64 0))=w8 at *;have HT8:=Hd ht8;have HR81:=Hd hr81;have HR8:=Hd hr8;have HR82:=Hd hr82;clear ht8 hr81 hr8 hr82 hS8;refine wpAnyH_done (by kernel_rfl) ?_ _;go_wp2_with fail;refine leaves_cons (f:=162) (args:=#[.pointer (some ⟨w.heap.size,0,none⟩),.pointer (some ⟨w.heap.size+1,0,none⟩),.pointer (some ⟨w.heap.size+1+1,0,none⟩)]) (by simp) (by simp[go_sem]) ?_;refine(Xo9 _ _ _ _).mono ?_;rintro e u' w9 ⟨rfl,rfl,rfl⟩;refine⟨_,Xg1 (h:=rfl) _ w9 ⟨w.heap.size,0,none⟩ ⟨w.heap.size+1,0,none⟩ ⟨w.heap.size+1+1,0,none⟩ _ _ _ (by rfl) (by rfl) (by rfl) (run_loadVar_row w9 w.heap.size 40 40 (q.cells m).toArray (0,0) _ HR8.out.is Tryz.underlying40 rfl (by rw[List.size_toArray];exact HSM.out)) (Xas w9 _ 3 _ _ Tryz.underlying3 rfl (HR81.out.cell 0)) (Xas w9 _ 49 _ _ Tryz.underlying49 rfl (HR82.out.cell 0)),?_⟩;have e3:=HSZ.out;have e5:=HT5.out.size;have e6:w6.heap.size=w5.heap.size:=HT6.out.size;have e7:=HT7.out.size;have e8:=HT8.out.size;have t6:Turned w5 w6 w.heap.size:=⟨HT6.out.os,HT6.out.tape,HT6.out.output,HT6.out.size,HT6.out.block⟩;have v5:=HV.out.turned HT5.out (by omega);have v6:=v5.turned t6 (by omega);have v7:=v6.turned HT7.out (show w.heap.size+1<w3.heap.size by omega);have v8:=v7.turned HT8.out (show w.heap.size+1+1<w3.heap.size by omega);refine .inl ⟨m,r,q,w3.heap.size,HP.out,rfl,by omega,v8.more (by omega),?_⟩;exact(((HB4.out.trans (HT5.out.below (Lr _))).trans (t6.below (Lr _))).trans (HT7.out.below (show w.heap.size≤w.heap.size+1 by omega))).trans (HT8.out.below (show w.heap.size≤w.heap.size+1+1 by omega))
 ·have hr0:=hb.row R0.out (by omega);have hr1:=hb.row R1.out (by omega);have hr2:=hb.row R2.out (by omega);have hb4:=B3.out.trans (hb.below (show w.heap.size≤w.heap.size+3 by omega) (by rw[HSZ.out];omega));refine leaves_cons (f:=162) (args:=#[.pointer (some ⟨w.heap.size,0,none⟩),.pointer (some ⟨w.heap.size+1,0,none⟩),.pointer (some ⟨w.heap.size+1+1,0,none⟩)]) (by simp) (by simp[go_sem]) ?_;refine(Xlc w.heap.size x mzero 0 0 w4 hr0 (mlen Xbc) hr1 hr2).mono ?_;rintro e u' w5 ⟨rfl,rfl,h0,h1,h2,hb5⟩;refine⟨_,Xg1 (h:=rfl) _ w5 ⟨w.heap.size,0,none⟩ ⟨w.heap.size+1,0,none⟩ ⟨w.heap.size+1+1,0,none⟩ _ _ _ (by rfl) (by rfl) (by rfl) (run_loadVar_row w5 w.heap.size 40 40 mzero.toArray (0,0) _ h0.is Tryz.underlying40 rfl (by rw[List.size_toArray];exact Xci)) (Xas w5 _ 3 _ _ Tryz.underlying3 rfl (h1.cell 0)) (Xas w5 _ 49 _ _ Tryz.underlying49 rfl (h2.cell 0)),?_⟩;exact .inr ⟨x,hP,rfl,hb4.trans hb5⟩
section
variable{P:Program}
theorem Xai{ops:Array Oper}{rest:List Oper}{op:Oper}{a:Act}{w:World}{Q:Exit→Act→World→Prop}(hw:Region.wanted op (yielded ops a.tmps)=true)(ty:TypeId)(x:Operand)(ho:op.op=.load ty x)
 (p:Addr) (cs:List Value) (d:TypeDesc) (hu:P.underlying ty=some d) (hd:d.isRow=true) (hi:(P.info? ty).map (·.size)=some cs.length) (hc:∀j v,cs[j]?=some v→w.cell? (p.add j)=some v)
 (hx:a.eval x=.pointer (some p)) (h:wpList P ops Q rest (a.put op.dst (.agg cs.toArray)) w):wpList P ops Q (op::rest) a w:=
 BigFrame.wpList_want hw fun _ hK=>by
  unfold Oper.wp execOp;simp only[ho,hx,Sem.run_bind,Sem.run_pure,Xd2 w p ty cs d hc hu hd hi,Result.andThen_ok];exact hK _ _ h
end
theorem Xqg{xs ys:List Int}{k:Nat}(hx:k<xs.length)(hy:k<ys.length):xs.take (k+1)=ys.take (k+1)↔xs.take k=ys.take k∧xs.getD k 0=ys.getD k 0:=by
 rw[List.take_succ_eq_append_getElem hx,List.take_succ_eq_append_getElem hy,List.getD_eq_getElem?_getD,List.getD_eq_getElem?_getD,List.getElem?_eq_getElem hx,List.getElem?_eq_getElem hy];constructor
 ·intro h;have:=List.append_inj h (by simp;omega);simpa using this
 ·rintro⟨h,h'⟩;rw[h];simp at h';rw[h']
theorem Xi2(A B:Option Addr)(n m c d:Nat)(xs ys:List Int)(w:World)(S T:Nat)
 (hx:Sees w S A n (bv xs)) (hy:Sees w T B m (bv ys)) (hn:n≤maxLen) (hm:m≤maxLen) :
 Calls Tryz.prog 56 #[.slice A n c,.slice B m d] w fun e w'=>e=.returned (.bool (decide (xs=ys)))∧∃k,w'=w.drewN k:=by
 unfold maxLen at hn hm;have lx:=Hd hx.len;have ly:=Hd hy.len;by_cases hnm:n=m
 ·subst hnm;go_enter Tryz.func56,Tryz.ntmps56
  go_wp2;go_loopw [5] (fun i wr=>∃k j:Nat,k≤n∧i=.int .i64 k∧wr=w.drewN j∧xs.take k=ys.take k) (fun i _=>n - (intOf i).toNat)
  case atStart=>exact⟨0,0,Nat.zero_le _,rfl,rfl,by simp⟩
  case round =>
   obtain⟨k,j,hk,rfl,rfl,heq⟩:=hrel;have HEQ:=Hd heq;clear heq;by_cases hlt:k<n
   ·obtain⟨a,rfl,ha,hca⟩:=hx.byte hlt;obtain⟨b,rfl,hb,hcb⟩:=hy.byte hlt;have HT:=Hd (Xqg (xs:=xs) (ys:=ys) (k:=k) (by have:=lx.out;rw[bL]at this;omega) (by have:=ly.out;rw[bL]at this;omega));generalize hz:xs.getD k 0=z at *;generalize hz2:ys.getD k 0=y at *;clear hz hz2;by_cases hzy:z=y
    ·have hb1:(z != y)=false:=by simp[hzy]
     have HZ:=Hd hzy;clear hzy;go_wp2;go_quiet (fail)
     go_wp2;go_roundw
     case rel=>exact⟨k+1,j+nq,by omega,by go_num,by simp,HT.out.2 ⟨HEQ.out,HZ.out⟩⟩
     case measure=>simp[intOf];omega
    ·have hb1:(z != y)=true:=by simp[hzy]
     have HZ:=Hd hzy;clear hzy;go_wp2;go_quiet (fail)
     go_wp2;go_ret;exact⟨Xj7 fun h=>HZ.out (HT.out.1 (by rw[h])).2,j+nq,by simp⟩
   ·have hk':k=n:=by omega
    have HK:=Hd hk';clear hk';go_wp2;go_ret;have h1:=lx.out;have h2:=ly.out;rw[bL]at h1 h2;have h3:=HEQ.out;rw[HK.out,List.take_of_length_le (by omega),List.take_of_length_le (by omega)]at h3;exact⟨Xsr h3,j,rfl⟩
 ·have hb1:((n:Int) != (m:Int))=true:=by simp;omega
  have HN:=Hd hnm;clear hnm;go_enter Tryz.func56,Tryz.ntmps56
  go_wp2;go_ret;have h1:=lx.out;have h2:=ly.out;rw[bL]at h1 h2;exact⟨Xj7 fun h=>HN.out (by rw[←h1,←h2,h]),0,rfl⟩
section
variable{P:Program}{ops:Array Oper}{C:World→Prop}{Q:Act→Prop}{a:Act}{o:Oper}{rest:List Oper}
theorem Xa6(hw:Region.wanted o (yielded ops a.tmps)=true)(ty:TypeId)(x:Operand)(ho:o.op=.load ty x)
 (p:Addr) (cs:List Value) (d:TypeDesc) (hu:P.underlying ty=some d) (hd:d.isRow=true) (hi:(P.info? ty).map (·.size)=some cs.length) (hc:∀w,C w→∀j v,cs[j]?=some v→w.cell? (p.add j)=some v)
 (hx:a.eval x=.pointer (some p)) (h:wpQuiet P ops C Q rest (a.put o.dst (.agg cs.toArray))):wpQuiet P ops C Q (o::rest) a:=
 BigFrame.wpQuiet_want hw fun K hK=>⟨_,fun w hC=>by
  unfold Oper.quietAt execOp;simp only[ho,hx,Sem.run_bind,Sem.run_pure,Xd2 w p ty cs d (hc w hC) hu hd hi,Result.andThen_ok];exact⟨rfl,rfl⟩,hK _ h⟩
end
theorem Xhr:Tryz.prog.plainKey 5=true:=by kernel_rfl
theorem Xni:∃i,Tryz.prog.info? 5=some i:=by
 obtain⟨i,h,_⟩:=info_parts Xb3;exact⟨i,h⟩
theorem Xg7:Tryz.prog.cellsOf 5=1:=by kernel_rfl
theorem Xev(z:List Int)(w:World):∀(is:List Nat),(∀i ∈ is,i<z.length)→(Op.eqItems 9999 5 1 (bv z).toArray (bv z).toArray is).run Tryz.prog w=.ok true w
 | [],_=>by simp[Op.eqItems]
 | i::is,h=>by
  have hi:=h i (by simp);have hc:(bv z).toArray[i]?=some (.int .u8 (z.getD i 0)):=by
   rw[List.getElem?_toArray];exact bv_at hi
  have p:=run_part_plain (P:=Tryz.prog) w Xhr (xs:=(bv z).toArray) (off:=i) hc;have ih:=Xev z w is fun k hk=>h k (by simp[hk])
  simp only[Op.eqItems,Nat.mul_one,Sem.run_bind,p,Result.andThen_ok,run_equalIn_int w 9998 5 .u8 .u8 _ _ Tryz.underlying5,beq_self_eq_true,Bool.not_true,Bool.false_eq_true,if_false];exact ih
theorem Xg8{t:TypeId}(ht:Tryz.prog.underlying t=some (.array 32 5))(z:List Int)(hz:z.length=32)(w:World) :
 (binOp .neq t (.agg (bv z).toArray) (.agg (bv z).toArray)).run Tryz.prog w=.ok (.bool false) w:=by
 obtain⟨i,hi⟩:=Xni;rw[run_neq_struct,show(10000:Nat)=9999+1 from rfl,run_equalIn_array w 9999 _ _ ht hi,Xg7,Xev z w _ (fun i hi=>by simp at hi;omega)];rfl
theorem Xt3(A B:Option Addr)(n c d:Nat)(l:List (List Int))(w:World)(S T:Nat)(hx:KeysIn w S A n l)(hy:KeysIn w T B n l)(hn:n≤maxLen) :
 Calls Tryz.prog 97 #[.slice A n c,.slice B n d] w fun e w'=>e=.returned (.bool true)∧∃k,w'=w.drewN k:=by
 unfold maxLen at hn;have HX:=Hd hx;have HY:=Hd hy;clear hx hy;go_enter Tryz.func97,Tryz.ntmps97
 go_wp2;go_loopw [5] (fun i wr=>∃k j:Nat,k≤n∧i=.int .i64 k∧wr=w.drewN j) (fun i _=>n - (intOf i).toNat)
 case atStart=>exact⟨0,0,Nat.zero_le _,rfl,rfl⟩
 case round =>
  obtain⟨k,j,hk,rfl,rfl⟩:=hrel;by_cases hlt:k<n
  ·obtain⟨a,x,rfl,ha,hxl,hxa⟩:=HX.out.get hlt;obtain⟨b,y,rfl,hb,hyl,hyb⟩:=HY.out.get hlt;obtain rfl:x=y:=by rw[hxl]at hyl;exact Option.some.inj hyl
   have ca:=hxa.cells;have cb:=hyb.cells;have NQ:=fun w=>Xg8 Tryz.underlying78 x hxa.len w
   have HSZ:=Hd (show(Tryz.prog.info? 78).map (·.size)=some (bv x).length by rw[Xab,bL,hxa.len]);have CA:=Hd ca;have CB:=Hd cb;clear ca cb hxl hyl;generalize bv x=X at *;go_wp2;refine wp_region_quiet_lit (by kernel_rfl) (by kernel_rfl) ?_;repeat (first
    | ((with_reducible show wpQuiet _ _ _ _ (⟨some 20,_,_,_,_,_⟩::_) _);go_must(refine Xa6 (by kernel_rfl) 78 (.tmp 19) rfl (a.add (k*32)) X _ Tryz.underlying78 rfl HSZ.out (by rintro _ ⟨nq,rfl⟩;exact CA.out) ?_ ?_;go_simp;go_simp))
    | ((with_reducible show wpQuiet _ _ _ _ (⟨some 24,_,_,_,_,_⟩::_) _);go_must(refine Xa6 (by kernel_rfl) 78 (.tmp 23) rfl (b.add (k*32)) X _ Tryz.underlying78 rfl HSZ.out (by rintro _ ⟨nq,rfl⟩;exact CB.out) ?_ ?_;go_simp;go_simp))
    | go_big_quiet_step (fail))
   refine wpQuiet_nil ?_;intro nq;go_wp2;go_roundw
   case rel=>exact⟨k+1,j+nq,by omega,by go_num,by simp⟩
   case measure=>simp[intOf];omega
  ·go_wp2;go_ret;exact⟨rfl,j,rfl⟩
theorem Xf9{P:Program}{f:FuncId}{args:Array Value}{w:World}{j n:Nat}{v:Value}
 (h:Calls P f args (w.drewN (j+n)) fun e w'=>e=.returned v∧∃m,w'=(w.drewN (j+n)).drewN m):Calls P f args (w.drewN (j+n)) fun e w''=>e=.returned v∧∃m,w''=w.drewN (j+m):=
 h.mono fun _ _ ⟨he,m,hm⟩=>⟨he,n+m,by rw[hm,World.drewN_drewN,Nat.add_assoc]⟩
theorem Xf7(A B:Option Addr)(n m c d:Nat)(xs:List Int)(w:World)(S T:Nat)
 (hx:Sees w S A n (bv xs)) (hy:Sees w T B m (bv xs)) (hn:n≤maxLen) (hm:m≤maxLen) :
 Calls Tryz.prog 56 #[.slice A n c,.slice B m d] w fun e w'=>e=.returned (.bool true)∧∃k,w'=w.drewN k:=by
 refine(Xi2 A B n m c d xs xs w S T hx hy hn hm).mono ?_;rintro e w' ⟨rfl,k,rfl⟩;exact⟨by simp,k,rfl⟩
theorem lens{w w':World}{B B':Nat}{q q':Raw}{m:LMsg}(h:MsgIn w B q m)(h':MsgIn w' B' q' m):q'.kn=q.kn∧q'.n=q.n∧q'.ln=q.ln:=
 ⟨h'.keys.len.symm.trans h.keys.len,h'.ins.len.symm.trans h.ins.len,h'.looks.len.symm.trans h.looks.len⟩
theorem Xv6(q q':Raw)(m:LMsg)(B B':Nat)(w:World)(h:MsgIn w B q m)(hB:B≤w.heap.size)(h':MsgIn w B' q' m)(hB':B'≤w.heap.size) :
 Calls Tryz.prog 59 #[.agg (q.cells m).toArray,.agg (q'.cells m).toArray] w fun e w'=>e=.returned (.bool true)∧Below w.heap.size w w':=by
 obtain⟨KA,kn,kc,IA,n,ic,LA,ln,lc⟩:=q;obtain⟨KB,kn',kd,IB,n',id,LB,ln',ld⟩:=q';obtain⟨e1,e2,e3⟩:=lens h h';dsimp only at e1 e2 e3
 obtain rfl:=e1.symm;obtain rfl:=e2.symm;obtain rfl:=e3.symm;have hr0:=(Row.new w 40 (Raw.cells ⟨KA,kn,kc,IA,n,ic,LA,ln,lc⟩ m)).alloc (.cells (Raw.cells ⟨KB,kn,kd,IB,n,id,LB,ln,ld⟩ m).toArray 40);have hr1:Row ((w.alloc (.cells (Raw.cells ⟨KA,kn,kc,IA,n,ic,LA,ln,lc⟩ m).toArray 40)).alloc (.cells (Raw.cells ⟨KB,kn,kd,IB,n,id,LB,ln,ld⟩ m).toArray 40)) (w.heap.size+1) 40 (Raw.cells ⟨KB,kn,kd,IB,n,id,LB,ln,ld⟩ m):=by
  have:=Row.new (w.alloc (.cells (Raw.cells ⟨KA,kn,kc,IA,n,ic,LA,ln,lc⟩ m).toArray 40)) 40 (Raw.cells ⟨KB,kn,kd,IB,n,id,LB,ln,ld⟩ m);simpa using this
 have hbw:=(((Br w.heap.size w).alloc (Lr _) (.cells (Raw.cells ⟨KA,kn,kc,IA,n,ic,LA,ln,lc⟩ m).toArray 40)).alloc (by simp) (.cells (Raw.cells ⟨KB,kn,kd,IB,n,id,LB,ln,ld⟩ m).toArray 40));have hw:MsgIn _ B _ m:=h.below (hbw.mono hB);have hw':MsgIn _ B' _ m:=h'.below (hbw.mono hB');have k1:=h.kn;have k2:=h.n;have k3:=h.ln;dsimp only at k1 k2 k3
 have hrec:=h.recent;have H5:=Hd (show ∀j u,(bv m.recent)[j]?=some u→(Raw.cells ⟨KA,kn,kc,IA,n,ic,LA,ln,lc⟩ m)[5+j]?=some u from fun j u h=>Xes h);have H5':=Hd (show ∀j u,(bv m.recent)[j]?=some u→(Raw.cells ⟨KB,kn,kd,IB,n,id,LB,ln,ld⟩ m)[5+j]?=some u from fun j u h=>Xes h);have HSZ:=Hd (show(Tryz.prog.info? 36).map (·.size)=some (bv m.recent).length by rw[Xec,bL,hrec]);have NQ:=fun w=>Xg8 Tryz.underlying36 m.recent hrec w
 have c0:(Raw.cells ⟨KA,kn,kc,IA,n,ic,LA,ln,lc⟩ m)[0]?=some (.bool m.v0):=rfl;have c1:(Raw.cells ⟨KA,kn,kc,IA,n,ic,LA,ln,lc⟩ m)[1]?=some (.int .u8 m.s):=rfl;have c2:(Raw.cells ⟨KA,kn,kc,IA,n,ic,LA,ln,lc⟩ m)[2]?=some (.int .u8 m.r):=rfl;have c3:(Raw.cells ⟨KA,kn,kc,IA,n,ic,LA,ln,lc⟩ m)[3]?=some (.int .u8 m.o):=rfl;have c4:(Raw.cells ⟨KA,kn,kc,IA,n,ic,LA,ln,lc⟩ m)[4]?=some (.slice KA kn kc):=rfl;have c37:(Raw.cells ⟨KA,kn,kc,IA,n,ic,LA,ln,lc⟩ m)[37]?=some (.slice IA n ic):=Xds hrec;have c38:(Raw.cells ⟨KA,kn,kc,IA,n,ic,LA,ln,lc⟩ m)[38]?=some (.slice LA ln lc):=Xdo hrec;have d0:(Raw.cells ⟨KB,kn,kd,IB,n,id,LB,ln,ld⟩ m)[0]?=some (.bool m.v0):=rfl;have d1:(Raw.cells ⟨KB,kn,kd,IB,n,id,LB,ln,ld⟩ m)[1]?=some (.int .u8 m.s):=rfl;have d2:(Raw.cells ⟨KB,kn,kd,IB,n,id,LB,ln,ld⟩ m)[2]?=some (.int .u8 m.r):=rfl;have d3:(Raw.cells ⟨KB,kn,kd,IB,n,id,LB,ln,ld⟩ m)[3]?=some (.int .u8 m.o):=rfl;have d4:(Raw.cells ⟨KB,kn,kd,IB,n,id,LB,ln,ld⟩ m)[4]?=some (.slice KB kn kd):=rfl;have d37:(Raw.cells ⟨KB,kn,kd,IB,n,id,LB,ln,ld⟩ m)[37]?=some (.slice IB n id):=Xds hrec;have d38:(Raw.cells ⟨KB,kn,kd,IB,n,id,LB,ln,ld⟩ m)[38]?=some (.slice LB ln ld):=Xdo hrec;generalize Raw.cells ⟨KA,kn,kc,IA,n,ic,LA,ln,lc⟩ m=ca at *;generalize Raw.cells ⟨KB,kn,kd,IB,n,id,LB,ln,ld⟩ m=cb at *;generalize bv m.recent=z32 at *;have HR0:=Hd hr0;have HR1:=Hd hr1;have HB:=Hd hbw;have HW:=Hd hw;have HW':=Hd hw';unfold maxLen at k1 k2 k3;clear hr0 hr1 hbw hw hw' h h' hrec;go_enter Tryz.func59,Tryz.ntmps59
 go_wp2_with (first
  | ((with_reducible show wpList _ _ _ (⟨some 21,_,_,_,_,_⟩::_) _ _);go_must(refine Xai (by kernel_rfl) 36 (.tmp 20) rfl ⟨w.heap.size,5,none⟩ z32 _ Tryz.underlying36 rfl HSZ.out (fun j u hu=>by rw[Xa5,HR0.out.cell];exact H5.out j u hu) ?_ ?_;go_simp))
  | ((with_reducible show wpList _ _ _ (⟨some 23,_,_,_,_,_⟩::_) _ _);go_must(refine Xai (by kernel_rfl) 36 (.tmp 22) rfl ⟨w.heap.size+1,5,none⟩ z32 _ Tryz.underlying36 rfl HSZ.out (fun j u hu=>by rw[Xa5,HR1.out.cell];exact H5'.out j u hu) ?_ ?_;go_simp)))
 refine(Xt3 KA KB kn kc kd m.keys _ B B' HW.out.keys HW'.out.keys (by unfold maxLen;omega)).mono ?_;rintro e w5 ⟨rfl,k5,hw5⟩;have hr5:Row w5 w.heap.size 40 ca:=by rw[hw5];exact HR0.out.drewN k5
 have hr5':Row w5 (w.heap.size+1) 40 cb:=by rw[hw5];exact HR1.out.drewN k5
 have hm5:MsgIn w5 B ⟨KA,kn,kc,IA,n,ic,LA,ln,lc⟩ m:=by rw[hw5];exact HW.out.drewN k5
 have hm5':MsgIn w5 B' ⟨KB,kn,kd,IB,n,id,LB,ln,ld⟩ m:=by rw[hw5];exact HW'.out.drewN k5
 have hb5:Below w.heap.size w w5:=by rw[hw5];exact below_drewN HB.out k5
 have g37:w5.cell? ⟨w.heap.size,37,none⟩=some (.slice IA n ic):=(hr5.cell 37).trans c37;have g38:w5.cell? ⟨w.heap.size,38,none⟩=some (.slice LA ln lc):=(hr5.cell 38).trans c38;have g37':w5.cell? ⟨w.heap.size+1,37,none⟩=some (.slice IB n id):=(hr5'.cell 37).trans d37;have g38':w5.cell? ⟨w.heap.size+1,38,none⟩=some (.slice LB ln ld):=(hr5'.cell 38).trans d38;have HI:=Hd hm5.ins;have HI':=Hd hm5'.ins;have HL:=Hd hm5.looks;have HL':=Hd hm5'.looks;have HB5:=Hd hb5;clear hr5 hr5' hm5 hm5' hb5 hw5 c0 c1 c2 c3 c4 c37 c38 d0 d1 d2 d3 d4 d37 d38 H5 H5' HSZ NQ HR0 HR1 HB HW HW';go_wp2_with fail;go_loopw [5] (fun i wr=>∃k j:Nat,k≤n∧i=.int .i64 k∧wr=w5.drewN j) (fun i _=>n - (intOf i).toNat)
 case atStart=>exact⟨0,0,Nat.zero_le _,rfl,rfl⟩
 case round =>
  obtain⟨k,j,hk,rfl,rfl⟩:=hrel;by_cases hlt:k<n
  ·obtain⟨a,x,va,vd,rfl,ha,hxl,hxa⟩:=HI.out.get hlt;obtain⟨b,y,vb,ve,rfl,hb,hyl,hyb⟩:=HI'.out.get hlt;obtain rfl:x=y:=by rw[hxl]at hyl;exact Option.some.inj hyl
   have p0:w5.cell? (a.add (k*3))=some (.int .u8 x.p):=by have:=hxa.cells 0 _ rfl;rwa [Xbr,Nat.add_zero]at this
   have p1:w5.cell? ⟨(a.add (k*3)).block,(a.add (k*3)).off+1,none⟩=some va:=hxa.cells 1 _ rfl;have p2:w5.cell? ⟨(a.add (k*3)).block,(a.add (k*3)).off+2,none⟩=some vd:=hxa.cells 2 _ rfl;have r0:w5.cell? (b.add (k*3))=some (.int .u8 x.p):=by have:=hyb.cells 0 _ rfl;rwa [Xbr,Nat.add_zero]at this
   have r1:w5.cell? ⟨(b.add (k*3)).block,(b.add (k*3)).off+1,none⟩=some vb:=hyb.cells 1 _ rfl;have r2:w5.cell? ⟨(b.add (k*3)).block,(b.add (k*3)).off+2,none⟩=some ve:=hyb.cells 2 _ rfl;have sa:=hxa.acc;have sd:=hxa.dat;have sb:=hyb.acc;have se:=hyb.dat;obtain⟨A1,m1,rfl,s1,s1a,s1b⟩:=sa.is;obtain⟨A2,m2,rfl,s2,s2a,s2b⟩:=sd.is;obtain⟨A3,m3,rfl,s3,s3a,s3b⟩:=sb.is;obtain⟨A4,m4,rfl,s4,s4a,s4b⟩:=se.is;have S1:=fun nn=>Xf7 A1 A3 _ _ m1 m3 x.acc (w5.drewN nn) _ _ (s1.drewN nn) (s3.drewN nn) (by omega) (by omega)
   have S2:=fun nn=>Xf7 A2 A4 _ _ m2 m4 x.dat (w5.drewN nn) _ _ (s2.drewN nn) (s4.drewN nn) (by omega) (by omega)
   have T1:=Hd S1;have T2:=Hd S2;clear S1 S2 s1 s2 s3 s4 sa sd sb se hxl hyl hxa hyb;go_wp2_with fail;refine wp_region_quiet_lit (by kernel_rfl) (by kernel_rfl) ?_;repeat (go_big_quiet_step (first | (go_at_call 56;with_reducible refine Xf9 (T1.out _)) | (go_at_call 56;with_reducible refine Xf9 (T2.out _))))
   refine wpQuiet_nil ?_;intro _ hwq;obtain⟨nq,hwq'⟩:=hwq;subst hwq';go_wp2_with fail;go_roundw
   case rel=>exact⟨k+1,j+nq,by omega,by go_num,by simp⟩
   case measure=>simp[intOf];omega
  ·go_wp2_with fail;obtain⟨w6,hw6⟩:∃w6,w6=w5.drewN j:=⟨_,rfl⟩;have h38:w6.cell? ⟨w.heap.size,38,none⟩=some (.slice LA ln lc):=by rw[hw6];exact g38
   have h38':w6.cell? ⟨w.heap.size+1,38,none⟩=some (.slice LB ln ld):=by rw[hw6];exact g38'
   have HL6:Hid (LooksIn w6 B LA ln m.looks):=by rw[hw6];exact Hd (HL.out.keep fun p hp=>rfl)
   have HL6':Hid (LooksIn w6 B' LB ln m.looks):=by rw[hw6];exact Hd (HL'.out.keep fun p hp=>rfl)
   have HB6:Hid (Below w.heap.size w w6):=by rw[hw6];exact Hd (below_drewN HB5.out j)
   rw[←hw6];clear hw6 HL HL' HB5 g38 g38' HI HI' g37 g37';go_loopw [6] (fun i wr=>∃k j:Nat,k≤ln∧i=.int .i64 k∧wr=w6.drewN j) (fun i _=>ln - (intOf i).toNat)
   case atStart=>exact⟨0,0,Nat.zero_le _,rfl,rfl⟩
   case round =>
    obtain⟨k,j,hk,rfl,rfl⟩:=hrel;by_cases hlt:k<ln
    ·obtain⟨a,x,va,vd,rfl,ha,hxl,hxa⟩:=HL6.out.get hlt;obtain⟨b,y,vb,ve,rfl,hb,hyl,hyb⟩:=HL6'.out.get hlt;obtain rfl:x=y:=by rw[hxl]at hyl;exact Option.some.inj hyl
     have hx32:=hxa.len;have p1:w6.cell? ⟨(a.add (k*34)).block,(a.add (k*34)).off+32,none⟩=some va:=hxa.cells 32 va (by rw[List.getElem?_append_right (by rw[bL,hx32];exact Lr _),bL,hx32];rfl);have p2:w6.cell? ⟨(a.add (k*34)).block,(a.add (k*34)).off+33,none⟩=some vd:=hxa.cells 33 vd (by rw[List.getElem?_append_right (by rw[bL,hx32];omega),bL,hx32];rfl);have r1:w6.cell? ⟨(b.add (k*34)).block,(b.add (k*34)).off+32,none⟩=some vb:=hyb.cells 32 vb (by rw[List.getElem?_append_right (by rw[bL,hx32];exact Lr _),bL,hx32];rfl);have r2:w6.cell? ⟨(b.add (k*34)).block,(b.add (k*34)).off+33,none⟩=some ve:=hyb.cells 33 ve (by rw[List.getElem?_append_right (by rw[bL,hx32];omega),bL,hx32];rfl);have CA:=Hd (show ∀j u,(bv x.tab)[j]?=some u→w6.cell? ((a.add (k*34)).add j)=some u from fun j u hu=>hxa.cells j u (by rw[List.getElem?_append_left (List.getElem?_eq_some_iff.1 hu).1];exact hu));have CB:=Hd (show ∀j u,(bv x.tab)[j]?=some u→w6.cell? ((b.add (k*34)).add j)=some u from fun j u hu=>hyb.cells j u (by rw[List.getElem?_append_left (List.getElem?_eq_some_iff.1 hu).1];exact hu));have HSZ:=Hd (show(Tryz.prog.info? 78).map (·.size)=some (bv x.tab).length by rw[Xab,bL,hx32]);have NQ:=fun w=>Xg8 Tryz.underlying78 x.tab hx32 w
     have sa:=hxa.wr;have sd:=hxa.rd;have sb:=hyb.wr;have se:=hyb.rd;obtain⟨A1,m1,rfl,s1,s1a,s1b⟩:=sa.is;obtain⟨A2,m2,rfl,s2,s2a,s2b⟩:=sd.is;obtain⟨A3,m3,rfl,s3,s3a,s3b⟩:=sb.is;obtain⟨A4,m4,rfl,s4,s4a,s4b⟩:=se.is;have S1:=fun nn=>Xf7 A1 A3 _ _ m1 m3 x.wr (w6.drewN nn) _ _ (s1.drewN nn) (s3.drewN nn) (by omega) (by omega)
     have S2:=fun nn=>Xf7 A2 A4 _ _ m2 m4 x.rd (w6.drewN nn) _ _ (s2.drewN nn) (s4.drewN nn) (by omega) (by omega)
     have T1:=Hd S1;have T2:=Hd S2;clear S1 S2 s1 s2 s3 s4 sa sd sb se hxl hyl hxa hyb hx32;generalize bv x.tab=X at *;go_wp2_with fail;refine wp_region_quiet_lit (by kernel_rfl) (by kernel_rfl) ?_;repeat (first
      | ((with_reducible show wpQuiet _ _ _ _ (⟨some 116,_,_,_,_,_⟩::_) _);go_must(refine Xa6 (by kernel_rfl) 78 (.tmp 115) rfl (a.add (k*34)) X _ Tryz.underlying78 rfl HSZ.out (by rintro _ ⟨nq,rfl⟩;exact CA.out) ?_ ?_;go_simp;go_simp))
      | ((with_reducible show wpQuiet _ _ _ _ (⟨some 122,_,_,_,_,_⟩::_) _);go_must(refine Xa6 (by kernel_rfl) 78 (.tmp 121) rfl (b.add (k*34)) X _ Tryz.underlying78 rfl HSZ.out (by rintro _ ⟨nq,rfl⟩;exact CB.out) ?_ ?_;go_simp;go_simp))
      | go_big_quiet_step (first | (go_at_call 56;with_reducible refine Xf9 (T1.out _)) | (go_at_call 56;with_reducible refine Xf9 (T2.out _))))
     refine wpQuiet_nil ?_;intro nq;go_wp2_with fail;go_roundw
     case rel=>exact⟨k+1,j+nq,by omega,by go_num,by simp⟩
     case measure=>simp[intOf];omega
    ·go_wp2_with fail;go_ret;exact⟨rfl,below_drewN HB6.out j⟩
end Go.Proofs.YtdgbodljmdcagaaGreatDoor
