import Derived.Test.YtdgbodljmdcagaaGreatDoorQ4
import Derived.Deep.CutBlock
import Derived.Laws.Tables
import Derived.ProofKit
import Derived.OpenShut
import Derived.ShutString
import Derived.ChangeOld
import Derived.Lib.SmallJoins
import Derived.Deep.Slices
import Derived.Deep.Strs
import Derived.SizedLaws
set_option maxRecDepth 100000
set_option maxHeartbeats 16000000
set_option linter.unusedSimpArgs false
set_option linter.unusedVariables false
namespace Go.Proofs.YtdgbodljmdcagaaGreatDoor
open Go.RowKit
structure RAt(w0 w:World)(B:Nat)(zs:List Int)(cs:List Value)(s:St):Prop where
 row:Row w (w0.heap.size+1+1) 40 cs
 res:Row w w0.heap.size 40 mzero
 tk:TkIn w (w0.heap.size+1) B zs s
 below:Below w0.heap.size w0 w
section
variable{w0 w w':World}{B:Nat}{zs:List Int}{cs cs':List Value}{s s':St}
theorem RAt.call(h:RAt w0 w B zs cs s)(hb:But (w0.heap.size+1) w w')(ht:TkIn w' (w0.heap.size+1) B zs s'):RAt w0 w' B zs cs s':=
 ⟨hb.row h.row (by omega),hb.row h.res (by omega),ht,h.below.trans (hb.below (by omega) h.below.size)⟩
theorem RAt.set{k:Nat}{v:Value}(h:RAt w0 w B zs cs s)(hB:B≤w0.heap.size)(hr:Row (w.setCell ⟨w0.heap.size+1+1,k,none⟩ v) (w0.heap.size+1+1) 40 cs'):RAt w0 (w.setCell ⟨w0.heap.size+1+1,k,none⟩ v) B zs cs' s:=
 ⟨hr,(Xa2 w ⟨w0.heap.size+1+1,k,none⟩ v).row h.res (by simp;omega),h.tk.turned (Xa2 w ⟨w0.heap.size+1+1,k,none⟩ v) (by simp) (by simp;omega),h.below.trans ((Xa2 w ⟨w0.heap.size+1+1,k,none⟩ v).below (by simp;omega))⟩
theorem RAt.turned(h:RAt w0 w B zs cs s)(hB:B≤w0.heap.size)(hr:Row w' (w0.heap.size+1+1) 40 cs')(ht:Turned w w' (w0.heap.size+1+1)):RAt w0 w' B zs cs' s:=
 ⟨hr,ht.row h.res (by omega),h.tk.turned ht (by omega) (by omega),h.below.trans (ht.below (by omega))⟩
end
def ecode:St→Int
 | .ok _=>0
 | .error c=>c
theorem TkIn.ecell{w:World}{p B:Nat}{zs:List Int}{s:St}(h:TkIn w p B zs s):w.cell? ⟨p,2,none⟩=some (.int .i64 (ecode s))∧((ecode s=0∧∃r,s=.ok r)∨(ecode s≠0∧∃c,s=.error c)):=by
 obtain⟨A,c,k,e,hr,_,_,_,_,h4⟩:=h.is;have h2:w.cell? ⟨p,2,none⟩=some (.int .i64 e):=hr.cell 2;rcases h4 with⟨rfl,rfl⟩ | ⟨rfl,he⟩
 ·exact⟨h2,.inl ⟨rfl,_,rfl⟩⟩
 ·exact⟨h2,.inr ⟨he,_,rfl⟩⟩
theorem Xfq{w w1:World}{B c:Nat}{A:Option Addr}{zs:List Int}{C:Array Value}(hx:Sees w B A zs.length (bv zs))(hnc:zs.length≤c∧(A=none→c=0))(hc:c≤maxLen)(hB:B≤w.heap.size)
 (hr:Row w1 ((w.alloc (.cells C 40)).alloc (.cells #[.slice A zs.length c,.int .i64 0,.int .i64 0] 232)).heap.size 40 mzero)
 (hb:Below ((w.alloc (.cells C 40)).alloc (.cells #[.slice A zs.length c,.int .i64 0,.int .i64 0] 232)).heap.size ((w.alloc (.cells C 40)).alloc (.cells #[.slice A zs.length c,.int .i64 0,.int .i64 0] 232)) w1)
 (hC:C=mzero.toArray:=by rfl):RAt w w1 B zs mzero (.ok zs):=by
 subst hC;have h0:Row ((w.alloc (.cells mzero.toArray 40)).alloc (.cells #[.slice A zs.length c,.int .i64 0,.int .i64 0] 232)) w.heap.size 40 mzero:=(Row.new w _ _).alloc _;have h1:Row ((w.alloc (.cells mzero.toArray 40)).alloc (.cells #[.slice A zs.length c,.int .i64 0,.int .i64 0] 232)) (w.heap.size+1) 232 [.slice A zs.length c,.int .i64 0,.int .i64 0]:=Row.new' _ _ _ (by simp);have h2:Below w.heap.size w ((w.alloc (.cells mzero.toArray 40)).alloc (.cells #[.slice A zs.length c,.int .i64 0,.int .i64 0] 232)):=((Br _ _).alloc (Lr _) _).alloc (by simp) _;have hz:((w.alloc (.cells mzero.toArray 40)).alloc (.cells #[.slice A zs.length c,.int .i64 0,.int .i64 0] 232)).heap.size=w.heap.size+1+1:=by simp
 rw[hz]at hr hb;have hb2:=h2.trans (hb.mono (by omega));exact⟨hr,h0.below hb (by omega),⟨A,c,0,0,h1.below hb (by omega),hx.below (hb2.mono hB),hnc,hc,by omega,.inl ⟨rfl,rfl⟩⟩,hb2⟩
theorem Xgq{zs r:List Int}{x a:Int}{s:St}(h:Step pOctet (.ok zs) x s)(hp:pOctet zs=.ok (a,r)):x=a∧s=.ok r:=by
 unfold Step at h;simp only[hp]at h;exact h
theorem Xkc{zs:List Int}{x k:Int}{s:St}(h:Step pOctet (.ok zs) x s)(hp:pOctet zs=.error k):s=.error k:=by
 unfold Step at h;simp only[hp]at h;exact h
def RefGot(w:World)(zs:List Int)(e:Ending)(w':World):Prop:=
 Below w.heap.size w w'∧((∃m r q,pMsg zs=.ok (m,r)∧e=.returned (.tuple #[.agg (q.cells m).toArray,.int .i64 ((zs.length - r.length:Nat):Int),.int .i64 0])∧MsgV w' w.heap.size w'.heap.size q m) ∨
  ∃k,pMsg zs=.error k∧e=.returned (.tuple #[.agg mzero.toArray,.int .i64 0,.int .i64 k]))
theorem Xc8{P:Program}{L:List Oper}{Q:Exit→Act→World→Prop}{md:Region.Mode}{S:World→Prop}{i j:Nat}{o o':Oper}{fuel:Nat}{listed:Array Bool}{a:Act}{w:World}(ho:L[i]?=some o)(ho':L[j]?=some o')(hr:Region.ready md L.toArray listed=[i,j])
 (hw:Region.wanted o (yielded L.toArray a.tmps)=true) (hw':Region.wanted o' (yielded L.toArray a.tmps)=true)
 (h:∀K':Act→World→Prop,Shut (∀a w,S w→wpAnyH P md L.toArray Q S fuel (listed.setIfInBounds i true) a w→K' a w)→Oper.wp P o a w K' Q)
 (h':∀K':Act→World→Prop,Shut (∀a w,S w→wpAnyH P md L.toArray Q S fuel (listed.setIfInBounds j true) a w→K' a w)→Oper.wp P o' a w K' Q):wpAnyH P md L.toArray Q S (fuel+1) listed a w:=
 wpAnyH_ready hr (by simp) (AllReadyH.cons (by simpa using ho) (fun K hK=>by
  rw[if_pos hw];exact h K (fun a w hS hW=>hK a w hS fun _=>hW)) (AllReadyH.cons (by simpa using ho') (fun K hK=>by
  rw[if_pos hw'];exact h' K (fun a w hS hW=>hK a w hS fun _=>hW)) AllReadyH.nil))
section
variable{P:Program}
theorem Xay{o:Oper}{a:Act}{w:World}{K:Act→World→Prop}{Q:Exit→Act→World→Prop}(t e:TypeId)(y:Operand)(ho:o.op=.buildSlice t 1 #[(0,y)])
 (cs:List Value) (z:Value) (size bytes:Nat) (hu:P.underlying t=some (.slice e)) (hi:(P.info? e).map (fun i=>(i.zero,i.size,i.bytes))=some (some z,size,bytes)) (hzs:z.cells.size=size) (hs0:0<size) (hs1:size≤1000)
 (hcs:cs.length=size) (hy:a.eval y=.agg cs.toArray)
 (h:K (a.put o.dst (.slice (some ⟨w.heap.size,0,none⟩) 1 1)) (w.alloc (.cells cs.toArray e))):o.wp P a w K Q:=by
 obtain⟨ie,hie,h1,h2,_⟩:=info_parts hi;subst h2;refine wp_buildSlice t e 1 _ ho cs.toArray ie z hu hie h1 (by omega) (by omega) ?_ h;have:=Go.Great.fill_whole (s:=ie.size) hs0 [Value.agg cs.toArray] ((Array.range (1*ie.size)).map (z.cells[· % z.cells.size]!)) (by simp[Value.cells,hcs]) (by simp);simpa [hy,Value.cells]using this
theorem Xca{w0:World}{c:Array Value}{o:Oper}{a:Act}{K:Act→World→Prop}{Q:Exit→Act→World→Prop}(s x:Operand)(t:TypeId)
 (ho:o.op=.call { callee:=.builtin .append,args:=#[s,x],argTypes:=#[t,t] })
 (base:Nat) (e:TypeId) (z:Value) (size bytes:Nat) (ht:P.underlying t=some (.slice e)) (hi:(P.info? e).map (fun i=>(i.zero,i.size,i.bytes))=some (some z,size,bytes)) (hzs:z.cells.size=size) (hs0:0<size)
 (v:Value) (n:Nat) (xs cs:List Value) (cc:Nat) (hcs:cs.length=size) (h1:∀u ∈ cs,u.oneCell'=true) (hc:c=cs.toArray) (hs:a.eval s=v) (hown:w0.ownsRow base e size v n xs)
 (hx:a.eval x=.slice (some ⟨w0.heap.size,0,none⟩) 1 cc) (hbase:base≤w0.heap.size) (hnm:n+1≤maxLen) (hbytes:(n+1)*bytes≤140737488355328)
 (h:∀v' w',w'.ownsRow base e size v' (n+1) (xs++cs)→Grew w0 w' v v'→K (a.put o.dst v') w'):o.wp P a (w0.alloc (.cells c e)) K Q:=by
 subst hc;obtain⟨i0,hi,hz0,hz1,hz2⟩:=info_parts hi;have hr:=Row.new w0 e cs;obtain⟨v',w',hrun,h2,h3,_,h5⟩:=run_append_own_at (P:=P) (w0.alloc (.cells cs.toArray e)) base t o.type e i0 z size bytes ht hi hz0 hz1 hz2 hzs hs0 v n xs (hown.alloc _) ⟨w0.heap.size,0,none⟩ 1 cc cs (by omega)
  (fun j u hu=>by rw[Xa5,hr.cell];simpa using hu) h1 hnm hbytes (by simp;omega)
 unfold Oper.wp execOp;simp only[ho,resolve,invoke,builtin,Sem.run_bind,Sem.run_pure,Result.andThen_ok,List.map_toArray,List.map_cons,List.map_nil,hs,hx,hrun];refine h v' w' h2 ((Grew.of_below ((Br _ w0).alloc (Lr _) _) v).trans ⟨h3,fun k hk=>?_⟩);rcases h5 with h5 | h5
 ·exact .inl (h5 ▸ hk)
 ·rw[h5]at hk;cases hk
  exact .inr (Lr _)
end
structure Loop3{α:Type}(EV:World→Nat→Nat→List Value→α→Prop)(e size:Nat)(one:List Int→PR α)(w0:World)(B:Nat)(zs:List Int)(f:Value→List Value)(s0:St)(lo k:Nat)(s:St)(V:Value)(w:World)(l:List α):Prop where
 len:l.length=k
 step:Step (pMany one k) s0 l s
 at_:RAt w0 w B zs (f V) s
 list:∃css L R,LV EV e size w lo V l css L R
 lo:lo≤w.heap.size
theorem RAt.grew{w0 w w':World}{B:Nat}{zs:List Int}{cs:List Value}{s:St}{v v':Value}{lo n size:Nat}{e:TypeId}{xs:List Value}(h:RAt w0 w B zs cs s)(hg:Grew w w' v v')(ho:w.ownsRow lo e size v n xs)(hlo:w0.heap.size+1+1<lo)(hB:B≤w0.heap.size):RAt w0 w' B zs cs s:=by
 have hne:∀g,g<lo→some g≠v.ownBlock:=fun g hg e'=>by
  have:=(ho.lt g e'.symm).1;omega
 refine⟨hg.row h.row (hne _ (by omega)),hg.row h.res (hne _ (by omega)),h.tk.grown hg.grown (hne _ (by omega)) (fun k hk=>?_) (by omega),h.below.trans ((Br _ w).grown hg.grown h.below.size fun k hk=>?_)⟩
 ·have:=(ho.lt k hk).1;omega
 ·have:=(ho.lt k hk).1;omega
theorem Xao{w:World}{base:Nat}{e:TypeId}{size:Nat}{v:Value}{n:Nat}{xs:List Value}(h:w.ownsRow base e size v n xs):∃A c,v=.slice A n c:=by
 rcases h.2 with⟨rfl,rfl⟩ | ⟨g,cap,cur,rfl,_⟩
 ·exact⟨_,_,rfl⟩
 ·exact⟨_,_,rfl⟩
theorem LVR.grew{α:Type}{EV:World→Nat→Nat→List Value→α→Prop}{e size:Nat}{w w':World}{lo hi:Nat}{v:Value}{l:List α}{lo2 n size2:Nat}{e2:TypeId}{u u':Value}{xs:List Value}
 (h:LVR EV e size w lo hi v l) (hg:Grew w w' u u') (ho:w.ownsRow lo2 e2 size2 u n xs) (hh:hi≤lo2):LVR EV e size w' lo hi v l:=by
 obtain⟨w0,css,L,R,h1,h2,h3,h4⟩:=h;have:=hg.size;refine⟨w0,css,L,R,h1,h2,by omega,fun k a b=>(hg.grown.block k (by omega) fun e'=>?_).trans (h4 k a b)⟩;have:=(ho.lt k e'.symm).1;omega
theorem Xb2{P:Program}{fn:Func}{p t u:Tmp}{ty:TypeId}(h:fn.results=#[.cell p ty,.tmp t,.tmp u])(tmps:Array Value)(w:World)(a0:Addr)(v0 v1 v2:Value)(h0:tmps.getD p undef=.pointer (some a0))(l0:(loadVar ty a0).run P w=.ok v0 w)
 (h1:tmps.getD t undef=v1) (h2:tmps.getD u undef=v2):(results fn tmps).run P w=.ok (.tuple #[v0,v1,v2]) w:=by
 have h0':tmps[p]?.getD undef=.pointer (some a0):=by simpa using h0
 have h1':tmps[t]?.getD undef=v1:=by simpa using h1
 have h2':tmps[u]?.getD undef=v2:=by simpa using h2
 simp[results,h,h0',h1',h2',asAddr,l0]
theorem TkIn.acell{w:World}{p B:Nat}{zs r:List Int}(h:TkIn w p B zs (.ok r)):w.cell? ⟨p,1,none⟩=some (.int .i64 ((zs.length - r.length:Nat):Int)):=by
 obtain⟨A,c,k,e,hr,_,_,_,h3,h4⟩:=h.is;have h2:w.cell? ⟨p,1,none⟩=some (.int .i64 k):=hr.cell 1;rcases h4 with⟨h4,_⟩ | ⟨h4,_⟩
 ·cases h4
  rw[h2,List.length_drop,show zs.length - (zs.length - k)=k by omega]
 ·cases h4
structure Last3(g:Nat)(p:Addr)(cs:List Value)(v:Value)(w:World):Prop where
 c:w.cell? p=some v
 r:w.rangeAt g 0 cs
theorem Xpp(l:List Value)(hl:l.length=32):Tryz.prog.built 124 [(0,.agg l.toArray)]=some (l++[Value.slice none 0 0,Value.slice none 0 0]).toArray:=by
 obtain⟨f,rfl⟩:∃f:Fin 32→Value,l=List.ofFn f:=⟨fun i=>l.getD i undef,by
  refine List.ext_getElem (by simpa using hl) fun i h1 h2=>?_
  rw[List.getElem_ofFn,List.getD_eq_getElem?_getD,List.getElem?_eq_getElem h1];rfl⟩
 kernel_rfl
theorem Xgi{ops:Array Oper}{rest:List Oper}{o:Oper}{a:Act}{w:World}{Q:Exit→Act→World→Prop}(hg:o.guard=none)(y:Operand)(ho:o.op=.build 124 #[(0,y)])
 (l:List Value) (hl:l.length=32) (hy:a.eval y=.agg l.toArray) (h:wpList Tryz.prog ops Q rest (a.put o.dst (.agg (l++[Value.slice none 0 0,Value.slice none 0 0]).toArray)) w):wpList Tryz.prog ops Q (o::rest) a w:=by
 have hb:Tryz.prog.built 124 ((#[(0,y)]:Array (Nat × Operand)).map fun(i,x)=>(i,a.eval x)).toList=some (l++[Value.slice none 0 0,Value.slice none 0 0]).toArray:=by
  simp only[List.map_toArray,List.map_cons,List.map_nil,hy];exact Xpp l hl
 exact wpList_build hg _ _ ho (by rw[hb];rfl) (by rw[hb];exact h)
theorem lset32{w:World}{g t:Nat}{tab:List Int}{a b:Value}(h:Row w g t (bv tab++[a,b]))(ht:tab.length=32)(v:Value):Row (w.setCell ⟨g,32,none⟩ v) g t (bv tab++[v,b]):=by
 have e:=h.set_ 32 v;rw[List.set_append_right _ _ (by rw[bL,ht];omega),bL,ht]at e;exact e
theorem lset33{w:World}{g t:Nat}{tab:List Int}{a b:Value}(h:Row w g t (bv tab++[a,b]))(ht:tab.length=32)(v:Value):Row (w.setCell ⟨g,33,none⟩ v) g t (bv tab++[a,v]):=by
 have e:=h.set_ 33 v;rw[List.set_append_right _ _ (by rw[bL,ht];omega),bL,ht]at e;exact e
theorem Xnc(t:List Int){a b:Value}(ha:a.oneCell'=true)(hb:b.oneCell'=true):∀u ∈ bv t++[a,b],u.oneCell'=true:=by
 intro u hu;rcases List.mem_append.1 hu with hu | hu
 ·exact Xae t u hu
 ·simp only[List.mem_cons,List.not_mem_nil,or_false]at hu;rcases hu with rfl | rfl <;> assumption
theorem Loop3.snoc{α:Type}{EV:World→Nat→Nat→List Value→α→Prop}{e size:Nat}{one:List Int→PR α}{w0 w w1 w3:World}{B:Nat}{zs:List Int}{f:Value→List Value}{s0 s s':St}{lo k c:Nat}{V v3:Value}{l:List α}{x:α}{css:List (List Value)}{cs:List Value}{L R:Nat→Nat}
 (h:Loop3 EV e size one w0 B zs f s0 lo k s V w l) (hS:Stays EV) (hlo:w0.heap.size+1+1<lo) (hB:B≤w0.heap.size) (hv:LV EV e size w lo V l css L R) (hb:But (w0.heap.size+1) w w1) (he:EV w1 w.heap.size w1.heap.size cs x) (hs:Step one s x s') (ht:TkIn w1 (w0.heap.size+1) B zs s')
 (hg:Grew w1 w3 V v3) (h3:w3.ownsRow lo e size v3 (l.length+1) (css.flatten++cs))
 (hf:∀w V V',Row w (w0.heap.size+1+1) 40 (f V)→Row (w.setCell ⟨w0.heap.size+1+1,c,none⟩ V') (w0.heap.size+1+1) 40 (f V')) :
 Loop3 EV e size one w0 B zs f s0 lo (k+1) s' v3 (w3.setCell ⟨w0.heap.size+1+1,c,none⟩ v3) (l++[x]):=by
 have h1:=h.at_.call hb ht;have hv1:w1.ownsRow lo e size V l.length css.flatten:=(hv.but hS hb (by omega)).own;have h2:=h1.grew hg hv1 hlo hB;have hT:=Xa2 w3 ⟨w0.heap.size+1+1,c,none⟩ v3;have hz1:=hb.size;have hz3:=hg.size;refine⟨by simp[h.len],h.step.many1 hs,h2.set hB (hf _ V v3 h2.row),⟨_,_,_,(hv.snoc hS hb (by omega) h.lo he hg h3).but hS (But.of_turned hT) (by simpa using hlo)⟩,?_⟩;rw[hT.size];have:=h.lo;omega
theorem Loop3.fail{α:Type}{EV:World→Nat→Nat→List Value→α→Prop}{e size:Nat}{one:List Int→PR α}{w0 w:World}{B:Nat}{zs:List Int}{f:Value→List Value}{s0:St}{lo k n:Nat}{V:Value}{l:List α}{c:Int}
 (h:Loop3 EV e size one w0 B zs f s0 lo k (.error c) V w l) (hk:k≤n):Step (pMany one n) s0 l (.error c):=h.step.many_fail hk l
def kz(a b l:Int):List Int:=[a,b,77,0,0,0,0,0,0,0,0,0,0,0,0,0,0,0,0,0,0,0,0,0,0,0,0,0,0,0,0,l]
theorem Xsv(a b l:Int):Tryz.prog.built 78 [(0,.int .u8 a),(1,.int .u8 b),(2,.int .u8 77),(31,.int .u8 l)]=some (bv (kz a b l)).toArray:=by kernel_rfl
theorem Xff(B:Option Addr)(m d:Nat)(z1 z2:List Int)(h1:z1.length=32)(h2:z2.length=32):Tryz.prog.built 208 [(0,.slice B m d),(1,.agg (bv z1).toArray),(2,.agg (bv z2).toArray)]=some (sheetCells (.slice B m d) z1 z2).toArray:=by
 obtain⟨f,rfl⟩:∃f:Fin 32→Int,z1=List.ofFn f:=⟨fun i=>z1.getD i 0,by
  refine List.ext_getElem (by simpa using h1) fun i h3 h4=>?_
  rw[List.getElem_ofFn,List.getD_eq_getElem?_getD,List.getElem?_eq_getElem h3];rfl⟩
 obtain⟨g,rfl⟩:∃f:Fin 32→Int,z2=List.ofFn f:=⟨fun i=>z2.getD i 0,by
  refine List.ext_getElem (by simpa using h2) fun i h3 h4=>?_
  rw[List.getElem_ofFn,List.getD_eq_getElem?_getD,List.getElem?_eq_getElem h3];rfl⟩
 kernel_rfl
theorem Xak{a:Act}{o:Oper}(w:World)(t:TypeId)(parts:Array (Nat × Operand))(cells:Array Value)(ho:o.op=.build t parts)(h:Tryz.prog.built t (parts.map fun(i,x)=>(i,a.eval x)).toList=some cells):(execOp a.eval o).run Tryz.prog w=.ok (.value (.agg cells)) w:=by
 simp only[execOp,ho,Sem.run_bind,run_build w t _ cells h,Result.andThen_ok];rfl
theorem Xav{o:Oper}{a:Act}{w:World}{K:Act→World→Prop}{Q:Exit→Act→World→Prop}(t:TypeId)(parts:Array (Nat × Operand))(cells:Array Value)(ho:o.op=.build t parts)
 (h:Tryz.prog.built t (parts.map fun(i,x)=>(i,a.eval x)).toList=some cells) (hK:K (a.put o.dst (.agg cells)) w):o.wp Tryz.prog a w K Q:=
 wp_build t parts ho (by rw[h];rfl) (by rw[h];exact hK)
structure ButOne(base p:Nat)(w w':World):Prop where
 os:w'.os=w.os
 tape:w'.tape=w.tape
 output:w'.output=w.output
 size:w.heap.size≤w'.heap.size
 block:∀k,k<base→k≠p→w'.heap[k]?=w.heap[k]?
theorem ButOne.refl(base p:Nat)(w:World):ButOne base p w w:=⟨rfl,rfl,rfl,Lr _,fun _ _ _=>rfl⟩
theorem ButOne.trans{base p:Nat}{a b c:World}(h:ButOne base p a b)(k:ButOne base p b c):ButOne base p a c:=
 ⟨k.os.trans h.os,k.tape.trans h.tape,k.output.trans h.output,Lq h.size k.size,fun i hi hp=>(k.block i hi hp).trans (h.block i hi hp)⟩
theorem ButOne.below{base p B:Nat}{a b:World}(h:ButOne base p a b)(hB:B≤base)(hp:B≤p):Below B a b:=
 ⟨h.os,h.tape,h.output,h.size,fun k hk=>h.block k (by omega) (by omega)⟩
theorem allL{P:Program}{L:List Oper}{Q:Exit→Act→World→Prop}{md:Region.Mode}{S:World→Prop}{i:Nat}{o:Oper}{fuel:Nat}{listed:Array Bool}{a:Act}{w:World}{rs:List Nat}(ho:L[i]?=some o)
 (hw:Region.wanted o (yielded L.toArray a.tmps)=true)
 (h:∀K':Act→World→Prop,Shut (∀a w,S w→wpAnyH P md L.toArray Q S fuel (listed.setIfInBounds i true) a w→K' a w)→Oper.wp P o a w K' Q)
 (hs:AllReadyH P md L.toArray Q S fuel listed a w rs):AllReadyH P md L.toArray Q S fuel listed a w (i::rs):=
 AllReadyH.cons (by simpa using ho) (fun K hK=>by
  rw[if_pos hw];exact h K (fun a w hS hW=>hK a w hS fun _=>hW)) hs
theorem Xdv(x y:Int)(w:World):Calls Tryz.prog 98 #[.int .i64 x,.int .u8 y] w fun e w'=>∃z,e=.returned (.agg (bv z).toArray)∧z.length=32∧Below w.heap.size w w':=by
 go_enter Tryz.func98,Tryz.ntmps98
 go_wp2_with (first
  | ((with_reducible show wpList _ _ _ (⟨some 11,_,_,_,_,_⟩::_) _ _);go_must(refine wpList_plain rfl fun K hK=>Xav _ _ _ rfl (by simp only[List.map_toArray,List.map_cons,List.map_nil];exact Xsv _ _ _) (hK _ _ ?_)))
  | ((with_reducible show wpList _ _ _ (⟨none,Op.store 78 _ _,_,_,_,_⟩::_) _ _);go_must(refine Xa1 rfl 78 (.tmp 4) (.tmp 11) rfl (bv (kz (x % 256) (wrap64 (x.tdiv 256) % 256) y)) Xab (Xae _) rfl ?_ ?_ ?_;go_simp;go_simp;intro w1 hr1 hb1 hz1;have HR1:=Hd hr1;have HB1:=Hd hb1;clear hr1 hb1)))
 refine bodyPost_ret (results_cell_row (h:=rfl) _ w1 w.heap.size 78 _ (0,0) _ (by rfl) HR1.out.is Tryz.underlying78 rfl Xab) rfl ?_;exact⟨_,rfl,rfl,HB1.out⟩
def NoPages(w:World)(k:Nat):Prop:=∀xs fr,w.heap[k]?≠some (.cells xs 115 fr)
structure BookW(w0:World)(p base:Nat)(A:Option Addr)(n c:Nat)(ps:List Value)(w:World):Prop where
 row:Row w p 60 [.slice A n c]
 own:w.ownsRow base 115 1 (.slice A n c) n ps
 one:ButOne base p w0 w
 lt:base≤w.heap.size
 keep:∀k,k<w0.heap.size→k≠p→NoPages w0 k→w.heap[k]?=w0.heap[k]?
section
variable{w0 w w':World}{p base n c:Nat}{A:Option Addr}{ps:List Value}
theorem BookW.start(h:BookW w0 p base A n c ps w):BookW w p base A n c ps w:=⟨h.row,h.own,ButOne.refl _ _ _,h.lt,fun _ _ _ _=>rfl⟩
theorem BookW.trans{A':Option Addr}{n' c':Nat}{ps':List Value}(h:BookW w0 p base A n c ps w)(h':BookW w p base A' n' c' ps' w'):BookW w0 p base A' n' c' ps' w':=
 ⟨h'.row,h'.own,h.one.trans h'.one,h'.lt,fun k hk hp hn=>by
  have e:=h.keep k hk hp hn;refine(h'.keep k (Nat.lt_of_lt_of_le hk h.one.size) hp ?_).trans e;intro xs fr;rw[e];exact hn xs fr⟩
theorem BookW.below(h:BookW w0 p base A n c ps w)(hb:Below w.heap.size w w'):BookW w0 p base A n c ps w':=
 ⟨h.row.below hb h.row.lt,Xal h.own hb,h.one.trans ⟨hb.os,hb.tape,hb.output,hb.size,fun k hk _=>hb.block k (by have:=h.lt;omega)⟩,by have:=h.lt;have:=hb.size;omega,
  fun k hk hp hn=>(hb.block k (Nat.lt_of_lt_of_le hk h.one.size)).trans (h.keep k hk hp hn)⟩
theorem BookW.alloc(h:BookW w0 p base A n c ps w)(o:Obj):BookW w0 p base A n c ps (w.alloc o):=h.below ((Br _ _).alloc (Lr _) o)
theorem BookW.drewN(h:BookW w0 p base A n c ps w)(k:Nat):BookW w0 p base A n c ps (w.drewN k):=⟨h.row.drewN k,h.own,⟨h.one.os,h.one.tape,h.one.output,h.one.size,h.one.block⟩,h.lt,h.keep⟩
theorem Xq7{v:Value}{m:Nat}(h:w.ownsRow base 115 1 v m ps){k:Nat}(hn:NoPages w k):some k≠v.ownBlock:=by
 rcases h.2 with⟨rfl,_⟩ | ⟨g',cap,cur,rfl,_,hh,_⟩
 ·simp[Value.ownBlock]
 ·intro he;have hg:k=g':=by simpa [Value.ownBlock]using he
  subst hg;exact hn _ _ hh
theorem BookW.last{q:List Value}{m:Nat}{A':Option Addr}{c':Nat}(h:BookW w0 p base A n c ps w)(hr:Row w' p 60 [.slice A n c])(ho:w'.ownsRow base 115 1 (.slice A' m c') m (ps++q))(hg:w.grownBy w' (Value.slice A n c).ownBlock) :
 BookW w0 p base A' m c' (ps++q) (w'.setCell ⟨p,0,none⟩ (.slice A' m c')):=by
 have hT:=Xa2 w' ⟨p,0,none⟩ (.slice A' m c');have hz:=hg.size;have hl:=h.lt;refine⟨hr.set_ 0 _,Xw0 ho hr (by decide) 0 _,h.one.trans ⟨hg.os,hg.tape,hg.output,?_,fun k hk hp=>?_⟩,by rw[hT.size];omega,fun k hk hp hn=>?_⟩
 ·rw[hT.size];exact hz
 ·rw[hT.block k hp];exact hg.block k (by omega) fun e=>by have:=(h.own.lt k e.symm).1;omega
 ·have e:=h.keep k hk hp hn;rw[hT.block k hp];refine(hg.block k (Nat.lt_of_lt_of_le hk h.one.size) (Xq7 h.own ?_)).trans e;intro xs fr;rw[e];exact hn xs fr
theorem BookW.rowK{g t:Nat}{xs:List Value}(h:BookW w0 p base A n c ps w)(hr:Row w0 g t xs)(hg:g≠p)(ht:t≠115):Row w g t xs:=
 ⟨(h.keep g hr.lt hg (fun ys fr e=>by
  rw[hr.is]at e;injection e with e
  injection e with _ e
  exact ht e)).trans hr.is⟩
end
theorem Xp4(p base:Nat)(A B:Option Addr)(n c m d:Nat)(ps:List Value)(w0 w:World)(h:BookW w0 p base A n c ps w)(hn:n≤1000000) :
 Calls Tryz.prog 19 #[.pointer (some ⟨p,0,none⟩),.slice B m d] w fun e w'=>∃hh ff A' c',e=.returned (.tuple #[]) ∧
  BookW w0 p base A' (n+1) c' (ps++[.iface 110 (.agg #[.slice B m d,.int .u8 hh,.int .u8 ff])]) w':=by
 obtain⟨i0,hi,hz0,hz1,hz2⟩:=info_parts Xga;have c0:w.cell? ⟨p,0,none⟩=some (.slice A n c):=h.row.cell 0;have f0:=h.row.frozen 0;have HN:=Hd (Xk4 p A n c w h.row hn);have HH:=Hd h;let q:Value:=.iface 110 (.agg #[.slice B m d,.int .u8 (((n:Int)+1) % 256),.int .u8 (255 - ((n:Int)+1) % 256)])
 have hsees:=(Row.new w 115 [q]).sees0;have HH1:=Hd (h.alloc (.cells [q].toArray 115));have hown1:=HH1.out.own;have hone:∀u ∈ [q],u.oneCell'=true:=by simp[q,Value.oneCell']
 have hbase:=HH1.out.lt;clear h;go_enter Tryz.func19,Tryz.ntmps19
 go_wp2_with fail;refine HN.out.mono ?_;rintro e w1 ⟨rfl,rfl⟩;go_wp2_with (at_builtin;go_must(refine Xbw rfl (.tmp 12) (.tmp 19) 58 rfl base 115 i0 _ 16 Tryz.underlying58 hi hz0 hz1 hz2 rfl _ n _ rfl hown1 _ _ 1 _ _ rfl hsees hone (by unfold maxLen;omega) (by omega) hbase ?_);intro v2 w2 hown2 hg2 hat2;have hR2:=HH1.out.row.grown hg2 (Xbf HH1.out.own HH1.out.row (by decide));have c2:w2.cell? ⟨p,0,none⟩=some (.slice A n c):=hR2.cell 0;have f2:=hR2.frozen 0;obtain⟨A',c',rfl⟩:=Xcd hown2;have HR2:=Hd hR2;clear hR2)
 go_end0
 exact⟨_,_,A',c',rfl,HH1.out.last HR2.out hown2 hg2⟩
theorem Xv7(p base:Nat)(A B:Option Addr)(n c m d:Nat)(ps:List Value)(w0 w:World)(h:BookW w0 p base A n c ps w)(hn:n≤1000000) :
 Calls Tryz.prog 99 #[.pointer (some ⟨p,0,none⟩),.slice B m d] w fun e w'=>∃z1 z2 A' c',e=.returned (.tuple #[])∧z1.length=32∧z2.length=32 ∧
  BookW w0 p base A' (n+1) c' (ps++[.iface 208 (.agg (sheetCells (.slice B m d) z1 z2).toArray)]) w':=by
 obtain⟨i0,hi,hz0,hz1,hz2⟩:=info_parts Xga;have HI:=Hd (And.intro hi (And.intro hz0 (And.intro hz1 hz2)));have HN:=Hd (Xk4 p A n c w h.row hn);have H0:=Hd (h.drewN 1);clear h hi hz0 hz1 hz2;go_enter Tryz.func99,Tryz.ntmps99
 go_wp2_with fail;refine HN.out.mono ?_;rintro e w1 ⟨rfl,rfl⟩;go_wp2_with fail;refine wp_region_held (S:=fun _=>True) (by kernel_rfl) ?_;try(change wpAnyH _ _ _ _ _ _ _ _ (World.drew _))
 refine Tk 0 rfl ?_ trivial ?_ ⟨?_,rfl⟩
 ·intro w _;go_simp;try with_reducible rfl
 try simp only[nm]
 refine Tk 1 rfl ?_ trivial ?_ ⟨?_,rfl⟩
 ·intro w _;go_simp;try with_reducible rfl
 try simp only[nm]
 refine Tk 2 rfl ?_ trivial ?_ ⟨?_,rfl⟩
 ·intro w _;go_simp;try with_reducible rfl
 try simp only[nm]
 refine Tk 3 rfl ?_ trivial ?_ ⟨?_,rfl⟩
 ·intro w _;go_simp;try with_reducible rfl
 try simp only[nm]
 refine Tk 5 rfl ?_ trivial ?_ ⟨?_,rfl⟩
 ·intro w _;go_simp;try with_reducible rfl
 try simp only[nm]
 refine Tk 6 rfl ?_ trivial ?_ ⟨?_,rfl⟩
 ·intro w _;go_simp;try with_reducible rfl
 try simp only[nm]
 refine Tk 8 rfl ?_ trivial ?_ ⟨?_,rfl⟩
 ·intro w _;go_simp;try with_reducible rfl
 try simp only[nm]
 refine wpAnyH_ready (rs:=[4,7]) (by kernel_rfl) (by simp) ?_;refine allL rfl (by kernel_rfl) (fun K hK=>?_) (allL rfl (by kernel_rfl) (fun K hK=>?_) (AllReadyH.nil))
 ·have c1:w.drew.cell? ⟨p,0,none⟩=some (.slice A n c):=H0.out.row.cell 0;go_simp;clear c1;refine hK _ _ trivial ?_;clear hK K;try simp only[nm]
  refine Rl 7 rfl fun K hK=>?_
  go_simp;refine(Xdv _ _ _).mono ?_;rintro e w12 ⟨z1,rfl,hz1,hb⟩;have H12:=Hd (H0.out.below hb);clear hb;simp only[];refine hK _ _ trivial ?_;clear hK K;try simp only[nm]
  refine Rl 9 rfl fun K hK=>?_
  go_simp;refine(Xdv _ _ _).mono ?_;rintro e w23 ⟨z2,rfl,hz2,hb⟩;have H23:=Hd (H12.out.below hb);clear hb;simp only[];refine hK _ _ trivial ?_;clear hK K;try simp only[nm]
  refine Tl 10 (v:=.agg (sheetCells (.slice B m d) z1 z2).toArray) rfl (Or.inl ⟨by rfl,fun w _=>?_⟩) trivial ?_
  ·exact Xak w _ _ _ rfl (by simp only[List.map_toArray,List.map_cons,List.map_nil];exact Xff B m d z1 z2 hz1 hz2)
  try simp only[nm]
  refine Tk 11 rfl ?_ trivial ?_ ⟨?_,rfl⟩
  ·intro w _;go_simp;try with_reducible rfl
  try simp only[nm]
  refine Rl 12 rfl fun K hK=>?_
  go_simp;refine hK _ _ trivial ?_;clear hK K;try simp only[nm]
  have HB4:=Hd (H23.out.alloc (.cells [Value.iface 208 (.agg (sheetCells (.slice B m d) z1 z2).toArray)].toArray 115));have hsee:=(Row.new w23 115 [Value.iface 208 (.agg (sheetCells (.slice B m d) z1 z2).toArray)]).sees0;have HSEE:=Hd hsee;clear hsee;refine Rl 13 rfl fun K hK=>?_
  refine Xam (.tmp 11) (.tmp 19) rfl Tryz.underlying58 HI.out.1 HI.out.2.1 HI.out.2.2.1 HI.out.2.2.2 rfl rfl HB4.out.own rfl HSEE.out (by simp[Value.oneCell']) (by unfold maxLen;omega) (by omega) HB4.out.lt ?_;intro v5 w5 ho5 hg5 hat5;obtain⟨A5,c5,rfl⟩:=Xcd ho5;refine hK _ _ trivial ?_;clear hK K;try simp only[nm]
  have hr5:=HB4.out.row.grown hg5 (Xbf HB4.out.own HB4.out.row (by decide));have e5:w5.cell? ⟨p,0,none⟩=some (.slice A n c):=hr5.cell 0;have g5:=hr5.frozen 0;refine Tk 14 rfl ?_ trivial ?_ ⟨?_,rfl⟩
  ·intro w _;go_simp;try with_reducible rfl
  try simp only[nm]
  refine Tk 15 rfl ?_ trivial ?_ ⟨?_,rfl⟩
  ·intro w _;go_simp;try with_reducible rfl
  try simp only[nm]
  refine Rl 16 rfl fun K hK=>?_
  go_simp;refine hK _ _ trivial ?_;clear hK K;try simp only[nm]
  refine wpAnyH_done (by kernel_rfl) ?_ _;have HE:=Hd (HB4.out.last hr5 ho5 hg5);clear e5 g5 hr5 ho5 hg5 hat5;go_wp2_with fail;go_end0
  exact⟨z1,z2,A5,c5,rfl,hz1,hz2,HE.out⟩
 ·go_simp;refine(Xdv _ _ _).mono ?_;rintro e w11 ⟨z1,rfl,hz1,hb⟩;have H11:=Hd (H0.out.below hb);clear hb;simp only[];refine hK _ _ trivial ?_;clear hK K;try simp only[nm]
  refine wpAnyH_ready (rs:=[4,9]) (by kernel_rfl) (by simp) ?_;refine allL rfl (by kernel_rfl) (fun K hK=>?_) (allL rfl (by kernel_rfl) (fun K hK=>?_) (AllReadyH.nil))
  ·have c2:w11.cell? ⟨p,0,none⟩=some (.slice A n c):=H11.out.row.cell 0;go_simp;clear c2;refine hK _ _ trivial ?_;clear hK K;try simp only[nm]
   refine Rl 9 rfl fun K hK=>?_
   go_simp;refine(Xdv _ _ _).mono ?_;rintro e w23 ⟨z2,rfl,hz2,hb⟩;have H23:=Hd (H11.out.below hb);clear hb;simp only[];refine hK _ _ trivial ?_;clear hK K;try simp only[nm]
   refine Tl 10 (v:=.agg (sheetCells (.slice B m d) z1 z2).toArray) rfl (Or.inl ⟨by rfl,fun w _=>?_⟩) trivial ?_
   ·exact Xak w _ _ _ rfl (by simp only[List.map_toArray,List.map_cons,List.map_nil];exact Xff B m d z1 z2 hz1 hz2)
   try simp only[nm]
   refine Tk 11 rfl ?_ trivial ?_ ⟨?_,rfl⟩
   ·intro w _;go_simp;try with_reducible rfl
   try simp only[nm]
   refine Rl 12 rfl fun K hK=>?_
   go_simp;refine hK _ _ trivial ?_;clear hK K;try simp only[nm]
   have HB4:=Hd (H23.out.alloc (.cells [Value.iface 208 (.agg (sheetCells (.slice B m d) z1 z2).toArray)].toArray 115));have hsee:=(Row.new w23 115 [Value.iface 208 (.agg (sheetCells (.slice B m d) z1 z2).toArray)]).sees0;have HSEE:=Hd hsee;clear hsee;refine Rl 13 rfl fun K hK=>?_
   refine Xam (.tmp 11) (.tmp 19) rfl Tryz.underlying58 HI.out.1 HI.out.2.1 HI.out.2.2.1 HI.out.2.2.2 rfl rfl HB4.out.own rfl HSEE.out (by simp[Value.oneCell']) (by unfold maxLen;omega) (by omega) HB4.out.lt ?_;intro v5 w5 ho5 hg5 hat5;obtain⟨A5,c5,rfl⟩:=Xcd ho5;refine hK _ _ trivial ?_;clear hK K;try simp only[nm]
   have hr5:=HB4.out.row.grown hg5 (Xbf HB4.out.own HB4.out.row (by decide));have e5:w5.cell? ⟨p,0,none⟩=some (.slice A n c):=hr5.cell 0;have g5:=hr5.frozen 0;refine Tk 14 rfl ?_ trivial ?_ ⟨?_,rfl⟩
   ·intro w _;go_simp;try with_reducible rfl
   try simp only[nm]
   refine Tk 15 rfl ?_ trivial ?_ ⟨?_,rfl⟩
   ·intro w _;go_simp;try with_reducible rfl
   try simp only[nm]
   refine Rl 16 rfl fun K hK=>?_
   go_simp;refine hK _ _ trivial ?_;clear hK K;try simp only[nm]
   refine wpAnyH_done (by kernel_rfl) ?_ _;have HE:=Hd (HB4.out.last hr5 ho5 hg5);clear e5 g5 hr5 ho5 hg5 hat5;go_wp2_with fail;go_end0
   exact⟨z1,z2,A5,c5,rfl,hz1,hz2,HE.out⟩
  ·go_simp;refine(Xdv _ _ _).mono ?_;rintro e w22 ⟨z2,rfl,hz2,hb⟩;have H22:=Hd (H11.out.below hb);clear hb;simp only[];refine hK _ _ trivial ?_;clear hK K;try simp only[nm]
   refine Tl 10 (v:=.agg (sheetCells (.slice B m d) z1 z2).toArray) rfl (Or.inl ⟨by rfl,fun w _=>?_⟩) trivial ?_
   ·exact Xak w _ _ _ rfl (by simp only[List.map_toArray,List.map_cons,List.map_nil];exact Xff B m d z1 z2 hz1 hz2)
   try simp only[nm]
   refine Tk 11 rfl ?_ trivial ?_ ⟨?_,rfl⟩
   ·intro w _;go_simp;try with_reducible rfl
   try simp only[nm]
   refine wpAnyH_ready (rs:=[4,12]) (by kernel_rfl) (by simp) ?_;refine allL rfl (by kernel_rfl) (fun K hK=>?_) (allL rfl (by kernel_rfl) (fun K hK=>?_) (AllReadyH.nil))
   ·have c3:w22.cell? ⟨p,0,none⟩=some (.slice A n c):=H22.out.row.cell 0;go_simp;clear c3;refine hK _ _ trivial ?_;clear hK K;try simp only[nm]
    refine Rl 12 rfl fun K hK=>?_
    go_simp;refine hK _ _ trivial ?_;clear hK K;try simp only[nm]
    have HB4:=Hd (H22.out.alloc (.cells [Value.iface 208 (.agg (sheetCells (.slice B m d) z1 z2).toArray)].toArray 115));have hsee:=(Row.new w22 115 [Value.iface 208 (.agg (sheetCells (.slice B m d) z1 z2).toArray)]).sees0;have HSEE:=Hd hsee;clear hsee;refine Rl 13 rfl fun K hK=>?_
    refine Xam (.tmp 11) (.tmp 19) rfl Tryz.underlying58 HI.out.1 HI.out.2.1 HI.out.2.2.1 HI.out.2.2.2 rfl rfl HB4.out.own rfl HSEE.out (by simp[Value.oneCell']) (by unfold maxLen;omega) (by omega) HB4.out.lt ?_;intro v5 w5 ho5 hg5 hat5;obtain⟨A5,c5,rfl⟩:=Xcd ho5;refine hK _ _ trivial ?_;clear hK K;try simp only[nm]
    have hr5:=HB4.out.row.grown hg5 (Xbf HB4.out.own HB4.out.row (by decide));have e5:w5.cell? ⟨p,0,none⟩=some (.slice A n c):=hr5.cell 0;have g5:=hr5.frozen 0;refine Tk 14 rfl ?_ trivial ?_ ⟨?_,rfl⟩
    ·intro w _;go_simp;try with_reducible rfl
    try simp only[nm]
    refine Tk 15 rfl ?_ trivial ?_ ⟨?_,rfl⟩
    ·intro w _;go_simp;try with_reducible rfl
    try simp only[nm]
    refine Rl 16 rfl fun K hK=>?_
    go_simp;refine hK _ _ trivial ?_;clear hK K;try simp only[nm]
    refine wpAnyH_done (by kernel_rfl) ?_ _;have HE:=Hd (HB4.out.last hr5 ho5 hg5);clear e5 g5 hr5 ho5 hg5 hat5;go_wp2_with fail;go_end0
    exact⟨z1,z2,A5,c5,rfl,hz1,hz2,HE.out⟩
   ·go_simp;refine hK _ _ trivial ?_;clear hK K;try simp only[nm]
    have HB3:=Hd (H22.out.alloc (.cells [Value.iface 208 (.agg (sheetCells (.slice B m d) z1 z2).toArray)].toArray 115));have hsee:=(Row.new w22 115 [Value.iface 208 (.agg (sheetCells (.slice B m d) z1 z2).toArray)]).sees0;have HSEE:=Hd hsee;clear hsee;refine Rl 4 rfl fun K hK=>?_
    have c4:(w22.alloc (.cells [Value.iface 208 (.agg (sheetCells (.slice B m d) z1 z2).toArray)].toArray 115)).cell? ⟨p,0,none⟩=some (.slice A n c):=HB3.out.row.cell 0;go_simp;clear c4;refine hK _ _ trivial ?_;clear hK K;try simp only[nm]
    refine Rl 13 rfl fun K hK=>?_
    refine Xam (.tmp 11) (.tmp 19) rfl Tryz.underlying58 HI.out.1 HI.out.2.1 HI.out.2.2.1 HI.out.2.2.2 rfl rfl HB3.out.own rfl HSEE.out (by simp[Value.oneCell']) (by unfold maxLen;omega) (by omega) HB3.out.lt ?_;intro v5 w5 ho5 hg5 hat5;obtain⟨A5,c5,rfl⟩:=Xcd ho5;refine hK _ _ trivial ?_;clear hK K;try simp only[nm]
    have hr5:=HB3.out.row.grown hg5 (Xbf HB3.out.own HB3.out.row (by decide));have e5:w5.cell? ⟨p,0,none⟩=some (.slice A n c):=hr5.cell 0;have g5:=hr5.frozen 0;refine Tk 14 rfl ?_ trivial ?_ ⟨?_,rfl⟩
    ·intro w _;go_simp;try with_reducible rfl
    try simp only[nm]
    refine Tk 15 rfl ?_ trivial ?_ ⟨?_,rfl⟩
    ·intro w _;go_simp;try with_reducible rfl
    try simp only[nm]
    refine Rl 16 rfl fun K hK=>?_
    go_simp;refine hK _ _ trivial ?_;clear hK K;try simp only[nm]
    refine wpAnyH_done (by kernel_rfl) ?_ _;have HE:=Hd (HB3.out.last hr5 ho5 hg5);clear e5 g5 hr5 ho5 hg5 hat5;go_wp2_with fail;go_end0
    exact⟨z1,z2,A5,c5,rfl,hz1,hz2,HE.out⟩
structure CameIn(k:IntKind)(w:World)(A:Option Addr)(n c:Nat)(zs:List Int):Prop where
 sees:Sees w w.heap.size A n (cv k zs)
 cap:n≤c
 max:c≤maxLen
 wf:∀z ∈ zs,(Lit.int k z).wf=true
theorem CameIn.nil(k:IntKind)(w:World):CameIn k w none 0 0 []:=⟨Sees.nil _ _ _,Lr _,Nat.zero_le _,by simp⟩
theorem CameIn.of{k:IntKind}{w:World}{x:Addr}{l c:Nat}{zs:List Int}(hl:l≤c)(hm:c≤maxLen)(hz:zs.length=c)
 (hcell:∀i,i<zs.length→w.cell? (x.add i)=some (.int k (zs.getD i 0))) (hw:∀z ∈ zs,(Lit.int k z).wf=true):CameIn k w (some x) l c (zs.take l):=
 ⟨⟨by simp[cv];omega,fun i u hu=>by
  have hi:i<l∧i<zs.length:=by
   have:=(List.getElem?_eq_some_iff.1 hu).1;simp[cv]at this;omega
  have hc:=hcell i hi.2;have hu':u=.int k (zs.getD i 0):=by
   simp[cv,hi.1,hi.2]at hu;rw[List.getD_eq_getElem?_getD,List.getElem?_eq_getElem hi.2];exact hu.symm
  refine⟨x,rfl,?_,by rw[hu'];exact hc⟩;have:=World.block_lt_of_cell? w _ hc;rwa [Xa7]at this⟩,hl,hm,fun z hz=>hw z (List.mem_of_mem_take hz)⟩
theorem Xsn{z:Int}(h:(Lit.int .u8 z).wf=true):IsByte z:=by
 have:=bounds_u8 h;unfold IsByte;omega
theorem Xg5:(Tryz.prog.info? 78).map (fun i=>(i.zero,i.size,i.bytes))=some (some (.agg (zeros 32).toArray),32,32):=by kernel_rfl
structure LTx where
 sigs:List (List Int)
 m:LMsg
def encTx(x:LTx):List Int:=short x.sigs.length++(x.sigs.flatten++enc x.m)
def TFits(x:LTx):Prop:=x.sigs.length≤65535∧Fits x.m
structure LTx.Wf(x:LTx):Prop where
 sigs:∀s ∈ x.sigs,s.length=64∧AllBytes s
 m:x.m.Wf
def pSigs(zs:List Int):PR (List (List Int)):=pList (pTake 64) zs
def pTx(zs:List Int):PR LTx:=match pSigs zs with
 | .error c=>.error c
 | .ok (s,r)=>match pMsg r with
  | .error c=>.error c
  | .ok (m,r)=>.ok (⟨s,m⟩,r)
def wTx(zs:List Int):Except Int LTx:=if 1232<zs.length then .error 3 else match pTx zs with
 | .error c=>.error c
 | .ok (x,r)=>if r.length=0 then .ok x else .error 4
theorem Xde:∀(l:List (List Int)),(∀y ∈ l,y.length=64)→l.flatten.length=l.length*64
 | [],_=>rfl
 | y::r,h=>by
  have:=Xde r (fun z hz=>h z (by simp[hz]));have hy:=h y (by simp);simp only[List.flatten_cons,List.length_append,List.length_cons,this,hy];omega
theorem Xqz{x:LTx}(h:∀y ∈ x.sigs,y.length=64):(encTx x).length=(short x.sigs.length).length+x.sigs.length*64+(enc x.m).length:=by
 unfold encTx;simp only[List.length_append,Xde x.sigs h];omega
theorem Xh8:Got (fun l=>short l.length++l.flatten) (fun l=>l.length≤65535∧∀k ∈ l,k.length=64∧AllBytes k) pSigs:=by
 intro zs l r hz h;have:=Xf3 (Xdn 64) zs l r hz h;simp only[flatMap_id]at this;exact this
theorem Xng:Errs pSigs:=Xg0 (Xdn 64) (Xh4 64)
theorem Xrt:Puts (fun l=>short l.length++l.flatten) (fun l:List (List Int)=>l.length≤65535∧∀k ∈ l,k.length=64) pSigs:=by
 rintro l h r;have:=Xeq (Xfs 64) l h r;simp only[flatMap_id]at this;exact this
theorem Xj3:FromFront pSigs:=Xc0 (Xc4 64)
theorem Xn7:FromFront pTx:=by
 intro zs x r h;unfold pTx at h;split at h
 ·cases h
 rename_i e1
 split at h
 ·cases h
 rename_i e2
 cases h
 exact(Xj3 _ _ _ e1).trans (Xe0 _ _ _ e2)
theorem Xw5{zs:List Int}(hz:AllBytes zs){x:LTx}{r:List Int}(h:pTx zs=.ok (x,r)):zs=encTx x++r∧TFits x∧x.Wf:=by
 unfold pTx at h;split at h
 ·cases h
 rename_i s r1 e1
 split at h
 ·cases h
 rename_i m r2 e2
 cases h
 obtain⟨h1,h2,h3⟩:=Xh8 _ _ _ hz e1;have hz1:AllBytes r1:=hz.behind h1;obtain⟨h4,h5,h6⟩:=Xuy hz1 e2;refine⟨?_,⟨h2,h5⟩,⟨h3,h6⟩⟩;rw[h1,h4];simp[encTx]
theorem Xls{zs:List Int}(hz:AllBytes zs){c:Int}(h:pTx zs=.error c):c=4∨c=5:=by
 unfold pTx at h;split at h
 ·rename_i e1
  cases h
  exact Xng _ _ hz e1
 rename_i s r1 e1
 split at h
 ·rename_i e2
  cases h
  exact Xhb (hz.behind (Xh8 _ _ _ hz e1).1) e2
 ·cases h
theorem Xw6{x:LTx}(hf:TFits x)(hw:x.Wf)(r:List Int):pTx (encTx x++r)=.ok (x,r):=by
 obtain⟨s,m⟩:=x;have h1:=Xrt s ⟨hf.1,fun k hk=>(hw.sigs k hk).1⟩ (enc m++r);have h2:=Xud hf.2 hw.m r;have e:encTx ⟨s,m⟩++r=(short s.length++s.flatten)++(enc m++r):=by simp[encTx]
 unfold pTx;rw[e,h1];simp only[h2]
theorem Xgn{zs:List Int}:∀(n:Nat),zs.length<n*64→pMany (pTake 64) n zs=.error 5
 | 0,h=>by omega
 | n+1,h=>by
  unfold pMany;by_cases h1:zs.length<n*64
  ·rw[Xgn (zs:=zs) n h1]
  ·cases e:pMany (pTake 64) n zs with
   | error c =>
    exfalso
    exact absurd e (by
     have:∀(k:Nat),k*64≤zs.length→∃l,pMany (pTake 64) k zs=.ok (l,zs.drop (k*64)):=by
      intro k;induction k with
      | zero=>exact fun _=>⟨[],by simp[pMany]⟩
      | succ k ih =>
       intro hk;obtain⟨l,hl⟩:=ih (by omega);refine⟨l++[(zs.drop (k*64)).take 64],?_⟩;unfold pMany;rw[hl];dsimp only
       unfold pTake;rw[if_neg (by rw[List.length_drop];omega)];dsimp only
       rw[List.drop_drop,show k*64+64=(k+1)*64 by omega]
     obtain⟨l,hl⟩:=this n (by omega);rw[hl];intro h';cases h')
   | ok p =>
    obtain⟨l,r⟩:=p;dsimp only
    have hr:r.length=zs.length - n*64:=by
     have:∀(k:Nat) l r,pMany (pTake 64) k zs=.ok (l,r)→r=zs.drop (k*64)∧k*64≤zs.length:=by
      intro k;induction k with
      | zero=>intro l r h;cases h;simp
      | succ k ih =>
       intro l r h;unfold pMany at h;split at h
       ·cases h
       rename_i l1 r1 e1
       split at h
       ·cases h
       rename_i x2 r2 e2
       cases h
       obtain⟨h1,h2⟩:=ih _ _ e1;unfold pTake at e2;split at e2
       ·cases e2
       rename_i h3
       cases e2
       subst h1;rw[List.length_drop]at h3;refine⟨?_,by omega⟩;rw[List.drop_drop,show k*64+64=(k+1)*64 by omega]
     rw[(this n l r e).1,List.length_drop]
    unfold pTake;rw[if_pos (by omega)]
theorem Xhs{zs:List Int}:∀(n:Nat),n*64≤zs.length→∃l,pMany (pTake 64) n zs=.ok (l,zs.drop (n*64))∧l.length=n∧(∀y ∈ l,y.length=64)∧l.flatten=zs.take (n*64)
 | 0,_=>⟨[],by simp[pMany],rfl,by simp,by simp⟩
 | n+1,h=>by
  obtain⟨l,h1,h2,h3,h4⟩:=Xhs (zs:=zs) n (by omega);have hl:((zs.drop (n*64)).take 64).length=64:=by rw[List.length_take,List.length_drop];omega
  refine⟨l++[(zs.drop (n*64)).take 64],?_,by simp[h2],?_,?_⟩
  ·unfold pMany;rw[h1];dsimp only
   unfold pTake;rw[if_neg (by rw[List.length_drop];omega)];dsimp only
   rw[List.drop_drop,show n*64+64=(n+1)*64 by omega]
  ·intro y hy;rcases List.mem_append.1 hy with hy | hy
   ·exact h3 y hy
   ·rw[List.mem_singleton.1 hy];exact hl
  ·rw[List.flatten_append,h4,show(n+1)*64=n*64+64 by omega,List.take_add];simp
structure SigsIn(w:World)(B:Nat)(A:Option Addr)(n:Nat)(l:List (List Int)):Prop where
 len:l.length=n
 each:∀k ∈ l,k.length=64
 sees:Sees w B A (n*64) (bv l.flatten)
structure TRaw where
 SA:Option Addr
 sn:Nat
 sc:Nat
 q:Raw
def TRaw.cells(s:TRaw)(x:LTx):List Value:=.slice s.SA s.sn s.sc::s.q.cells x.m
structure TxIn(w:World)(B:Nat)(s:TRaw)(x:LTx):Prop where
 sigs:SigsIn w B s.SA s.sn x.sigs
 sn:s.sn≤s.sc∧s.sc≤maxLen
 m:MsgIn w B s.q x.m
section
variable{w w':World}{B B':Nat}
theorem SigsIn.keep{A:Option Addr}{n:Nat}{l:List (List Int)}(h:SigsIn w B A n l)(hk:∀p:Addr,p.block<B→w'.cell? p=w.cell? p):SigsIn w' B A n l:=⟨h.len,h.each,h.sees.keep hk⟩
theorem SigsIn.more{A:Option Addr}{n:Nat}{l:List (List Int)}(h:SigsIn w B A n l)(hB:B≤B'):SigsIn w B' A n l:=⟨h.len,h.each,h.sees.more hB⟩
variable{s:TRaw}{x:LTx}
theorem TxIn.keep(h:TxIn w B s x)(hk:∀p:Addr,p.block<B→w'.cell? p=w.cell? p):TxIn w' B s x:=⟨h.sigs.keep hk,h.sn,h.m.keep hk⟩
theorem TxIn.more(h:TxIn w B s x)(hB:B≤B'):TxIn w B' s x:=⟨h.sigs.more hB,h.sn,h.m.more hB⟩
theorem TxIn.below(h:TxIn w B s x)(hb:Below B w w'):TxIn w' B s x:=h.keep fun _ hp=>hb.cell hp
theorem TxIn.drewN(h:TxIn w B s x)(n:Nat):TxIn (w.drewN n) B s x:=h.keep fun p hp=>rfl
theorem Xac(h:x.m.recent.length=32):(s.cells x).length=40:=by simp[TRaw.cells,Xaq h]
theorem Xuj:(s.cells x)[0]?=some (.slice s.SA s.sn s.sc):=rfl
theorem Xc1(j:Nat):(s.cells x)[1+j]?=(s.q.cells x.m)[j]?:=by unfold TRaw.cells;rw[show 1+j=j+1 by omega];rfl
theorem Xbm:∀u ∈ s.cells x,u.oneCell'=true:=by
 intro u hu;rcases List.mem_cons.1 hu with rfl | hu
 ·rfl
 ·exact Xcz u hu
end
theorem Xba:(Tryz.prog.info? 42).map (·.size)=some 40:=by kernel_rfl
theorem Xh1:(Tryz.prog.info? 104).map (·.size)=some 64:=by kernel_rfl
theorem Xfu:∀(l:List (List Int)) (k:Nat) (x:List Int),(∀y ∈ l,y.length=64)→l[k]?=some x→∀j,j<64→l.flatten[k*64+j]?=x[j]?
 | [],k,x,_,h,_,_=>by simp at h
 | y::r,0,x,hl,h,j,hj=>by
  have:y=x:=by simpa using h
  subst this;have hy:=hl y (by simp);rw[List.flatten_cons,List.getElem?_append_left (by omega)];simp
 | y::r,k+1,x,hl,h,j,hj=>by
  have hy:=hl y (by simp);rw[List.flatten_cons,List.getElem?_append_right (by omega)];have:=Xfu r k x (fun z hz=>hl z (by simp[hz])) (by simpa using h) j hj;rw[←this];congr 1
  omega
structure SigAt(w:World)(a:Addr)(k:Nat)(x:List Int):Prop where
 cells:∀j u,(bv x)[j]?=some u→w.cell? ((a.add (k*64)).add j)=some u
 len:x.length=64
theorem SigsIn.get{w:World}{B n:Nat}{A:Option Addr}{l:List (List Int)}(h:SigsIn w B A n l){k:Nat}(hk:k<n):∃a x,A=some a∧a.block<B∧l[k]?=some x∧SigAt w a k x:=by
 obtain⟨x,hx⟩:∃x,l[k]?=some x:=⟨_,List.getElem?_eq_getElem (by rw[h.len];exact hk)⟩;have hxl:=h.each x (List.mem_of_getElem? hx);obtain⟨a,u,e,hb,_,_⟩:=h.sees.at_ (k:=k*64) (by omega);refine⟨a,x,e,hb,hx,fun j u hu=>?_,hxl⟩;have hj:j<64:=by have:=(List.getElem?_eq_some_iff.1 hu).1;rw[bL]at this;omega
 rw[bv_getElem?,←Xfu l k x h.each hx j hj,←bv_getElem?]at hu;obtain⟨a',e',_,hc⟩:=h.sees.cell _ u hu;rw[e]at e';cases e'
 rw[Xbr];exact hc
theorem SigAt.keep{w w':World}{B k:Nat}{a:Addr}{x:List Int}(h:SigAt w a k x)(ha:a.block<B)(hk:∀p:Addr,p.block<B→w'.cell? p=w.cell? p):SigAt w' a k x:=
 ⟨fun j u hu=>(hk _ (by rw[Xa7,Xa7];exact ha)).trans (h.cells j u hu),h.len⟩
def zRaw:TRaw:=⟨none,0,0,⟨none,0,0,none,0,0,none,0,0⟩⟩
def zTx:LTx:=⟨[],⟨false,0,0,0,[],zero32,[],[]⟩⟩
def tzero:List Value:=.slice none 0 0::mzero
theorem Xvu(w:World)(B:Nat):TxIn w B zRaw zTx:=
 ⟨⟨rfl,fun k hk=>by simp[zTx]at hk,Sees.nil _ _ _⟩,by simp[zRaw,maxLen],⟨rfl,⟨rfl,fun k hk=>by simp[zTx]at hk,Sees.nil _ _ _⟩,⟨rfl,fun i y h=>by simp[zTx]at h⟩,⟨rfl,fun i y h=>by simp[zTx]at h⟩,by simp[zRaw,maxLen],by simp[zRaw,maxLen],by simp[zRaw,maxLen]⟩⟩
theorem Xan:(Tryz.prog.info? 42).map (·.size)=some tzero.length:=Xba
theorem Xap:∀u ∈ tzero,u.oneCell'=true:=Xbm (s:=zRaw) (x:=zTx)
theorem Xgc{t:TypeId}(ht:Tryz.prog.underlying t=some (.array 64 5))(z:List Int)(hz:z.length=64)(w:World) :
 (binOp .neq t (.agg (bv z).toArray) (.agg (bv z).toArray)).run Tryz.prog w=.ok (.bool false) w:=by
 obtain⟨i,hi⟩:=Xni;rw[run_neq_struct,show(10000:Nat)=9999+1 from rfl,run_equalIn_array w 9999 _ _ ht hi,Xg7,Xev z w _ (fun i hi=>by simp at hi;omega)];rfl
theorem Xr5(A B:Option Addr)(n c d:Nat)(l:List (List Int))(w:World)(S T:Nat)(hx:SigsIn w S A n l)(hy:SigsIn w T B n l)(hn:n≤maxLen) :
 Calls Tryz.prog 58 #[.slice A n c,.slice B n d] w fun e w'=>e=.returned (.bool true)∧∃k,w'=w.drewN k:=by
 unfold maxLen at hn;have HX:=Hd hx;have HY:=Hd hy;clear hx hy;go_enter Tryz.func58,Tryz.ntmps58
 go_wp2;go_loopw [5] (fun i wr=>∃k j:Nat,k≤n∧i=.int .i64 k∧wr=w.drewN j) (fun i _=>n - (intOf i).toNat)
 case atStart=>exact⟨0,0,Nat.zero_le _,rfl,rfl⟩
 case round =>
  obtain⟨k,j,hk,rfl,rfl⟩:=hrel;by_cases hlt:k<n
  ·obtain⟨a,x,rfl,ha,hxl,hxa⟩:=HX.out.get hlt;obtain⟨b,y,rfl,hb,hyl,hyb⟩:=HY.out.get hlt;obtain rfl:x=y:=by rw[hxl]at hyl;exact Option.some.inj hyl
   have ca:=hxa.cells;have cb:=hyb.cells;have NQ:=fun w=>Xgc Tryz.underlying104 x hxa.len w
   have HSZ:=Hd (show(Tryz.prog.info? 104).map (·.size)=some (bv x).length by rw[Xh1,bL,hxa.len]);have CA:=Hd ca;have CB:=Hd cb;clear ca cb hxl hyl;generalize bv x=X at *;go_wp2;refine wp_region_quiet_lit (by kernel_rfl) (by kernel_rfl) ?_;repeat (first
    | ((with_reducible show wpQuiet _ _ _ _ (⟨some 20,_,_,_,_,_⟩::_) _);go_must(refine Xa6 (by kernel_rfl) 104 (.tmp 19) rfl (a.add (k*64)) X _ Tryz.underlying104 rfl HSZ.out (by rintro _ ⟨nq,rfl⟩;exact CA.out) ?_ ?_;go_simp;go_simp))
    | ((with_reducible show wpQuiet _ _ _ _ (⟨some 24,_,_,_,_,_⟩::_) _);go_must(refine Xa6 (by kernel_rfl) 104 (.tmp 23) rfl (b.add (k*64)) X _ Tryz.underlying104 rfl HSZ.out (by rintro _ ⟨nq,rfl⟩;exact CB.out) ?_ ?_;go_simp;go_simp))
    | go_big_quiet_step (fail))
   refine wpQuiet_nil ?_;intro nq;go_wp2;go_roundw
   case rel=>exact⟨k+1,j+nq,by omega,by go_num,by simp⟩
   case measure=>simp[intOf];omega
  ·go_wp2;go_ret;exact⟨rfl,j,rfl⟩
theorem Xrw(s s':TRaw)(x:LTx)(B B':Nat)(w:World)(h:TxIn w B s x)(hB:B≤w.heap.size)(h':TxIn w B' s' x)(hB':B'≤w.heap.size) :
 Calls Tryz.prog 17 #[.agg (s.cells x).toArray,.agg (s'.cells x).toArray] w fun e w'=>e=.returned (.bool true)∧Below w.heap.size w w':=by
 obtain⟨SA,sn,sc,q⟩:=s;obtain⟨SB,sn',sd,q'⟩:=s';obtain rfl:sn'=sn:=h'.sigs.len.symm.trans h.sigs.len;have hr0:=(Row.new w 42 (TRaw.cells ⟨SA,sn',sc,q⟩ x)).alloc (.cells (TRaw.cells ⟨SB,sn',sd,q'⟩ x).toArray 42);have hr1:Row ((w.alloc (.cells (TRaw.cells ⟨SA,sn',sc,q⟩ x).toArray 42)).alloc (.cells (TRaw.cells ⟨SB,sn',sd,q'⟩ x).toArray 42)) (w.heap.size+1) 42 (TRaw.cells ⟨SB,sn',sd,q'⟩ x):=Row.new' _ _ _ (by simp);have hbw:=(((Br w.heap.size w).alloc (Lr _) (.cells (TRaw.cells ⟨SA,sn',sc,q⟩ x).toArray 42)).alloc (by simp) (.cells (TRaw.cells ⟨SB,sn',sd,q'⟩ x).toArray 42));have hw:=h.below (hbw.mono hB);have hw':=h'.below (hbw.mono hB');have HSM:=Hd (show(Tryz.prog.info? 40).map (·.size)=some (q.cells x.m).length by rw[Xat,Xaq h.m.recent]);have HSM':=Hd (show(Tryz.prog.info? 40).map (·.size)=some (q'.cells x.m).length by rw[Xat,Xaq h.m.recent]);have HCM:=Hd (Xc1 (s:=⟨SA,sn',sc,q⟩) (x:=x));have HCM':=Hd (Xc1 (s:=⟨SB,sn',sd,q'⟩) (x:=x));have c0:(TRaw.cells ⟨SA,sn',sc,q⟩ x)[0]?=some (.slice SA sn' sc):=rfl;have d0:(TRaw.cells ⟨SB,sn',sd,q'⟩ x)[0]?=some (.slice SB sn' sd):=rfl;have hsc:=h.sn;dsimp only at hsc HCM HCM'
 generalize TRaw.cells ⟨SA,sn',sc,q⟩ x=ca at *;generalize TRaw.cells ⟨SB,sn',sd,q'⟩ x=cb at *;have HR0:=Hd hr0;have HR1:=Hd hr1;have HB:=Hd hbw;have HW:=Hd hw;have HW':=Hd hw';have HSC:=Hd hsc;have a0:=(hr0.cell 0).trans c0;have b0:=(hr1.cell 0).trans d0;clear hr0 hr1 hbw hw hw' h h' hsc c0 d0;go_enter Tryz.func17,Tryz.ntmps17
 go_wp2_with fail;refine(Xr5 SA SB sn' sc sd x.sigs _ B B' HW.out.sigs HW'.out.sigs (by have:=HSC.out;omega)).mono ?_;rintro e w5 ⟨rfl,k5,hw5⟩;have hr5:Row w5 w.heap.size 42 ca:=by rw[hw5];exact HR0.out.drewN k5
 have hr5':Row w5 (w.heap.size+1) 42 cb:=by rw[hw5];exact HR1.out.drewN k5
 have hm5:TxIn w5 B ⟨SA,sn',sc,q⟩ x:=by rw[hw5];exact HW.out.drewN k5
 have hm5':TxIn w5 B' ⟨SB,sn',sd,q'⟩ x:=by rw[hw5];exact HW'.out.drewN k5
 have hb5:Below w.heap.size w w5:=by rw[hw5];exact below_drewN HB.out k5
 have HR5:=Hd hr5;have HR5':=Hd hr5';have HM5:=Hd hm5.m;have HM5':=Hd hm5'.m;have HB5:=Hd hb5;clear hr5 hr5' hm5 hm5' hb5 hw5 a0 b0 HR0 HR1 HB HW HW';go_wp2_with (first
  | ((with_reducible show wpList _ _ _ (⟨some 12,_,_,_,_,_⟩::_) _ _);go_must(refine Xai (by kernel_rfl) 40 (.tmp 11) rfl ⟨w.heap.size,1,none⟩ (q.cells x.m) _ Tryz.underlying40 rfl HSM.out (fun j u hu=>by rw[Xa5,HR5.out.cell,HCM.out];exact hu) ?_ ?_;go_simp))
  | ((with_reducible show wpList _ _ _ (⟨some 14,_,_,_,_,_⟩::_) _ _);go_must(refine Xai (by kernel_rfl) 40 (.tmp 13) rfl ⟨w.heap.size+1,1,none⟩ (q'.cells x.m) _ Tryz.underlying40 rfl HSM'.out (fun j u hu=>by rw[Xa5,HR5'.out.cell,HCM'.out];exact hu) ?_ ?_;go_simp)))
 refine(Xv6 q q' x.m B B' w5 HM5.out (Lq hB HB5.out.size) HM5'.out (Lq hB' HB5.out.size)).mono ?_;rintro e w6 ⟨rfl,hb6⟩;go_wp2_with fail;go_ret;exact⟨rfl,HB5.out.trans (hb6.mono HB5.out.size)⟩
theorem Xi4{w:World}{g t:Nat}{l:Value}{h f:List Int}(hr:Row w g t (sheetCells l h f))(hh:h.length=64):∀j v,(bv h)[j]?=some v→w.cell? ((⟨g,1,none⟩:Addr).add j)=some v:=fun j v hv=>by
 have hj:=(List.getElem?_eq_some_iff.1 hv).1;rw[Xa5,hr.cell,show 1+j=j+1 by omega];show(bv h++bv f)[j]?=_
 rw[List.getElem?_append_left hj];exact hv
theorem Xjl{w:World}{g t:Nat}{l:Value}{h f:List Int}(hr:Row w g t (sheetCells l h f))(hh:h.length=64):∀j v,(bv f)[j]?=some v→w.cell? ((⟨g,65,none⟩:Addr).add j)=some v:=fun j v hv=>by
 rw[Xa5,hr.cell,show 65+j=(64+j)+1 by omega];show(bv h++bv f)[64+j]?=_
 rw[List.getElem?_append_right (by rw[bL,hh];omega),bL,hh,show 64+j - 64=j by omega];exact hv
theorem Xcm(n:Nat){z:List Int}(hz:z.length=64):(keyRow n z).length=n*64:=by
 unfold keyRow;induction n with
 | zero=>rfl
 | succ n ih=>rw[List.replicate_succ,List.flatten_cons,List.length_append,ih,bL,hz];omega
theorem Xit{k:Nat}{z:List Int}(hz:z.length=64)(xs ys:List Value)(hys:(k+1)*64≤ys.length) :
 (xs++(keyRow k z++ys.drop (k*64))).take (xs.length+k*64)++bv z++(xs++(keyRow k z++ys.drop (k*64))).drop (xs.length+k*64+(bv z).length)=xs++(keyRow (k+1) z++ys.drop ((k+1)*64)):=by
 have hl:=Xcm k hz;have hl2:(xs++keyRow k z).length=xs.length+k*64:=by rw[List.length_append,hl]
 have e2:xs.length+k*64+(bv z).length=(xs++keyRow k z).length+64:=by rw[hl2,bL,hz]
 rw[←List.append_assoc,List.take_left' hl2,e2,List.drop_length_add_append,List.drop_drop,Xhh,show k*64+64=(k+1)*64 by omega];simp only[List.append_assoc]
theorem Xeb{z:List Int}(hz:z.length=64):(Tryz.prog.info? 104).map (·.size)=some (bv z).length:=by rw[Xh1,bL,hz]
theorem Xme(g n c:Nat)(h f:List Int)(xs:List Value)(w:World)(hr:Row w g 104 xs)(hl:xs.length=c*64)(hnc:n≤c)(hc:c≤9223372036854775807)(hh:h.length=64)(hf:f.length=64) :
 Calls Tryz.prog 195 #[.agg (sheetCells (.slice (some ⟨g,0,none⟩) n c) h f).toArray,.bool false] w fun e w'=>e=.returned (.tuple #[])∧Row w' g 104 (keyRow n h++xs.drop (n*64))∧w.grownBy w' (some g):=by
 have hlt:=hr.lt;have HL:=Hd hl;have HH:=Hd (And.intro hh hf);have R:=Hd (hr.alloc (.cells (sheetCells (.slice (some ⟨g,0,none⟩) n c) h f).toArray 164));have HB:=Hd (Row.new w 164 (sheetCells (.slice (some ⟨g,0,none⟩) n c) h f));have G0:=World.grownBy_alloc w (.cells (sheetCells (.slice (some ⟨g,0,none⟩) n c) h f).toArray 164) (some g);clear hr hl hh hf;generalize hC:(sheetCells (.slice (some ⟨g,0,none⟩) n c) h f).toArray=C at *;go_enter Tryz.func195,Tryz.ntmps195
 go_wp2_with fail;go_loopw [4] (fun i wr=>∃k:Nat,k≤n∧i=.int .i64 k∧Row wr g 104 (keyRow k h++xs.drop (k*64))∧Row wr w.heap.size 164 (sheetCells (.slice (some ⟨g,0,none⟩) n c) h f)∧w.grownBy wr (some g)) (fun i _=>n - (intOf i).toNat)
 case atStart=>exact⟨0,Nat.zero_le _,rfl,by simpa [keyRow]using R.out,hC ▸ HB.out,G0⟩
 case round =>
  obtain⟨k,hk,rfl,hr,hb,hg⟩:=hrel;clear R HB G0;have RR:=Hd hr;have RB:=Hd hb;have GG:=Hd hg;have b0:wr.cell? ⟨w.heap.size,0,none⟩=some (.slice (some ⟨g,0,none⟩) n c):=hb.cell 0;clear hr hb hg;by_cases hlt2:k<n
  ·go_wp2_with (first
    | ((with_reducible show wpList _ _ _ (⟨some 20,_,_,_,_,_⟩::_) _ _);go_must(refine Xa3 rfl 104 (.tmp 19) rfl ⟨w.heap.size,1,none⟩ (bv h) _ Tryz.underlying104 rfl (Xeb HH.out.1) (Xi4 RB.out HH.out.1) ?_ ?_;go_simp))
    | ((with_reducible show wpList _ _ _ (⟨none,Op.store 104 _ _,_,_,_,_⟩::_) _ _);go_must(refine Xa9 rfl 104 (.tmp 21) (.tmp 20) rfl g 104 (k*64) _ (bv h) RR.out (Xeb HH.out.1) (by have:=HL.out;have:=Xcm k HH.out.1;rw[List.length_append,List.length_drop,bL,HH.out.1];omega) (Xae h) ?_ ?_ ?_;go_simp;go_simp;intro w2 hr2 ht2;have HR2:=Hd hr2;have HT2:=Hd ht2;clear hr2 ht2)))
   go_roundw
   case rel =>
    refine⟨k+1,by omega,by go_num,?_,HT2.out.row RB.out (by omega),Xax GG.out ⟨HT2.out.os,HT2.out.tape,HT2.out.output,by rw[HT2.out.size];exact Lr _,fun q hq hne=>HT2.out.block q (fun e=>hne (by rw[e]))⟩⟩;have:=HR2.out;have e:=Xit (k:=k) HH.out.1 [] xs (by have:=HL.out;omega);simp only[List.nil_append,List.length_nil,Nat.zero_add]at e;rwa [e]at this
   case measure=>simp[intOf];omega
  ·have hk':k=n:=by omega
   have R2:Hid (Row wr g 104 (keyRow n h++xs.drop (n*64))):=by rw[←hk'];exact RR.out
   clear hk' RR;go_wp2_with fail;refine bodyPost_ret (results_none rfl _ _ _) rfl ?_;exact⟨rfl,R2.out,GG.out⟩
theorem Xpd(g n c:Nat)(h f:List Int)(xs ys:List Value)(w:World)(hr:Row w g 104 (xs++ys))(hn:xs.length=n*64)(hl:ys.length=(c - n)*64)(hnc:n≤c)(hc:c≤9223372036854775807)(hh:h.length=64)(hf:f.length=64) :
 Calls Tryz.prog 195 #[.agg (sheetCells (.slice (some ⟨g,0,none⟩) n c) h f).toArray,.bool true] w fun e w'=>e=.returned (.tuple #[])∧Row w' g 104 (xs++keyRow (c - n) f)∧w.grownBy w' (some g):=by
 have hlt:=hr.lt;have HL:=Hd hl;have HN:=Hd hn;have HH:=Hd (And.intro hh hf);have R:=Hd (hr.alloc (.cells (sheetCells (.slice (some ⟨g,0,none⟩) n c) h f).toArray 164));have hB:=Row.new w 164 (sheetCells (.slice (some ⟨g,0,none⟩) n c) h f);have HB:=Hd hB;have G0:=World.grownBy_alloc w (.cells (sheetCells (.slice (some ⟨g,0,none⟩) n c) h f).toArray 164) (some g);have b0:(w.alloc (.cells (sheetCells (.slice (some ⟨g,0,none⟩) n c) h f).toArray 164)).cell? ⟨w.heap.size,0,none⟩=some (.slice (some ⟨g,0,none⟩) n c):=hB.cell 0;clear hr hl hn hh hf hB;generalize hC:(sheetCells (.slice (some ⟨g,0,none⟩) n c) h f).toArray=C at *;go_enter Tryz.func195,Tryz.ntmps195
 go_wp2_with fail;go_loopw [6] (fun i wr=>∃k:Nat,n+k≤c∧i=.int .i64 ((n+k:Nat):Int)∧Row wr g 104 (xs++(keyRow k f++ys.drop (k*64)))∧Row wr w.heap.size 164 (sheetCells (.slice (some ⟨g,0,none⟩) n c) h f)∧w.grownBy wr (some g)) (fun i _=>c - (intOf i).toNat)
 case atStart=>exact⟨0,by omega,rfl,by simpa [keyRow]using R.out,hC ▸ HB.out,G0⟩
 case round =>
  obtain⟨k,hk,rfl,hr,hb,hg⟩:=hrel;clear R HB G0;have RR:=Hd hr;have RB:=Hd hb;have GG:=Hd hg;clear hr hb hg b0;by_cases hlt2:n+k<c
  ·generalize hj:n+k=j at *;have HJ:=Hd hj;clear hj;go_wp2_with (first
    | ((with_reducible show wpList _ _ _ (⟨some 40,_,_,_,_,_⟩::_) _ _);go_must(refine Xa3 rfl 104 (.tmp 39) rfl ⟨w.heap.size,65,none⟩ (bv f) _ Tryz.underlying104 rfl (Xeb HH.out.2) (Xjl RB.out HH.out.1) ?_ ?_;go_simp))
    | ((with_reducible show wpList _ _ _ (⟨none,Op.store 104 _ _,_,_,_,_⟩::_) _ _);go_must(refine Xa9 rfl 104 (.tmp 41) (.tmp 40) rfl g 104 (j*64) _ (bv f) RR.out (Xeb HH.out.2) (by have:=HL.out;have:=HN.out;have:=HJ.out;have:=Xcm k HH.out.2;simp only[List.length_append,List.length_drop,bL,HH.out.2];omega) (Xae f) ?_ ?_ ?_;go_simp;go_simp;intro w2 hr2 ht2;have HR2:=Hd hr2;have HT2:=Hd ht2;clear hr2 ht2)))
   go_roundw
   case rel =>
    refine⟨k+1,by have:=HJ.out;omega,by rw[←HJ.out];go_num,?_,HT2.out.row RB.out (by omega),Xax GG.out ⟨HT2.out.os,HT2.out.tape,HT2.out.output,by rw[HT2.out.size];exact Lr _,fun q hq hne=>HT2.out.block q (fun e=>hne (by rw[e]))⟩⟩;have:=HR2.out;have e:=Xit (k:=k) HH.out.2 xs ys (by have:=HL.out;have:=HJ.out;omega);rw[show xs.length+k*64=j*64 by have:=HN.out;have:=HJ.out;omega]at e;rwa [e]at this
   case measure=>simp[intOf];omega
  ·have hk':k=c - n:=by omega
   have R2:Hid (Row wr g 104 (xs++keyRow (c - n) f)):=by
    have:=RR.out;rw[hk',List.drop_of_length_le (by have:=HL.out;omega),List.append_nil]at this;exact this
   have hj2:¬(((n+k:Nat):Int)<(c:Int)):=by omega
   clear hk' RR;generalize n+k=j at *;go_wp2_with fail;go_end0
   exact⟨rfl,R2.out,GG.out⟩
theorem Xhl{n k:Nat}{z:List Int}(hz:z.length=64)(hk:k<n){j:Nat}{v:Value}(hv:(bv z)[j]?=some v):(keyRow n z)[k*64+j]?=some v:=
 Xbh 64 (List.replicate n (bv z)) k (bv z) (fun i y hy=>by
  have:=List.mem_of_getElem? hy;rw[List.eq_of_mem_replicate this,bL,hz]) (by rw[List.getElem?_replicate_of_lt hk]) j v hv
theorem Xsh(g n c:Nat)(h f:List Int)(w:World)(hr:Row w g 104 (keyRow n h++keyRow (c - n) f))(hnc:n≤c)(hc:c≤9223372036854775807)(hh:h.length=64)(hf:f.length=64) :
 Calls Tryz.prog 194 #[.agg (sheetCells (.slice (some ⟨g,0,none⟩) n c) h f).toArray] w fun e w'=>e=.returned (.bool true)∧w.grownBy w' none:=by
 have hlt:=hr.lt;have HH:=Hd (And.intro hh hf);have R0:=Hd (hr.alloc (.cells (sheetCells (.slice (some ⟨g,0,none⟩) n c) h f).toArray 164));have HB:=Hd (Row.new w 164 (sheetCells (.slice (some ⟨g,0,none⟩) n c) h f));have b0:(w.alloc (.cells (sheetCells (.slice (some ⟨g,0,none⟩) n c) h f).toArray 164)).cell? ⟨w.heap.size,0,none⟩=some (.slice (some ⟨g,0,none⟩) n c):=HB.out.cell 0;have G0:=World.grownBy_alloc w (.cells (sheetCells (.slice (some ⟨g,0,none⟩) n c) h f).toArray 164) none;have NH:=fun w=>Xgc Tryz.underlying104 h hh w
 have NF:=fun w=>Xgc Tryz.underlying104 f hf w
 have C1:Hid (∀k,k<n→∀j v,(bv h)[j]?=some v→(w.alloc (.cells (sheetCells (.slice (some ⟨g,0,none⟩) n c) h f).toArray 164)).cell? ((⟨g,k*64,none⟩:Addr).add j)=some v):=Hd fun k hk j v hv=>by
  rw[Xa5,R0.out.cell,List.getElem?_append_left (by rw[Xcm n hh];have:=(List.getElem?_eq_some_iff.1 hv).1;rw[bL,hh]at this;omega)];exact Xhl hh hk hv
 have C2:Hid (∀k,k<c - n→∀j v,(bv f)[j]?=some v→(w.alloc (.cells (sheetCells (.slice (some ⟨g,0,none⟩) n c) h f).toArray 164)).cell? ((⟨g,(n+k)*64,none⟩:Addr).add j)=some v):=Hd fun k hk j v hv=>by
  rw[Xa5,R0.out.cell,List.getElem?_append_right (by rw[Xcm n hh];omega),Xcm n hh,show(n+k)*64+j - n*64=k*64+j by omega];exact Xhl hf hk hv
 have C3:Hid (∀j v,(bv h)[j]?=some v→(w.alloc (.cells (sheetCells (.slice (some ⟨g,0,none⟩) n c) h f).toArray 164)).cell? ((⟨w.heap.size,1,none⟩:Addr).add j)=some v):=Hd (Xi4 HB.out hh);have C4:Hid (∀j v,(bv f)[j]?=some v→(w.alloc (.cells (sheetCells (.slice (some ⟨g,0,none⟩) n c) h f).toArray 164)).cell? ((⟨w.heap.size,65,none⟩:Addr).add j)=some v):=Hd (Xjl HB.out hh);have SH:=Hd (Xeb hh);have SF:=Hd (Xeb hf);clear hr hh hf R0 HB HH;generalize bv h=H at *;generalize bv f=F at *;generalize hC:(sheetCells (.slice (some ⟨g,0,none⟩) n c) h f).toArray=C at *;clear hC;go_enter Tryz.func194,Tryz.ntmps194
 go_wp2_with fail;generalize w.alloc (.cells C 164)=W at *;go_loopw [3] (fun i wr=>∃k j:Nat,k≤n∧i=.int .i64 k∧wr=W.drewN j) (fun i _=>n - (intOf i).toNat)
 case atStart=>exact⟨0,0,Nat.zero_le _,rfl,rfl⟩
 case round =>
  obtain⟨k,j,hk,rfl,rfl⟩:=hrel;by_cases hlt2:k<n
  ·go_wp2_with fail;refine wp_region_quiet_lit (by kernel_rfl) (by kernel_rfl) ?_;repeat (first
    | ((with_reducible show wpQuiet _ _ _ _ (⟨some 17,_,_,_,_,_⟩::_) _);go_must(refine Xa6 (by kernel_rfl) 104 (.tmp 16) rfl ⟨g,k*64,none⟩ H _ Tryz.underlying104 rfl SH.out (by rintro _ ⟨nq,rfl⟩;exact C1.out k hlt2) ?_ ?_;go_simp;go_simp))
    | ((with_reducible show wpQuiet _ _ _ _ (⟨some 19,_,_,_,_,_⟩::_) _);go_must(refine Xa6 (by kernel_rfl) 104 (.tmp 18) rfl ⟨w.heap.size,1,none⟩ H _ Tryz.underlying104 rfl SH.out (by rintro _ ⟨nq,rfl⟩;exact C3.out) ?_ ?_;go_simp;go_simp))
    | go_big_quiet_step (fail))
   refine wpQuiet_nil ?_;intro nq;go_wp2_with fail;go_roundw
   case rel=>exact⟨k+1,j+nq,by omega,by go_num,by simp⟩
   case measure=>simp[intOf];omega
  ·go_wp2_with fail;go_loopw [5] (fun i wr=>∃k j:Nat,n+k≤c∧i=.int .i64 ((n+k:Nat):Int)∧wr=W.drewN j) (fun i _=>c - (intOf i).toNat)
   case atStart=>exact⟨0,j,by omega,rfl,rfl⟩
   case round =>
    obtain⟨k,j,hk,rfl,rfl⟩:=hrel;by_cases hlt2:n+k<c
    ·have C2k:=Hd (C2.out k (by omega));generalize hjj:n+k=t at *;have HJ:=Hd hjj;clear hjj;go_wp2_with fail;refine wp_region_quiet_lit (by kernel_rfl) (by kernel_rfl) ?_;repeat (first
      | ((with_reducible show wpQuiet _ _ _ _ (⟨some 39,_,_,_,_,_⟩::_) _);go_must(refine Xa6 (by kernel_rfl) 104 (.tmp 38) rfl ⟨g,t*64,none⟩ F _ Tryz.underlying104 rfl SF.out (by rintro _ ⟨nq,rfl⟩;exact C2k.out) ?_ ?_;go_simp;go_simp))
      | ((with_reducible show wpQuiet _ _ _ _ (⟨some 41,_,_,_,_,_⟩::_) _);go_must(refine Xa6 (by kernel_rfl) 104 (.tmp 40) rfl ⟨w.heap.size,65,none⟩ F _ Tryz.underlying104 rfl SF.out (by rintro _ ⟨nq,rfl⟩;exact C4.out) ?_ ?_;go_simp;go_simp))
      | go_big_quiet_step (fail))
     refine wpQuiet_nil ?_;intro nq;go_wp2_with fail;go_roundw
     case rel=>exact⟨k+1,j+nq,by have:=HJ.out;omega,by rw[←HJ.out];go_num,by simp⟩
     case measure=>simp[intOf];omega
    ·have hj2:¬(((n+k:Nat):Int)<(c:Int)):=by omega
     generalize n+k=t at *;go_wp2_with fail;go_ret;exact⟨rfl,Xax G0 ⟨rfl,rfl,rfl,Lr _,fun _ _ _=>rfl⟩⟩
theorem Xkz(b:Bool)(h f:List Int)(w:World) :
 Calls Tryz.prog 195 #[.agg (sheetCells (.slice none 0 0) h f).toArray,.bool b] w fun e w'=>e=.returned (.tuple #[])∧w.grownBy w' none:=by
 have G0:=World.grownBy_alloc w (.cells (sheetCells (.slice none 0 0) h f).toArray 164) none;have b0:(w.alloc (.cells (sheetCells (.slice none 0 0) h f).toArray 164)).cell? ⟨w.heap.size,0,none⟩=some (.slice none 0 0):=(Row.new w 164 (sheetCells (.slice none 0 0) h f)).cell 0;generalize (sheetCells (.slice none 0 0) h f).toArray=C at *;cases b
 ·go_enter Tryz.func195,Tryz.ntmps195
  go_wp2;go_loop [4] (fun i=>i=.int .i64 0) (fun _=>0)
  case atStart=>rfl
  case round =>
   subst hrel;go_wp2;refine bodyPost_ret (results_none rfl _ _ _) rfl ?_;exact⟨rfl,G0⟩
 ·go_enter Tryz.func195,Tryz.ntmps195
  go_wp2;go_loop [6] (fun i=>i=.int .i64 0) (fun _=>0)
  case atStart=>rfl
  case round =>
   subst hrel;go_wp2;go_end0
   exact⟨rfl,G0⟩
theorem Xtu(h f:List Int)(w:World) :
 Calls Tryz.prog 194 #[.agg (sheetCells (.slice none 0 0) h f).toArray] w fun e w'=>e=.returned (.bool true)∧w.grownBy w' none:=by
 have G0:=World.grownBy_alloc w (.cells (sheetCells (.slice none 0 0) h f).toArray 164) none;have b0:(w.alloc (.cells (sheetCells (.slice none 0 0) h f).toArray 164)).cell? ⟨w.heap.size,0,none⟩=some (.slice none 0 0):=(Row.new w 164 (sheetCells (.slice none 0 0) h f)).cell 0;generalize (sheetCells (.slice none 0 0) h f).toArray=C at *;go_enter Tryz.func194,Tryz.ntmps194
 go_wp2;go_loop [3] (fun i=>i=.int .i64 0) (fun _=>0)
 case atStart=>rfl
 case round =>
  subst hrel;go_wp2;go_loop [5] (fun i=>i=.int .i64 0) (fun _=>0)
  case atStart=>rfl
  case round =>
   subst hrel;go_wp2;go_ret;exact⟨rfl,G0⟩
def sgz(a b l:Int):List Int:=[a,b,l]++List.replicate 61 0
theorem Xq5(a b l:Int):(sgz a b l).length=64:=rfl
theorem Xla(a b l:Int):Tryz.prog.built 104 [(0,.int .u8 a),(1,.int .u8 b),(2,.int .u8 l)]=some (bv (sgz a b l)).toArray:=by kernel_rfl
theorem Xl3(B:Option Addr)(m d:Nat)(z1 z2:List Int)(h1:z1.length=64)(h2:z2.length=64):Tryz.prog.built 164 [(0,.slice B m d),(1,.agg (bv z1).toArray),(2,.agg (bv z2).toArray)]=some (sheetCells (.slice B m d) z1 z2).toArray:=by
 obtain⟨f,rfl⟩:∃f:Fin 64→Int,z1=List.ofFn f:=⟨fun i=>z1.getD i 0,by
  refine List.ext_getElem (by simpa using h1) fun i h3 h4=>?_
  rw[List.getElem_ofFn,List.getD_eq_getElem?_getD,List.getElem?_eq_getElem h3];rfl⟩
 obtain⟨g,rfl⟩:∃f:Fin 64→Int,z2=List.ofFn f:=⟨fun i=>z2.getD i 0,by
  refine List.ext_getElem (by simpa using h2) fun i h3 h4=>?_
  rw[List.getElem_ofFn,List.getD_eq_getElem?_getD,List.getElem?_eq_getElem h3];rfl⟩
 kernel_rfl
theorem Xut(p base:Nat)(A B:Option Addr)(n c m d:Nat)(ps:List Value)(w0 w:World)(h:BookW w0 p base A n c ps w)(hn:n≤1000000) :
 Calls Tryz.prog 63 #[.pointer (some ⟨p,0,none⟩),.slice B m d] w fun e w'=>∃z1 z2 A' c',e=.returned (.tuple #[])∧z1.length=64∧z2.length=64 ∧
  BookW w0 p base A' (n+1) c' (ps++[.iface 164 (.agg (sheetCells (.slice B m d) z1 z2).toArray)]) w':=by
 obtain⟨i0,hi,hz0,hz1,hz2⟩:=info_parts Xga;have c0:w.cell? ⟨p,0,none⟩=some (.slice A n c):=h.row.cell 0;have f0:=h.row.frozen 0;have HN:=Hd (Xk4 p A n c w h.row hn);have HH:=Hd h;obtain⟨z1,hzz1⟩:∃z,z=sgz (((n:Int)+1) % 256) (((n:Int)+1) / 256 % 256) 1:=⟨_,rfl⟩;obtain⟨z2,hzz2⟩:∃z,z=sgz (((n:Int)+1) % 256) (((n:Int)+1) / 256 % 256) 2:=⟨_,rfl⟩;have HZ1:=Hd hzz1;have HZ2:=Hd hzz2;have hl1:z1.length=64:=by rw[hzz1];exact Xq5 _ _ _
 have hl2:z2.length=64:=by rw[hzz2];exact Xq5 _ _ _
 let q:Value:=.iface 164 (.agg (sheetCells (.slice B m d) z1 z2).toArray)
 have hsees:=(Row.new w 115 [q]).sees0;have HH1:=Hd (h.alloc (.cells [q].toArray 115));have hown1:=HH1.out.own;have hone:∀u ∈ [q],u.oneCell'=true:=by simp[q,Value.oneCell']
 have hbase:=HH1.out.lt;have HL1:=Hd hl1;have HL2:=Hd hl2;clear h hzz1 hzz2 hl1 hl2;go_enter Tryz.func63,Tryz.ntmps63
 go_wp2_with fail;refine HN.out.mono ?_;rintro e w1 ⟨rfl,rfl⟩;go_wp2_with (first
  | ((with_reducible show wpList _ _ _ (⟨some 18,_,_,_,_,_⟩::_) _ _);go_must(refine wpList_plain rfl fun K hK=>Xav _ _ _ rfl (by simp only[List.map_toArray,List.map_cons,List.map_nil];exact Xla _ _ _) (hK _ _ ?_);rw[←HZ1.out]))
  | ((with_reducible show wpList _ _ _ (⟨some 24,_,_,_,_,_⟩::_) _ _);go_must(refine wpList_plain rfl fun K hK=>Xav _ _ _ rfl (by simp only[List.map_toArray,List.map_cons,List.map_nil];exact Xla _ _ _) (hK _ _ ?_);rw[←HZ2.out]))
  | ((with_reducible show wpList _ _ _ (⟨some 25,_,_,_,_,_⟩::_) _ _);go_must(refine wpList_plain rfl fun K hK=>Xav _ _ _ rfl (by simp only[List.map_toArray,List.map_cons,List.map_nil];exact Xl3 B m d z1 z2 HL1.out HL2.out) (hK _ _ ?_)))
  | (at_builtin;go_must(refine Xbw rfl (.tmp 11) (.tmp 27) 58 rfl base 115 i0 _ 16 Tryz.underlying58 hi hz0 hz1 hz2 rfl _ n _ rfl hown1 _ _ 1 _ _ rfl hsees hone (by unfold maxLen;omega) (by omega) hbase ?_);intro v2 w2 hown2 hg2 hat2;have hR2:=HH1.out.row.grown hg2 (Xbf HH1.out.own HH1.out.row (by decide));have c2:w2.cell? ⟨p,0,none⟩=some (.slice A n c):=hR2.cell 0;have f2:=hR2.frozen 0;obtain⟨A',c',rfl⟩:=Xcd hown2;have HR2:=Hd hR2;clear hR2))
 go_end0
 exact⟨z1,z2,A',c',rfl,HL1.out,HL2.out,HH1.out.last HR2.out hown2 hg2⟩
def inSize(l:List LIn):Nat:=(l.map fun i=>i.acc.length+i.dat.length).sum
def lookSize(l:List LLook):Nat:=(l.map fun i=>i.wr.length+i.rd.length).sum
def total(m:LMsg):Nat:=m.keys.length+m.ins.length+m.looks.length+inSize m.ins+lookSize m.looks
theorem Xfn{l:List LLook}{k:Nat}{x:LLook}(h:l[k]?=some x):lookSize (l.take (k+1))=lookSize (l.take k)+(x.wr.length+x.rd.length):=by
 unfold lookSize;rw[List.take_add_one,h];simp
theorem Xtx{l:List LIn}{x:LIn}(h:x ∈ l):x.acc.length+x.dat.length≤inSize l:=by
 induction l with
 | nil=>cases h
 | cons y r ih =>
  simp only[inSize,List.map_cons,List.sum_cons]at ih ⊢;rcases List.mem_cons.1 h with rfl | h
  ·omega
  ·have:=ih h;omega
theorem Xin{l:List LLook}{x:LLook}(h:x ∈ l):x.wr.length+x.rd.length≤lookSize l:=by
 induction l with
 | nil=>cases h
 | cons y r ih =>
  simp only[lookSize,List.map_cons,List.sum_cons]at ih ⊢;rcases List.mem_cons.1 h with rfl | h
  ·omega
  ·have:=ih h;omega
open Go.ChangeShapes Go.WideShapes Go.RowKit
theorem Xjo{α:Type}{p:Nat→α→Prop}:∀(n:Nat),(∀i,i<n→∃x,p i x)→∃l:List α,l.length=n∧∀i x,l[i]?=some x→p i x
 | 0,_=>⟨[],rfl,fun i x h=>by simp at h⟩
 | n+1,h=>by
  obtain⟨l,hl,hp⟩:=Xjo n fun i hi=>h i (by omega)
  obtain⟨x,hx⟩:=h n (Nat.lt_succ_self _);refine⟨l++[x],by simp[hl],fun i y hy=>?_⟩;by_cases hi:i<n
  ·rw[List.getElem?_append_left (by omega)]at hy;exact hp i y hy
  ·rw[List.getElem?_append_right (by omega)]at hy;have h1:=(List.getElem?_eq_some_iff.1 hy).1;simp at h1;have:i=n:=by omega
   subst this;rw[show i - l.length=0 by omega]at hy;simp at hy;exact hy ▸ hx
theorem KeysIn.of_at{w:World}{B:Nat}{A:Option Addr}{n:Nat}{l:List (List Int)}(hn:l.length=n)(h:∀(i:Nat) x,l[i]?=some x→x.length=32∧∃a,A=some a∧a.block<B∧∀j u,(bv x)[j]?=some u→w.cell? (a.add (i*32+j))=some u):KeysIn w B A n l:=by
 have he:∀k ∈ l,k.length=32:=fun k hk=>by
  obtain⟨i,hi,rfl⟩:=List.getElem_of_mem hk;exact(h i _ (List.getElem?_eq_getElem hi)).1
 have hf:l.flatten.length=n*32:=by
  rw[←hn];clear hn h;induction l with
  | nil=>rfl
  | cons y r ih =>
   have h1:=ih (fun k hk=>he k (by simp[hk]));have h2:=he y (by simp);simp only[List.flatten_cons,List.length_append,List.length_cons,h1,h2];omega
 refine⟨hn,he,⟨by rw[bL];exact hf,fun i u hu=>?_⟩⟩;have hi:=(List.getElem?_eq_some_iff.1 hu).1;rw[bL,hf]at hi;have hk:i / 32<l.length:=by omega
 obtain⟨h1,a,rfl,h2,h3⟩:=h (i / 32) _ (List.getElem?_eq_getElem hk);refine⟨_,rfl,h2,?_⟩;have hlt:i % 32<(bv l[i / 32]).length:=by rw[bL,h1];omega
 obtain⟨u',hu'⟩:∃u',(bv l[i / 32])[i % 32]?=some u':=⟨_,List.getElem?_eq_getElem hlt⟩;have h4:=h3 _ _ hu';rw[show i / 32*32+i % 32=i by omega]at h4;rw[h4];rw[bv_getElem?]at hu hu';obtain⟨z',hz',rfl⟩:∃z,(l[i / 32])[i % 32]?=some z∧u'=.int .u8 z:=by
  cases hq:(l[i / 32])[i % 32]? with
  | none=>rw[hq]at hu';simp at hu'
  | some z=>rw[hq]at hu';exact⟨z,rfl,by simpa using hu'.symm⟩
 have h5:=Xbh 32 l (i / 32) _ (fun i y hy=>he y (List.mem_of_getElem? hy)) (List.getElem?_eq_getElem hk) (i % 32) z' hz';rw[show i / 32*32+i % 32=i by omega]at h5;rw[h5]at hu;exact hu
theorem Xwa{z:Int}(h:(Lit.int .u8 z).wf=true):IsByte z:=by
 have:=bounds_u8 h;unfold IsByte;omega
section
variable{H:Type}{enc:TypeId × Value→H}
def Wt(t:TypeId)(d:DataW H):Prop:=∀n ∈ d.weights Tryz.prog t,n≤reachBytes
theorem Xvl{e:TypeId}:∀{l:List (DataW H)},(∀n ∈ DataW.weightsAll Tryz.prog e l,n≤reachBytes)→∀d ∈ l,Wt e d
 | [],_,d,hd=>by simp at hd
 | y::r,h,d,hd=>by
  rcases List.mem_cons.1 hd with rfl | hd
  ·exact fun n hn=>h n (by simp[DataW.weightsAll,hn])
  ·exact Xvl (l:=r) (fun n hn=>h n (by simp[DataW.weightsAll,hn])) d hd
variable{w:World}{base:Nat}{held:Bool}
theorem Xqa{t e:TypeId}{fuel:Nat}{cs:List Value}{x:DataW H × List MemPlace}(ht:Tryz.prog.underlying t=some (.slice e))(hc:0<Tryz.prog.cellsOf e)
 (h:DataW.trod enc Tryz.prog w base (fun _=>true) held fuel t cs=some x) (hw:Wt t x.1) :
 ∃A n c,cs=[.slice A n c]∧n≤c∧c≤maxLen∧n*Tryz.prog.bytesOf e≤reachBytes∧∀i,i<n→∃a cs' y m,A=some a∧a.block<w.heap.size∧cs'.length=Tryz.prog.cellsOf e ∧
  (∀j u,cs'[j]?=some u→w.cell? (a.add (i*Tryz.prog.cellsOf e+j))=some u)∧DataW.trod enc Tryz.prog w base (fun _=>true) held m e cs'=some y∧Wt e y.1:=by
 rcases Go.Deep.open_slice ht h with⟨rfl,rfl⟩ | ⟨a,len,cap,m,n,D,Pl,rfl,hb,hl,hm,hmm,rfl,hx⟩
 ·exact⟨none,0,0,rfl,Lr _,Nat.zero_le _,by simp,fun i hi=>by omega⟩
 ·have hm':m=cap:=by simpa using hmm
  have h1:((len+(m - len))*Tryz.prog.bytesOf e)≤reachBytes:=by
   refine hw _ ?_;simp[DataW.weights,ht]
  have h2:∀d ∈ (List.range len).map D,Wt e d:=Xvl fun n hn=>hw n (by simp only[DataW.weights,ht];simp[hn])
  refine⟨some a,len,cap,rfl,hl,hm,Lq (Nat.mul_le_mul_right _ (by omega)) h1,fun i hi=>?_⟩;obtain⟨cs',hcs,htr⟩:=hx i (by omega);have hbl:=World.cells?_block hcs hc;obtain⟨_,hlen,hat⟩:=World.cells?_some hcs;refine⟨a,cs',_,n,rfl,by rwa [Xa7]at hbl,hlen,fun j u hu=>?_,htr,h2 _ (by simp;exact⟨i,hi,rfl⟩)⟩;have:=hat j (by have:=(List.getElem?_eq_some_iff.1 hu).1;omega);rw[Xbr]at this;rw[this,hu]
theorem Xx5:Tryz.prog.cellsOf 5=1:=by kernel_rfl
theorem Xg2:Tryz.prog.cellsOf 78=32:=by kernel_rfl
theorem Xtl:Tryz.prog.bytesOf 78=32:=by kernel_rfl
theorem Xrz:reachBytes≤140737488355328:=by decide
theorem Xrp{t:TypeId}{fuel:Nat}{cs:List Value}{x:DataW H × List MemPlace}(ht:Tryz.prog.underlying t=some (.array 32 5))(hc:Tryz.prog.cellsOf t=32)(h:DataW.trod enc Tryz.prog w base (fun _=>true) held fuel t cs=some x) :
 ∃l:List Int,cs=bv l∧l.length=32∧AllBytes l:=by
 obtain⟨xs,m,_,_,hl,hxs,hat⟩:=DataW.trod_array ht h;obtain⟨l,hll,hp⟩:=Xjo (α:=Int) (p:=fun i z=>IsByte z∧cs[i]?=some (.int .u8 z)) 32 fun i hi=>by
  have h1:=hat i hi;have hx:xs[i]?=some xs[i]:=List.getElem?_eq_getElem (by omega);rw[Xx5,hx]at h1;obtain⟨z,hz,_,hwz⟩:=DataW.trod_int Tryz.underlying5 h1;refine⟨z,Xwa hwz,?_⟩;have:=congrArg List.head? hz;simpa [List.head?_take]using this
 rw[hc]at hl;refine⟨l,List.ext_getElem? fun i=>?_,hll,fun z hz=>?_⟩
 ·by_cases hi:i<32
  ·have e:=List.getElem?_eq_getElem (l:=l) (i:=i) (by omega);rw[bv_getElem?,e,(hp i _ e).2];rfl
  ·rw[List.getElem?_eq_none (by omega),List.getElem?_eq_none (by rw[bL];omega)]
 ·obtain⟨i,hi,rfl⟩:=List.getElem_of_mem hz;exact(hp i _ (List.getElem?_eq_getElem hi)).1
end
section
variable{H:Type}{enc:TypeId × Value→H}{w:World}{base:Nat}{held:Bool}
theorem Xr2{fuel:Nat}{v:Value}{x:DataW H × List MemPlace}(h:DataW.trod enc Tryz.prog w base (fun _=>true) held fuel 34 [v]=some x)(hw:Wt 34 x.1) :
 ∃A n c l,v=.slice A n c∧n≤c∧c≤maxLen∧KeysIn w w.heap.size A n l∧(∀k ∈ l,k.length=32∧AllBytes k)∧l.length≤140737488355328:=by
 obtain⟨A,n,c,hcs,h1,h2,h3,h4⟩:=Xqa Tryz.underlying34 (by rw[Xg2];omega) h hw;obtain rfl:v=.slice A n c:=by simpa using hcs
 rw[Xtl]at h3;have:=Xrz;obtain⟨l,hl,hp⟩:=Xjo (α:=List Int) (p:=fun i z=>(z.length=32∧AllBytes z)∧∃a,A=some a∧a.block<w.heap.size∧∀j u,(bv z)[j]?=some u→w.cell? (a.add (i*32+j))=some u) n fun i hi=>by
  obtain⟨a,cs',y,m,e1,e2,e3,e4,e5,_⟩:=h4 i hi;obtain⟨z,rfl,hz,hz'⟩:=Xrp Tryz.underlying78 Xg2 e5;rw[Xg2]at e4;exact⟨z,⟨hz,hz'⟩,a,e1,e2,e4⟩
 subst hl;refine⟨A,l.length,c,l,rfl,h1,h2,KeysIn.of_at rfl fun i x hx=>⟨(hp i x hx).1.1,(hp i x hx).2⟩,fun k hk=>?_,by omega⟩;obtain⟨i,hi,rfl⟩:=List.getElem_of_mem hk;exact(hp i _ (List.getElem?_eq_getElem hi)).1
end
theorem one_of{cs:List Value}(h:cs.length=1):∃a,cs=[a]:=by
 match cs,h with
 | [a],_=>exact⟨a,rfl⟩
theorem Xt7:Tryz.prog.cellsOf 34=1:=by kernel_rfl
theorem cut{α:Type}(cs:List α)(a k b:Nat)(h:a+k=b):cs.drop a=(cs.drop a).take k++cs.drop b:=by
 subst h;rw[←List.drop_drop,List.take_append_drop]
end Go.Proofs.YtdgbodljmdcagaaGreatDoor
