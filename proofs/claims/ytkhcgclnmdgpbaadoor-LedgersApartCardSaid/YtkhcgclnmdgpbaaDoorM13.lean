import Derived.Test.YtkhcgclnmdgpbaaDoorM12
import Derived.Scope
set_option maxRecDepth 100000
set_option maxHeartbeats 16000000
set_option linter.unusedSimpArgs false
set_option linter.unusedVariables false
namespace Go.Proofs.YtkhcgclnmdgpbaaDoor
open Go.RowKit Go.Shelf
attribute [local go_sem] Oper.semAt_some
def FoldDone16(w:World)(sb mb:Nat)(S:F16)(e:Ending)(w':World):Prop:=
 ∃os A c,e=.returned (.tuple #[.slice A os.length os.length,.int .u64 S.fees,.int .i64 S.e])∧os.map (·.1)=S.outs∧w'.ownsRow w.heap.size 60 6 (.slice A os.length c) os.length (osC16 os)∧(∀p ∈ os,Hol16 w' w.heap.size p)∧StIn w' sb mb S.L∧w.grownBy w' (some mb)
theorem Xtx{P:Program}{n:Nat}{g:Operand}{ps:Array Tmp}{assign body:Code}{Q:Exit→Act→World→Prop}{a:Act}{w:World}(gf:Nat)(lb:Array Value)(hg:a.eval g=.func (.func gf) #[] lb)(eg:∀args w,(callFunc gf args).run P w=.ok (.enter gf args) w)
 (h:∀(fn:FuncId) (lp:Nat) (rc:LoopState→Option Code→Loop) (W:World),lp=w.heap.size+1→(rc=fun st pe=>{ state:=st,pending:=pe,fn,tmps:=a.tmps,params:=ps,assign,body,defers:=w.heap.size })→W=(w.alloc (.deferred (some []))).alloc (.loop (rc .ready none)) →
   CallsIn Fence.wide (n - 1) P gf (#[.func (.yield lp) #[] #[]]++lb) W (rangePost Fence.wide n P lp Q { a with defers:={ target:=.collected w.heap.size,args:=#[] }::a.defers })) :
 (Code.rangeFunc g ps assign body).wpIn Fence.wide n P Q a w:=by
 refine wpIn_rangeFunc ?_;intro fn hfn;obtain⟨rc,hrc⟩:∃rc:LoopState→Option Code→Loop,rc=fun st pe=>{ state:=st,pending:=pe,fn:=fn,tmps:=a.tmps,params:=ps,assign:=assign,body:=body,defers:=w.heap.size }:=⟨_,rfl⟩
 obtain⟨W1,hW1⟩:∃W1,W1=(w.alloc (.deferred (some []))).alloc (.loop (rc .ready none)):=⟨_,rfl⟩;refine⟨w.heap.size+1,[{ target:=.collected w.heap.size,args:=#[] }],W1,{ target:=.fn (.func gf) lb,args:=#[.func (.yield (w.heap.size+1)) #[] #[]] },W1,gf,#[.func (.yield (w.heap.size+1)) #[] #[]]++lb,W1,?_,?_,?_,?_,fun e=>(by cases e),?_⟩
 ·rw[hW1,hrc];exact run_enterLoop_outer _ _ _ _ _
 ·simp only[resolve,hg];simp[go_sem]
 ·intro f' hf';exact trivial
 ·simp[invoke,go_sem,eg]
 ·exact h fn (w.heap.size+1) rc W1 rfl hrc hW1
theorem jump16{F:Fence}{n:Nat}{P:Program}{Q:Exit→Act→World→Prop}{a:Act}{w:World}{jump:Option Code}:(jump=none∨jump=some (.exit 0))→(Q .normal a w→Q (.exit 0) a w)→Q .normal a w→(match jump with | none=>Q .normal a w | some c=>c.wpIn F n P Q a w):=by
 intro hj hx h;rcases hj with rfl | rfl
 ·exact h
 ·exact wpIn_exit (hx h)
theorem Xl5{a:List LReady}{S:F16}{os:List LOut}{f:Int}{L:List LHold}{x:LReady}(hS:S.e=0)(h:fold16 a S=⟨os,f,0,L⟩)(h0:(apply16 L x).1.2=0):fold16 (a++[x]) S=⟨os++[(apply16 L x).1.1],sat16 (f+(apply16 L x).1.1.fee),0,(apply16 L x).2⟩:=by
 rw[Xfs _ _ _ hS,h,if_pos rfl,Xbg,if_pos h0];rfl
theorem Xkz{a r:List LReady}{S:F16}{os:List LOut}{f:Int}{L:List LHold}{x:LReady}(hS:S.e=0)(h:fold16 a S=⟨os,f,0,L⟩)(h0:(apply16 L x).1.2≠0):fold16 (a++x::r) S=⟨os,f,(apply16 L x).1.2,L⟩:=by
 rw[Xfs _ _ _ hS,h,if_pos rfl,Xbg,if_neg h0]
theorem Xft:∀(r:List LReady) (S:F16),(fold16 r S).outs.length≤S.outs.length+r.length
 | [],S=>by simp[fold16]
 | x::r,S=>by
  rw[Xbg,List.length_cons];split
  ·have h:=Xft r ⟨S.outs++[(apply16 S.L x).1.1],sat16 (S.fees+(apply16 S.L x).1.1.fee),0,(apply16 S.L x).2⟩;rw[List.length_append,List.length_singleton]at h;omega
  ·show S.outs.length≤_
   omega
theorem Xd0{V:World}{x:Nat}{r:Loop}(h:V.heap[x]?=some (.loop r)):Odd16 V x:=⟨_,h,rfl,fun _ _ e=>by cases e⟩
theorem Xa1{V:World}{x:Nat}{d:Option (List Deferred)}(h:V.heap[x]?=some (.deferred d)):Odd16 V x:=⟨_,h,rfl,fun _ _ e=>by cases e⟩
structure FR16(T:FK16)(w0 V:World)(v:Value)(os:List (LOut × Option Addr))(fees:Int)(L:List LHold)(g7:Nat)(p:LOut × Option Addr)(lp:Nat)(X:Obj)(D:Nat):Prop where
 c:FC16 T w0 V v os fees 0 L
 r7:Row V g7 60 (oC16 p)
 h7:Hol16 V w0.heap.size p
 x:V.heap[lp]?=some X
 d:V.heap[D]?=some (.deferred (some []))
 xo:X.isCells=false∧∀es cl,X≠.map es cl
section
variable{T:FK16}{w0 V V':World}{v:Value}{os:List (LOut × Option Addr)}{fees:Int}{L:List LHold}{g7 lp D:Nat}{p:LOut × Option Addr}{X:Obj}
theorem FR16.below(h:FR16 T w0 V v os fees L g7 p lp X D)(hb:Below V.heap.size V V'):FR16 T w0 V' v os fees L g7 p lp X D:=
 ⟨h.c.below hb,h.r7.below hb h.r7.lt,by obtain⟨c,hc⟩:=h.h7;exact⟨c,Xaa hc hb⟩,(hb.block _ (Array.getElem?_eq_some_iff.1 h.x).1).trans h.x,(hb.block _ (Array.getElem?_eq_some_iff.1 h.d).1).trans h.d,h.xo⟩
theorem FR16.oddX(h:FR16 T w0 V v os fees L g7 p lp X D):Odd16 V lp:=⟨X,h.x,h.xo⟩
theorem FR16.grew{n:Nat}{u:Value}{xs:List Value}(h:FR16 T w0 V v os fees L g7 p lp X D)(ho:V.ownsRow w0.heap.size 60 6 u n xs)(hn:some g7≠u.ownBlock)(hg:V.grownBy V' u.ownBlock):FR16 T w0 V' v os fees L g7 p lp X D:=by
 refine⟨h.c.grew ho hg,h.r7.grown hg hn,?_,?_,?_,h.xo⟩
 ·obtain⟨c,hc⟩:=h.h7;refine⟨c,hc.kept hg ?_⟩;by_cases hn:(Value.slice p.2 p.1.ch.length c).ownBlock=none
  ·exact .inl hn
  refine .inr (fun e=>?_);cases hb:u.ownBlock with
  | none=>exact hn (e.trans hb)
  | some k =>
   obtain⟨cur,h1⟩:=Xfy ho hb;obtain⟨cur',h2⟩:=Xfy hc (e.trans hb);rw[h1]at h2;injection h2 with h2
   injection h2 with _ h2 _
   exact absurd h2 (by decide)
 ·exact(hg.block _ (Array.getElem?_eq_some_iff.1 h.x).1 (fun e=>Xam ho h.oddX e.symm)).trans h.x
 ·exact(hg.block _ (Array.getElem?_eq_some_iff.1 h.d).1 (fun e=>Xam ho (Xa1 h.d) e.symm)).trans h.d
theorem Xat{rc:LoopState→Option Code→Loop}{fn:FuncId}{tm:Array Value}{ps:Array Tmp}{asg bo:Code}{D0:Nat}{VF:World}{a:Act}{f:Int}{S0:F16}{l:List (YRaw × LReady)}{k:Nat}{Jx:World→Prop}(hrc:rc=fun st pe=>{ state:=st,pending:=pe,fn:=fn,tmps:=tm,params:=ps,assign:=asg,body:=bo,defers:=D0 })(hX:X=.loop { rc .ready none with state:=.busy })(h1:w0.heap.size≤lp)(h2:lp≠D)
 (h:FB16 T w0 VF os f 0 L∧VF.heap[lp]?=some X∧VF.heap[D]?=some (.deferred (some []))) (hf:fold16 ((l.take (k+1)).map (·.2)) S0=⟨os.map (·.1),f,0,L⟩) :
 roundPost Tryd.prog lp (fun e W'=>(e=.returned (.bool true)∧∃os fees Lk,fold16 (List.take (k+1) (l.map (·.2))) S0=⟨os.map (·.1),fees,0,Lk⟩∧FB16 T w0 W' os fees 0 Lk∧W'.heap[lp]?=some (.loop (rc .ready none))∧W'.heap[D]?=some (.deferred (some [])))∨(e=.returned (.bool false)∧Jx W')) .normal a VF:=by
 obtain⟨hb,hx,hd⟩:=h;rw[hX]at hx;refine⟨_,_,run_endRound none hx,.inl ⟨rfl,os,f,L,by rw[←List.map_take];exact hf,hb.odd (grownBy_putObj' _ _ _) (Xd0 hx) h1,?_,(World.putObj_heap_other h2.symm).trans hd⟩⟩;rw[World.putObj_heap_same (Array.getElem?_eq_some_iff.1 hx).1,hrc];rfl
theorem FR16.fin(h:FR16 T w0 V v os fees L g7 p lp X D){u:Value}(ho:V.ownsRow w0.heap.size 60 6 u (os.length+1) (osC16 os++oC16 p))(f:Int) :
 FB16 T w0 ((V.setCell ⟨T.b4,0,none⟩ u).setCell ⟨T.b5,0,none⟩ (.int .u64 f)) (os++[p]) f 0 L∧((V.setCell ⟨T.b4,0,none⟩ u).setCell ⟨T.b5,0,none⟩ (.int .u64 f)).heap[lp]?=some X∧((V.setCell ⟨T.b4,0,none⟩ u).setCell ⟨T.b5,0,none⟩ (.int .u64 f)).heap[D]?=some (.deferred (some [])):=by
 have t4:=Xa0 V ⟨T.b4,0,none⟩ u;have c4:=h.c.set4 u;have t5:=Xa0 (V.setCell ⟨T.b4,0,none⟩ u) ⟨T.b5,0,none⟩ (.int .u64 f);have c5:=c4.set5 f;have o5:=Xa5 (Xa5 ho h.c.r4 (by decide) t4) c4.r5 (by decide) t5;have h5:=Xca (Xca h.h7 h.c.r4 (by decide) t4) c4.r5 (by decide) t5;have x4:=(t4.block lp (Xa8 h.c.r4 h.oddX).symm).trans h.x;have d4:=(t4.block D (Xa8 h.c.r4 (Xa1 h.d)).symm).trans h.d;refine⟨⟨u,⟨c5.g,c5.st,c5.r4,c5.r5,c5.r6,c5.rl,c5.rs,fun q hq=>?_,c5.lo,c5.sl⟩,?_⟩,(t5.block lp (Xa8 c4.r5 ⟨X,x4,h.xo⟩).symm).trans x4,(t5.block D (Xa8 c4.r5 (Xa1 d4)).symm).trans d4⟩
 ·rcases List.mem_append.1 hq with hq | hq
  ·exact c5.hol q hq
  ·rw[List.mem_singleton.1 hq];exact h5
 ·rw[Xmu,List.length_append];exact o5
end
theorem Xak{T:FK16}{w V:World}{sb mb:Nat}{v:Value}{os:List (LOut × Option Addr)}{fees er:Int}{Lk:List LHold}{F:F16}{A:Option Addr}{c:Nat}(h1:T.sb=sb)(h2:T.mb=mb)(hf:F=⟨os.map (·.1),fees,er,Lk⟩)(hc:FC16 T w V v os fees er Lk)(ho:V.ownsRow w.heap.size 60 6 (.slice A os.length c) os.length (osC16 os)) :
 FoldDone16 w sb mb F (.returned (.tuple #[.slice A os.length os.length,.int .u64 fees,.int .i64 er])) V:=by
 subst h1 h2 hf;exact⟨os,A,c,rfl,rfl,ho,hc.hol,hc.st,hc.g⟩
theorem Xfv{o:Oper}{a:Act}(w:World)(ty:TypeId)(x:Operand)(ho:o.op=.load ty x)(g:Nat)(cs:List Value)(d:TypeDesc)(hu:Tryd.prog.underlying ty=some d)(hd:d.isRow=true)(hi:(Tryd.prog.info? ty).map (·.size)=some cs.length){t:Nat}(hr:Row w g t cs)
 (hx:a.eval x=.pointer (some ⟨g,0,none⟩)):(execOp a.eval o).run Tryd.prog w=.ok (.value (.agg cs.toArray)) w:=
 Xa4 w ty x ho ⟨g,0,none⟩ cs d hu hd hi (fun j u hu=>by rw[Xac,Nat.zero_add];exact(hr.cell j).trans hu) hx
theorem foldC(sb mb:Nat)(L:List LHold)(l:List (YRaw × LReady))(LA:Option Addr)(ln lc B:Nat)(w:World)(hs:StIn w sb mb L)(hl:RdsIn w B LA ln l)(hB:B≤w.heap.size)(hp:∀(k:Nat) (p:YRaw × LReady),l[k]?=some p→RdP16 p.1 p.2)(hlc:ln≤lc)(hln:ln≤1000)(hty:TypAt w)
 (hlen:∀(k:Nat) (p:YRaw × LReady),l[k]?=some p→(sto16 L l k).length+p.1.rn≤5000) :
 Calls Tryd.prog 10 #[.pointer (some ⟨sb,0,none⟩),.slice LA ln lc] w (FoldDone16 w sb mb (fold16 (l.map (·.2)) ⟨[],0,0,L⟩)):=by
 have HS:=Hd hs;have HL:=Hd hl;have HB:=Hd hB;have HP:=Hd hp;have HTY:=Hd hty;have HLEN:=Hd hlen;have HLN:Hid (l.length=ln):=Hd hl.len;have HSO:=Hd hs.sto;clear hs hl hB hp hty hlen;refine(callsIn_wide (n:=9)).1 ?_;refine callsIn_of_wp_marks Tryd.func10 rfl trivial ?_ rfl;simp only[Tryd.ntmps10,List.size_toArray,List.length_cons,List.length_nil,Nat.reduceAdd,Nat.reduceSub,Array.replicate_succ,Array.replicate_zero,List.push_toArray,List.append_toArray,List.nil_append,List.cons_append];refine wpIn_wide.2 ?_;obtain⟨W,hW⟩:∃W,((w.alloc (.cells #[.slice none 0 0] 55)).alloc (.cells #[.int .u64 0] 44)).alloc (.cells #[.int .i64 0] 50)=W:=⟨_,rfl⟩;have SZ:W.heap.size=w.heap.size+3:=by rw[←hW];simp
 have BW:Below w.heap.size w W:=by rw[←hW];exact(((Br _ w).alloc (Lr _) _).alloc (by simp) _).alloc (by simp;omega) _
 have R4:Row W w.heap.size 55 [.slice none 0 0]:=by rw[←hW];exact((Row.new w _ [.slice none 0 0]).alloc _).alloc _
 have R5:Row W (w.heap.size+1) 44 [.int .u64 0]:=by rw[←hW];exact(Row.new' (w.alloc (.cells #[.slice none 0 0] 55)) _ [.int .u64 0] (by simp)).alloc _
 have R6:Row W (w.heap.size+2) 50 [.int .i64 0]:=by rw[←hW];exact Row.new' _ _ [.int .i64 0] (by simp)
 have HWW:=Hd hW;have HM:=Hd (Xj1 sb mb L W (HS.out.below BW));have HA:=Hd (Xp1 sb ln lc LA W);obtain⟨W2,hW2⟩:∃W2,(W.alloc (.cells #[.pointer (some ⟨sb,0,none⟩)] 26)).alloc (.cells #[.slice LA ln lc] 23)=W2:=⟨_,rfl⟩;have B2:Below W.heap.size W W2:=by rw[←hW2];exact((Br _ _).alloc (Lr _) _).alloc (by simp) _
 have RS:Row W2 (w.heap.size+3) 26 [.pointer (some ⟨sb,0,none⟩)]:=by rw[←hW2];exact(Row.new' W _ [.pointer (some ⟨sb,0,none⟩)] SZ).alloc _
 have RL:Row W2 (w.heap.size+4) 23 [.slice LA ln lc]:=by rw[←hW2];exact Row.new' _ _ [.slice LA ln lc] (by simp[SZ])
 have F2:Hid (FB16 ⟨w.heap.size,w.heap.size+1,w.heap.size+2,w.heap.size+4,w.heap.size+3,sb,mb,ln,lc,LA⟩ w W2 [] 0 0 L):=Hd ⟨.slice none 0 0,⟨gb_of _ (BW.trans (B2.mono BW.size)),(HS.out.below BW).below B2,R4.below B2 R4.lt,R5.below B2 R5.lt,R6.below B2 R6.lt,RL,RS,fun p hp=>(by cases hp),⟨Lr _,Nat.le_succ _,by show w.heap.size≤w.heap.size+2;omega⟩,HS.out.lt.1⟩,Xcg _ _ _ _⟩;have HSZ2:Hid (W.heap.size=w.heap.size+3):=Hd SZ;have HW2:=Hd hW2;clear hW hW2 SZ BW R4 R5 R6 B2 RS RL;go_wp2_with fail;rw[HWW.out];refine wp_scope_straight ?_;go_wp2_with fail;refine HM.out.mono ?_;rintro e w1 ⟨rfl,rfl⟩;go_wp2_with fail;refine wp_label ?_;go_wp2_with fail;refine HA.out.mono ?_;rintro e w2 ⟨rfl,hw2⟩;rw[HW2.out]at hw2;subst hw2;rw[HSZ2.out];clear HM HA HWW HW2 HSZ2;generalize hT:FK16.mk w.heap.size (w.heap.size+1) (w.heap.size+2) (w.heap.size+4) (w.heap.size+3) sb mb ln lc LA=T at *;have T4:T.b4=w.heap.size:=by rw[←hT]
 have T5:T.b5=w.heap.size+1:=by rw[←hT]
 have T6:T.b6=w.heap.size+2:=by rw[←hT]
 have TL:T.bl=w.heap.size+4:=by rw[←hT]
 have TS:T.bs=w.heap.size+3:=by rw[←hT]
 have Tb:T.sb=sb:=by rw[←hT]
 have Tm:T.mb=mb:=by rw[←hT]
 have Tn:T.ln=ln:=by rw[←hT]
 have Tc:T.lc=lc:=by rw[←hT]
 have TA:T.LA=LA:=by rw[←hT]
 clear hT;go_wp2_with fail;rw[show(w.heap.size+3+1)=T.bl by rw[TL],show w.heap.size+3=T.bs from TS.symm];rw[←T6,←T5];obtain⟨S0,hS0⟩:∃S:F16,S=⟨[],0,0,L⟩:=⟨_,rfl⟩;have HS0:=Hd hS0;have HSE:Hid (S0.e=0):=Hd (by rw[hS0]);have T4':Hid (w.heap.size=T.b4):=Hd T4.symm;rw[T4'.out];refine(wpIn_wide (n:=9)).1 ?_;refine Xtx 40 #[.pointer (some ⟨T.bl,0,none⟩),.pointer (some ⟨T.bs,0,none⟩)] rfl (enters_of Tryd.func40 (by kernel_rfl) rfl) ?_;rintro fn lp rc W3 hlp hrc hW3;have B3:Below w2.heap.size w2 W3:=by rw[hW3];exact((Br _ _).alloc (Lr _) _).alloc (by simp) _
 have HD3:W3.heap[w2.heap.size]?=some (.deferred (some [])):=by rw[hW3];exact(Below.heap_alloc _ _ _ (by simp)).trans (World.alloc_heap_new w2 _)
 have HL3:W3.heap[lp]?=some (.loop (rc .ready none)):=by
  rw[hW3,hlp];have:=World.alloc_heap_new (w2.alloc (.deferred (some []))) (.loop (rc .ready none));rwa [World.size_alloc]at this
 have F3:FB16 T w W3 [] 0 0 L:=F2.out.below B3;obtain⟨D,hD⟩:∃D,D=w2.heap.size:=⟨_,rfl⟩;have HDW:Hid (w.heap.size≤D∧w.heap.size≤lp∧lp≠D):=Hd (by
  obtain⟨v,h1,_⟩:=F2.out;have:=h1.g.size;omega)
 have HDE:=Hd hD;rw[←hD]at HD3 ⊢;clear hW3 B3 F2 hD hlp;have HRC:=Hd hrc;have HWL:Hid (RdsIn w B T.LA T.ln l):=Hd (by rw[TA,Tn];exact HL.out);have HWS:Hid (StIn w T.sb T.mb L):=Hd (by rw[Tb,Tm];exact HS.out);have HSO2:Hid (∀k,sto16 L l k=(fold16 ((l.take k).map (·.2)) S0).L):=Hd (fun k=>by rw[HS0.out];rfl);have HNX:Hid (∀k,(l.take k).length≤1000):=Hd (fun k=>by rw[List.length_take];have:=HLN.out;omega);have HTC:Hid (T.ln≤T.lc∧T.ln≤100000):=Hd (by rw[Tn,Tc];omega);have HTB:Hid (T.sb=sb∧T.mb=mb∧T.ln=ln):=Hd ⟨Tb,Tm,Tn⟩;clear T4 T5 T6 TL TS Tb Tm Tn Tc TA hS0 hrc;refine(iter16 7 8 (by omega) rfl T B lp l L w W3 HWL.out HB.out HP.out HTC.out.1 HTC.out.2 HWS.out HTY.out HLEN.out
  (fun k V=>∃os fees Lk,fold16 ((l.take k).map (·.2)) S0=⟨os.map (·.1),fees,0,Lk⟩∧FB16 T w V os fees 0 Lk∧V.heap[lp]?=some (.loop (rc .ready none))∧V.heap[D]?=some (.deferred (some [])))
  (fun V=>∃os fees er Lk,fold16 (l.map (·.2)) S0=⟨os.map (·.1),fees,er,Lk⟩∧FB16 T w V os fees er Lk∧V.heap[lp]?=some (.loop (rc .done (some (.exit 0))))∧V.heap[D]?=some (.deferred (some [])))
  ?_ ?_ ?_ ⟨[],0,L,by rw[HS0.out];rfl,F3,HL3,HD3⟩).mono ?_
 ·rintro k V ⟨os,fees,Lk,hf,⟨v,hc,_⟩,_,_⟩;rw[HSO2.out,hf];exact⟨hc.g,hc.st,hc.rl,hc.rs⟩
 ·rintro k V V' ⟨os,fees,Lk,hf,hb,hl,hd⟩ hbl;exact⟨os,fees,Lk,hf,hb.below hbl,(hbl.block _ (Array.getElem?_eq_some_iff.1 hl).1).trans hl,(hbl.block _ (Array.getElem?_eq_some_iff.1 hd).1).trans hd⟩
 ·rintro k p V V' A c hpk ⟨os,fees,Lk,hf,hb,hl,hd⟩ ho hs hg;have hfi:=Xjb ((l.take k).map (·.2)) S0 (fun x hx=>by
   obtain⟨q,hq,rfl⟩:=List.mem_map.1 hx;obtain⟨i,hi,rfl⟩:=List.getElem_of_mem (List.mem_of_mem_take hq);exact(HP.out i _ (List.getElem?_eq_getElem hi)).f) (by rw[HS0.out];exact HSO.out) (by rw[HS0.out];exact⟨Int.le_refl 0,by show(0:Int)<18446744073709551616;omega⟩)
  rw[hf]at hfi;have hsk:sto16 L l k=Lk:=by rw[HSO2.out,hf]
  rw[hsk]at ho hs ⊢;have hmk:(l.take (k+1)).map (·.2)=(l.take k).map (·.2)++[p.2]:=by rw[List.take_add_one,hpk,Option.toList_some,List.map_append];rfl
  have hml:l.map (·.2)=(l.take k).map (·.2)++p.2::(l.drop (k+1)).map (·.2):=by
   have hdr:l.drop k=p::l.drop (k+1):=by
    obtain⟨hk,he⟩:=List.getElem?_eq_some_iff.1 hpk;rw[List.drop_eq_getElem_cons hk,he]
   rw[←List.map_cons (f:=fun x:YRaw × LReady=>x.2),←hdr,←List.map_append,List.take_append_drop]
  have PP:=Hd (HP.out k p hpk);have HAF:Hid ((apply16 Lk p.2).1.2=0→(apply16 Lk p.2).1.1.fee=p.2.fee):=Hd fun h0=>by
   obtain⟨_,h2,h3,_,_⟩:=Xd2 hfi.1 PP.out.f h0;rw[h3];exact Xju _ _ h2
  have HNEXT:Hid ((apply16 Lk p.2).1.2=0→fold16 ((l.take (k+1)).map (·.2)) S0=⟨os.map (·.1)++[(apply16 Lk p.2).1.1],sat16 (fees+(apply16 Lk p.2).1.1.fee),0,(apply16 Lk p.2).2⟩):=Hd fun h0=>by
   rw[hmk];exact Xl5 HSE.out hf h0
  have HSTOP:Hid ((apply16 Lk p.2).1.2≠0→fold16 (l.map (·.2)) S0=⟨os.map (·.1),fees,(apply16 Lk p.2).1.2,Lk⟩):=Hd fun h0=>by
   rw[hml];exact Xkz HSE.out hf h0
  have HSAME:Hid ((apply16 Lk p.2).1.2≠0→(apply16 Lk p.2).2=Lk):=Hd fun h0=>(Xh8 h0).1
  have HF:Hid (Word fees):=Hd hfi.2;have HOL_:Hid (os.length≤1000):=Hd (by
   have h1:=Xft ((l.take k).map (·.2)) S0;rw[hf]at h1;replace h1:(os.map (·.1)).length≤S0.outs.length+((l.take k).map (·.2)).length:=h1
   have h2:=HNX.out k;have h3:S0.outs.length=0:=by rw[HS0.out];rfl
   have h5:os.length≤S0.outs.length+((l.take k).map (·.2)).length:=by have h4:(os.map (·.1)).length=os.length:=List.length_map _;omega
   rw[List.length_map]at h5;omega)
  clear hfi hf hsk hmk hml hpk;generalize apply16 Lk p.2=R at *;obtain⟨⟨o,er⟩,L'⟩:=R;dsimp only at ho hs HAF HNEXT HSTOP HSAME ⊢
  have FB:=Hd (hb.applied hs hg);have HLP:Hid (V'.heap[lp]?=some (.loop (rc .ready none))):=Hd ((hg.block lp (Array.getElem?_eq_some_iff.1 hl).1 (fun e=>by
   obtain⟨v,hc,_⟩:=hb;exact(Xih hc.st (Xd0 hl)).2 (Option.some.inj e).symm)).trans hl)
  have HDP:Hid (V'.heap[D]?=some (.deferred (some []))):=Hd ((hg.block D (Array.getElem?_eq_some_iff.1 hd).1 (fun e=>by
   obtain⟨v,hc,_⟩:=hb;exact(Xih hc.st (Xa1 hd)).2 (Option.some.inj e).symm)).trans hd)
  have H7:Hid (Hol16 V' w.heap.size (o,A)):=Hd ⟨c,Xc0 ho (by obtain⟨v,hc,_⟩:=hb;exact hc.g.size)⟩;have hy:=run_yield (P:=Tryd.prog) (args:=#[.agg (oC16 (o,A)).toArray,.int .i64 er]) HLP.out (by rw[HRC.out];rfl);rw[HRC.out]at hy;dsimp only at hy
  clear ho hs hg hb hl hd;refine⟨_,_,_,_,hy,roundIn_of_wpIn trivial ?_⟩;clear hy;obtain⟨v,hcv,hov⟩:=FB.out;have FC:=Hd hcv;have OV:=Hd hov;have HNV:Hid (some V'.heap.size≠v.ownBlock):=Hd (fun e=>by have:=(hov.lt _ e.symm).2;omega);clear hcv hov FB;gi_wp2_with (first
   | ((with_reducible show wpListIn _ _ _ _ _ (⟨some 7,_,_,_,_,_⟩::_) _ _);go_must(refine Xk0 (fun _ e=>by cases e) (fun⟨a0,w0,h⟩=>(h:False)) fun K hK=>?_;refine Xa2 rfl 60 rfl (out0.cells (.slice none 0 0)) Xbh ?_;refine hK _ _ ?_))
   | ((with_reducible show wpListIn _ _ _ _ _ (⟨none,Op.store 60 (.tmp 7) _,_,_,_,_⟩::_) _ _);go_must(refine Xk0 (fun _ e=>by cases e) (fun⟨a0,w0,h⟩=>(h:False)) fun K hK=>?_;refine Xa6 rfl 60 (.tmp 7) (.tmp 14) rfl (oC16 (o,A)) (Xag _ _) (Xbd _) rfl ?_ ?_ ?_;go_simp;go_simp;intro w8 hr8 hb8 hz8;refine hK _ _ ?_)))
  have R8:=Hd hr8;have FC8:=Hd (FC.out.below hb8);have OV8:=Hd (Xaa OV.out hb8);have HLP8:Hid (w8.heap[lp]?=some (.loop (rc .ready none))):=Hd ((hb8.block _ (Array.getElem?_eq_some_iff.1 HLP.out).1).trans HLP.out);have HDP8:Hid (w8.heap[D]?=some (.deferred (some []))):=Hd ((hb8.block _ (Array.getElem?_eq_some_iff.1 HDP.out).1).trans HDP.out);have H78:Hid (Hol16 w8 w.heap.size (o,A)):=Hd (by obtain⟨c1,hc1⟩:=H7.out;exact⟨c1,Xaa hc1 hb8⟩);obtain⟨g7,hg7⟩:∃g,g=V'.heap.size:=⟨_,rfl⟩;rw[←hg7]at R8 HNV ⊢;clear hr8 hb8 hz8 HLP HDP H7 FC OV hg7;obtain⟨X,hX⟩:∃X:Obj,X=.loop { rc .ready none with state:=.busy }:=⟨_,rfl⟩;obtain⟨V9,hV9,hbr⟩:∃V9,V9=w8.putObj lp X∧(Instr.beginRound lp).run Tryd.prog w8=.ok () V9:=⟨_,rfl,by rw[hX];exact run_beginRound HLP8.out (by rw[HRC.out])⟩;refine⟨V9,hbr,?_⟩;have hodd:=Xd0 HLP8.out;have hgr:w8.grownBy V9 (some lp):=by rw[hV9];exact grownBy_putObj' _ _ _
  have HX9:V9.heap[lp]?=some X:=by rw[hV9];exact World.putObj_heap_same (Array.getElem?_eq_some_iff.1 HLP8.out).1
  have HD9:V9.heap[D]?=some (.deferred (some [])):=by rw[hV9];exact(World.putObj_heap_other HDW.out.2.2.symm).trans HDP8.out
  have R9:=R8.out.grown hgr (fun e=>Xa8 R8.out hodd (Option.some.inj e));have FC9:=FC8.out.odd hgr hodd HDW.out.2.1;have O9:=Hd (OV8.out.kept hgr (.inr (Xam OV8.out hodd)));have H79:Hol16 V9 w.heap.size (o,A):=by obtain⟨c1,hc1⟩:=H78.out;exact⟨c1,hc1.kept hgr (.inr (Xam hc1 hodd))⟩
  have F9:Hid (FR16 T w V9 v os fees L' g7 (o,A) lp X D):=Hd ⟨FC9,R9,H79,HX9,HD9,by rw[hX];exact⟨rfl,fun _ _ e=>by cases e⟩⟩;have HXE:=Hd hX;clear hbr hodd hgr HX9 HD9 R9 FC9 H79 R8 FC8 OV8 HLP8 HDP8 H78 hV9 hX;by_cases her:er=0
  ·subst her;have HFE:Hid (Word o.fee):=Hd (by have h1:=HAF.out rfl;rw[h1];exact PP.out.f.fee);have HNXT:=Hd (HNEXT.out rfl);clear HAF HNEXT HSTOP HSAME;gi_wp2_with fail
   refine Xl1 (S:=fun V=>Row V g7 60 (oC16 (o,A))) (by kernel_rfl) (Xjr (by kernel_rfl)) (fun⟨a0,w0,h⟩=>(h:False)) ?_;try dsimp only[List.append]
   have S0:=Hd (F9.out.below (Br V9.heap.size V9).drew);have O:=Hd (Xaa O9.out (Br V9.heap.size V9).drew);clear F9 O9;generalize V9.drew=V0 at *;refine Tl 1 (v:=.agg (oC16 (o,A)).toArray) rfl (Or.inl ⟨by rfl,fun wz hwz=>Xfv wz 60 (.tmp 7) rfl g7 (oC16 (o,A)) _ Tryd.underlying60 rfl (Xag _ _) hwz (by go_simp)⟩) S0.out.r7 ?_;try simp only[nm]
   refine Tk 5 rfl ?_ S0.out.r7 ?_ ⟨?_,rfl⟩
   ·intro w hw;(try dsimp only at hw);go_simp;try with_reducible rfl
   try simp only[nm]
   refine Tk 6 rfl ?_ S0.out.r7 ?_ ⟨?_,rfl⟩
   ·intro w hw;try dsimp only at hw
    have c7:w.cell? ⟨g7,3,none⟩=some (.int .u64 o.fee):=hw.cell 3;go_simp;try with_reducible rfl
   try simp only[nm]
   refine Xhb (i:=0) (j:=2) (k:=4) rfl rfl rfl (by kernel_rfl) (by kernel_rfl) (by kernel_rfl) (by kernel_rfl) (fun K hK=>?_) (fun K hK=>?_) (fun K hK=>?_)
   ·as_aux_lemma =>
     have c4:=S0.out.c.r4.cell 0;go_simp;clear c4;refine hK.out _ _ S0.out.r7 ?_;clear hK K;try simp only[nm]
     refine Xar (i:=2) (j:=4) rfl rfl (by kernel_rfl) (by kernel_rfl) (by kernel_rfl) (fun K hK=>?_) (fun K hK=>?_)
     ·as_aux_lemma =>
       refine Xb2 55 60 (.tmp 21) rfl (oC16 (o,A)) _ 6 64 Tryd.underlying55 Xah Xap (by omega) (by omega) rfl (by go_simp) ?_;have hb:=(Br V0.heap.size V0).alloc (Lr _) (.cells (oC16 (o,A)).toArray 60);have RL:=Hd (Row.new V0 60 (oC16 (o,A)));have S0:=Hd (S0.out.below hb);have O:=Hd (Xaa O.out hb);clear hb;obtain⟨gl,hgl⟩:∃g,g=V0.heap.size:=⟨_,rfl⟩;rw[←hgl]at RL ⊢;clear hgl;generalize V0.alloc (.cells (oC16 (o,A)).toArray 60)=V1 at *;refine hK.out _ _ S0.out.r7 ?_;clear hK K;try simp only[nm]
       refine Xar (i:=3) (j:=4) rfl rfl (by kernel_rfl) (by kernel_rfl) (by kernel_rfl) (fun K hK=>?_) (fun K hK=>?_)
       ·as_aux_lemma =>
         refine Xas (.tmp 20) (.tmp 22) 55 60 _ 6 64 rfl Tryd.underlying55 Xah Xap (by omega) v os.length (osC16 os) w.heap.size V1.heap.size (some ⟨gl,0,none⟩) 1 1 (oC16 (o,A)) (by go_simp) O.out (by go_simp) RL.out.sees0 (Xbd (o,A)) (by have:=HOL_.out;unfold maxLen;omega) (by have:=HOL_.out;omega) S0.out.c.g.size ?_;intro v2 V2 ho2 hg2;obtain⟨A6,c6,rfl,_⟩:=Xan ho2;have S0:=Hd (S0.out.grew O.out HNV.out hg2.grown);have O:=Hd ho2;clear ho2 hg2 RL;refine hK.out _ _ S0.out.r7 ?_;clear hK K;try simp only[nm]
         refine Rl 4 rfl fun K hK=>?_
         have c5:=S0.out.c.r5.cell 0;go_simp;clear c5;refine hK.out _ _ S0.out.r7 ?_;clear hK K;try simp only[nm]
         refine Rl 7 rfl fun K hK=>?_
         go_simp;have hb:=(Br V2.heap.size V2).alloc (Lr _) (.cells #[.int .u64 fees,.int .u64 o.fee] 44);have RU:=Hd (Row.new V2 44 [.int .u64 fees,.int .u64 o.fee]);have S0:=Hd (S0.out.below hb);have O:=Hd (Xaa O.out hb);clear hb;obtain⟨gu,hgu⟩:∃g,g=V2.heap.size:=⟨_,rfl⟩;rw[←hgu]at RU ⊢;clear hgu;generalize hVA:V2.alloc (.cells #[.int .u64 fees,.int .u64 o.fee] 44)=V3 at *;have RU:Hid (Row V3 gu 44 [.int .u64 fees,.int .u64 o.fee]):=RU;clear hVA;refine hK.out _ _ S0.out.r7 ?_;clear hK K;try simp only[nm]
         refine Rl 8 rfl fun K hK=>?_
         go_simp;refine(Xbi fees o.fee gu _ HF.out HFE.out RU.out).mono ?_;rintro e V4 ⟨rfl,hb⟩;have S0:=Hd (S0.out.below hb);have O:=Hd (Xaa O.out hb);clear hb RU;refine hK.out _ _ S0.out.r7 ?_;clear hK K;try simp only[nm]
         have c4:=S0.out.c.r4.cell 0;have f4:=S0.out.c.r4.frozen 0;refine Rl 9 rfl fun K hK=>?_
         go_simp;have c5:=(S0.out.c.set4 (.slice A6 (os.length+1) c6)).r5.cell 0;have f5:=(S0.out.c.set4 (.slice A6 (os.length+1) c6)).r5.frozen 0;have r74:=(Xa0 V4 ⟨T.b4,0,none⟩ (.slice A6 (os.length+1) c6)).row S0.out.r7 (Xae S0.out.r7 S0.out.c.r4 (by decide));have FIN:=Hd (S0.out.fin O.out (cap (fees+o.fee)));clear c4 f4;refine hK.out _ _ r74 ?_;clear hK K;try simp only[nm]
         refine Rl 10 rfl fun K hK=>?_
         go_simp;have r75:=(Xa0 (V4.setCell ⟨T.b4,0,none⟩ (.slice A6 (os.length+1) c6)) ⟨T.b5,0,none⟩ (.int .u64 (cap (fees+o.fee)))).row r74 (Xae r74 (S0.out.c.set4 (.slice A6 (os.length+1) c6)).r5 (by decide));refine hK.out _ _ r75 ?_;clear hK K c5 f5 r74 r75 S0 O;try simp only[nm]
         refine wpAnyH_done (by kernel_rfl) ?_ _;generalize (V4.setCell ⟨T.b4,0,none⟩ (.slice A6 (os.length+1) c6)).setCell ⟨T.b5,0,none⟩ (.int .u64 (cap (fees+o.fee)))=VF at *;exact Xat (a:=⟨#[],[]⟩) HRC.out HXE.out HDW.out.2.1 HDW.out.2.2 FIN.out (by rw[List.map_append,←Xb3];exact HNXT.out)
       ·as_aux_lemma =>
         have c5:=S0.out.c.r5.cell 0;go_simp;clear c5;refine hK.out _ _ S0.out.r7 ?_;clear hK K;try simp only[nm]
         refine Xar (i:=3) (j:=7) rfl rfl (by kernel_rfl) (by kernel_rfl) (by kernel_rfl) (fun K hK=>?_) (fun K hK=>?_)
         ·as_aux_lemma =>
           refine Xas (.tmp 20) (.tmp 22) 55 60 _ 6 64 rfl Tryd.underlying55 Xah Xap (by omega) v os.length (osC16 os) w.heap.size V1.heap.size (some ⟨gl,0,none⟩) 1 1 (oC16 (o,A)) (by go_simp) O.out (by go_simp) RL.out.sees0 (Xbd (o,A)) (by have:=HOL_.out;unfold maxLen;omega) (by have:=HOL_.out;omega) S0.out.c.g.size ?_;intro v2 V2 ho2 hg2;obtain⟨A6,c6,rfl,_⟩:=Xan ho2;have S0:=Hd (S0.out.grew O.out HNV.out hg2.grown);have O:=Hd ho2;clear ho2 hg2 RL;refine hK.out _ _ S0.out.r7 ?_;clear hK K;try simp only[nm]
           refine Rl 7 rfl fun K hK=>?_
           go_simp;have hb:=(Br V2.heap.size V2).alloc (Lr _) (.cells #[.int .u64 fees,.int .u64 o.fee] 44);have RU:=Hd (Row.new V2 44 [.int .u64 fees,.int .u64 o.fee]);have S0:=Hd (S0.out.below hb);have O:=Hd (Xaa O.out hb);clear hb;obtain⟨gu,hgu⟩:∃g,g=V2.heap.size:=⟨_,rfl⟩;rw[←hgu]at RU ⊢;clear hgu;generalize hVA:V2.alloc (.cells #[.int .u64 fees,.int .u64 o.fee] 44)=V3 at *;have RU:Hid (Row V3 gu 44 [.int .u64 fees,.int .u64 o.fee]):=RU;clear hVA;refine hK.out _ _ S0.out.r7 ?_;clear hK K;try simp only[nm]
           refine Rl 8 rfl fun K hK=>?_
           go_simp;refine(Xbi fees o.fee gu _ HF.out HFE.out RU.out).mono ?_;rintro e V4 ⟨rfl,hb⟩;have S0:=Hd (S0.out.below hb);have O:=Hd (Xaa O.out hb);clear hb RU;refine hK.out _ _ S0.out.r7 ?_;clear hK K;try simp only[nm]
           have c4:=S0.out.c.r4.cell 0;have f4:=S0.out.c.r4.frozen 0;refine Rl 9 rfl fun K hK=>?_
           go_simp;have c5:=(S0.out.c.set4 (.slice A6 (os.length+1) c6)).r5.cell 0;have f5:=(S0.out.c.set4 (.slice A6 (os.length+1) c6)).r5.frozen 0;have r74:=(Xa0 V4 ⟨T.b4,0,none⟩ (.slice A6 (os.length+1) c6)).row S0.out.r7 (Xae S0.out.r7 S0.out.c.r4 (by decide));have FIN:=Hd (S0.out.fin O.out (cap (fees+o.fee)));clear c4 f4;refine hK.out _ _ r74 ?_;clear hK K;try simp only[nm]
           refine Rl 10 rfl fun K hK=>?_
           go_simp;have r75:=(Xa0 (V4.setCell ⟨T.b4,0,none⟩ (.slice A6 (os.length+1) c6)) ⟨T.b5,0,none⟩ (.int .u64 (cap (fees+o.fee)))).row r74 (Xae r74 (S0.out.c.set4 (.slice A6 (os.length+1) c6)).r5 (by decide));refine hK.out _ _ r75 ?_;clear hK K c5 f5 r74 r75 S0 O;try simp only[nm]
           refine wpAnyH_done (by kernel_rfl) ?_ _;generalize (V4.setCell ⟨T.b4,0,none⟩ (.slice A6 (os.length+1) c6)).setCell ⟨T.b5,0,none⟩ (.int .u64 (cap (fees+o.fee)))=VF at *;exact Xat (a:=⟨#[],[]⟩) HRC.out HXE.out HDW.out.2.1 HDW.out.2.2 FIN.out (by rw[List.map_append,←Xb3];exact HNXT.out)
         ·as_aux_lemma =>
           go_simp;have hb:=(Br V1.heap.size V1).alloc (Lr _) (.cells #[.int .u64 fees,.int .u64 o.fee] 44);have RU:=Hd (Row.new V1 44 [.int .u64 fees,.int .u64 o.fee]);have RL:=Hd (RL.out.below hb RL.out.lt);have S0:=Hd (S0.out.below hb);have O:=Hd (Xaa O.out hb);clear hb;obtain⟨gu,hgu⟩:∃g,g=V1.heap.size:=⟨_,rfl⟩;rw[←hgu]at RU ⊢;clear hgu;generalize hVA:V1.alloc (.cells #[.int .u64 fees,.int .u64 o.fee] 44)=V2 at *;have RU:Hid (Row V2 gu 44 [.int .u64 fees,.int .u64 o.fee]):=RU;clear hVA;refine hK.out _ _ S0.out.r7 ?_;clear hK K;try simp only[nm]
           refine Rl 3 rfl fun K hK=>?_
           refine Xas (.tmp 20) (.tmp 22) 55 60 _ 6 64 rfl Tryd.underlying55 Xah Xap (by omega) v os.length (osC16 os) w.heap.size V2.heap.size (some ⟨gl,0,none⟩) 1 1 (oC16 (o,A)) (by go_simp) O.out (by go_simp) RL.out.sees0 (Xbd (o,A)) (by have:=HOL_.out;unfold maxLen;omega) (by have:=HOL_.out;omega) S0.out.c.g.size ?_;intro v2 V3 ho2 hg2;obtain⟨A6,c6,rfl,_⟩:=Xan ho2;have RU:=Hd (RU.out.grown hg2.grown (Xbb O.out RU.out (by decide)));have S0:=Hd (S0.out.grew O.out HNV.out hg2.grown);have O:=Hd ho2;clear ho2 hg2 RL;refine hK.out _ _ S0.out.r7 ?_;clear hK K;try simp only[nm]
           refine Rl 8 rfl fun K hK=>?_
           go_simp;refine(Xbi fees o.fee gu _ HF.out HFE.out RU.out).mono ?_;rintro e V4 ⟨rfl,hb⟩;have S0:=Hd (S0.out.below hb);have O:=Hd (Xaa O.out hb);clear hb RU;refine hK.out _ _ S0.out.r7 ?_;clear hK K;try simp only[nm]
           have c4:=S0.out.c.r4.cell 0;have f4:=S0.out.c.r4.frozen 0;refine Rl 9 rfl fun K hK=>?_
           go_simp;have c5:=(S0.out.c.set4 (.slice A6 (os.length+1) c6)).r5.cell 0;have f5:=(S0.out.c.set4 (.slice A6 (os.length+1) c6)).r5.frozen 0;have r74:=(Xa0 V4 ⟨T.b4,0,none⟩ (.slice A6 (os.length+1) c6)).row S0.out.r7 (Xae S0.out.r7 S0.out.c.r4 (by decide));have FIN:=Hd (S0.out.fin O.out (cap (fees+o.fee)));clear c4 f4;refine hK.out _ _ r74 ?_;clear hK K;try simp only[nm]
           refine Rl 10 rfl fun K hK=>?_
           go_simp;have r75:=(Xa0 (V4.setCell ⟨T.b4,0,none⟩ (.slice A6 (os.length+1) c6)) ⟨T.b5,0,none⟩ (.int .u64 (cap (fees+o.fee)))).row r74 (Xae r74 (S0.out.c.set4 (.slice A6 (os.length+1) c6)).r5 (by decide));refine hK.out _ _ r75 ?_;clear hK K c5 f5 r74 r75 S0 O;try simp only[nm]
           refine wpAnyH_done (by kernel_rfl) ?_ _;generalize (V4.setCell ⟨T.b4,0,none⟩ (.slice A6 (os.length+1) c6)).setCell ⟨T.b5,0,none⟩ (.int .u64 (cap (fees+o.fee)))=VF at *;exact Xat (a:=⟨#[],[]⟩) HRC.out HXE.out HDW.out.2.1 HDW.out.2.2 FIN.out (by rw[List.map_append,←Xb3];exact HNXT.out)
     ·as_aux_lemma =>
       have c5:=S0.out.c.r5.cell 0;go_simp;clear c5;refine hK.out _ _ S0.out.r7 ?_;clear hK K;try simp only[nm]
       refine Xar (i:=2) (j:=7) rfl rfl (by kernel_rfl) (by kernel_rfl) (by kernel_rfl) (fun K hK=>?_) (fun K hK=>?_)
       ·as_aux_lemma =>
         refine Xb2 55 60 (.tmp 21) rfl (oC16 (o,A)) _ 6 64 Tryd.underlying55 Xah Xap (by omega) (by omega) rfl (by go_simp) ?_;have hb:=(Br V0.heap.size V0).alloc (Lr _) (.cells (oC16 (o,A)).toArray 60);have RL:=Hd (Row.new V0 60 (oC16 (o,A)));have S0:=Hd (S0.out.below hb);have O:=Hd (Xaa O.out hb);clear hb;obtain⟨gl,hgl⟩:∃g,g=V0.heap.size:=⟨_,rfl⟩;rw[←hgl]at RL ⊢;clear hgl;generalize V0.alloc (.cells (oC16 (o,A)).toArray 60)=V1 at *;refine hK.out _ _ S0.out.r7 ?_;clear hK K;try simp only[nm]
         refine Xar (i:=3) (j:=7) rfl rfl (by kernel_rfl) (by kernel_rfl) (by kernel_rfl) (fun K hK=>?_) (fun K hK=>?_)
         ·as_aux_lemma =>
           refine Xas (.tmp 20) (.tmp 22) 55 60 _ 6 64 rfl Tryd.underlying55 Xah Xap (by omega) v os.length (osC16 os) w.heap.size V1.heap.size (some ⟨gl,0,none⟩) 1 1 (oC16 (o,A)) (by go_simp) O.out (by go_simp) RL.out.sees0 (Xbd (o,A)) (by have:=HOL_.out;unfold maxLen;omega) (by have:=HOL_.out;omega) S0.out.c.g.size ?_;intro v2 V2 ho2 hg2;obtain⟨A6,c6,rfl,_⟩:=Xan ho2;have S0:=Hd (S0.out.grew O.out HNV.out hg2.grown);have O:=Hd ho2;clear ho2 hg2 RL;refine hK.out _ _ S0.out.r7 ?_;clear hK K;try simp only[nm]
           refine Rl 7 rfl fun K hK=>?_
           go_simp;have hb:=(Br V2.heap.size V2).alloc (Lr _) (.cells #[.int .u64 fees,.int .u64 o.fee] 44);have RU:=Hd (Row.new V2 44 [.int .u64 fees,.int .u64 o.fee]);have S0:=Hd (S0.out.below hb);have O:=Hd (Xaa O.out hb);clear hb;obtain⟨gu,hgu⟩:∃g,g=V2.heap.size:=⟨_,rfl⟩;rw[←hgu]at RU ⊢;clear hgu;generalize hVA:V2.alloc (.cells #[.int .u64 fees,.int .u64 o.fee] 44)=V3 at *;have RU:Hid (Row V3 gu 44 [.int .u64 fees,.int .u64 o.fee]):=RU;clear hVA;refine hK.out _ _ S0.out.r7 ?_;clear hK K;try simp only[nm]
           refine Rl 8 rfl fun K hK=>?_
           go_simp;refine(Xbi fees o.fee gu _ HF.out HFE.out RU.out).mono ?_;rintro e V4 ⟨rfl,hb⟩;have S0:=Hd (S0.out.below hb);have O:=Hd (Xaa O.out hb);clear hb RU;refine hK.out _ _ S0.out.r7 ?_;clear hK K;try simp only[nm]
           have c4:=S0.out.c.r4.cell 0;have f4:=S0.out.c.r4.frozen 0;refine Rl 9 rfl fun K hK=>?_
           go_simp;have c5:=(S0.out.c.set4 (.slice A6 (os.length+1) c6)).r5.cell 0;have f5:=(S0.out.c.set4 (.slice A6 (os.length+1) c6)).r5.frozen 0;have r74:=(Xa0 V4 ⟨T.b4,0,none⟩ (.slice A6 (os.length+1) c6)).row S0.out.r7 (Xae S0.out.r7 S0.out.c.r4 (by decide));have FIN:=Hd (S0.out.fin O.out (cap (fees+o.fee)));clear c4 f4;refine hK.out _ _ r74 ?_;clear hK K;try simp only[nm]
           refine Rl 10 rfl fun K hK=>?_
           go_simp;have r75:=(Xa0 (V4.setCell ⟨T.b4,0,none⟩ (.slice A6 (os.length+1) c6)) ⟨T.b5,0,none⟩ (.int .u64 (cap (fees+o.fee)))).row r74 (Xae r74 (S0.out.c.set4 (.slice A6 (os.length+1) c6)).r5 (by decide));refine hK.out _ _ r75 ?_;clear hK K c5 f5 r74 r75 S0 O;try simp only[nm]
           refine wpAnyH_done (by kernel_rfl) ?_ _;generalize (V4.setCell ⟨T.b4,0,none⟩ (.slice A6 (os.length+1) c6)).setCell ⟨T.b5,0,none⟩ (.int .u64 (cap (fees+o.fee)))=VF at *;exact Xat (a:=⟨#[],[]⟩) HRC.out HXE.out HDW.out.2.1 HDW.out.2.2 FIN.out (by rw[List.map_append,←Xb3];exact HNXT.out)
         ·as_aux_lemma =>
           go_simp;have hb:=(Br V1.heap.size V1).alloc (Lr _) (.cells #[.int .u64 fees,.int .u64 o.fee] 44);have RU:=Hd (Row.new V1 44 [.int .u64 fees,.int .u64 o.fee]);have RL:=Hd (RL.out.below hb RL.out.lt);have S0:=Hd (S0.out.below hb);have O:=Hd (Xaa O.out hb);clear hb;obtain⟨gu,hgu⟩:∃g,g=V1.heap.size:=⟨_,rfl⟩;rw[←hgu]at RU ⊢;clear hgu;generalize hVA:V1.alloc (.cells #[.int .u64 fees,.int .u64 o.fee] 44)=V2 at *;have RU:Hid (Row V2 gu 44 [.int .u64 fees,.int .u64 o.fee]):=RU;clear hVA;refine hK.out _ _ S0.out.r7 ?_;clear hK K;try simp only[nm]
           refine Rl 3 rfl fun K hK=>?_
           refine Xas (.tmp 20) (.tmp 22) 55 60 _ 6 64 rfl Tryd.underlying55 Xah Xap (by omega) v os.length (osC16 os) w.heap.size V2.heap.size (some ⟨gl,0,none⟩) 1 1 (oC16 (o,A)) (by go_simp) O.out (by go_simp) RL.out.sees0 (Xbd (o,A)) (by have:=HOL_.out;unfold maxLen;omega) (by have:=HOL_.out;omega) S0.out.c.g.size ?_;intro v2 V3 ho2 hg2;obtain⟨A6,c6,rfl,_⟩:=Xan ho2;have RU:=Hd (RU.out.grown hg2.grown (Xbb O.out RU.out (by decide)));have S0:=Hd (S0.out.grew O.out HNV.out hg2.grown);have O:=Hd ho2;clear ho2 hg2 RL;refine hK.out _ _ S0.out.r7 ?_;clear hK K;try simp only[nm]
           refine Rl 8 rfl fun K hK=>?_
           go_simp;refine(Xbi fees o.fee gu _ HF.out HFE.out RU.out).mono ?_;rintro e V4 ⟨rfl,hb⟩;have S0:=Hd (S0.out.below hb);have O:=Hd (Xaa O.out hb);clear hb RU;refine hK.out _ _ S0.out.r7 ?_;clear hK K;try simp only[nm]
           have c4:=S0.out.c.r4.cell 0;have f4:=S0.out.c.r4.frozen 0;refine Rl 9 rfl fun K hK=>?_
           go_simp;have c5:=(S0.out.c.set4 (.slice A6 (os.length+1) c6)).r5.cell 0;have f5:=(S0.out.c.set4 (.slice A6 (os.length+1) c6)).r5.frozen 0;have r74:=(Xa0 V4 ⟨T.b4,0,none⟩ (.slice A6 (os.length+1) c6)).row S0.out.r7 (Xae S0.out.r7 S0.out.c.r4 (by decide));have FIN:=Hd (S0.out.fin O.out (cap (fees+o.fee)));clear c4 f4;refine hK.out _ _ r74 ?_;clear hK K;try simp only[nm]
           refine Rl 10 rfl fun K hK=>?_
           go_simp;have r75:=(Xa0 (V4.setCell ⟨T.b4,0,none⟩ (.slice A6 (os.length+1) c6)) ⟨T.b5,0,none⟩ (.int .u64 (cap (fees+o.fee)))).row r74 (Xae r74 (S0.out.c.set4 (.slice A6 (os.length+1) c6)).r5 (by decide));refine hK.out _ _ r75 ?_;clear hK K c5 f5 r74 r75 S0 O;try simp only[nm]
           refine wpAnyH_done (by kernel_rfl) ?_ _;generalize (V4.setCell ⟨T.b4,0,none⟩ (.slice A6 (os.length+1) c6)).setCell ⟨T.b5,0,none⟩ (.int .u64 (cap (fees+o.fee)))=VF at *;exact Xat (a:=⟨#[],[]⟩) HRC.out HXE.out HDW.out.2.1 HDW.out.2.2 FIN.out (by rw[List.map_append,←Xb3];exact HNXT.out)
       ·as_aux_lemma =>
         go_simp;have hb:=(Br V0.heap.size V0).alloc (Lr _) (.cells #[.int .u64 fees,.int .u64 o.fee] 44);have RU:=Hd (Row.new V0 44 [.int .u64 fees,.int .u64 o.fee]);have S0:=Hd (S0.out.below hb);have O:=Hd (Xaa O.out hb);clear hb;obtain⟨gu,hgu⟩:∃g,g=V0.heap.size:=⟨_,rfl⟩;rw[←hgu]at RU ⊢;clear hgu;generalize hVA:V0.alloc (.cells #[.int .u64 fees,.int .u64 o.fee] 44)=V1 at *;have RU:Hid (Row V1 gu 44 [.int .u64 fees,.int .u64 o.fee]):=RU;clear hVA;refine hK.out _ _ S0.out.r7 ?_;clear hK K;try simp only[nm]
         refine Rl 2 rfl fun K hK=>?_
         refine Xb2 55 60 (.tmp 21) rfl (oC16 (o,A)) _ 6 64 Tryd.underlying55 Xah Xap (by omega) (by omega) rfl (by go_simp) ?_;have hb:=(Br V1.heap.size V1).alloc (Lr _) (.cells (oC16 (o,A)).toArray 60);have RL:=Hd (Row.new V1 60 (oC16 (o,A)));have RU:=Hd (RU.out.below hb RU.out.lt);have S0:=Hd (S0.out.below hb);have O:=Hd (Xaa O.out hb);clear hb;obtain⟨gl,hgl⟩:∃g,g=V1.heap.size:=⟨_,rfl⟩;rw[←hgl]at RL ⊢;clear hgl;generalize V1.alloc (.cells (oC16 (o,A)).toArray 60)=V2 at *;refine hK.out _ _ S0.out.r7 ?_;clear hK K;try simp only[nm]
         refine Rl 3 rfl fun K hK=>?_
         refine Xas (.tmp 20) (.tmp 22) 55 60 _ 6 64 rfl Tryd.underlying55 Xah Xap (by omega) v os.length (osC16 os) w.heap.size V2.heap.size (some ⟨gl,0,none⟩) 1 1 (oC16 (o,A)) (by go_simp) O.out (by go_simp) RL.out.sees0 (Xbd (o,A)) (by have:=HOL_.out;unfold maxLen;omega) (by have:=HOL_.out;omega) S0.out.c.g.size ?_;intro v2 V3 ho2 hg2;obtain⟨A6,c6,rfl,_⟩:=Xan ho2;have RU:=Hd (RU.out.grown hg2.grown (Xbb O.out RU.out (by decide)));have S0:=Hd (S0.out.grew O.out HNV.out hg2.grown);have O:=Hd ho2;clear ho2 hg2 RL;refine hK.out _ _ S0.out.r7 ?_;clear hK K;try simp only[nm]
         refine Rl 8 rfl fun K hK=>?_
         go_simp;refine(Xbi fees o.fee gu _ HF.out HFE.out RU.out).mono ?_;rintro e V4 ⟨rfl,hb⟩;have S0:=Hd (S0.out.below hb);have O:=Hd (Xaa O.out hb);clear hb RU;refine hK.out _ _ S0.out.r7 ?_;clear hK K;try simp only[nm]
         have c4:=S0.out.c.r4.cell 0;have f4:=S0.out.c.r4.frozen 0;refine Rl 9 rfl fun K hK=>?_
         go_simp;have c5:=(S0.out.c.set4 (.slice A6 (os.length+1) c6)).r5.cell 0;have f5:=(S0.out.c.set4 (.slice A6 (os.length+1) c6)).r5.frozen 0;have r74:=(Xa0 V4 ⟨T.b4,0,none⟩ (.slice A6 (os.length+1) c6)).row S0.out.r7 (Xae S0.out.r7 S0.out.c.r4 (by decide));have FIN:=Hd (S0.out.fin O.out (cap (fees+o.fee)));clear c4 f4;refine hK.out _ _ r74 ?_;clear hK K;try simp only[nm]
         refine Rl 10 rfl fun K hK=>?_
         go_simp;have r75:=(Xa0 (V4.setCell ⟨T.b4,0,none⟩ (.slice A6 (os.length+1) c6)) ⟨T.b5,0,none⟩ (.int .u64 (cap (fees+o.fee)))).row r74 (Xae r74 (S0.out.c.set4 (.slice A6 (os.length+1) c6)).r5 (by decide));refine hK.out _ _ r75 ?_;clear hK K c5 f5 r74 r75 S0 O;try simp only[nm]
         refine wpAnyH_done (by kernel_rfl) ?_ _;generalize (V4.setCell ⟨T.b4,0,none⟩ (.slice A6 (os.length+1) c6)).setCell ⟨T.b5,0,none⟩ (.int .u64 (cap (fees+o.fee)))=VF at *;exact Xat (a:=⟨#[],[]⟩) HRC.out HXE.out HDW.out.2.1 HDW.out.2.2 FIN.out (by rw[List.map_append,←Xb3];exact HNXT.out)
   ·as_aux_lemma =>
     refine Xb2 55 60 (.tmp 21) rfl (oC16 (o,A)) _ 6 64 Tryd.underlying55 Xah Xap (by omega) (by omega) rfl (by go_simp) ?_;have hb:=(Br V0.heap.size V0).alloc (Lr _) (.cells (oC16 (o,A)).toArray 60);have RL:=Hd (Row.new V0 60 (oC16 (o,A)));have S0:=Hd (S0.out.below hb);have O:=Hd (Xaa O.out hb);clear hb;obtain⟨gl,hgl⟩:∃g,g=V0.heap.size:=⟨_,rfl⟩;rw[←hgl]at RL ⊢;clear hgl;generalize V0.alloc (.cells (oC16 (o,A)).toArray 60)=V1 at *;refine hK.out _ _ S0.out.r7 ?_;clear hK K;try simp only[nm]
     refine Xar (i:=0) (j:=4) rfl rfl (by kernel_rfl) (by kernel_rfl) (by kernel_rfl) (fun K hK=>?_) (fun K hK=>?_)
     ·as_aux_lemma =>
       have c4:=S0.out.c.r4.cell 0;go_simp;clear c4;refine hK.out _ _ S0.out.r7 ?_;clear hK K;try simp only[nm]
       refine Xar (i:=3) (j:=4) rfl rfl (by kernel_rfl) (by kernel_rfl) (by kernel_rfl) (fun K hK=>?_) (fun K hK=>?_)
       ·as_aux_lemma =>
         refine Xas (.tmp 20) (.tmp 22) 55 60 _ 6 64 rfl Tryd.underlying55 Xah Xap (by omega) v os.length (osC16 os) w.heap.size V1.heap.size (some ⟨gl,0,none⟩) 1 1 (oC16 (o,A)) (by go_simp) O.out (by go_simp) RL.out.sees0 (Xbd (o,A)) (by have:=HOL_.out;unfold maxLen;omega) (by have:=HOL_.out;omega) S0.out.c.g.size ?_;intro v2 V2 ho2 hg2;obtain⟨A6,c6,rfl,_⟩:=Xan ho2;have S0:=Hd (S0.out.grew O.out HNV.out hg2.grown);have O:=Hd ho2;clear ho2 hg2 RL;refine hK.out _ _ S0.out.r7 ?_;clear hK K;try simp only[nm]
         refine Rl 4 rfl fun K hK=>?_
         have c5:=S0.out.c.r5.cell 0;go_simp;clear c5;refine hK.out _ _ S0.out.r7 ?_;clear hK K;try simp only[nm]
         refine Rl 7 rfl fun K hK=>?_
         go_simp;have hb:=(Br V2.heap.size V2).alloc (Lr _) (.cells #[.int .u64 fees,.int .u64 o.fee] 44);have RU:=Hd (Row.new V2 44 [.int .u64 fees,.int .u64 o.fee]);have S0:=Hd (S0.out.below hb);have O:=Hd (Xaa O.out hb);clear hb;obtain⟨gu,hgu⟩:∃g,g=V2.heap.size:=⟨_,rfl⟩;rw[←hgu]at RU ⊢;clear hgu;generalize hVA:V2.alloc (.cells #[.int .u64 fees,.int .u64 o.fee] 44)=V3 at *;have RU:Hid (Row V3 gu 44 [.int .u64 fees,.int .u64 o.fee]):=RU;clear hVA;refine hK.out _ _ S0.out.r7 ?_;clear hK K;try simp only[nm]
         refine Rl 8 rfl fun K hK=>?_
         go_simp;refine(Xbi fees o.fee gu _ HF.out HFE.out RU.out).mono ?_;rintro e V4 ⟨rfl,hb⟩;have S0:=Hd (S0.out.below hb);have O:=Hd (Xaa O.out hb);clear hb RU;refine hK.out _ _ S0.out.r7 ?_;clear hK K;try simp only[nm]
         have c4:=S0.out.c.r4.cell 0;have f4:=S0.out.c.r4.frozen 0;refine Rl 9 rfl fun K hK=>?_
         go_simp;have c5:=(S0.out.c.set4 (.slice A6 (os.length+1) c6)).r5.cell 0;have f5:=(S0.out.c.set4 (.slice A6 (os.length+1) c6)).r5.frozen 0;have r74:=(Xa0 V4 ⟨T.b4,0,none⟩ (.slice A6 (os.length+1) c6)).row S0.out.r7 (Xae S0.out.r7 S0.out.c.r4 (by decide));have FIN:=Hd (S0.out.fin O.out (cap (fees+o.fee)));clear c4 f4;refine hK.out _ _ r74 ?_;clear hK K;try simp only[nm]
         refine Rl 10 rfl fun K hK=>?_
         go_simp;have r75:=(Xa0 (V4.setCell ⟨T.b4,0,none⟩ (.slice A6 (os.length+1) c6)) ⟨T.b5,0,none⟩ (.int .u64 (cap (fees+o.fee)))).row r74 (Xae r74 (S0.out.c.set4 (.slice A6 (os.length+1) c6)).r5 (by decide));refine hK.out _ _ r75 ?_;clear hK K c5 f5 r74 r75 S0 O;try simp only[nm]
         refine wpAnyH_done (by kernel_rfl) ?_ _;generalize (V4.setCell ⟨T.b4,0,none⟩ (.slice A6 (os.length+1) c6)).setCell ⟨T.b5,0,none⟩ (.int .u64 (cap (fees+o.fee)))=VF at *;exact Xat (a:=⟨#[],[]⟩) HRC.out HXE.out HDW.out.2.1 HDW.out.2.2 FIN.out (by rw[List.map_append,←Xb3];exact HNXT.out)
       ·as_aux_lemma =>
         have c5:=S0.out.c.r5.cell 0;go_simp;clear c5;refine hK.out _ _ S0.out.r7 ?_;clear hK K;try simp only[nm]
         refine Xar (i:=3) (j:=7) rfl rfl (by kernel_rfl) (by kernel_rfl) (by kernel_rfl) (fun K hK=>?_) (fun K hK=>?_)
         ·as_aux_lemma =>
           refine Xas (.tmp 20) (.tmp 22) 55 60 _ 6 64 rfl Tryd.underlying55 Xah Xap (by omega) v os.length (osC16 os) w.heap.size V1.heap.size (some ⟨gl,0,none⟩) 1 1 (oC16 (o,A)) (by go_simp) O.out (by go_simp) RL.out.sees0 (Xbd (o,A)) (by have:=HOL_.out;unfold maxLen;omega) (by have:=HOL_.out;omega) S0.out.c.g.size ?_;intro v2 V2 ho2 hg2;obtain⟨A6,c6,rfl,_⟩:=Xan ho2;have S0:=Hd (S0.out.grew O.out HNV.out hg2.grown);have O:=Hd ho2;clear ho2 hg2 RL;refine hK.out _ _ S0.out.r7 ?_;clear hK K;try simp only[nm]
           refine Rl 7 rfl fun K hK=>?_
           go_simp;have hb:=(Br V2.heap.size V2).alloc (Lr _) (.cells #[.int .u64 fees,.int .u64 o.fee] 44);have RU:=Hd (Row.new V2 44 [.int .u64 fees,.int .u64 o.fee]);have S0:=Hd (S0.out.below hb);have O:=Hd (Xaa O.out hb);clear hb;obtain⟨gu,hgu⟩:∃g,g=V2.heap.size:=⟨_,rfl⟩;rw[←hgu]at RU ⊢;clear hgu;generalize hVA:V2.alloc (.cells #[.int .u64 fees,.int .u64 o.fee] 44)=V3 at *;have RU:Hid (Row V3 gu 44 [.int .u64 fees,.int .u64 o.fee]):=RU;clear hVA;refine hK.out _ _ S0.out.r7 ?_;clear hK K;try simp only[nm]
           refine Rl 8 rfl fun K hK=>?_
           go_simp;refine(Xbi fees o.fee gu _ HF.out HFE.out RU.out).mono ?_;rintro e V4 ⟨rfl,hb⟩;have S0:=Hd (S0.out.below hb);have O:=Hd (Xaa O.out hb);clear hb RU;refine hK.out _ _ S0.out.r7 ?_;clear hK K;try simp only[nm]
           have c4:=S0.out.c.r4.cell 0;have f4:=S0.out.c.r4.frozen 0;refine Rl 9 rfl fun K hK=>?_
           go_simp;have c5:=(S0.out.c.set4 (.slice A6 (os.length+1) c6)).r5.cell 0;have f5:=(S0.out.c.set4 (.slice A6 (os.length+1) c6)).r5.frozen 0;have r74:=(Xa0 V4 ⟨T.b4,0,none⟩ (.slice A6 (os.length+1) c6)).row S0.out.r7 (Xae S0.out.r7 S0.out.c.r4 (by decide));have FIN:=Hd (S0.out.fin O.out (cap (fees+o.fee)));clear c4 f4;refine hK.out _ _ r74 ?_;clear hK K;try simp only[nm]
           refine Rl 10 rfl fun K hK=>?_
           go_simp;have r75:=(Xa0 (V4.setCell ⟨T.b4,0,none⟩ (.slice A6 (os.length+1) c6)) ⟨T.b5,0,none⟩ (.int .u64 (cap (fees+o.fee)))).row r74 (Xae r74 (S0.out.c.set4 (.slice A6 (os.length+1) c6)).r5 (by decide));refine hK.out _ _ r75 ?_;clear hK K c5 f5 r74 r75 S0 O;try simp only[nm]
           refine wpAnyH_done (by kernel_rfl) ?_ _;generalize (V4.setCell ⟨T.b4,0,none⟩ (.slice A6 (os.length+1) c6)).setCell ⟨T.b5,0,none⟩ (.int .u64 (cap (fees+o.fee)))=VF at *;exact Xat (a:=⟨#[],[]⟩) HRC.out HXE.out HDW.out.2.1 HDW.out.2.2 FIN.out (by rw[List.map_append,←Xb3];exact HNXT.out)
         ·as_aux_lemma =>
           go_simp;have hb:=(Br V1.heap.size V1).alloc (Lr _) (.cells #[.int .u64 fees,.int .u64 o.fee] 44);have RU:=Hd (Row.new V1 44 [.int .u64 fees,.int .u64 o.fee]);have RL:=Hd (RL.out.below hb RL.out.lt);have S0:=Hd (S0.out.below hb);have O:=Hd (Xaa O.out hb);clear hb;obtain⟨gu,hgu⟩:∃g,g=V1.heap.size:=⟨_,rfl⟩;rw[←hgu]at RU ⊢;clear hgu;generalize hVA:V1.alloc (.cells #[.int .u64 fees,.int .u64 o.fee] 44)=V2 at *;have RU:Hid (Row V2 gu 44 [.int .u64 fees,.int .u64 o.fee]):=RU;clear hVA;refine hK.out _ _ S0.out.r7 ?_;clear hK K;try simp only[nm]
           refine Rl 3 rfl fun K hK=>?_
           refine Xas (.tmp 20) (.tmp 22) 55 60 _ 6 64 rfl Tryd.underlying55 Xah Xap (by omega) v os.length (osC16 os) w.heap.size V2.heap.size (some ⟨gl,0,none⟩) 1 1 (oC16 (o,A)) (by go_simp) O.out (by go_simp) RL.out.sees0 (Xbd (o,A)) (by have:=HOL_.out;unfold maxLen;omega) (by have:=HOL_.out;omega) S0.out.c.g.size ?_;intro v2 V3 ho2 hg2;obtain⟨A6,c6,rfl,_⟩:=Xan ho2;have RU:=Hd (RU.out.grown hg2.grown (Xbb O.out RU.out (by decide)));have S0:=Hd (S0.out.grew O.out HNV.out hg2.grown);have O:=Hd ho2;clear ho2 hg2 RL;refine hK.out _ _ S0.out.r7 ?_;clear hK K;try simp only[nm]
           refine Rl 8 rfl fun K hK=>?_
           go_simp;refine(Xbi fees o.fee gu _ HF.out HFE.out RU.out).mono ?_;rintro e V4 ⟨rfl,hb⟩;have S0:=Hd (S0.out.below hb);have O:=Hd (Xaa O.out hb);clear hb RU;refine hK.out _ _ S0.out.r7 ?_;clear hK K;try simp only[nm]
           have c4:=S0.out.c.r4.cell 0;have f4:=S0.out.c.r4.frozen 0;refine Rl 9 rfl fun K hK=>?_
           go_simp;have c5:=(S0.out.c.set4 (.slice A6 (os.length+1) c6)).r5.cell 0;have f5:=(S0.out.c.set4 (.slice A6 (os.length+1) c6)).r5.frozen 0;have r74:=(Xa0 V4 ⟨T.b4,0,none⟩ (.slice A6 (os.length+1) c6)).row S0.out.r7 (Xae S0.out.r7 S0.out.c.r4 (by decide));have FIN:=Hd (S0.out.fin O.out (cap (fees+o.fee)));clear c4 f4;refine hK.out _ _ r74 ?_;clear hK K;try simp only[nm]
           refine Rl 10 rfl fun K hK=>?_
           go_simp;have r75:=(Xa0 (V4.setCell ⟨T.b4,0,none⟩ (.slice A6 (os.length+1) c6)) ⟨T.b5,0,none⟩ (.int .u64 (cap (fees+o.fee)))).row r74 (Xae r74 (S0.out.c.set4 (.slice A6 (os.length+1) c6)).r5 (by decide));refine hK.out _ _ r75 ?_;clear hK K c5 f5 r74 r75 S0 O;try simp only[nm]
           refine wpAnyH_done (by kernel_rfl) ?_ _;generalize (V4.setCell ⟨T.b4,0,none⟩ (.slice A6 (os.length+1) c6)).setCell ⟨T.b5,0,none⟩ (.int .u64 (cap (fees+o.fee)))=VF at *;exact Xat (a:=⟨#[],[]⟩) HRC.out HXE.out HDW.out.2.1 HDW.out.2.2 FIN.out (by rw[List.map_append,←Xb3];exact HNXT.out)
     ·as_aux_lemma =>
       have c5:=S0.out.c.r5.cell 0;go_simp;clear c5;refine hK.out _ _ S0.out.r7 ?_;clear hK K;try simp only[nm]
       refine Xar (i:=0) (j:=7) rfl rfl (by kernel_rfl) (by kernel_rfl) (by kernel_rfl) (fun K hK=>?_) (fun K hK=>?_)
       ·as_aux_lemma =>
         have c4:=S0.out.c.r4.cell 0;go_simp;clear c4;refine hK.out _ _ S0.out.r7 ?_;clear hK K;try simp only[nm]
         refine Xar (i:=3) (j:=7) rfl rfl (by kernel_rfl) (by kernel_rfl) (by kernel_rfl) (fun K hK=>?_) (fun K hK=>?_)
         ·as_aux_lemma =>
           refine Xas (.tmp 20) (.tmp 22) 55 60 _ 6 64 rfl Tryd.underlying55 Xah Xap (by omega) v os.length (osC16 os) w.heap.size V1.heap.size (some ⟨gl,0,none⟩) 1 1 (oC16 (o,A)) (by go_simp) O.out (by go_simp) RL.out.sees0 (Xbd (o,A)) (by have:=HOL_.out;unfold maxLen;omega) (by have:=HOL_.out;omega) S0.out.c.g.size ?_;intro v2 V2 ho2 hg2;obtain⟨A6,c6,rfl,_⟩:=Xan ho2;have S0:=Hd (S0.out.grew O.out HNV.out hg2.grown);have O:=Hd ho2;clear ho2 hg2 RL;refine hK.out _ _ S0.out.r7 ?_;clear hK K;try simp only[nm]
           refine Rl 7 rfl fun K hK=>?_
           go_simp;have hb:=(Br V2.heap.size V2).alloc (Lr _) (.cells #[.int .u64 fees,.int .u64 o.fee] 44);have RU:=Hd (Row.new V2 44 [.int .u64 fees,.int .u64 o.fee]);have S0:=Hd (S0.out.below hb);have O:=Hd (Xaa O.out hb);clear hb;obtain⟨gu,hgu⟩:∃g,g=V2.heap.size:=⟨_,rfl⟩;rw[←hgu]at RU ⊢;clear hgu;generalize hVA:V2.alloc (.cells #[.int .u64 fees,.int .u64 o.fee] 44)=V3 at *;have RU:Hid (Row V3 gu 44 [.int .u64 fees,.int .u64 o.fee]):=RU;clear hVA;refine hK.out _ _ S0.out.r7 ?_;clear hK K;try simp only[nm]
           refine Rl 8 rfl fun K hK=>?_
           go_simp;refine(Xbi fees o.fee gu _ HF.out HFE.out RU.out).mono ?_;rintro e V4 ⟨rfl,hb⟩;have S0:=Hd (S0.out.below hb);have O:=Hd (Xaa O.out hb);clear hb RU;refine hK.out _ _ S0.out.r7 ?_;clear hK K;try simp only[nm]
           have c4:=S0.out.c.r4.cell 0;have f4:=S0.out.c.r4.frozen 0;refine Rl 9 rfl fun K hK=>?_
           go_simp;have c5:=(S0.out.c.set4 (.slice A6 (os.length+1) c6)).r5.cell 0;have f5:=(S0.out.c.set4 (.slice A6 (os.length+1) c6)).r5.frozen 0;have r74:=(Xa0 V4 ⟨T.b4,0,none⟩ (.slice A6 (os.length+1) c6)).row S0.out.r7 (Xae S0.out.r7 S0.out.c.r4 (by decide));have FIN:=Hd (S0.out.fin O.out (cap (fees+o.fee)));clear c4 f4;refine hK.out _ _ r74 ?_;clear hK K;try simp only[nm]
           refine Rl 10 rfl fun K hK=>?_
           go_simp;have r75:=(Xa0 (V4.setCell ⟨T.b4,0,none⟩ (.slice A6 (os.length+1) c6)) ⟨T.b5,0,none⟩ (.int .u64 (cap (fees+o.fee)))).row r74 (Xae r74 (S0.out.c.set4 (.slice A6 (os.length+1) c6)).r5 (by decide));refine hK.out _ _ r75 ?_;clear hK K c5 f5 r74 r75 S0 O;try simp only[nm]
           refine wpAnyH_done (by kernel_rfl) ?_ _;generalize (V4.setCell ⟨T.b4,0,none⟩ (.slice A6 (os.length+1) c6)).setCell ⟨T.b5,0,none⟩ (.int .u64 (cap (fees+o.fee)))=VF at *;exact Xat (a:=⟨#[],[]⟩) HRC.out HXE.out HDW.out.2.1 HDW.out.2.2 FIN.out (by rw[List.map_append,←Xb3];exact HNXT.out)
         ·as_aux_lemma =>
           go_simp;have hb:=(Br V1.heap.size V1).alloc (Lr _) (.cells #[.int .u64 fees,.int .u64 o.fee] 44);have RU:=Hd (Row.new V1 44 [.int .u64 fees,.int .u64 o.fee]);have RL:=Hd (RL.out.below hb RL.out.lt);have S0:=Hd (S0.out.below hb);have O:=Hd (Xaa O.out hb);clear hb;obtain⟨gu,hgu⟩:∃g,g=V1.heap.size:=⟨_,rfl⟩;rw[←hgu]at RU ⊢;clear hgu;generalize hVA:V1.alloc (.cells #[.int .u64 fees,.int .u64 o.fee] 44)=V2 at *;have RU:Hid (Row V2 gu 44 [.int .u64 fees,.int .u64 o.fee]):=RU;clear hVA;refine hK.out _ _ S0.out.r7 ?_;clear hK K;try simp only[nm]
           refine Rl 3 rfl fun K hK=>?_
           refine Xas (.tmp 20) (.tmp 22) 55 60 _ 6 64 rfl Tryd.underlying55 Xah Xap (by omega) v os.length (osC16 os) w.heap.size V2.heap.size (some ⟨gl,0,none⟩) 1 1 (oC16 (o,A)) (by go_simp) O.out (by go_simp) RL.out.sees0 (Xbd (o,A)) (by have:=HOL_.out;unfold maxLen;omega) (by have:=HOL_.out;omega) S0.out.c.g.size ?_;intro v2 V3 ho2 hg2;obtain⟨A6,c6,rfl,_⟩:=Xan ho2;have RU:=Hd (RU.out.grown hg2.grown (Xbb O.out RU.out (by decide)));have S0:=Hd (S0.out.grew O.out HNV.out hg2.grown);have O:=Hd ho2;clear ho2 hg2 RL;refine hK.out _ _ S0.out.r7 ?_;clear hK K;try simp only[nm]
           refine Rl 8 rfl fun K hK=>?_
           go_simp;refine(Xbi fees o.fee gu _ HF.out HFE.out RU.out).mono ?_;rintro e V4 ⟨rfl,hb⟩;have S0:=Hd (S0.out.below hb);have O:=Hd (Xaa O.out hb);clear hb RU;refine hK.out _ _ S0.out.r7 ?_;clear hK K;try simp only[nm]
           have c4:=S0.out.c.r4.cell 0;have f4:=S0.out.c.r4.frozen 0;refine Rl 9 rfl fun K hK=>?_
           go_simp;have c5:=(S0.out.c.set4 (.slice A6 (os.length+1) c6)).r5.cell 0;have f5:=(S0.out.c.set4 (.slice A6 (os.length+1) c6)).r5.frozen 0;have r74:=(Xa0 V4 ⟨T.b4,0,none⟩ (.slice A6 (os.length+1) c6)).row S0.out.r7 (Xae S0.out.r7 S0.out.c.r4 (by decide));have FIN:=Hd (S0.out.fin O.out (cap (fees+o.fee)));clear c4 f4;refine hK.out _ _ r74 ?_;clear hK K;try simp only[nm]
           refine Rl 10 rfl fun K hK=>?_
           go_simp;have r75:=(Xa0 (V4.setCell ⟨T.b4,0,none⟩ (.slice A6 (os.length+1) c6)) ⟨T.b5,0,none⟩ (.int .u64 (cap (fees+o.fee)))).row r74 (Xae r74 (S0.out.c.set4 (.slice A6 (os.length+1) c6)).r5 (by decide));refine hK.out _ _ r75 ?_;clear hK K c5 f5 r74 r75 S0 O;try simp only[nm]
           refine wpAnyH_done (by kernel_rfl) ?_ _;generalize (V4.setCell ⟨T.b4,0,none⟩ (.slice A6 (os.length+1) c6)).setCell ⟨T.b5,0,none⟩ (.int .u64 (cap (fees+o.fee)))=VF at *;exact Xat (a:=⟨#[],[]⟩) HRC.out HXE.out HDW.out.2.1 HDW.out.2.2 FIN.out (by rw[List.map_append,←Xb3];exact HNXT.out)
       ·as_aux_lemma =>
         go_simp;have hb:=(Br V1.heap.size V1).alloc (Lr _) (.cells #[.int .u64 fees,.int .u64 o.fee] 44);have RU:=Hd (Row.new V1 44 [.int .u64 fees,.int .u64 o.fee]);have RL:=Hd (RL.out.below hb RL.out.lt);have S0:=Hd (S0.out.below hb);have O:=Hd (Xaa O.out hb);clear hb;obtain⟨gu,hgu⟩:∃g,g=V1.heap.size:=⟨_,rfl⟩;rw[←hgu]at RU ⊢;clear hgu;generalize hVA:V1.alloc (.cells #[.int .u64 fees,.int .u64 o.fee] 44)=V2 at *;have RU:Hid (Row V2 gu 44 [.int .u64 fees,.int .u64 o.fee]):=RU;clear hVA;refine hK.out _ _ S0.out.r7 ?_;clear hK K;try simp only[nm]
         refine Rl 0 rfl fun K hK=>?_
         have c4:=S0.out.c.r4.cell 0;go_simp;clear c4;refine hK.out _ _ S0.out.r7 ?_;clear hK K;try simp only[nm]
         refine Rl 3 rfl fun K hK=>?_
         refine Xas (.tmp 20) (.tmp 22) 55 60 _ 6 64 rfl Tryd.underlying55 Xah Xap (by omega) v os.length (osC16 os) w.heap.size V2.heap.size (some ⟨gl,0,none⟩) 1 1 (oC16 (o,A)) (by go_simp) O.out (by go_simp) RL.out.sees0 (Xbd (o,A)) (by have:=HOL_.out;unfold maxLen;omega) (by have:=HOL_.out;omega) S0.out.c.g.size ?_;intro v2 V3 ho2 hg2;obtain⟨A6,c6,rfl,_⟩:=Xan ho2;have RU:=Hd (RU.out.grown hg2.grown (Xbb O.out RU.out (by decide)));have S0:=Hd (S0.out.grew O.out HNV.out hg2.grown);have O:=Hd ho2;clear ho2 hg2 RL;refine hK.out _ _ S0.out.r7 ?_;clear hK K;try simp only[nm]
         refine Rl 8 rfl fun K hK=>?_
         go_simp;refine(Xbi fees o.fee gu _ HF.out HFE.out RU.out).mono ?_;rintro e V4 ⟨rfl,hb⟩;have S0:=Hd (S0.out.below hb);have O:=Hd (Xaa O.out hb);clear hb RU;refine hK.out _ _ S0.out.r7 ?_;clear hK K;try simp only[nm]
         have c4:=S0.out.c.r4.cell 0;have f4:=S0.out.c.r4.frozen 0;refine Rl 9 rfl fun K hK=>?_
         go_simp;have c5:=(S0.out.c.set4 (.slice A6 (os.length+1) c6)).r5.cell 0;have f5:=(S0.out.c.set4 (.slice A6 (os.length+1) c6)).r5.frozen 0;have r74:=(Xa0 V4 ⟨T.b4,0,none⟩ (.slice A6 (os.length+1) c6)).row S0.out.r7 (Xae S0.out.r7 S0.out.c.r4 (by decide));have FIN:=Hd (S0.out.fin O.out (cap (fees+o.fee)));clear c4 f4;refine hK.out _ _ r74 ?_;clear hK K;try simp only[nm]
         refine Rl 10 rfl fun K hK=>?_
         go_simp;have r75:=(Xa0 (V4.setCell ⟨T.b4,0,none⟩ (.slice A6 (os.length+1) c6)) ⟨T.b5,0,none⟩ (.int .u64 (cap (fees+o.fee)))).row r74 (Xae r74 (S0.out.c.set4 (.slice A6 (os.length+1) c6)).r5 (by decide));refine hK.out _ _ r75 ?_;clear hK K c5 f5 r74 r75 S0 O;try simp only[nm]
         refine wpAnyH_done (by kernel_rfl) ?_ _;generalize (V4.setCell ⟨T.b4,0,none⟩ (.slice A6 (os.length+1) c6)).setCell ⟨T.b5,0,none⟩ (.int .u64 (cap (fees+o.fee)))=VF at *;exact Xat (a:=⟨#[],[]⟩) HRC.out HXE.out HDW.out.2.1 HDW.out.2.2 FIN.out (by rw[List.map_append,←Xb3];exact HNXT.out)
   ·as_aux_lemma =>
     have c5:=S0.out.c.r5.cell 0;go_simp;clear c5;refine hK.out _ _ S0.out.r7 ?_;clear hK K;try simp only[nm]
     refine Xhb (i:=0) (j:=2) (k:=7) rfl rfl rfl (by kernel_rfl) (by kernel_rfl) (by kernel_rfl) (by kernel_rfl) (fun K hK=>?_) (fun K hK=>?_) (fun K hK=>?_)
     ·as_aux_lemma =>
       have c4:=S0.out.c.r4.cell 0;go_simp;clear c4;refine hK.out _ _ S0.out.r7 ?_;clear hK K;try simp only[nm]
       refine Xar (i:=2) (j:=7) rfl rfl (by kernel_rfl) (by kernel_rfl) (by kernel_rfl) (fun K hK=>?_) (fun K hK=>?_)
       ·as_aux_lemma =>
         refine Xb2 55 60 (.tmp 21) rfl (oC16 (o,A)) _ 6 64 Tryd.underlying55 Xah Xap (by omega) (by omega) rfl (by go_simp) ?_;have hb:=(Br V0.heap.size V0).alloc (Lr _) (.cells (oC16 (o,A)).toArray 60);have RL:=Hd (Row.new V0 60 (oC16 (o,A)));have S0:=Hd (S0.out.below hb);have O:=Hd (Xaa O.out hb);clear hb;obtain⟨gl,hgl⟩:∃g,g=V0.heap.size:=⟨_,rfl⟩;rw[←hgl]at RL ⊢;clear hgl;generalize V0.alloc (.cells (oC16 (o,A)).toArray 60)=V1 at *;refine hK.out _ _ S0.out.r7 ?_;clear hK K;try simp only[nm]
         refine Xar (i:=3) (j:=7) rfl rfl (by kernel_rfl) (by kernel_rfl) (by kernel_rfl) (fun K hK=>?_) (fun K hK=>?_)
         ·as_aux_lemma =>
           refine Xas (.tmp 20) (.tmp 22) 55 60 _ 6 64 rfl Tryd.underlying55 Xah Xap (by omega) v os.length (osC16 os) w.heap.size V1.heap.size (some ⟨gl,0,none⟩) 1 1 (oC16 (o,A)) (by go_simp) O.out (by go_simp) RL.out.sees0 (Xbd (o,A)) (by have:=HOL_.out;unfold maxLen;omega) (by have:=HOL_.out;omega) S0.out.c.g.size ?_;intro v2 V2 ho2 hg2;obtain⟨A6,c6,rfl,_⟩:=Xan ho2;have S0:=Hd (S0.out.grew O.out HNV.out hg2.grown);have O:=Hd ho2;clear ho2 hg2 RL;refine hK.out _ _ S0.out.r7 ?_;clear hK K;try simp only[nm]
           refine Rl 7 rfl fun K hK=>?_
           go_simp;have hb:=(Br V2.heap.size V2).alloc (Lr _) (.cells #[.int .u64 fees,.int .u64 o.fee] 44);have RU:=Hd (Row.new V2 44 [.int .u64 fees,.int .u64 o.fee]);have S0:=Hd (S0.out.below hb);have O:=Hd (Xaa O.out hb);clear hb;obtain⟨gu,hgu⟩:∃g,g=V2.heap.size:=⟨_,rfl⟩;rw[←hgu]at RU ⊢;clear hgu;generalize hVA:V2.alloc (.cells #[.int .u64 fees,.int .u64 o.fee] 44)=V3 at *;have RU:Hid (Row V3 gu 44 [.int .u64 fees,.int .u64 o.fee]):=RU;clear hVA;refine hK.out _ _ S0.out.r7 ?_;clear hK K;try simp only[nm]
           refine Rl 8 rfl fun K hK=>?_
           go_simp;refine(Xbi fees o.fee gu _ HF.out HFE.out RU.out).mono ?_;rintro e V4 ⟨rfl,hb⟩;have S0:=Hd (S0.out.below hb);have O:=Hd (Xaa O.out hb);clear hb RU;refine hK.out _ _ S0.out.r7 ?_;clear hK K;try simp only[nm]
           have c4:=S0.out.c.r4.cell 0;have f4:=S0.out.c.r4.frozen 0;refine Rl 9 rfl fun K hK=>?_
           go_simp;have c5:=(S0.out.c.set4 (.slice A6 (os.length+1) c6)).r5.cell 0;have f5:=(S0.out.c.set4 (.slice A6 (os.length+1) c6)).r5.frozen 0;have r74:=(Xa0 V4 ⟨T.b4,0,none⟩ (.slice A6 (os.length+1) c6)).row S0.out.r7 (Xae S0.out.r7 S0.out.c.r4 (by decide));have FIN:=Hd (S0.out.fin O.out (cap (fees+o.fee)));clear c4 f4;refine hK.out _ _ r74 ?_;clear hK K;try simp only[nm]
           refine Rl 10 rfl fun K hK=>?_
           go_simp;have r75:=(Xa0 (V4.setCell ⟨T.b4,0,none⟩ (.slice A6 (os.length+1) c6)) ⟨T.b5,0,none⟩ (.int .u64 (cap (fees+o.fee)))).row r74 (Xae r74 (S0.out.c.set4 (.slice A6 (os.length+1) c6)).r5 (by decide));refine hK.out _ _ r75 ?_;clear hK K c5 f5 r74 r75 S0 O;try simp only[nm]
           refine wpAnyH_done (by kernel_rfl) ?_ _;generalize (V4.setCell ⟨T.b4,0,none⟩ (.slice A6 (os.length+1) c6)).setCell ⟨T.b5,0,none⟩ (.int .u64 (cap (fees+o.fee)))=VF at *;exact Xat (a:=⟨#[],[]⟩) HRC.out HXE.out HDW.out.2.1 HDW.out.2.2 FIN.out (by rw[List.map_append,←Xb3];exact HNXT.out)
         ·as_aux_lemma =>
           go_simp;have hb:=(Br V1.heap.size V1).alloc (Lr _) (.cells #[.int .u64 fees,.int .u64 o.fee] 44);have RU:=Hd (Row.new V1 44 [.int .u64 fees,.int .u64 o.fee]);have RL:=Hd (RL.out.below hb RL.out.lt);have S0:=Hd (S0.out.below hb);have O:=Hd (Xaa O.out hb);clear hb;obtain⟨gu,hgu⟩:∃g,g=V1.heap.size:=⟨_,rfl⟩;rw[←hgu]at RU ⊢;clear hgu;generalize hVA:V1.alloc (.cells #[.int .u64 fees,.int .u64 o.fee] 44)=V2 at *;have RU:Hid (Row V2 gu 44 [.int .u64 fees,.int .u64 o.fee]):=RU;clear hVA;refine hK.out _ _ S0.out.r7 ?_;clear hK K;try simp only[nm]
           refine Rl 3 rfl fun K hK=>?_
           refine Xas (.tmp 20) (.tmp 22) 55 60 _ 6 64 rfl Tryd.underlying55 Xah Xap (by omega) v os.length (osC16 os) w.heap.size V2.heap.size (some ⟨gl,0,none⟩) 1 1 (oC16 (o,A)) (by go_simp) O.out (by go_simp) RL.out.sees0 (Xbd (o,A)) (by have:=HOL_.out;unfold maxLen;omega) (by have:=HOL_.out;omega) S0.out.c.g.size ?_;intro v2 V3 ho2 hg2;obtain⟨A6,c6,rfl,_⟩:=Xan ho2;have RU:=Hd (RU.out.grown hg2.grown (Xbb O.out RU.out (by decide)));have S0:=Hd (S0.out.grew O.out HNV.out hg2.grown);have O:=Hd ho2;clear ho2 hg2 RL;refine hK.out _ _ S0.out.r7 ?_;clear hK K;try simp only[nm]
           refine Rl 8 rfl fun K hK=>?_
           go_simp;refine(Xbi fees o.fee gu _ HF.out HFE.out RU.out).mono ?_;rintro e V4 ⟨rfl,hb⟩;have S0:=Hd (S0.out.below hb);have O:=Hd (Xaa O.out hb);clear hb RU;refine hK.out _ _ S0.out.r7 ?_;clear hK K;try simp only[nm]
           have c4:=S0.out.c.r4.cell 0;have f4:=S0.out.c.r4.frozen 0;refine Rl 9 rfl fun K hK=>?_
           go_simp;have c5:=(S0.out.c.set4 (.slice A6 (os.length+1) c6)).r5.cell 0;have f5:=(S0.out.c.set4 (.slice A6 (os.length+1) c6)).r5.frozen 0;have r74:=(Xa0 V4 ⟨T.b4,0,none⟩ (.slice A6 (os.length+1) c6)).row S0.out.r7 (Xae S0.out.r7 S0.out.c.r4 (by decide));have FIN:=Hd (S0.out.fin O.out (cap (fees+o.fee)));clear c4 f4;refine hK.out _ _ r74 ?_;clear hK K;try simp only[nm]
           refine Rl 10 rfl fun K hK=>?_
           go_simp;have r75:=(Xa0 (V4.setCell ⟨T.b4,0,none⟩ (.slice A6 (os.length+1) c6)) ⟨T.b5,0,none⟩ (.int .u64 (cap (fees+o.fee)))).row r74 (Xae r74 (S0.out.c.set4 (.slice A6 (os.length+1) c6)).r5 (by decide));refine hK.out _ _ r75 ?_;clear hK K c5 f5 r74 r75 S0 O;try simp only[nm]
           refine wpAnyH_done (by kernel_rfl) ?_ _;generalize (V4.setCell ⟨T.b4,0,none⟩ (.slice A6 (os.length+1) c6)).setCell ⟨T.b5,0,none⟩ (.int .u64 (cap (fees+o.fee)))=VF at *;exact Xat (a:=⟨#[],[]⟩) HRC.out HXE.out HDW.out.2.1 HDW.out.2.2 FIN.out (by rw[List.map_append,←Xb3];exact HNXT.out)
       ·as_aux_lemma =>
         go_simp;have hb:=(Br V0.heap.size V0).alloc (Lr _) (.cells #[.int .u64 fees,.int .u64 o.fee] 44);have RU:=Hd (Row.new V0 44 [.int .u64 fees,.int .u64 o.fee]);have S0:=Hd (S0.out.below hb);have O:=Hd (Xaa O.out hb);clear hb;obtain⟨gu,hgu⟩:∃g,g=V0.heap.size:=⟨_,rfl⟩;rw[←hgu]at RU ⊢;clear hgu;generalize hVA:V0.alloc (.cells #[.int .u64 fees,.int .u64 o.fee] 44)=V1 at *;have RU:Hid (Row V1 gu 44 [.int .u64 fees,.int .u64 o.fee]):=RU;clear hVA;refine hK.out _ _ S0.out.r7 ?_;clear hK K;try simp only[nm]
         refine Rl 2 rfl fun K hK=>?_
         refine Xb2 55 60 (.tmp 21) rfl (oC16 (o,A)) _ 6 64 Tryd.underlying55 Xah Xap (by omega) (by omega) rfl (by go_simp) ?_;have hb:=(Br V1.heap.size V1).alloc (Lr _) (.cells (oC16 (o,A)).toArray 60);have RL:=Hd (Row.new V1 60 (oC16 (o,A)));have RU:=Hd (RU.out.below hb RU.out.lt);have S0:=Hd (S0.out.below hb);have O:=Hd (Xaa O.out hb);clear hb;obtain⟨gl,hgl⟩:∃g,g=V1.heap.size:=⟨_,rfl⟩;rw[←hgl]at RL ⊢;clear hgl;generalize V1.alloc (.cells (oC16 (o,A)).toArray 60)=V2 at *;refine hK.out _ _ S0.out.r7 ?_;clear hK K;try simp only[nm]
         refine Rl 3 rfl fun K hK=>?_
         refine Xas (.tmp 20) (.tmp 22) 55 60 _ 6 64 rfl Tryd.underlying55 Xah Xap (by omega) v os.length (osC16 os) w.heap.size V2.heap.size (some ⟨gl,0,none⟩) 1 1 (oC16 (o,A)) (by go_simp) O.out (by go_simp) RL.out.sees0 (Xbd (o,A)) (by have:=HOL_.out;unfold maxLen;omega) (by have:=HOL_.out;omega) S0.out.c.g.size ?_;intro v2 V3 ho2 hg2;obtain⟨A6,c6,rfl,_⟩:=Xan ho2;have RU:=Hd (RU.out.grown hg2.grown (Xbb O.out RU.out (by decide)));have S0:=Hd (S0.out.grew O.out HNV.out hg2.grown);have O:=Hd ho2;clear ho2 hg2 RL;refine hK.out _ _ S0.out.r7 ?_;clear hK K;try simp only[nm]
         refine Rl 8 rfl fun K hK=>?_
         go_simp;refine(Xbi fees o.fee gu _ HF.out HFE.out RU.out).mono ?_;rintro e V4 ⟨rfl,hb⟩;have S0:=Hd (S0.out.below hb);have O:=Hd (Xaa O.out hb);clear hb RU;refine hK.out _ _ S0.out.r7 ?_;clear hK K;try simp only[nm]
         have c4:=S0.out.c.r4.cell 0;have f4:=S0.out.c.r4.frozen 0;refine Rl 9 rfl fun K hK=>?_
         go_simp;have c5:=(S0.out.c.set4 (.slice A6 (os.length+1) c6)).r5.cell 0;have f5:=(S0.out.c.set4 (.slice A6 (os.length+1) c6)).r5.frozen 0;have r74:=(Xa0 V4 ⟨T.b4,0,none⟩ (.slice A6 (os.length+1) c6)).row S0.out.r7 (Xae S0.out.r7 S0.out.c.r4 (by decide));have FIN:=Hd (S0.out.fin O.out (cap (fees+o.fee)));clear c4 f4;refine hK.out _ _ r74 ?_;clear hK K;try simp only[nm]
         refine Rl 10 rfl fun K hK=>?_
         go_simp;have r75:=(Xa0 (V4.setCell ⟨T.b4,0,none⟩ (.slice A6 (os.length+1) c6)) ⟨T.b5,0,none⟩ (.int .u64 (cap (fees+o.fee)))).row r74 (Xae r74 (S0.out.c.set4 (.slice A6 (os.length+1) c6)).r5 (by decide));refine hK.out _ _ r75 ?_;clear hK K c5 f5 r74 r75 S0 O;try simp only[nm]
         refine wpAnyH_done (by kernel_rfl) ?_ _;generalize (V4.setCell ⟨T.b4,0,none⟩ (.slice A6 (os.length+1) c6)).setCell ⟨T.b5,0,none⟩ (.int .u64 (cap (fees+o.fee)))=VF at *;exact Xat (a:=⟨#[],[]⟩) HRC.out HXE.out HDW.out.2.1 HDW.out.2.2 FIN.out (by rw[List.map_append,←Xb3];exact HNXT.out)
     ·as_aux_lemma =>
       refine Xb2 55 60 (.tmp 21) rfl (oC16 (o,A)) _ 6 64 Tryd.underlying55 Xah Xap (by omega) (by omega) rfl (by go_simp) ?_;have hb:=(Br V0.heap.size V0).alloc (Lr _) (.cells (oC16 (o,A)).toArray 60);have RL:=Hd (Row.new V0 60 (oC16 (o,A)));have S0:=Hd (S0.out.below hb);have O:=Hd (Xaa O.out hb);clear hb;obtain⟨gl,hgl⟩:∃g,g=V0.heap.size:=⟨_,rfl⟩;rw[←hgl]at RL ⊢;clear hgl;generalize V0.alloc (.cells (oC16 (o,A)).toArray 60)=V1 at *;refine hK.out _ _ S0.out.r7 ?_;clear hK K;try simp only[nm]
       refine Xar (i:=0) (j:=7) rfl rfl (by kernel_rfl) (by kernel_rfl) (by kernel_rfl) (fun K hK=>?_) (fun K hK=>?_)
       ·as_aux_lemma =>
         have c4:=S0.out.c.r4.cell 0;go_simp;clear c4;refine hK.out _ _ S0.out.r7 ?_;clear hK K;try simp only[nm]
         refine Xar (i:=3) (j:=7) rfl rfl (by kernel_rfl) (by kernel_rfl) (by kernel_rfl) (fun K hK=>?_) (fun K hK=>?_)
         ·as_aux_lemma =>
           refine Xas (.tmp 20) (.tmp 22) 55 60 _ 6 64 rfl Tryd.underlying55 Xah Xap (by omega) v os.length (osC16 os) w.heap.size V1.heap.size (some ⟨gl,0,none⟩) 1 1 (oC16 (o,A)) (by go_simp) O.out (by go_simp) RL.out.sees0 (Xbd (o,A)) (by have:=HOL_.out;unfold maxLen;omega) (by have:=HOL_.out;omega) S0.out.c.g.size ?_;intro v2 V2 ho2 hg2;obtain⟨A6,c6,rfl,_⟩:=Xan ho2;have S0:=Hd (S0.out.grew O.out HNV.out hg2.grown);have O:=Hd ho2;clear ho2 hg2 RL;refine hK.out _ _ S0.out.r7 ?_;clear hK K;try simp only[nm]
           refine Rl 7 rfl fun K hK=>?_
           go_simp;have hb:=(Br V2.heap.size V2).alloc (Lr _) (.cells #[.int .u64 fees,.int .u64 o.fee] 44);have RU:=Hd (Row.new V2 44 [.int .u64 fees,.int .u64 o.fee]);have S0:=Hd (S0.out.below hb);have O:=Hd (Xaa O.out hb);clear hb;obtain⟨gu,hgu⟩:∃g,g=V2.heap.size:=⟨_,rfl⟩;rw[←hgu]at RU ⊢;clear hgu;generalize hVA:V2.alloc (.cells #[.int .u64 fees,.int .u64 o.fee] 44)=V3 at *;have RU:Hid (Row V3 gu 44 [.int .u64 fees,.int .u64 o.fee]):=RU;clear hVA;refine hK.out _ _ S0.out.r7 ?_;clear hK K;try simp only[nm]
           refine Rl 8 rfl fun K hK=>?_
           go_simp;refine(Xbi fees o.fee gu _ HF.out HFE.out RU.out).mono ?_;rintro e V4 ⟨rfl,hb⟩;have S0:=Hd (S0.out.below hb);have O:=Hd (Xaa O.out hb);clear hb RU;refine hK.out _ _ S0.out.r7 ?_;clear hK K;try simp only[nm]
           have c4:=S0.out.c.r4.cell 0;have f4:=S0.out.c.r4.frozen 0;refine Rl 9 rfl fun K hK=>?_
           go_simp;have c5:=(S0.out.c.set4 (.slice A6 (os.length+1) c6)).r5.cell 0;have f5:=(S0.out.c.set4 (.slice A6 (os.length+1) c6)).r5.frozen 0;have r74:=(Xa0 V4 ⟨T.b4,0,none⟩ (.slice A6 (os.length+1) c6)).row S0.out.r7 (Xae S0.out.r7 S0.out.c.r4 (by decide));have FIN:=Hd (S0.out.fin O.out (cap (fees+o.fee)));clear c4 f4;refine hK.out _ _ r74 ?_;clear hK K;try simp only[nm]
           refine Rl 10 rfl fun K hK=>?_
           go_simp;have r75:=(Xa0 (V4.setCell ⟨T.b4,0,none⟩ (.slice A6 (os.length+1) c6)) ⟨T.b5,0,none⟩ (.int .u64 (cap (fees+o.fee)))).row r74 (Xae r74 (S0.out.c.set4 (.slice A6 (os.length+1) c6)).r5 (by decide));refine hK.out _ _ r75 ?_;clear hK K c5 f5 r74 r75 S0 O;try simp only[nm]
           refine wpAnyH_done (by kernel_rfl) ?_ _;generalize (V4.setCell ⟨T.b4,0,none⟩ (.slice A6 (os.length+1) c6)).setCell ⟨T.b5,0,none⟩ (.int .u64 (cap (fees+o.fee)))=VF at *;exact Xat (a:=⟨#[],[]⟩) HRC.out HXE.out HDW.out.2.1 HDW.out.2.2 FIN.out (by rw[List.map_append,←Xb3];exact HNXT.out)
         ·as_aux_lemma =>
           go_simp;have hb:=(Br V1.heap.size V1).alloc (Lr _) (.cells #[.int .u64 fees,.int .u64 o.fee] 44);have RU:=Hd (Row.new V1 44 [.int .u64 fees,.int .u64 o.fee]);have RL:=Hd (RL.out.below hb RL.out.lt);have S0:=Hd (S0.out.below hb);have O:=Hd (Xaa O.out hb);clear hb;obtain⟨gu,hgu⟩:∃g,g=V1.heap.size:=⟨_,rfl⟩;rw[←hgu]at RU ⊢;clear hgu;generalize hVA:V1.alloc (.cells #[.int .u64 fees,.int .u64 o.fee] 44)=V2 at *;have RU:Hid (Row V2 gu 44 [.int .u64 fees,.int .u64 o.fee]):=RU;clear hVA;refine hK.out _ _ S0.out.r7 ?_;clear hK K;try simp only[nm]
           refine Rl 3 rfl fun K hK=>?_
           refine Xas (.tmp 20) (.tmp 22) 55 60 _ 6 64 rfl Tryd.underlying55 Xah Xap (by omega) v os.length (osC16 os) w.heap.size V2.heap.size (some ⟨gl,0,none⟩) 1 1 (oC16 (o,A)) (by go_simp) O.out (by go_simp) RL.out.sees0 (Xbd (o,A)) (by have:=HOL_.out;unfold maxLen;omega) (by have:=HOL_.out;omega) S0.out.c.g.size ?_;intro v2 V3 ho2 hg2;obtain⟨A6,c6,rfl,_⟩:=Xan ho2;have RU:=Hd (RU.out.grown hg2.grown (Xbb O.out RU.out (by decide)));have S0:=Hd (S0.out.grew O.out HNV.out hg2.grown);have O:=Hd ho2;clear ho2 hg2 RL;refine hK.out _ _ S0.out.r7 ?_;clear hK K;try simp only[nm]
           refine Rl 8 rfl fun K hK=>?_
           go_simp;refine(Xbi fees o.fee gu _ HF.out HFE.out RU.out).mono ?_;rintro e V4 ⟨rfl,hb⟩;have S0:=Hd (S0.out.below hb);have O:=Hd (Xaa O.out hb);clear hb RU;refine hK.out _ _ S0.out.r7 ?_;clear hK K;try simp only[nm]
           have c4:=S0.out.c.r4.cell 0;have f4:=S0.out.c.r4.frozen 0;refine Rl 9 rfl fun K hK=>?_
           go_simp;have c5:=(S0.out.c.set4 (.slice A6 (os.length+1) c6)).r5.cell 0;have f5:=(S0.out.c.set4 (.slice A6 (os.length+1) c6)).r5.frozen 0;have r74:=(Xa0 V4 ⟨T.b4,0,none⟩ (.slice A6 (os.length+1) c6)).row S0.out.r7 (Xae S0.out.r7 S0.out.c.r4 (by decide));have FIN:=Hd (S0.out.fin O.out (cap (fees+o.fee)));clear c4 f4;refine hK.out _ _ r74 ?_;clear hK K;try simp only[nm]
           refine Rl 10 rfl fun K hK=>?_
           go_simp;have r75:=(Xa0 (V4.setCell ⟨T.b4,0,none⟩ (.slice A6 (os.length+1) c6)) ⟨T.b5,0,none⟩ (.int .u64 (cap (fees+o.fee)))).row r74 (Xae r74 (S0.out.c.set4 (.slice A6 (os.length+1) c6)).r5 (by decide));refine hK.out _ _ r75 ?_;clear hK K c5 f5 r74 r75 S0 O;try simp only[nm]
           refine wpAnyH_done (by kernel_rfl) ?_ _;generalize (V4.setCell ⟨T.b4,0,none⟩ (.slice A6 (os.length+1) c6)).setCell ⟨T.b5,0,none⟩ (.int .u64 (cap (fees+o.fee)))=VF at *;exact Xat (a:=⟨#[],[]⟩) HRC.out HXE.out HDW.out.2.1 HDW.out.2.2 FIN.out (by rw[List.map_append,←Xb3];exact HNXT.out)
       ·as_aux_lemma =>
         go_simp;have hb:=(Br V1.heap.size V1).alloc (Lr _) (.cells #[.int .u64 fees,.int .u64 o.fee] 44);have RU:=Hd (Row.new V1 44 [.int .u64 fees,.int .u64 o.fee]);have RL:=Hd (RL.out.below hb RL.out.lt);have S0:=Hd (S0.out.below hb);have O:=Hd (Xaa O.out hb);clear hb;obtain⟨gu,hgu⟩:∃g,g=V1.heap.size:=⟨_,rfl⟩;rw[←hgu]at RU ⊢;clear hgu;generalize hVA:V1.alloc (.cells #[.int .u64 fees,.int .u64 o.fee] 44)=V2 at *;have RU:Hid (Row V2 gu 44 [.int .u64 fees,.int .u64 o.fee]):=RU;clear hVA;refine hK.out _ _ S0.out.r7 ?_;clear hK K;try simp only[nm]
         refine Rl 0 rfl fun K hK=>?_
         have c4:=S0.out.c.r4.cell 0;go_simp;clear c4;refine hK.out _ _ S0.out.r7 ?_;clear hK K;try simp only[nm]
         refine Rl 3 rfl fun K hK=>?_
         refine Xas (.tmp 20) (.tmp 22) 55 60 _ 6 64 rfl Tryd.underlying55 Xah Xap (by omega) v os.length (osC16 os) w.heap.size V2.heap.size (some ⟨gl,0,none⟩) 1 1 (oC16 (o,A)) (by go_simp) O.out (by go_simp) RL.out.sees0 (Xbd (o,A)) (by have:=HOL_.out;unfold maxLen;omega) (by have:=HOL_.out;omega) S0.out.c.g.size ?_;intro v2 V3 ho2 hg2;obtain⟨A6,c6,rfl,_⟩:=Xan ho2;have RU:=Hd (RU.out.grown hg2.grown (Xbb O.out RU.out (by decide)));have S0:=Hd (S0.out.grew O.out HNV.out hg2.grown);have O:=Hd ho2;clear ho2 hg2 RL;refine hK.out _ _ S0.out.r7 ?_;clear hK K;try simp only[nm]
         refine Rl 8 rfl fun K hK=>?_
         go_simp;refine(Xbi fees o.fee gu _ HF.out HFE.out RU.out).mono ?_;rintro e V4 ⟨rfl,hb⟩;have S0:=Hd (S0.out.below hb);have O:=Hd (Xaa O.out hb);clear hb RU;refine hK.out _ _ S0.out.r7 ?_;clear hK K;try simp only[nm]
         have c4:=S0.out.c.r4.cell 0;have f4:=S0.out.c.r4.frozen 0;refine Rl 9 rfl fun K hK=>?_
         go_simp;have c5:=(S0.out.c.set4 (.slice A6 (os.length+1) c6)).r5.cell 0;have f5:=(S0.out.c.set4 (.slice A6 (os.length+1) c6)).r5.frozen 0;have r74:=(Xa0 V4 ⟨T.b4,0,none⟩ (.slice A6 (os.length+1) c6)).row S0.out.r7 (Xae S0.out.r7 S0.out.c.r4 (by decide));have FIN:=Hd (S0.out.fin O.out (cap (fees+o.fee)));clear c4 f4;refine hK.out _ _ r74 ?_;clear hK K;try simp only[nm]
         refine Rl 10 rfl fun K hK=>?_
         go_simp;have r75:=(Xa0 (V4.setCell ⟨T.b4,0,none⟩ (.slice A6 (os.length+1) c6)) ⟨T.b5,0,none⟩ (.int .u64 (cap (fees+o.fee)))).row r74 (Xae r74 (S0.out.c.set4 (.slice A6 (os.length+1) c6)).r5 (by decide));refine hK.out _ _ r75 ?_;clear hK K c5 f5 r74 r75 S0 O;try simp only[nm]
         refine wpAnyH_done (by kernel_rfl) ?_ _;generalize (V4.setCell ⟨T.b4,0,none⟩ (.slice A6 (os.length+1) c6)).setCell ⟨T.b5,0,none⟩ (.int .u64 (cap (fees+o.fee)))=VF at *;exact Xat (a:=⟨#[],[]⟩) HRC.out HXE.out HDW.out.2.1 HDW.out.2.2 FIN.out (by rw[List.map_append,←Xb3];exact HNXT.out)
     ·as_aux_lemma =>
       go_simp;have hb:=(Br V0.heap.size V0).alloc (Lr _) (.cells #[.int .u64 fees,.int .u64 o.fee] 44);have RU:=Hd (Row.new V0 44 [.int .u64 fees,.int .u64 o.fee]);have S0:=Hd (S0.out.below hb);have O:=Hd (Xaa O.out hb);clear hb;obtain⟨gu,hgu⟩:∃g,g=V0.heap.size:=⟨_,rfl⟩;rw[←hgu]at RU ⊢;clear hgu;generalize hVA:V0.alloc (.cells #[.int .u64 fees,.int .u64 o.fee] 44)=V1 at *;have RU:Hid (Row V1 gu 44 [.int .u64 fees,.int .u64 o.fee]):=RU;clear hVA;refine hK.out _ _ S0.out.r7 ?_;clear hK K;try simp only[nm]
       refine Xar (i:=0) (j:=2) rfl rfl (by kernel_rfl) (by kernel_rfl) (by kernel_rfl) (fun K hK=>?_) (fun K hK=>?_)
       ·as_aux_lemma =>
         have c4:=S0.out.c.r4.cell 0;go_simp;clear c4;refine hK.out _ _ S0.out.r7 ?_;clear hK K;try simp only[nm]
         refine Rl 2 rfl fun K hK=>?_
         refine Xb2 55 60 (.tmp 21) rfl (oC16 (o,A)) _ 6 64 Tryd.underlying55 Xah Xap (by omega) (by omega) rfl (by go_simp) ?_;have hb:=(Br V1.heap.size V1).alloc (Lr _) (.cells (oC16 (o,A)).toArray 60);have RL:=Hd (Row.new V1 60 (oC16 (o,A)));have RU:=Hd (RU.out.below hb RU.out.lt);have S0:=Hd (S0.out.below hb);have O:=Hd (Xaa O.out hb);clear hb;obtain⟨gl,hgl⟩:∃g,g=V1.heap.size:=⟨_,rfl⟩;rw[←hgl]at RL ⊢;clear hgl;generalize V1.alloc (.cells (oC16 (o,A)).toArray 60)=V2 at *;refine hK.out _ _ S0.out.r7 ?_;clear hK K;try simp only[nm]
         refine Rl 3 rfl fun K hK=>?_
         refine Xas (.tmp 20) (.tmp 22) 55 60 _ 6 64 rfl Tryd.underlying55 Xah Xap (by omega) v os.length (osC16 os) w.heap.size V2.heap.size (some ⟨gl,0,none⟩) 1 1 (oC16 (o,A)) (by go_simp) O.out (by go_simp) RL.out.sees0 (Xbd (o,A)) (by have:=HOL_.out;unfold maxLen;omega) (by have:=HOL_.out;omega) S0.out.c.g.size ?_;intro v2 V3 ho2 hg2;obtain⟨A6,c6,rfl,_⟩:=Xan ho2;have RU:=Hd (RU.out.grown hg2.grown (Xbb O.out RU.out (by decide)));have S0:=Hd (S0.out.grew O.out HNV.out hg2.grown);have O:=Hd ho2;clear ho2 hg2 RL;refine hK.out _ _ S0.out.r7 ?_;clear hK K;try simp only[nm]
         refine Rl 8 rfl fun K hK=>?_
         go_simp;refine(Xbi fees o.fee gu _ HF.out HFE.out RU.out).mono ?_;rintro e V4 ⟨rfl,hb⟩;have S0:=Hd (S0.out.below hb);have O:=Hd (Xaa O.out hb);clear hb RU;refine hK.out _ _ S0.out.r7 ?_;clear hK K;try simp only[nm]
         have c4:=S0.out.c.r4.cell 0;have f4:=S0.out.c.r4.frozen 0;refine Rl 9 rfl fun K hK=>?_
         go_simp;have c5:=(S0.out.c.set4 (.slice A6 (os.length+1) c6)).r5.cell 0;have f5:=(S0.out.c.set4 (.slice A6 (os.length+1) c6)).r5.frozen 0;have r74:=(Xa0 V4 ⟨T.b4,0,none⟩ (.slice A6 (os.length+1) c6)).row S0.out.r7 (Xae S0.out.r7 S0.out.c.r4 (by decide));have FIN:=Hd (S0.out.fin O.out (cap (fees+o.fee)));clear c4 f4;refine hK.out _ _ r74 ?_;clear hK K;try simp only[nm]
         refine Rl 10 rfl fun K hK=>?_
         go_simp;have r75:=(Xa0 (V4.setCell ⟨T.b4,0,none⟩ (.slice A6 (os.length+1) c6)) ⟨T.b5,0,none⟩ (.int .u64 (cap (fees+o.fee)))).row r74 (Xae r74 (S0.out.c.set4 (.slice A6 (os.length+1) c6)).r5 (by decide));refine hK.out _ _ r75 ?_;clear hK K c5 f5 r74 r75 S0 O;try simp only[nm]
         refine wpAnyH_done (by kernel_rfl) ?_ _;generalize (V4.setCell ⟨T.b4,0,none⟩ (.slice A6 (os.length+1) c6)).setCell ⟨T.b5,0,none⟩ (.int .u64 (cap (fees+o.fee)))=VF at *;exact Xat (a:=⟨#[],[]⟩) HRC.out HXE.out HDW.out.2.1 HDW.out.2.2 FIN.out (by rw[List.map_append,←Xb3];exact HNXT.out)
       ·as_aux_lemma =>
         refine Xb2 55 60 (.tmp 21) rfl (oC16 (o,A)) _ 6 64 Tryd.underlying55 Xah Xap (by omega) (by omega) rfl (by go_simp) ?_;have hb:=(Br V1.heap.size V1).alloc (Lr _) (.cells (oC16 (o,A)).toArray 60);have RL:=Hd (Row.new V1 60 (oC16 (o,A)));have RU:=Hd (RU.out.below hb RU.out.lt);have S0:=Hd (S0.out.below hb);have O:=Hd (Xaa O.out hb);clear hb;obtain⟨gl,hgl⟩:∃g,g=V1.heap.size:=⟨_,rfl⟩;rw[←hgl]at RL ⊢;clear hgl;generalize V1.alloc (.cells (oC16 (o,A)).toArray 60)=V2 at *;refine hK.out _ _ S0.out.r7 ?_;clear hK K;try simp only[nm]
         refine Rl 0 rfl fun K hK=>?_
         have c4:=S0.out.c.r4.cell 0;go_simp;clear c4;refine hK.out _ _ S0.out.r7 ?_;clear hK K;try simp only[nm]
         refine Rl 3 rfl fun K hK=>?_
         refine Xas (.tmp 20) (.tmp 22) 55 60 _ 6 64 rfl Tryd.underlying55 Xah Xap (by omega) v os.length (osC16 os) w.heap.size V2.heap.size (some ⟨gl,0,none⟩) 1 1 (oC16 (o,A)) (by go_simp) O.out (by go_simp) RL.out.sees0 (Xbd (o,A)) (by have:=HOL_.out;unfold maxLen;omega) (by have:=HOL_.out;omega) S0.out.c.g.size ?_;intro v2 V3 ho2 hg2;obtain⟨A6,c6,rfl,_⟩:=Xan ho2;have RU:=Hd (RU.out.grown hg2.grown (Xbb O.out RU.out (by decide)));have S0:=Hd (S0.out.grew O.out HNV.out hg2.grown);have O:=Hd ho2;clear ho2 hg2 RL;refine hK.out _ _ S0.out.r7 ?_;clear hK K;try simp only[nm]
         refine Rl 8 rfl fun K hK=>?_
         go_simp;refine(Xbi fees o.fee gu _ HF.out HFE.out RU.out).mono ?_;rintro e V4 ⟨rfl,hb⟩;have S0:=Hd (S0.out.below hb);have O:=Hd (Xaa O.out hb);clear hb RU;refine hK.out _ _ S0.out.r7 ?_;clear hK K;try simp only[nm]
         have c4:=S0.out.c.r4.cell 0;have f4:=S0.out.c.r4.frozen 0;refine Rl 9 rfl fun K hK=>?_
         go_simp;have c5:=(S0.out.c.set4 (.slice A6 (os.length+1) c6)).r5.cell 0;have f5:=(S0.out.c.set4 (.slice A6 (os.length+1) c6)).r5.frozen 0;have r74:=(Xa0 V4 ⟨T.b4,0,none⟩ (.slice A6 (os.length+1) c6)).row S0.out.r7 (Xae S0.out.r7 S0.out.c.r4 (by decide));have FIN:=Hd (S0.out.fin O.out (cap (fees+o.fee)));clear c4 f4;refine hK.out _ _ r74 ?_;clear hK K;try simp only[nm]
         refine Rl 10 rfl fun K hK=>?_
         go_simp;have r75:=(Xa0 (V4.setCell ⟨T.b4,0,none⟩ (.slice A6 (os.length+1) c6)) ⟨T.b5,0,none⟩ (.int .u64 (cap (fees+o.fee)))).row r74 (Xae r74 (S0.out.c.set4 (.slice A6 (os.length+1) c6)).r5 (by decide));refine hK.out _ _ r75 ?_;clear hK K c5 f5 r74 r75 S0 O;try simp only[nm]
         refine wpAnyH_done (by kernel_rfl) ?_ _;generalize (V4.setCell ⟨T.b4,0,none⟩ (.slice A6 (os.length+1) c6)).setCell ⟨T.b5,0,none⟩ (.int .u64 (cap (fees+o.fee)))=VF at *;exact Xat (a:=⟨#[],[]⟩) HRC.out HXE.out HDW.out.2.1 HDW.out.2.2 FIN.out (by rw[List.map_append,←Xb3];exact HNXT.out)
  ·have her1:decide (er=0)=false:=decide_eq_false her;have her2:(er==0)=false:=by simpa using her
   have HSTP:=Hd (HSTOP.out her);have HSM:=Hd (HSAME.out her);clear HAF HNEXT HSTOP HSAME;have r6:=F9.out.c.r6.cell 0;have f6:=F9.out.c.r6.frozen 0;gi_wp2_with fail
   have c6:=F9.out.c.set6 er;have t6:=Xa0 V9 ⟨T.b6,0,none⟩ (.int .i64 er);have o6:=Xa5 O9.out F9.out.c.r6 (by decide) t6;have x6:=(t6.block lp (Xa8 F9.out.c.r6 F9.out.oddX).symm).trans F9.out.x;have d6:=(t6.block D (Xa8 F9.out.c.r6 (Xa1 F9.out.d)).symm).trans F9.out.d;rw[HXE.out]at x6;clear r6 f6 t6 F9 O9;generalize V9.setCell ⟨T.b6,0,none⟩ (.int .i64 er)=V10 at *;have hfb:FB16 T w V10 os fees er L':=⟨v,c6,o6⟩;rw[HSM.out]at hfb;refine⟨_,_,run_endRound (some (.exit 0)) x6,.inr ⟨rfl,os,fees,er,Lk,HSTP.out,hfb.odd (grownBy_putObj' _ _ _) (Xd0 x6) HDW.out.2.1,?_,(World.putObj_heap_other HDW.out.2.2.symm).trans d6⟩⟩;rw[World.putObj_heap_same (Array.getElem?_eq_some_iff.1 x6).1,HRC.out];rfl
 ·rintro e W5 ⟨⟨vv,rfl⟩,h5⟩;have h6:∃os fees er Lk jump st,(jump=none∨jump=some (.exit 0))∧st≠LoopState.busy∧fold16 (l.map (·.2)) S0=⟨os.map (·.1),fees,er,Lk⟩∧FB16 T w W5 os fees er Lk∧W5.heap[lp]?=some (.loop (rc st jump))∧W5.heap[D]?=some (.deferred (some [])):=by
   rcases h5 with⟨os,fees,Lk,hf,hb,hl,hd⟩ | ⟨os,fees,er,Lk,hf,hb,hl,hd⟩
   ·refine⟨os,fees,0,Lk,none,.ready,.inl rfl,(by intro e;cases e),?_,hb,hl,hd⟩;rw[HTB.out.2.2,←HLN.out,List.take_length]at hf;exact hf
   ·exact⟨os,fees,er,Lk,some (.exit 0),.done,.inr rfl,(by intro e;cases e),hf,hb,hl,hd⟩
  obtain⟨os,fees,er,Lk,jump,st,hj,hst,hf,hb,hl,hd⟩:=h6;obtain⟨W6,hW6,hel⟩:∃W6,W6=W5.putObj lp (.loop { rc st jump with state:=.exhausted,pending:=jump })∧(Instr.endLoop lp).run Tryd.prog W5=.ok jump W6:=⟨_,rfl,by
   have h:=run_endLoop (P:=Tryd.prog) hl (by rw[HRC.out];exact hst);rw[show(rc st jump).pending=jump by rw[HRC.out]]at h;exact h⟩
  refine⟨jump,W6,hel,jump16 hj (fun h=>h) ?_⟩;obtain⟨v,hc,ho⟩:=hb.odd (V':=W6) (by rw[hW6];exact grownBy_putObj' _ _ _) (Xd0 hl) HDW.out.2.1;have HD6:Hid (W6.heap[D]?=some (.deferred (some []))):=Hd (by rw[hW6];exact(World.putObj_heap_other HDW.out.2.2.symm).trans hd);obtain⟨A,c,rfl,_,hnc,hcm,_⟩:=Xan ho;have C6:=Hd hc;have O6:=Hd ho;have HCL:=Hd (And.intro hnc hcm);have HFF:=Hd hf;clear hc ho hf hb hl hd hW6 hel hj hst hnc hcm h5;go_upto_region 10 with fail
  refine wp_region_held_drew (S:=fun _=>True) (by kernel_rfl) trivial (fun _=>?_);try dsimp only[List.append]
  have C0:=Hd (C6.out.below (Br W6.heap.size W6).drew);have O0:=Hd (Xaa O6.out (Br W6.heap.size W6).drew);have HD0:Hid (W6.drew.heap[D]?=some (.deferred (some []))):=Hd HD6.out;clear C6 O6 HD6;generalize W6.drew=V0 at *;refine Xhb (i:=0) (j:=2) (k:=3) rfl rfl rfl (by kernel_rfl) (by kernel_rfl) (by kernel_rfl) (by kernel_rfl) (fun K hK=>?_) (fun K hK=>?_) (fun K hK=>?_)
  ·as_aux_lemma =>
    have c4:=C0.out.r4.cell 0;go_simp;clear c4;refine hK.out _ _ trivial ?_;clear hK K;try simp only[nm]
    refine Xhb (i:=1) (j:=2) (k:=3) rfl rfl rfl (by kernel_rfl) (by kernel_rfl) (by kernel_rfl) (by kernel_rfl) (fun K hK=>?_) (fun K hK=>?_) (fun K hK=>?_)
    ·as_aux_lemma =>
      go_simp;refine(Xdo A os.length c V0 HCL.out.1 HCL.out.2).mono ?_;rintro e V1 ⟨rfl,rfl⟩;refine hK.out _ _ trivial ?_;clear hK K;try simp only[nm]
      refine Xhb (i:=2) (j:=3) (k:=4) rfl rfl rfl (by kernel_rfl) (by kernel_rfl) (by kernel_rfl) (by kernel_rfl) (fun K hK=>?_) (fun K hK=>?_) (fun K hK=>?_)
      ·as_aux_lemma =>
        have c5:=C0.out.r5.cell 0;go_simp;clear c5;refine hK.out _ _ trivial ?_;clear hK K;try simp only[nm]
        refine Xar (i:=3) (j:=4) rfl rfl (by kernel_rfl) (by kernel_rfl) (by kernel_rfl) (fun K hK=>?_) (fun K hK=>?_)
        ·as_aux_lemma =>
          have c6:=C0.out.r6.cell 0;go_simp;clear c6;refine hK.out _ _ trivial ?_;clear hK K;try simp only[nm]
          refine Rl 4 rfl fun K hK=>?_
          have cc:=C0.out.r4.cell 0;have ff:=C0.out.r4.frozen 0;go_simp;clear cc ff;have tt:=Xa0 V0 ⟨T.b4,0,none⟩ (.slice A os.length os.length);have CN:=Hd (C0.out.set4 (.slice A os.length os.length));have O0:=Hd (Xa5 O0.out C0.out.r4 (by decide) tt);have HD0:=Hd ((tt.block D (Xa8 C0.out.r4 (Xa1 HD0.out)).symm).trans HD0.out);have C0:=Hd CN.out;clear tt CN;generalize V0.setCell ⟨T.b4,0,none⟩ (.slice A os.length os.length)=V1 at *;refine hK.out _ _ trivial ?_;clear hK K;try simp only[nm]
          refine Rl 5 rfl fun K hK=>?_
          have cc:=C0.out.r5.cell 0;have ff:=C0.out.r5.frozen 0;go_simp;clear cc ff;have tt:=Xa0 V1 ⟨T.b5,0,none⟩ (.int .u64 fees);have CN:=Hd (C0.out.set5 fees);have O0:=Hd (Xa5 O0.out C0.out.r5 (by decide) tt);have HD0:=Hd ((tt.block D (Xa8 C0.out.r5 (Xa1 HD0.out)).symm).trans HD0.out);have C0:=Hd CN.out;clear tt CN;generalize V1.setCell ⟨T.b5,0,none⟩ (.int .u64 fees)=V2 at *;refine hK.out _ _ trivial ?_;clear hK K;try simp only[nm]
          refine Rl 6 rfl fun K hK=>?_
          have cc:=C0.out.r6.cell 0;have ff:=C0.out.r6.frozen 0;go_simp;clear cc ff;have tt:=Xa0 V2 ⟨T.b6,0,none⟩ (.int .i64 er);have CN:=Hd (C0.out.set6 er);have O0:=Hd (Xa5 O0.out C0.out.r6 (by decide) tt);have HD0:=Hd ((tt.block D (Xa8 C0.out.r6 (Xa1 HD0.out)).symm).trans HD0.out);have C0:=Hd CN.out;clear tt CN;generalize V2.setCell ⟨T.b6,0,none⟩ (.int .i64 er)=V3 at *;refine hK.out _ _ trivial ?_;clear hK K;try simp only[nm]
          refine wpAnyH_done (by kernel_rfl) ?_ _;go_wp2_with fail;refine⟨by simp,.inl ⟨_,_,rfl,run_takeDeferred HD0.out,?_⟩⟩;have CE:=C0.out.odd (grownBy_putObj' _ D (.deferred none)) (Xa1 HD0.out) HDW.out.1;exact⟨_,Xad (h:=rfl) _ _ ⟨T.b4,0,none⟩ ⟨T.b5,0,none⟩ ⟨T.b6,0,none⟩ _ _ _ (by rfl) (by rfl) (by rfl) (Xb5 CE.r4) (Xb4 CE.r5) (Xb6 CE.r6),Xak HTB.out.1 HTB.out.2.1 (by rw[←HS0.out];exact HFF.out) CE (O0.out.kept (grownBy_putObj' _ _ _) (.inr (Xam O0.out (Xa1 HD0.out))))⟩
        ·as_aux_lemma =>
          have cc:=C0.out.r4.cell 0;have ff:=C0.out.r4.frozen 0;go_simp;clear cc ff;have tt:=Xa0 V0 ⟨T.b4,0,none⟩ (.slice A os.length os.length);have CN:=Hd (C0.out.set4 (.slice A os.length os.length));have O0:=Hd (Xa5 O0.out C0.out.r4 (by decide) tt);have HD0:=Hd ((tt.block D (Xa8 C0.out.r4 (Xa1 HD0.out)).symm).trans HD0.out);have C0:=Hd CN.out;clear tt CN;generalize V0.setCell ⟨T.b4,0,none⟩ (.slice A os.length os.length)=V1 at *;refine hK.out _ _ trivial ?_;clear hK K;try simp only[nm]
          refine Xar (i:=3) (j:=5) rfl rfl (by kernel_rfl) (by kernel_rfl) (by kernel_rfl) (fun K hK=>?_) (fun K hK=>?_)
          ·as_aux_lemma =>
            have c6:=C0.out.r6.cell 0;go_simp;clear c6;refine hK.out _ _ trivial ?_;clear hK K;try simp only[nm]
            refine Rl 5 rfl fun K hK=>?_
            have cc:=C0.out.r5.cell 0;have ff:=C0.out.r5.frozen 0;go_simp;clear cc ff;have tt:=Xa0 V1 ⟨T.b5,0,none⟩ (.int .u64 fees);have CN:=Hd (C0.out.set5 fees);have O0:=Hd (Xa5 O0.out C0.out.r5 (by decide) tt);have HD0:=Hd ((tt.block D (Xa8 C0.out.r5 (Xa1 HD0.out)).symm).trans HD0.out);have C0:=Hd CN.out;clear tt CN;generalize V1.setCell ⟨T.b5,0,none⟩ (.int .u64 fees)=V2 at *;refine hK.out _ _ trivial ?_;clear hK K;try simp only[nm]
            refine Rl 6 rfl fun K hK=>?_
            have cc:=C0.out.r6.cell 0;have ff:=C0.out.r6.frozen 0;go_simp;clear cc ff;have tt:=Xa0 V2 ⟨T.b6,0,none⟩ (.int .i64 er);have CN:=Hd (C0.out.set6 er);have O0:=Hd (Xa5 O0.out C0.out.r6 (by decide) tt);have HD0:=Hd ((tt.block D (Xa8 C0.out.r6 (Xa1 HD0.out)).symm).trans HD0.out);have C0:=Hd CN.out;clear tt CN;generalize V2.setCell ⟨T.b6,0,none⟩ (.int .i64 er)=V3 at *;refine hK.out _ _ trivial ?_;clear hK K;try simp only[nm]
            refine wpAnyH_done (by kernel_rfl) ?_ _;go_wp2_with fail;refine⟨by simp,.inl ⟨_,_,rfl,run_takeDeferred HD0.out,?_⟩⟩;have CE:=C0.out.odd (grownBy_putObj' _ D (.deferred none)) (Xa1 HD0.out) HDW.out.1;exact⟨_,Xad (h:=rfl) _ _ ⟨T.b4,0,none⟩ ⟨T.b5,0,none⟩ ⟨T.b6,0,none⟩ _ _ _ (by rfl) (by rfl) (by rfl) (Xb5 CE.r4) (Xb4 CE.r5) (Xb6 CE.r6),Xak HTB.out.1 HTB.out.2.1 (by rw[←HS0.out];exact HFF.out) CE (O0.out.kept (grownBy_putObj' _ _ _) (.inr (Xam O0.out (Xa1 HD0.out))))⟩
          ·as_aux_lemma =>
            have cc:=C0.out.r5.cell 0;have ff:=C0.out.r5.frozen 0;go_simp;clear cc ff;have tt:=Xa0 V1 ⟨T.b5,0,none⟩ (.int .u64 fees);have CN:=Hd (C0.out.set5 fees);have O0:=Hd (Xa5 O0.out C0.out.r5 (by decide) tt);have HD0:=Hd ((tt.block D (Xa8 C0.out.r5 (Xa1 HD0.out)).symm).trans HD0.out);have C0:=Hd CN.out;clear tt CN;generalize V1.setCell ⟨T.b5,0,none⟩ (.int .u64 fees)=V2 at *;refine hK.out _ _ trivial ?_;clear hK K;try simp only[nm]
            refine Rl 3 rfl fun K hK=>?_
            have c6:=C0.out.r6.cell 0;go_simp;clear c6;refine hK.out _ _ trivial ?_;clear hK K;try simp only[nm]
            refine Rl 6 rfl fun K hK=>?_
            have cc:=C0.out.r6.cell 0;have ff:=C0.out.r6.frozen 0;go_simp;clear cc ff;have tt:=Xa0 V2 ⟨T.b6,0,none⟩ (.int .i64 er);have CN:=Hd (C0.out.set6 er);have O0:=Hd (Xa5 O0.out C0.out.r6 (by decide) tt);have HD0:=Hd ((tt.block D (Xa8 C0.out.r6 (Xa1 HD0.out)).symm).trans HD0.out);have C0:=Hd CN.out;clear tt CN;generalize V2.setCell ⟨T.b6,0,none⟩ (.int .i64 er)=V3 at *;refine hK.out _ _ trivial ?_;clear hK K;try simp only[nm]
            refine wpAnyH_done (by kernel_rfl) ?_ _;go_wp2_with fail;refine⟨by simp,.inl ⟨_,_,rfl,run_takeDeferred HD0.out,?_⟩⟩;have CE:=C0.out.odd (grownBy_putObj' _ D (.deferred none)) (Xa1 HD0.out) HDW.out.1;exact⟨_,Xad (h:=rfl) _ _ ⟨T.b4,0,none⟩ ⟨T.b5,0,none⟩ ⟨T.b6,0,none⟩ _ _ _ (by rfl) (by rfl) (by rfl) (Xb5 CE.r4) (Xb4 CE.r5) (Xb6 CE.r6),Xak HTB.out.1 HTB.out.2.1 (by rw[←HS0.out];exact HFF.out) CE (O0.out.kept (grownBy_putObj' _ _ _) (.inr (Xam O0.out (Xa1 HD0.out))))⟩
      ·as_aux_lemma =>
        have c6:=C0.out.r6.cell 0;go_simp;clear c6;refine hK.out _ _ trivial ?_;clear hK K;try simp only[nm]
        refine Xar (i:=2) (j:=4) rfl rfl (by kernel_rfl) (by kernel_rfl) (by kernel_rfl) (fun K hK=>?_) (fun K hK=>?_)
        ·as_aux_lemma =>
          have c5:=C0.out.r5.cell 0;go_simp;clear c5;refine hK.out _ _ trivial ?_;clear hK K;try simp only[nm]
          refine Rl 4 rfl fun K hK=>?_
          have cc:=C0.out.r4.cell 0;have ff:=C0.out.r4.frozen 0;go_simp;clear cc ff;have tt:=Xa0 V0 ⟨T.b4,0,none⟩ (.slice A os.length os.length);have CN:=Hd (C0.out.set4 (.slice A os.length os.length));have O0:=Hd (Xa5 O0.out C0.out.r4 (by decide) tt);have HD0:=Hd ((tt.block D (Xa8 C0.out.r4 (Xa1 HD0.out)).symm).trans HD0.out);have C0:=Hd CN.out;clear tt CN;generalize V0.setCell ⟨T.b4,0,none⟩ (.slice A os.length os.length)=V1 at *;refine hK.out _ _ trivial ?_;clear hK K;try simp only[nm]
          refine Rl 5 rfl fun K hK=>?_
          have cc:=C0.out.r5.cell 0;have ff:=C0.out.r5.frozen 0;go_simp;clear cc ff;have tt:=Xa0 V1 ⟨T.b5,0,none⟩ (.int .u64 fees);have CN:=Hd (C0.out.set5 fees);have O0:=Hd (Xa5 O0.out C0.out.r5 (by decide) tt);have HD0:=Hd ((tt.block D (Xa8 C0.out.r5 (Xa1 HD0.out)).symm).trans HD0.out);have C0:=Hd CN.out;clear tt CN;generalize V1.setCell ⟨T.b5,0,none⟩ (.int .u64 fees)=V2 at *;refine hK.out _ _ trivial ?_;clear hK K;try simp only[nm]
          refine Rl 6 rfl fun K hK=>?_
          have cc:=C0.out.r6.cell 0;have ff:=C0.out.r6.frozen 0;go_simp;clear cc ff;have tt:=Xa0 V2 ⟨T.b6,0,none⟩ (.int .i64 er);have CN:=Hd (C0.out.set6 er);have O0:=Hd (Xa5 O0.out C0.out.r6 (by decide) tt);have HD0:=Hd ((tt.block D (Xa8 C0.out.r6 (Xa1 HD0.out)).symm).trans HD0.out);have C0:=Hd CN.out;clear tt CN;generalize V2.setCell ⟨T.b6,0,none⟩ (.int .i64 er)=V3 at *;refine hK.out _ _ trivial ?_;clear hK K;try simp only[nm]
          refine wpAnyH_done (by kernel_rfl) ?_ _;go_wp2_with fail;refine⟨by simp,.inl ⟨_,_,rfl,run_takeDeferred HD0.out,?_⟩⟩;have CE:=C0.out.odd (grownBy_putObj' _ D (.deferred none)) (Xa1 HD0.out) HDW.out.1;exact⟨_,Xad (h:=rfl) _ _ ⟨T.b4,0,none⟩ ⟨T.b5,0,none⟩ ⟨T.b6,0,none⟩ _ _ _ (by rfl) (by rfl) (by rfl) (Xb5 CE.r4) (Xb4 CE.r5) (Xb6 CE.r6),Xak HTB.out.1 HTB.out.2.1 (by rw[←HS0.out];exact HFF.out) CE (O0.out.kept (grownBy_putObj' _ _ _) (.inr (Xam O0.out (Xa1 HD0.out))))⟩
        ·as_aux_lemma =>
          have cc:=C0.out.r4.cell 0;have ff:=C0.out.r4.frozen 0;go_simp;clear cc ff;have tt:=Xa0 V0 ⟨T.b4,0,none⟩ (.slice A os.length os.length);have CN:=Hd (C0.out.set4 (.slice A os.length os.length));have O0:=Hd (Xa5 O0.out C0.out.r4 (by decide) tt);have HD0:=Hd ((tt.block D (Xa8 C0.out.r4 (Xa1 HD0.out)).symm).trans HD0.out);have C0:=Hd CN.out;clear tt CN;generalize V0.setCell ⟨T.b4,0,none⟩ (.slice A os.length os.length)=V1 at *;refine hK.out _ _ trivial ?_;clear hK K;try simp only[nm]
          refine Rl 2 rfl fun K hK=>?_
          have c5:=C0.out.r5.cell 0;go_simp;clear c5;refine hK.out _ _ trivial ?_;clear hK K;try simp only[nm]
          refine Rl 5 rfl fun K hK=>?_
          have cc:=C0.out.r5.cell 0;have ff:=C0.out.r5.frozen 0;go_simp;clear cc ff;have tt:=Xa0 V1 ⟨T.b5,0,none⟩ (.int .u64 fees);have CN:=Hd (C0.out.set5 fees);have O0:=Hd (Xa5 O0.out C0.out.r5 (by decide) tt);have HD0:=Hd ((tt.block D (Xa8 C0.out.r5 (Xa1 HD0.out)).symm).trans HD0.out);have C0:=Hd CN.out;clear tt CN;generalize V1.setCell ⟨T.b5,0,none⟩ (.int .u64 fees)=V2 at *;refine hK.out _ _ trivial ?_;clear hK K;try simp only[nm]
          refine Rl 6 rfl fun K hK=>?_
          have cc:=C0.out.r6.cell 0;have ff:=C0.out.r6.frozen 0;go_simp;clear cc ff;have tt:=Xa0 V2 ⟨T.b6,0,none⟩ (.int .i64 er);have CN:=Hd (C0.out.set6 er);have O0:=Hd (Xa5 O0.out C0.out.r6 (by decide) tt);have HD0:=Hd ((tt.block D (Xa8 C0.out.r6 (Xa1 HD0.out)).symm).trans HD0.out);have C0:=Hd CN.out;clear tt CN;generalize V2.setCell ⟨T.b6,0,none⟩ (.int .i64 er)=V3 at *;refine hK.out _ _ trivial ?_;clear hK K;try simp only[nm]
          refine wpAnyH_done (by kernel_rfl) ?_ _;go_wp2_with fail;refine⟨by simp,.inl ⟨_,_,rfl,run_takeDeferred HD0.out,?_⟩⟩;have CE:=C0.out.odd (grownBy_putObj' _ D (.deferred none)) (Xa1 HD0.out) HDW.out.1;exact⟨_,Xad (h:=rfl) _ _ ⟨T.b4,0,none⟩ ⟨T.b5,0,none⟩ ⟨T.b6,0,none⟩ _ _ _ (by rfl) (by rfl) (by rfl) (Xb5 CE.r4) (Xb4 CE.r5) (Xb6 CE.r6),Xak HTB.out.1 HTB.out.2.1 (by rw[←HS0.out];exact HFF.out) CE (O0.out.kept (grownBy_putObj' _ _ _) (.inr (Xam O0.out (Xa1 HD0.out))))⟩
      ·as_aux_lemma =>
        have cc:=C0.out.r4.cell 0;have ff:=C0.out.r4.frozen 0;go_simp;clear cc ff;have tt:=Xa0 V0 ⟨T.b4,0,none⟩ (.slice A os.length os.length);have CN:=Hd (C0.out.set4 (.slice A os.length os.length));have O0:=Hd (Xa5 O0.out C0.out.r4 (by decide) tt);have HD0:=Hd ((tt.block D (Xa8 C0.out.r4 (Xa1 HD0.out)).symm).trans HD0.out);have C0:=Hd CN.out;clear tt CN;generalize V0.setCell ⟨T.b4,0,none⟩ (.slice A os.length os.length)=V1 at *;refine hK.out _ _ trivial ?_;clear hK K;try simp only[nm]
        refine Xar (i:=2) (j:=3) rfl rfl (by kernel_rfl) (by kernel_rfl) (by kernel_rfl) (fun K hK=>?_) (fun K hK=>?_)
        ·as_aux_lemma =>
          have c5:=C0.out.r5.cell 0;go_simp;clear c5;refine hK.out _ _ trivial ?_;clear hK K;try simp only[nm]
          refine Xar (i:=3) (j:=5) rfl rfl (by kernel_rfl) (by kernel_rfl) (by kernel_rfl) (fun K hK=>?_) (fun K hK=>?_)
          ·as_aux_lemma =>
            have c6:=C0.out.r6.cell 0;go_simp;clear c6;refine hK.out _ _ trivial ?_;clear hK K;try simp only[nm]
            refine Rl 5 rfl fun K hK=>?_
            have cc:=C0.out.r5.cell 0;have ff:=C0.out.r5.frozen 0;go_simp;clear cc ff;have tt:=Xa0 V1 ⟨T.b5,0,none⟩ (.int .u64 fees);have CN:=Hd (C0.out.set5 fees);have O0:=Hd (Xa5 O0.out C0.out.r5 (by decide) tt);have HD0:=Hd ((tt.block D (Xa8 C0.out.r5 (Xa1 HD0.out)).symm).trans HD0.out);have C0:=Hd CN.out;clear tt CN;generalize V1.setCell ⟨T.b5,0,none⟩ (.int .u64 fees)=V2 at *;refine hK.out _ _ trivial ?_;clear hK K;try simp only[nm]
            refine Rl 6 rfl fun K hK=>?_
            have cc:=C0.out.r6.cell 0;have ff:=C0.out.r6.frozen 0;go_simp;clear cc ff;have tt:=Xa0 V2 ⟨T.b6,0,none⟩ (.int .i64 er);have CN:=Hd (C0.out.set6 er);have O0:=Hd (Xa5 O0.out C0.out.r6 (by decide) tt);have HD0:=Hd ((tt.block D (Xa8 C0.out.r6 (Xa1 HD0.out)).symm).trans HD0.out);have C0:=Hd CN.out;clear tt CN;generalize V2.setCell ⟨T.b6,0,none⟩ (.int .i64 er)=V3 at *;refine hK.out _ _ trivial ?_;clear hK K;try simp only[nm]
            refine wpAnyH_done (by kernel_rfl) ?_ _;go_wp2_with fail;refine⟨by simp,.inl ⟨_,_,rfl,run_takeDeferred HD0.out,?_⟩⟩;have CE:=C0.out.odd (grownBy_putObj' _ D (.deferred none)) (Xa1 HD0.out) HDW.out.1;exact⟨_,Xad (h:=rfl) _ _ ⟨T.b4,0,none⟩ ⟨T.b5,0,none⟩ ⟨T.b6,0,none⟩ _ _ _ (by rfl) (by rfl) (by rfl) (Xb5 CE.r4) (Xb4 CE.r5) (Xb6 CE.r6),Xak HTB.out.1 HTB.out.2.1 (by rw[←HS0.out];exact HFF.out) CE (O0.out.kept (grownBy_putObj' _ _ _) (.inr (Xam O0.out (Xa1 HD0.out))))⟩
          ·as_aux_lemma =>
            have cc:=C0.out.r5.cell 0;have ff:=C0.out.r5.frozen 0;go_simp;clear cc ff;have tt:=Xa0 V1 ⟨T.b5,0,none⟩ (.int .u64 fees);have CN:=Hd (C0.out.set5 fees);have O0:=Hd (Xa5 O0.out C0.out.r5 (by decide) tt);have HD0:=Hd ((tt.block D (Xa8 C0.out.r5 (Xa1 HD0.out)).symm).trans HD0.out);have C0:=Hd CN.out;clear tt CN;generalize V1.setCell ⟨T.b5,0,none⟩ (.int .u64 fees)=V2 at *;refine hK.out _ _ trivial ?_;clear hK K;try simp only[nm]
            refine Rl 3 rfl fun K hK=>?_
            have c6:=C0.out.r6.cell 0;go_simp;clear c6;refine hK.out _ _ trivial ?_;clear hK K;try simp only[nm]
            refine Rl 6 rfl fun K hK=>?_
            have cc:=C0.out.r6.cell 0;have ff:=C0.out.r6.frozen 0;go_simp;clear cc ff;have tt:=Xa0 V2 ⟨T.b6,0,none⟩ (.int .i64 er);have CN:=Hd (C0.out.set6 er);have O0:=Hd (Xa5 O0.out C0.out.r6 (by decide) tt);have HD0:=Hd ((tt.block D (Xa8 C0.out.r6 (Xa1 HD0.out)).symm).trans HD0.out);have C0:=Hd CN.out;clear tt CN;generalize V2.setCell ⟨T.b6,0,none⟩ (.int .i64 er)=V3 at *;refine hK.out _ _ trivial ?_;clear hK K;try simp only[nm]
            refine wpAnyH_done (by kernel_rfl) ?_ _;go_wp2_with fail;refine⟨by simp,.inl ⟨_,_,rfl,run_takeDeferred HD0.out,?_⟩⟩;have CE:=C0.out.odd (grownBy_putObj' _ D (.deferred none)) (Xa1 HD0.out) HDW.out.1;exact⟨_,Xad (h:=rfl) _ _ ⟨T.b4,0,none⟩ ⟨T.b5,0,none⟩ ⟨T.b6,0,none⟩ _ _ _ (by rfl) (by rfl) (by rfl) (Xb5 CE.r4) (Xb4 CE.r5) (Xb6 CE.r6),Xak HTB.out.1 HTB.out.2.1 (by rw[←HS0.out];exact HFF.out) CE (O0.out.kept (grownBy_putObj' _ _ _) (.inr (Xam O0.out (Xa1 HD0.out))))⟩
        ·as_aux_lemma =>
          have c6:=C0.out.r6.cell 0;go_simp;clear c6;refine hK.out _ _ trivial ?_;clear hK K;try simp only[nm]
          refine Rl 2 rfl fun K hK=>?_
          have c5:=C0.out.r5.cell 0;go_simp;clear c5;refine hK.out _ _ trivial ?_;clear hK K;try simp only[nm]
          refine Rl 5 rfl fun K hK=>?_
          have cc:=C0.out.r5.cell 0;have ff:=C0.out.r5.frozen 0;go_simp;clear cc ff;have tt:=Xa0 V1 ⟨T.b5,0,none⟩ (.int .u64 fees);have CN:=Hd (C0.out.set5 fees);have O0:=Hd (Xa5 O0.out C0.out.r5 (by decide) tt);have HD0:=Hd ((tt.block D (Xa8 C0.out.r5 (Xa1 HD0.out)).symm).trans HD0.out);have C0:=Hd CN.out;clear tt CN;generalize V1.setCell ⟨T.b5,0,none⟩ (.int .u64 fees)=V2 at *;refine hK.out _ _ trivial ?_;clear hK K;try simp only[nm]
          refine Rl 6 rfl fun K hK=>?_
          have cc:=C0.out.r6.cell 0;have ff:=C0.out.r6.frozen 0;go_simp;clear cc ff;have tt:=Xa0 V2 ⟨T.b6,0,none⟩ (.int .i64 er);have CN:=Hd (C0.out.set6 er);have O0:=Hd (Xa5 O0.out C0.out.r6 (by decide) tt);have HD0:=Hd ((tt.block D (Xa8 C0.out.r6 (Xa1 HD0.out)).symm).trans HD0.out);have C0:=Hd CN.out;clear tt CN;generalize V2.setCell ⟨T.b6,0,none⟩ (.int .i64 er)=V3 at *;refine hK.out _ _ trivial ?_;clear hK K;try simp only[nm]
          refine wpAnyH_done (by kernel_rfl) ?_ _;go_wp2_with fail;refine⟨by simp,.inl ⟨_,_,rfl,run_takeDeferred HD0.out,?_⟩⟩;have CE:=C0.out.odd (grownBy_putObj' _ D (.deferred none)) (Xa1 HD0.out) HDW.out.1;exact⟨_,Xad (h:=rfl) _ _ ⟨T.b4,0,none⟩ ⟨T.b5,0,none⟩ ⟨T.b6,0,none⟩ _ _ _ (by rfl) (by rfl) (by rfl) (Xb5 CE.r4) (Xb4 CE.r5) (Xb6 CE.r6),Xak HTB.out.1 HTB.out.2.1 (by rw[←HS0.out];exact HFF.out) CE (O0.out.kept (grownBy_putObj' _ _ _) (.inr (Xam O0.out (Xa1 HD0.out))))⟩
    ·as_aux_lemma =>
      have c5:=C0.out.r5.cell 0;go_simp;clear c5;refine hK.out _ _ trivial ?_;clear hK K;try simp only[nm]
      refine Xar (i:=1) (j:=3) rfl rfl (by kernel_rfl) (by kernel_rfl) (by kernel_rfl) (fun K hK=>?_) (fun K hK=>?_)
      ·as_aux_lemma =>
        go_simp;refine(Xdo A os.length c V0 HCL.out.1 HCL.out.2).mono ?_;rintro e V1 ⟨rfl,rfl⟩;refine hK.out _ _ trivial ?_;clear hK K;try simp only[nm]
        refine Xar (i:=3) (j:=4) rfl rfl (by kernel_rfl) (by kernel_rfl) (by kernel_rfl) (fun K hK=>?_) (fun K hK=>?_)
        ·as_aux_lemma =>
          have c6:=C0.out.r6.cell 0;go_simp;clear c6;refine hK.out _ _ trivial ?_;clear hK K;try simp only[nm]
          refine Rl 4 rfl fun K hK=>?_
          have cc:=C0.out.r4.cell 0;have ff:=C0.out.r4.frozen 0;go_simp;clear cc ff;have tt:=Xa0 V0 ⟨T.b4,0,none⟩ (.slice A os.length os.length);have CN:=Hd (C0.out.set4 (.slice A os.length os.length));have O0:=Hd (Xa5 O0.out C0.out.r4 (by decide) tt);have HD0:=Hd ((tt.block D (Xa8 C0.out.r4 (Xa1 HD0.out)).symm).trans HD0.out);have C0:=Hd CN.out;clear tt CN;generalize V0.setCell ⟨T.b4,0,none⟩ (.slice A os.length os.length)=V1 at *;refine hK.out _ _ trivial ?_;clear hK K;try simp only[nm]
          refine Rl 5 rfl fun K hK=>?_
          have cc:=C0.out.r5.cell 0;have ff:=C0.out.r5.frozen 0;go_simp;clear cc ff;have tt:=Xa0 V1 ⟨T.b5,0,none⟩ (.int .u64 fees);have CN:=Hd (C0.out.set5 fees);have O0:=Hd (Xa5 O0.out C0.out.r5 (by decide) tt);have HD0:=Hd ((tt.block D (Xa8 C0.out.r5 (Xa1 HD0.out)).symm).trans HD0.out);have C0:=Hd CN.out;clear tt CN;generalize V1.setCell ⟨T.b5,0,none⟩ (.int .u64 fees)=V2 at *;refine hK.out _ _ trivial ?_;clear hK K;try simp only[nm]
          refine Rl 6 rfl fun K hK=>?_
          have cc:=C0.out.r6.cell 0;have ff:=C0.out.r6.frozen 0;go_simp;clear cc ff;have tt:=Xa0 V2 ⟨T.b6,0,none⟩ (.int .i64 er);have CN:=Hd (C0.out.set6 er);have O0:=Hd (Xa5 O0.out C0.out.r6 (by decide) tt);have HD0:=Hd ((tt.block D (Xa8 C0.out.r6 (Xa1 HD0.out)).symm).trans HD0.out);have C0:=Hd CN.out;clear tt CN;generalize V2.setCell ⟨T.b6,0,none⟩ (.int .i64 er)=V3 at *;refine hK.out _ _ trivial ?_;clear hK K;try simp only[nm]
          refine wpAnyH_done (by kernel_rfl) ?_ _;go_wp2_with fail;refine⟨by simp,.inl ⟨_,_,rfl,run_takeDeferred HD0.out,?_⟩⟩;have CE:=C0.out.odd (grownBy_putObj' _ D (.deferred none)) (Xa1 HD0.out) HDW.out.1;exact⟨_,Xad (h:=rfl) _ _ ⟨T.b4,0,none⟩ ⟨T.b5,0,none⟩ ⟨T.b6,0,none⟩ _ _ _ (by rfl) (by rfl) (by rfl) (Xb5 CE.r4) (Xb4 CE.r5) (Xb6 CE.r6),Xak HTB.out.1 HTB.out.2.1 (by rw[←HS0.out];exact HFF.out) CE (O0.out.kept (grownBy_putObj' _ _ _) (.inr (Xam O0.out (Xa1 HD0.out))))⟩
        ·as_aux_lemma =>
          have cc:=C0.out.r4.cell 0;have ff:=C0.out.r4.frozen 0;go_simp;clear cc ff;have tt:=Xa0 V0 ⟨T.b4,0,none⟩ (.slice A os.length os.length);have CN:=Hd (C0.out.set4 (.slice A os.length os.length));have O0:=Hd (Xa5 O0.out C0.out.r4 (by decide) tt);have HD0:=Hd ((tt.block D (Xa8 C0.out.r4 (Xa1 HD0.out)).symm).trans HD0.out);have C0:=Hd CN.out;clear tt CN;generalize V0.setCell ⟨T.b4,0,none⟩ (.slice A os.length os.length)=V1 at *;refine hK.out _ _ trivial ?_;clear hK K;try simp only[nm]
          refine Xar (i:=3) (j:=5) rfl rfl (by kernel_rfl) (by kernel_rfl) (by kernel_rfl) (fun K hK=>?_) (fun K hK=>?_)
          ·as_aux_lemma =>
            have c6:=C0.out.r6.cell 0;go_simp;clear c6;refine hK.out _ _ trivial ?_;clear hK K;try simp only[nm]
            refine Rl 5 rfl fun K hK=>?_
            have cc:=C0.out.r5.cell 0;have ff:=C0.out.r5.frozen 0;go_simp;clear cc ff;have tt:=Xa0 V1 ⟨T.b5,0,none⟩ (.int .u64 fees);have CN:=Hd (C0.out.set5 fees);have O0:=Hd (Xa5 O0.out C0.out.r5 (by decide) tt);have HD0:=Hd ((tt.block D (Xa8 C0.out.r5 (Xa1 HD0.out)).symm).trans HD0.out);have C0:=Hd CN.out;clear tt CN;generalize V1.setCell ⟨T.b5,0,none⟩ (.int .u64 fees)=V2 at *;refine hK.out _ _ trivial ?_;clear hK K;try simp only[nm]
            refine Rl 6 rfl fun K hK=>?_
            have cc:=C0.out.r6.cell 0;have ff:=C0.out.r6.frozen 0;go_simp;clear cc ff;have tt:=Xa0 V2 ⟨T.b6,0,none⟩ (.int .i64 er);have CN:=Hd (C0.out.set6 er);have O0:=Hd (Xa5 O0.out C0.out.r6 (by decide) tt);have HD0:=Hd ((tt.block D (Xa8 C0.out.r6 (Xa1 HD0.out)).symm).trans HD0.out);have C0:=Hd CN.out;clear tt CN;generalize V2.setCell ⟨T.b6,0,none⟩ (.int .i64 er)=V3 at *;refine hK.out _ _ trivial ?_;clear hK K;try simp only[nm]
            refine wpAnyH_done (by kernel_rfl) ?_ _;go_wp2_with fail;refine⟨by simp,.inl ⟨_,_,rfl,run_takeDeferred HD0.out,?_⟩⟩;have CE:=C0.out.odd (grownBy_putObj' _ D (.deferred none)) (Xa1 HD0.out) HDW.out.1;exact⟨_,Xad (h:=rfl) _ _ ⟨T.b4,0,none⟩ ⟨T.b5,0,none⟩ ⟨T.b6,0,none⟩ _ _ _ (by rfl) (by rfl) (by rfl) (Xb5 CE.r4) (Xb4 CE.r5) (Xb6 CE.r6),Xak HTB.out.1 HTB.out.2.1 (by rw[←HS0.out];exact HFF.out) CE (O0.out.kept (grownBy_putObj' _ _ _) (.inr (Xam O0.out (Xa1 HD0.out))))⟩
          ·as_aux_lemma =>
            have cc:=C0.out.r5.cell 0;have ff:=C0.out.r5.frozen 0;go_simp;clear cc ff;have tt:=Xa0 V1 ⟨T.b5,0,none⟩ (.int .u64 fees);have CN:=Hd (C0.out.set5 fees);have O0:=Hd (Xa5 O0.out C0.out.r5 (by decide) tt);have HD0:=Hd ((tt.block D (Xa8 C0.out.r5 (Xa1 HD0.out)).symm).trans HD0.out);have C0:=Hd CN.out;clear tt CN;generalize V1.setCell ⟨T.b5,0,none⟩ (.int .u64 fees)=V2 at *;refine hK.out _ _ trivial ?_;clear hK K;try simp only[nm]
            refine Rl 3 rfl fun K hK=>?_
            have c6:=C0.out.r6.cell 0;go_simp;clear c6;refine hK.out _ _ trivial ?_;clear hK K;try simp only[nm]
            refine Rl 6 rfl fun K hK=>?_
            have cc:=C0.out.r6.cell 0;have ff:=C0.out.r6.frozen 0;go_simp;clear cc ff;have tt:=Xa0 V2 ⟨T.b6,0,none⟩ (.int .i64 er);have CN:=Hd (C0.out.set6 er);have O0:=Hd (Xa5 O0.out C0.out.r6 (by decide) tt);have HD0:=Hd ((tt.block D (Xa8 C0.out.r6 (Xa1 HD0.out)).symm).trans HD0.out);have C0:=Hd CN.out;clear tt CN;generalize V2.setCell ⟨T.b6,0,none⟩ (.int .i64 er)=V3 at *;refine hK.out _ _ trivial ?_;clear hK K;try simp only[nm]
            refine wpAnyH_done (by kernel_rfl) ?_ _;go_wp2_with fail;refine⟨by simp,.inl ⟨_,_,rfl,run_takeDeferred HD0.out,?_⟩⟩;have CE:=C0.out.odd (grownBy_putObj' _ D (.deferred none)) (Xa1 HD0.out) HDW.out.1;exact⟨_,Xad (h:=rfl) _ _ ⟨T.b4,0,none⟩ ⟨T.b5,0,none⟩ ⟨T.b6,0,none⟩ _ _ _ (by rfl) (by rfl) (by rfl) (Xb5 CE.r4) (Xb4 CE.r5) (Xb6 CE.r6),Xak HTB.out.1 HTB.out.2.1 (by rw[←HS0.out];exact HFF.out) CE (O0.out.kept (grownBy_putObj' _ _ _) (.inr (Xam O0.out (Xa1 HD0.out))))⟩
      ·as_aux_lemma =>
        have c6:=C0.out.r6.cell 0;go_simp;clear c6;refine hK.out _ _ trivial ?_;clear hK K;try simp only[nm]
        refine Rl 1 rfl fun K hK=>?_
        go_simp;refine(Xdo A os.length c V0 HCL.out.1 HCL.out.2).mono ?_;rintro e V1 ⟨rfl,rfl⟩;refine hK.out _ _ trivial ?_;clear hK K;try simp only[nm]
        refine Rl 4 rfl fun K hK=>?_
        have cc:=C0.out.r4.cell 0;have ff:=C0.out.r4.frozen 0;go_simp;clear cc ff;have tt:=Xa0 V0 ⟨T.b4,0,none⟩ (.slice A os.length os.length);have CN:=Hd (C0.out.set4 (.slice A os.length os.length));have O0:=Hd (Xa5 O0.out C0.out.r4 (by decide) tt);have HD0:=Hd ((tt.block D (Xa8 C0.out.r4 (Xa1 HD0.out)).symm).trans HD0.out);have C0:=Hd CN.out;clear tt CN;generalize V0.setCell ⟨T.b4,0,none⟩ (.slice A os.length os.length)=V1 at *;refine hK.out _ _ trivial ?_;clear hK K;try simp only[nm]
        refine Rl 5 rfl fun K hK=>?_
        have cc:=C0.out.r5.cell 0;have ff:=C0.out.r5.frozen 0;go_simp;clear cc ff;have tt:=Xa0 V1 ⟨T.b5,0,none⟩ (.int .u64 fees);have CN:=Hd (C0.out.set5 fees);have O0:=Hd (Xa5 O0.out C0.out.r5 (by decide) tt);have HD0:=Hd ((tt.block D (Xa8 C0.out.r5 (Xa1 HD0.out)).symm).trans HD0.out);have C0:=Hd CN.out;clear tt CN;generalize V1.setCell ⟨T.b5,0,none⟩ (.int .u64 fees)=V2 at *;refine hK.out _ _ trivial ?_;clear hK K;try simp only[nm]
        refine Rl 6 rfl fun K hK=>?_
        have cc:=C0.out.r6.cell 0;have ff:=C0.out.r6.frozen 0;go_simp;clear cc ff;have tt:=Xa0 V2 ⟨T.b6,0,none⟩ (.int .i64 er);have CN:=Hd (C0.out.set6 er);have O0:=Hd (Xa5 O0.out C0.out.r6 (by decide) tt);have HD0:=Hd ((tt.block D (Xa8 C0.out.r6 (Xa1 HD0.out)).symm).trans HD0.out);have C0:=Hd CN.out;clear tt CN;generalize V2.setCell ⟨T.b6,0,none⟩ (.int .i64 er)=V3 at *;refine hK.out _ _ trivial ?_;clear hK K;try simp only[nm]
        refine wpAnyH_done (by kernel_rfl) ?_ _;go_wp2_with fail;refine⟨by simp,.inl ⟨_,_,rfl,run_takeDeferred HD0.out,?_⟩⟩;have CE:=C0.out.odd (grownBy_putObj' _ D (.deferred none)) (Xa1 HD0.out) HDW.out.1;exact⟨_,Xad (h:=rfl) _ _ ⟨T.b4,0,none⟩ ⟨T.b5,0,none⟩ ⟨T.b6,0,none⟩ _ _ _ (by rfl) (by rfl) (by rfl) (Xb5 CE.r4) (Xb4 CE.r5) (Xb6 CE.r6),Xak HTB.out.1 HTB.out.2.1 (by rw[←HS0.out];exact HFF.out) CE (O0.out.kept (grownBy_putObj' _ _ _) (.inr (Xam O0.out (Xa1 HD0.out))))⟩
    ·as_aux_lemma =>
      have c6:=C0.out.r6.cell 0;go_simp;clear c6;refine hK.out _ _ trivial ?_;clear hK K;try simp only[nm]
      refine Xar (i:=1) (j:=2) rfl rfl (by kernel_rfl) (by kernel_rfl) (by kernel_rfl) (fun K hK=>?_) (fun K hK=>?_)
      ·as_aux_lemma =>
        go_simp;refine(Xdo A os.length c V0 HCL.out.1 HCL.out.2).mono ?_;rintro e V1 ⟨rfl,rfl⟩;refine hK.out _ _ trivial ?_;clear hK K;try simp only[nm]
        refine Xar (i:=2) (j:=4) rfl rfl (by kernel_rfl) (by kernel_rfl) (by kernel_rfl) (fun K hK=>?_) (fun K hK=>?_)
        ·as_aux_lemma =>
          have c5:=C0.out.r5.cell 0;go_simp;clear c5;refine hK.out _ _ trivial ?_;clear hK K;try simp only[nm]
          refine Rl 4 rfl fun K hK=>?_
          have cc:=C0.out.r4.cell 0;have ff:=C0.out.r4.frozen 0;go_simp;clear cc ff;have tt:=Xa0 V0 ⟨T.b4,0,none⟩ (.slice A os.length os.length);have CN:=Hd (C0.out.set4 (.slice A os.length os.length));have O0:=Hd (Xa5 O0.out C0.out.r4 (by decide) tt);have HD0:=Hd ((tt.block D (Xa8 C0.out.r4 (Xa1 HD0.out)).symm).trans HD0.out);have C0:=Hd CN.out;clear tt CN;generalize V0.setCell ⟨T.b4,0,none⟩ (.slice A os.length os.length)=V1 at *;refine hK.out _ _ trivial ?_;clear hK K;try simp only[nm]
          refine Rl 5 rfl fun K hK=>?_
          have cc:=C0.out.r5.cell 0;have ff:=C0.out.r5.frozen 0;go_simp;clear cc ff;have tt:=Xa0 V1 ⟨T.b5,0,none⟩ (.int .u64 fees);have CN:=Hd (C0.out.set5 fees);have O0:=Hd (Xa5 O0.out C0.out.r5 (by decide) tt);have HD0:=Hd ((tt.block D (Xa8 C0.out.r5 (Xa1 HD0.out)).symm).trans HD0.out);have C0:=Hd CN.out;clear tt CN;generalize V1.setCell ⟨T.b5,0,none⟩ (.int .u64 fees)=V2 at *;refine hK.out _ _ trivial ?_;clear hK K;try simp only[nm]
          refine Rl 6 rfl fun K hK=>?_
          have cc:=C0.out.r6.cell 0;have ff:=C0.out.r6.frozen 0;go_simp;clear cc ff;have tt:=Xa0 V2 ⟨T.b6,0,none⟩ (.int .i64 er);have CN:=Hd (C0.out.set6 er);have O0:=Hd (Xa5 O0.out C0.out.r6 (by decide) tt);have HD0:=Hd ((tt.block D (Xa8 C0.out.r6 (Xa1 HD0.out)).symm).trans HD0.out);have C0:=Hd CN.out;clear tt CN;generalize V2.setCell ⟨T.b6,0,none⟩ (.int .i64 er)=V3 at *;refine hK.out _ _ trivial ?_;clear hK K;try simp only[nm]
          refine wpAnyH_done (by kernel_rfl) ?_ _;go_wp2_with fail;refine⟨by simp,.inl ⟨_,_,rfl,run_takeDeferred HD0.out,?_⟩⟩;have CE:=C0.out.odd (grownBy_putObj' _ D (.deferred none)) (Xa1 HD0.out) HDW.out.1;exact⟨_,Xad (h:=rfl) _ _ ⟨T.b4,0,none⟩ ⟨T.b5,0,none⟩ ⟨T.b6,0,none⟩ _ _ _ (by rfl) (by rfl) (by rfl) (Xb5 CE.r4) (Xb4 CE.r5) (Xb6 CE.r6),Xak HTB.out.1 HTB.out.2.1 (by rw[←HS0.out];exact HFF.out) CE (O0.out.kept (grownBy_putObj' _ _ _) (.inr (Xam O0.out (Xa1 HD0.out))))⟩
        ·as_aux_lemma =>
          have cc:=C0.out.r4.cell 0;have ff:=C0.out.r4.frozen 0;go_simp;clear cc ff;have tt:=Xa0 V0 ⟨T.b4,0,none⟩ (.slice A os.length os.length);have CN:=Hd (C0.out.set4 (.slice A os.length os.length));have O0:=Hd (Xa5 O0.out C0.out.r4 (by decide) tt);have HD0:=Hd ((tt.block D (Xa8 C0.out.r4 (Xa1 HD0.out)).symm).trans HD0.out);have C0:=Hd CN.out;clear tt CN;generalize V0.setCell ⟨T.b4,0,none⟩ (.slice A os.length os.length)=V1 at *;refine hK.out _ _ trivial ?_;clear hK K;try simp only[nm]
          refine Rl 2 rfl fun K hK=>?_
          have c5:=C0.out.r5.cell 0;go_simp;clear c5;refine hK.out _ _ trivial ?_;clear hK K;try simp only[nm]
          refine Rl 5 rfl fun K hK=>?_
          have cc:=C0.out.r5.cell 0;have ff:=C0.out.r5.frozen 0;go_simp;clear cc ff;have tt:=Xa0 V1 ⟨T.b5,0,none⟩ (.int .u64 fees);have CN:=Hd (C0.out.set5 fees);have O0:=Hd (Xa5 O0.out C0.out.r5 (by decide) tt);have HD0:=Hd ((tt.block D (Xa8 C0.out.r5 (Xa1 HD0.out)).symm).trans HD0.out);have C0:=Hd CN.out;clear tt CN;generalize V1.setCell ⟨T.b5,0,none⟩ (.int .u64 fees)=V2 at *;refine hK.out _ _ trivial ?_;clear hK K;try simp only[nm]
          refine Rl 6 rfl fun K hK=>?_
          have cc:=C0.out.r6.cell 0;have ff:=C0.out.r6.frozen 0;go_simp;clear cc ff;have tt:=Xa0 V2 ⟨T.b6,0,none⟩ (.int .i64 er);have CN:=Hd (C0.out.set6 er);have O0:=Hd (Xa5 O0.out C0.out.r6 (by decide) tt);have HD0:=Hd ((tt.block D (Xa8 C0.out.r6 (Xa1 HD0.out)).symm).trans HD0.out);have C0:=Hd CN.out;clear tt CN;generalize V2.setCell ⟨T.b6,0,none⟩ (.int .i64 er)=V3 at *;refine hK.out _ _ trivial ?_;clear hK K;try simp only[nm]
          refine wpAnyH_done (by kernel_rfl) ?_ _;go_wp2_with fail;refine⟨by simp,.inl ⟨_,_,rfl,run_takeDeferred HD0.out,?_⟩⟩;have CE:=C0.out.odd (grownBy_putObj' _ D (.deferred none)) (Xa1 HD0.out) HDW.out.1;exact⟨_,Xad (h:=rfl) _ _ ⟨T.b4,0,none⟩ ⟨T.b5,0,none⟩ ⟨T.b6,0,none⟩ _ _ _ (by rfl) (by rfl) (by rfl) (Xb5 CE.r4) (Xb4 CE.r5) (Xb6 CE.r6),Xak HTB.out.1 HTB.out.2.1 (by rw[←HS0.out];exact HFF.out) CE (O0.out.kept (grownBy_putObj' _ _ _) (.inr (Xam O0.out (Xa1 HD0.out))))⟩
      ·as_aux_lemma =>
        have c5:=C0.out.r5.cell 0;go_simp;clear c5;refine hK.out _ _ trivial ?_;clear hK K;try simp only[nm]
        refine Rl 1 rfl fun K hK=>?_
        go_simp;refine(Xdo A os.length c V0 HCL.out.1 HCL.out.2).mono ?_;rintro e V1 ⟨rfl,rfl⟩;refine hK.out _ _ trivial ?_;clear hK K;try simp only[nm]
        refine Rl 4 rfl fun K hK=>?_
        have cc:=C0.out.r4.cell 0;have ff:=C0.out.r4.frozen 0;go_simp;clear cc ff;have tt:=Xa0 V0 ⟨T.b4,0,none⟩ (.slice A os.length os.length);have CN:=Hd (C0.out.set4 (.slice A os.length os.length));have O0:=Hd (Xa5 O0.out C0.out.r4 (by decide) tt);have HD0:=Hd ((tt.block D (Xa8 C0.out.r4 (Xa1 HD0.out)).symm).trans HD0.out);have C0:=Hd CN.out;clear tt CN;generalize V0.setCell ⟨T.b4,0,none⟩ (.slice A os.length os.length)=V1 at *;refine hK.out _ _ trivial ?_;clear hK K;try simp only[nm]
        refine Rl 5 rfl fun K hK=>?_
        have cc:=C0.out.r5.cell 0;have ff:=C0.out.r5.frozen 0;go_simp;clear cc ff;have tt:=Xa0 V1 ⟨T.b5,0,none⟩ (.int .u64 fees);have CN:=Hd (C0.out.set5 fees);have O0:=Hd (Xa5 O0.out C0.out.r5 (by decide) tt);have HD0:=Hd ((tt.block D (Xa8 C0.out.r5 (Xa1 HD0.out)).symm).trans HD0.out);have C0:=Hd CN.out;clear tt CN;generalize V1.setCell ⟨T.b5,0,none⟩ (.int .u64 fees)=V2 at *;refine hK.out _ _ trivial ?_;clear hK K;try simp only[nm]
        refine Rl 6 rfl fun K hK=>?_
        have cc:=C0.out.r6.cell 0;have ff:=C0.out.r6.frozen 0;go_simp;clear cc ff;have tt:=Xa0 V2 ⟨T.b6,0,none⟩ (.int .i64 er);have CN:=Hd (C0.out.set6 er);have O0:=Hd (Xa5 O0.out C0.out.r6 (by decide) tt);have HD0:=Hd ((tt.block D (Xa8 C0.out.r6 (Xa1 HD0.out)).symm).trans HD0.out);have C0:=Hd CN.out;clear tt CN;generalize V2.setCell ⟨T.b6,0,none⟩ (.int .i64 er)=V3 at *;refine hK.out _ _ trivial ?_;clear hK K;try simp only[nm]
        refine wpAnyH_done (by kernel_rfl) ?_ _;go_wp2_with fail;refine⟨by simp,.inl ⟨_,_,rfl,run_takeDeferred HD0.out,?_⟩⟩;have CE:=C0.out.odd (grownBy_putObj' _ D (.deferred none)) (Xa1 HD0.out) HDW.out.1;exact⟨_,Xad (h:=rfl) _ _ ⟨T.b4,0,none⟩ ⟨T.b5,0,none⟩ ⟨T.b6,0,none⟩ _ _ _ (by rfl) (by rfl) (by rfl) (Xb5 CE.r4) (Xb4 CE.r5) (Xb6 CE.r6),Xak HTB.out.1 HTB.out.2.1 (by rw[←HS0.out];exact HFF.out) CE (O0.out.kept (grownBy_putObj' _ _ _) (.inr (Xam O0.out (Xa1 HD0.out))))⟩
  ·as_aux_lemma =>
    have c5:=C0.out.r5.cell 0;go_simp;clear c5;refine hK.out _ _ trivial ?_;clear hK K;try simp only[nm]
    refine Xar (i:=0) (j:=3) rfl rfl (by kernel_rfl) (by kernel_rfl) (by kernel_rfl) (fun K hK=>?_) (fun K hK=>?_)
    ·as_aux_lemma =>
      have c4:=C0.out.r4.cell 0;go_simp;clear c4;refine hK.out _ _ trivial ?_;clear hK K;try simp only[nm]
      refine Xar (i:=1) (j:=3) rfl rfl (by kernel_rfl) (by kernel_rfl) (by kernel_rfl) (fun K hK=>?_) (fun K hK=>?_)
      ·as_aux_lemma =>
        go_simp;refine(Xdo A os.length c V0 HCL.out.1 HCL.out.2).mono ?_;rintro e V1 ⟨rfl,rfl⟩;refine hK.out _ _ trivial ?_;clear hK K;try simp only[nm]
        refine Xar (i:=3) (j:=4) rfl rfl (by kernel_rfl) (by kernel_rfl) (by kernel_rfl) (fun K hK=>?_) (fun K hK=>?_)
        ·as_aux_lemma =>
          have c6:=C0.out.r6.cell 0;go_simp;clear c6;refine hK.out _ _ trivial ?_;clear hK K;try simp only[nm]
          refine Rl 4 rfl fun K hK=>?_
          have cc:=C0.out.r4.cell 0;have ff:=C0.out.r4.frozen 0;go_simp;clear cc ff;have tt:=Xa0 V0 ⟨T.b4,0,none⟩ (.slice A os.length os.length);have CN:=Hd (C0.out.set4 (.slice A os.length os.length));have O0:=Hd (Xa5 O0.out C0.out.r4 (by decide) tt);have HD0:=Hd ((tt.block D (Xa8 C0.out.r4 (Xa1 HD0.out)).symm).trans HD0.out);have C0:=Hd CN.out;clear tt CN;generalize V0.setCell ⟨T.b4,0,none⟩ (.slice A os.length os.length)=V1 at *;refine hK.out _ _ trivial ?_;clear hK K;try simp only[nm]
          refine Rl 5 rfl fun K hK=>?_
          have cc:=C0.out.r5.cell 0;have ff:=C0.out.r5.frozen 0;go_simp;clear cc ff;have tt:=Xa0 V1 ⟨T.b5,0,none⟩ (.int .u64 fees);have CN:=Hd (C0.out.set5 fees);have O0:=Hd (Xa5 O0.out C0.out.r5 (by decide) tt);have HD0:=Hd ((tt.block D (Xa8 C0.out.r5 (Xa1 HD0.out)).symm).trans HD0.out);have C0:=Hd CN.out;clear tt CN;generalize V1.setCell ⟨T.b5,0,none⟩ (.int .u64 fees)=V2 at *;refine hK.out _ _ trivial ?_;clear hK K;try simp only[nm]
          refine Rl 6 rfl fun K hK=>?_
          have cc:=C0.out.r6.cell 0;have ff:=C0.out.r6.frozen 0;go_simp;clear cc ff;have tt:=Xa0 V2 ⟨T.b6,0,none⟩ (.int .i64 er);have CN:=Hd (C0.out.set6 er);have O0:=Hd (Xa5 O0.out C0.out.r6 (by decide) tt);have HD0:=Hd ((tt.block D (Xa8 C0.out.r6 (Xa1 HD0.out)).symm).trans HD0.out);have C0:=Hd CN.out;clear tt CN;generalize V2.setCell ⟨T.b6,0,none⟩ (.int .i64 er)=V3 at *;refine hK.out _ _ trivial ?_;clear hK K;try simp only[nm]
          refine wpAnyH_done (by kernel_rfl) ?_ _;go_wp2_with fail;refine⟨by simp,.inl ⟨_,_,rfl,run_takeDeferred HD0.out,?_⟩⟩;have CE:=C0.out.odd (grownBy_putObj' _ D (.deferred none)) (Xa1 HD0.out) HDW.out.1;exact⟨_,Xad (h:=rfl) _ _ ⟨T.b4,0,none⟩ ⟨T.b5,0,none⟩ ⟨T.b6,0,none⟩ _ _ _ (by rfl) (by rfl) (by rfl) (Xb5 CE.r4) (Xb4 CE.r5) (Xb6 CE.r6),Xak HTB.out.1 HTB.out.2.1 (by rw[←HS0.out];exact HFF.out) CE (O0.out.kept (grownBy_putObj' _ _ _) (.inr (Xam O0.out (Xa1 HD0.out))))⟩
        ·as_aux_lemma =>
          have cc:=C0.out.r4.cell 0;have ff:=C0.out.r4.frozen 0;go_simp;clear cc ff;have tt:=Xa0 V0 ⟨T.b4,0,none⟩ (.slice A os.length os.length);have CN:=Hd (C0.out.set4 (.slice A os.length os.length));have O0:=Hd (Xa5 O0.out C0.out.r4 (by decide) tt);have HD0:=Hd ((tt.block D (Xa8 C0.out.r4 (Xa1 HD0.out)).symm).trans HD0.out);have C0:=Hd CN.out;clear tt CN;generalize V0.setCell ⟨T.b4,0,none⟩ (.slice A os.length os.length)=V1 at *;refine hK.out _ _ trivial ?_;clear hK K;try simp only[nm]
          refine Xar (i:=3) (j:=5) rfl rfl (by kernel_rfl) (by kernel_rfl) (by kernel_rfl) (fun K hK=>?_) (fun K hK=>?_)
          ·as_aux_lemma =>
            have c6:=C0.out.r6.cell 0;go_simp;clear c6;refine hK.out _ _ trivial ?_;clear hK K;try simp only[nm]
            refine Rl 5 rfl fun K hK=>?_
            have cc:=C0.out.r5.cell 0;have ff:=C0.out.r5.frozen 0;go_simp;clear cc ff;have tt:=Xa0 V1 ⟨T.b5,0,none⟩ (.int .u64 fees);have CN:=Hd (C0.out.set5 fees);have O0:=Hd (Xa5 O0.out C0.out.r5 (by decide) tt);have HD0:=Hd ((tt.block D (Xa8 C0.out.r5 (Xa1 HD0.out)).symm).trans HD0.out);have C0:=Hd CN.out;clear tt CN;generalize V1.setCell ⟨T.b5,0,none⟩ (.int .u64 fees)=V2 at *;refine hK.out _ _ trivial ?_;clear hK K;try simp only[nm]
            refine Rl 6 rfl fun K hK=>?_
            have cc:=C0.out.r6.cell 0;have ff:=C0.out.r6.frozen 0;go_simp;clear cc ff;have tt:=Xa0 V2 ⟨T.b6,0,none⟩ (.int .i64 er);have CN:=Hd (C0.out.set6 er);have O0:=Hd (Xa5 O0.out C0.out.r6 (by decide) tt);have HD0:=Hd ((tt.block D (Xa8 C0.out.r6 (Xa1 HD0.out)).symm).trans HD0.out);have C0:=Hd CN.out;clear tt CN;generalize V2.setCell ⟨T.b6,0,none⟩ (.int .i64 er)=V3 at *;refine hK.out _ _ trivial ?_;clear hK K;try simp only[nm]
            refine wpAnyH_done (by kernel_rfl) ?_ _;go_wp2_with fail;refine⟨by simp,.inl ⟨_,_,rfl,run_takeDeferred HD0.out,?_⟩⟩;have CE:=C0.out.odd (grownBy_putObj' _ D (.deferred none)) (Xa1 HD0.out) HDW.out.1;exact⟨_,Xad (h:=rfl) _ _ ⟨T.b4,0,none⟩ ⟨T.b5,0,none⟩ ⟨T.b6,0,none⟩ _ _ _ (by rfl) (by rfl) (by rfl) (Xb5 CE.r4) (Xb4 CE.r5) (Xb6 CE.r6),Xak HTB.out.1 HTB.out.2.1 (by rw[←HS0.out];exact HFF.out) CE (O0.out.kept (grownBy_putObj' _ _ _) (.inr (Xam O0.out (Xa1 HD0.out))))⟩
          ·as_aux_lemma =>
            have cc:=C0.out.r5.cell 0;have ff:=C0.out.r5.frozen 0;go_simp;clear cc ff;have tt:=Xa0 V1 ⟨T.b5,0,none⟩ (.int .u64 fees);have CN:=Hd (C0.out.set5 fees);have O0:=Hd (Xa5 O0.out C0.out.r5 (by decide) tt);have HD0:=Hd ((tt.block D (Xa8 C0.out.r5 (Xa1 HD0.out)).symm).trans HD0.out);have C0:=Hd CN.out;clear tt CN;generalize V1.setCell ⟨T.b5,0,none⟩ (.int .u64 fees)=V2 at *;refine hK.out _ _ trivial ?_;clear hK K;try simp only[nm]
            refine Rl 3 rfl fun K hK=>?_
            have c6:=C0.out.r6.cell 0;go_simp;clear c6;refine hK.out _ _ trivial ?_;clear hK K;try simp only[nm]
            refine Rl 6 rfl fun K hK=>?_
            have cc:=C0.out.r6.cell 0;have ff:=C0.out.r6.frozen 0;go_simp;clear cc ff;have tt:=Xa0 V2 ⟨T.b6,0,none⟩ (.int .i64 er);have CN:=Hd (C0.out.set6 er);have O0:=Hd (Xa5 O0.out C0.out.r6 (by decide) tt);have HD0:=Hd ((tt.block D (Xa8 C0.out.r6 (Xa1 HD0.out)).symm).trans HD0.out);have C0:=Hd CN.out;clear tt CN;generalize V2.setCell ⟨T.b6,0,none⟩ (.int .i64 er)=V3 at *;refine hK.out _ _ trivial ?_;clear hK K;try simp only[nm]
            refine wpAnyH_done (by kernel_rfl) ?_ _;go_wp2_with fail;refine⟨by simp,.inl ⟨_,_,rfl,run_takeDeferred HD0.out,?_⟩⟩;have CE:=C0.out.odd (grownBy_putObj' _ D (.deferred none)) (Xa1 HD0.out) HDW.out.1;exact⟨_,Xad (h:=rfl) _ _ ⟨T.b4,0,none⟩ ⟨T.b5,0,none⟩ ⟨T.b6,0,none⟩ _ _ _ (by rfl) (by rfl) (by rfl) (Xb5 CE.r4) (Xb4 CE.r5) (Xb6 CE.r6),Xak HTB.out.1 HTB.out.2.1 (by rw[←HS0.out];exact HFF.out) CE (O0.out.kept (grownBy_putObj' _ _ _) (.inr (Xam O0.out (Xa1 HD0.out))))⟩
      ·as_aux_lemma =>
        have c6:=C0.out.r6.cell 0;go_simp;clear c6;refine hK.out _ _ trivial ?_;clear hK K;try simp only[nm]
        refine Rl 1 rfl fun K hK=>?_
        go_simp;refine(Xdo A os.length c V0 HCL.out.1 HCL.out.2).mono ?_;rintro e V1 ⟨rfl,rfl⟩;refine hK.out _ _ trivial ?_;clear hK K;try simp only[nm]
        refine Rl 4 rfl fun K hK=>?_
        have cc:=C0.out.r4.cell 0;have ff:=C0.out.r4.frozen 0;go_simp;clear cc ff;have tt:=Xa0 V0 ⟨T.b4,0,none⟩ (.slice A os.length os.length);have CN:=Hd (C0.out.set4 (.slice A os.length os.length));have O0:=Hd (Xa5 O0.out C0.out.r4 (by decide) tt);have HD0:=Hd ((tt.block D (Xa8 C0.out.r4 (Xa1 HD0.out)).symm).trans HD0.out);have C0:=Hd CN.out;clear tt CN;generalize V0.setCell ⟨T.b4,0,none⟩ (.slice A os.length os.length)=V1 at *;refine hK.out _ _ trivial ?_;clear hK K;try simp only[nm]
        refine Rl 5 rfl fun K hK=>?_
        have cc:=C0.out.r5.cell 0;have ff:=C0.out.r5.frozen 0;go_simp;clear cc ff;have tt:=Xa0 V1 ⟨T.b5,0,none⟩ (.int .u64 fees);have CN:=Hd (C0.out.set5 fees);have O0:=Hd (Xa5 O0.out C0.out.r5 (by decide) tt);have HD0:=Hd ((tt.block D (Xa8 C0.out.r5 (Xa1 HD0.out)).symm).trans HD0.out);have C0:=Hd CN.out;clear tt CN;generalize V1.setCell ⟨T.b5,0,none⟩ (.int .u64 fees)=V2 at *;refine hK.out _ _ trivial ?_;clear hK K;try simp only[nm]
        refine Rl 6 rfl fun K hK=>?_
        have cc:=C0.out.r6.cell 0;have ff:=C0.out.r6.frozen 0;go_simp;clear cc ff;have tt:=Xa0 V2 ⟨T.b6,0,none⟩ (.int .i64 er);have CN:=Hd (C0.out.set6 er);have O0:=Hd (Xa5 O0.out C0.out.r6 (by decide) tt);have HD0:=Hd ((tt.block D (Xa8 C0.out.r6 (Xa1 HD0.out)).symm).trans HD0.out);have C0:=Hd CN.out;clear tt CN;generalize V2.setCell ⟨T.b6,0,none⟩ (.int .i64 er)=V3 at *;refine hK.out _ _ trivial ?_;clear hK K;try simp only[nm]
        refine wpAnyH_done (by kernel_rfl) ?_ _;go_wp2_with fail;refine⟨by simp,.inl ⟨_,_,rfl,run_takeDeferred HD0.out,?_⟩⟩;have CE:=C0.out.odd (grownBy_putObj' _ D (.deferred none)) (Xa1 HD0.out) HDW.out.1;exact⟨_,Xad (h:=rfl) _ _ ⟨T.b4,0,none⟩ ⟨T.b5,0,none⟩ ⟨T.b6,0,none⟩ _ _ _ (by rfl) (by rfl) (by rfl) (Xb5 CE.r4) (Xb4 CE.r5) (Xb6 CE.r6),Xak HTB.out.1 HTB.out.2.1 (by rw[←HS0.out];exact HFF.out) CE (O0.out.kept (grownBy_putObj' _ _ _) (.inr (Xam O0.out (Xa1 HD0.out))))⟩
    ·as_aux_lemma =>
      have c6:=C0.out.r6.cell 0;go_simp;clear c6;refine hK.out _ _ trivial ?_;clear hK K;try simp only[nm]
      refine Rl 0 rfl fun K hK=>?_
      have c4:=C0.out.r4.cell 0;go_simp;clear c4;refine hK.out _ _ trivial ?_;clear hK K;try simp only[nm]
      refine Rl 1 rfl fun K hK=>?_
      go_simp;refine(Xdo A os.length c V0 HCL.out.1 HCL.out.2).mono ?_;rintro e V1 ⟨rfl,rfl⟩;refine hK.out _ _ trivial ?_;clear hK K;try simp only[nm]
      refine Rl 4 rfl fun K hK=>?_
      have cc:=C0.out.r4.cell 0;have ff:=C0.out.r4.frozen 0;go_simp;clear cc ff;have tt:=Xa0 V0 ⟨T.b4,0,none⟩ (.slice A os.length os.length);have CN:=Hd (C0.out.set4 (.slice A os.length os.length));have O0:=Hd (Xa5 O0.out C0.out.r4 (by decide) tt);have HD0:=Hd ((tt.block D (Xa8 C0.out.r4 (Xa1 HD0.out)).symm).trans HD0.out);have C0:=Hd CN.out;clear tt CN;generalize V0.setCell ⟨T.b4,0,none⟩ (.slice A os.length os.length)=V1 at *;refine hK.out _ _ trivial ?_;clear hK K;try simp only[nm]
      refine Rl 5 rfl fun K hK=>?_
      have cc:=C0.out.r5.cell 0;have ff:=C0.out.r5.frozen 0;go_simp;clear cc ff;have tt:=Xa0 V1 ⟨T.b5,0,none⟩ (.int .u64 fees);have CN:=Hd (C0.out.set5 fees);have O0:=Hd (Xa5 O0.out C0.out.r5 (by decide) tt);have HD0:=Hd ((tt.block D (Xa8 C0.out.r5 (Xa1 HD0.out)).symm).trans HD0.out);have C0:=Hd CN.out;clear tt CN;generalize V1.setCell ⟨T.b5,0,none⟩ (.int .u64 fees)=V2 at *;refine hK.out _ _ trivial ?_;clear hK K;try simp only[nm]
      refine Rl 6 rfl fun K hK=>?_
      have cc:=C0.out.r6.cell 0;have ff:=C0.out.r6.frozen 0;go_simp;clear cc ff;have tt:=Xa0 V2 ⟨T.b6,0,none⟩ (.int .i64 er);have CN:=Hd (C0.out.set6 er);have O0:=Hd (Xa5 O0.out C0.out.r6 (by decide) tt);have HD0:=Hd ((tt.block D (Xa8 C0.out.r6 (Xa1 HD0.out)).symm).trans HD0.out);have C0:=Hd CN.out;clear tt CN;generalize V2.setCell ⟨T.b6,0,none⟩ (.int .i64 er)=V3 at *;refine hK.out _ _ trivial ?_;clear hK K;try simp only[nm]
      refine wpAnyH_done (by kernel_rfl) ?_ _;go_wp2_with fail;refine⟨by simp,.inl ⟨_,_,rfl,run_takeDeferred HD0.out,?_⟩⟩;have CE:=C0.out.odd (grownBy_putObj' _ D (.deferred none)) (Xa1 HD0.out) HDW.out.1;exact⟨_,Xad (h:=rfl) _ _ ⟨T.b4,0,none⟩ ⟨T.b5,0,none⟩ ⟨T.b6,0,none⟩ _ _ _ (by rfl) (by rfl) (by rfl) (Xb5 CE.r4) (Xb4 CE.r5) (Xb6 CE.r6),Xak HTB.out.1 HTB.out.2.1 (by rw[←HS0.out];exact HFF.out) CE (O0.out.kept (grownBy_putObj' _ _ _) (.inr (Xam O0.out (Xa1 HD0.out))))⟩
  ·as_aux_lemma =>
    have c6:=C0.out.r6.cell 0;go_simp;clear c6;refine hK.out _ _ trivial ?_;clear hK K;try simp only[nm]
    refine Xar (i:=0) (j:=2) rfl rfl (by kernel_rfl) (by kernel_rfl) (by kernel_rfl) (fun K hK=>?_) (fun K hK=>?_)
    ·as_aux_lemma =>
      have c4:=C0.out.r4.cell 0;go_simp;clear c4;refine hK.out _ _ trivial ?_;clear hK K;try simp only[nm]
      refine Xar (i:=1) (j:=2) rfl rfl (by kernel_rfl) (by kernel_rfl) (by kernel_rfl) (fun K hK=>?_) (fun K hK=>?_)
      ·as_aux_lemma =>
        go_simp;refine(Xdo A os.length c V0 HCL.out.1 HCL.out.2).mono ?_;rintro e V1 ⟨rfl,rfl⟩;refine hK.out _ _ trivial ?_;clear hK K;try simp only[nm]
        refine Xar (i:=2) (j:=4) rfl rfl (by kernel_rfl) (by kernel_rfl) (by kernel_rfl) (fun K hK=>?_) (fun K hK=>?_)
        ·as_aux_lemma =>
          have c5:=C0.out.r5.cell 0;go_simp;clear c5;refine hK.out _ _ trivial ?_;clear hK K;try simp only[nm]
          refine Rl 4 rfl fun K hK=>?_
          have cc:=C0.out.r4.cell 0;have ff:=C0.out.r4.frozen 0;go_simp;clear cc ff;have tt:=Xa0 V0 ⟨T.b4,0,none⟩ (.slice A os.length os.length);have CN:=Hd (C0.out.set4 (.slice A os.length os.length));have O0:=Hd (Xa5 O0.out C0.out.r4 (by decide) tt);have HD0:=Hd ((tt.block D (Xa8 C0.out.r4 (Xa1 HD0.out)).symm).trans HD0.out);have C0:=Hd CN.out;clear tt CN;generalize V0.setCell ⟨T.b4,0,none⟩ (.slice A os.length os.length)=V1 at *;refine hK.out _ _ trivial ?_;clear hK K;try simp only[nm]
          refine Rl 5 rfl fun K hK=>?_
          have cc:=C0.out.r5.cell 0;have ff:=C0.out.r5.frozen 0;go_simp;clear cc ff;have tt:=Xa0 V1 ⟨T.b5,0,none⟩ (.int .u64 fees);have CN:=Hd (C0.out.set5 fees);have O0:=Hd (Xa5 O0.out C0.out.r5 (by decide) tt);have HD0:=Hd ((tt.block D (Xa8 C0.out.r5 (Xa1 HD0.out)).symm).trans HD0.out);have C0:=Hd CN.out;clear tt CN;generalize V1.setCell ⟨T.b5,0,none⟩ (.int .u64 fees)=V2 at *;refine hK.out _ _ trivial ?_;clear hK K;try simp only[nm]
          refine Rl 6 rfl fun K hK=>?_
          have cc:=C0.out.r6.cell 0;have ff:=C0.out.r6.frozen 0;go_simp;clear cc ff;have tt:=Xa0 V2 ⟨T.b6,0,none⟩ (.int .i64 er);have CN:=Hd (C0.out.set6 er);have O0:=Hd (Xa5 O0.out C0.out.r6 (by decide) tt);have HD0:=Hd ((tt.block D (Xa8 C0.out.r6 (Xa1 HD0.out)).symm).trans HD0.out);have C0:=Hd CN.out;clear tt CN;generalize V2.setCell ⟨T.b6,0,none⟩ (.int .i64 er)=V3 at *;refine hK.out _ _ trivial ?_;clear hK K;try simp only[nm]
          refine wpAnyH_done (by kernel_rfl) ?_ _;go_wp2_with fail;refine⟨by simp,.inl ⟨_,_,rfl,run_takeDeferred HD0.out,?_⟩⟩;have CE:=C0.out.odd (grownBy_putObj' _ D (.deferred none)) (Xa1 HD0.out) HDW.out.1;exact⟨_,Xad (h:=rfl) _ _ ⟨T.b4,0,none⟩ ⟨T.b5,0,none⟩ ⟨T.b6,0,none⟩ _ _ _ (by rfl) (by rfl) (by rfl) (Xb5 CE.r4) (Xb4 CE.r5) (Xb6 CE.r6),Xak HTB.out.1 HTB.out.2.1 (by rw[←HS0.out];exact HFF.out) CE (O0.out.kept (grownBy_putObj' _ _ _) (.inr (Xam O0.out (Xa1 HD0.out))))⟩
        ·as_aux_lemma =>
          have cc:=C0.out.r4.cell 0;have ff:=C0.out.r4.frozen 0;go_simp;clear cc ff;have tt:=Xa0 V0 ⟨T.b4,0,none⟩ (.slice A os.length os.length);have CN:=Hd (C0.out.set4 (.slice A os.length os.length));have O0:=Hd (Xa5 O0.out C0.out.r4 (by decide) tt);have HD0:=Hd ((tt.block D (Xa8 C0.out.r4 (Xa1 HD0.out)).symm).trans HD0.out);have C0:=Hd CN.out;clear tt CN;generalize V0.setCell ⟨T.b4,0,none⟩ (.slice A os.length os.length)=V1 at *;refine hK.out _ _ trivial ?_;clear hK K;try simp only[nm]
          refine Rl 2 rfl fun K hK=>?_
          have c5:=C0.out.r5.cell 0;go_simp;clear c5;refine hK.out _ _ trivial ?_;clear hK K;try simp only[nm]
          refine Rl 5 rfl fun K hK=>?_
          have cc:=C0.out.r5.cell 0;have ff:=C0.out.r5.frozen 0;go_simp;clear cc ff;have tt:=Xa0 V1 ⟨T.b5,0,none⟩ (.int .u64 fees);have CN:=Hd (C0.out.set5 fees);have O0:=Hd (Xa5 O0.out C0.out.r5 (by decide) tt);have HD0:=Hd ((tt.block D (Xa8 C0.out.r5 (Xa1 HD0.out)).symm).trans HD0.out);have C0:=Hd CN.out;clear tt CN;generalize V1.setCell ⟨T.b5,0,none⟩ (.int .u64 fees)=V2 at *;refine hK.out _ _ trivial ?_;clear hK K;try simp only[nm]
          refine Rl 6 rfl fun K hK=>?_
          have cc:=C0.out.r6.cell 0;have ff:=C0.out.r6.frozen 0;go_simp;clear cc ff;have tt:=Xa0 V2 ⟨T.b6,0,none⟩ (.int .i64 er);have CN:=Hd (C0.out.set6 er);have O0:=Hd (Xa5 O0.out C0.out.r6 (by decide) tt);have HD0:=Hd ((tt.block D (Xa8 C0.out.r6 (Xa1 HD0.out)).symm).trans HD0.out);have C0:=Hd CN.out;clear tt CN;generalize V2.setCell ⟨T.b6,0,none⟩ (.int .i64 er)=V3 at *;refine hK.out _ _ trivial ?_;clear hK K;try simp only[nm]
          refine wpAnyH_done (by kernel_rfl) ?_ _;go_wp2_with fail;refine⟨by simp,.inl ⟨_,_,rfl,run_takeDeferred HD0.out,?_⟩⟩;have CE:=C0.out.odd (grownBy_putObj' _ D (.deferred none)) (Xa1 HD0.out) HDW.out.1;exact⟨_,Xad (h:=rfl) _ _ ⟨T.b4,0,none⟩ ⟨T.b5,0,none⟩ ⟨T.b6,0,none⟩ _ _ _ (by rfl) (by rfl) (by rfl) (Xb5 CE.r4) (Xb4 CE.r5) (Xb6 CE.r6),Xak HTB.out.1 HTB.out.2.1 (by rw[←HS0.out];exact HFF.out) CE (O0.out.kept (grownBy_putObj' _ _ _) (.inr (Xam O0.out (Xa1 HD0.out))))⟩
      ·as_aux_lemma =>
        have c5:=C0.out.r5.cell 0;go_simp;clear c5;refine hK.out _ _ trivial ?_;clear hK K;try simp only[nm]
        refine Rl 1 rfl fun K hK=>?_
        go_simp;refine(Xdo A os.length c V0 HCL.out.1 HCL.out.2).mono ?_;rintro e V1 ⟨rfl,rfl⟩;refine hK.out _ _ trivial ?_;clear hK K;try simp only[nm]
        refine Rl 4 rfl fun K hK=>?_
        have cc:=C0.out.r4.cell 0;have ff:=C0.out.r4.frozen 0;go_simp;clear cc ff;have tt:=Xa0 V0 ⟨T.b4,0,none⟩ (.slice A os.length os.length);have CN:=Hd (C0.out.set4 (.slice A os.length os.length));have O0:=Hd (Xa5 O0.out C0.out.r4 (by decide) tt);have HD0:=Hd ((tt.block D (Xa8 C0.out.r4 (Xa1 HD0.out)).symm).trans HD0.out);have C0:=Hd CN.out;clear tt CN;generalize V0.setCell ⟨T.b4,0,none⟩ (.slice A os.length os.length)=V1 at *;refine hK.out _ _ trivial ?_;clear hK K;try simp only[nm]
        refine Rl 5 rfl fun K hK=>?_
        have cc:=C0.out.r5.cell 0;have ff:=C0.out.r5.frozen 0;go_simp;clear cc ff;have tt:=Xa0 V1 ⟨T.b5,0,none⟩ (.int .u64 fees);have CN:=Hd (C0.out.set5 fees);have O0:=Hd (Xa5 O0.out C0.out.r5 (by decide) tt);have HD0:=Hd ((tt.block D (Xa8 C0.out.r5 (Xa1 HD0.out)).symm).trans HD0.out);have C0:=Hd CN.out;clear tt CN;generalize V1.setCell ⟨T.b5,0,none⟩ (.int .u64 fees)=V2 at *;refine hK.out _ _ trivial ?_;clear hK K;try simp only[nm]
        refine Rl 6 rfl fun K hK=>?_
        have cc:=C0.out.r6.cell 0;have ff:=C0.out.r6.frozen 0;go_simp;clear cc ff;have tt:=Xa0 V2 ⟨T.b6,0,none⟩ (.int .i64 er);have CN:=Hd (C0.out.set6 er);have O0:=Hd (Xa5 O0.out C0.out.r6 (by decide) tt);have HD0:=Hd ((tt.block D (Xa8 C0.out.r6 (Xa1 HD0.out)).symm).trans HD0.out);have C0:=Hd CN.out;clear tt CN;generalize V2.setCell ⟨T.b6,0,none⟩ (.int .i64 er)=V3 at *;refine hK.out _ _ trivial ?_;clear hK K;try simp only[nm]
        refine wpAnyH_done (by kernel_rfl) ?_ _;go_wp2_with fail;refine⟨by simp,.inl ⟨_,_,rfl,run_takeDeferred HD0.out,?_⟩⟩;have CE:=C0.out.odd (grownBy_putObj' _ D (.deferred none)) (Xa1 HD0.out) HDW.out.1;exact⟨_,Xad (h:=rfl) _ _ ⟨T.b4,0,none⟩ ⟨T.b5,0,none⟩ ⟨T.b6,0,none⟩ _ _ _ (by rfl) (by rfl) (by rfl) (Xb5 CE.r4) (Xb4 CE.r5) (Xb6 CE.r6),Xak HTB.out.1 HTB.out.2.1 (by rw[←HS0.out];exact HFF.out) CE (O0.out.kept (grownBy_putObj' _ _ _) (.inr (Xam O0.out (Xa1 HD0.out))))⟩
    ·as_aux_lemma =>
      have c5:=C0.out.r5.cell 0;go_simp;clear c5;refine hK.out _ _ trivial ?_;clear hK K;try simp only[nm]
      refine Rl 0 rfl fun K hK=>?_
      have c4:=C0.out.r4.cell 0;go_simp;clear c4;refine hK.out _ _ trivial ?_;clear hK K;try simp only[nm]
      refine Rl 1 rfl fun K hK=>?_
      go_simp;refine(Xdo A os.length c V0 HCL.out.1 HCL.out.2).mono ?_;rintro e V1 ⟨rfl,rfl⟩;refine hK.out _ _ trivial ?_;clear hK K;try simp only[nm]
      refine Rl 4 rfl fun K hK=>?_
      have cc:=C0.out.r4.cell 0;have ff:=C0.out.r4.frozen 0;go_simp;clear cc ff;have tt:=Xa0 V0 ⟨T.b4,0,none⟩ (.slice A os.length os.length);have CN:=Hd (C0.out.set4 (.slice A os.length os.length));have O0:=Hd (Xa5 O0.out C0.out.r4 (by decide) tt);have HD0:=Hd ((tt.block D (Xa8 C0.out.r4 (Xa1 HD0.out)).symm).trans HD0.out);have C0:=Hd CN.out;clear tt CN;generalize V0.setCell ⟨T.b4,0,none⟩ (.slice A os.length os.length)=V1 at *;refine hK.out _ _ trivial ?_;clear hK K;try simp only[nm]
      refine Rl 5 rfl fun K hK=>?_
      have cc:=C0.out.r5.cell 0;have ff:=C0.out.r5.frozen 0;go_simp;clear cc ff;have tt:=Xa0 V1 ⟨T.b5,0,none⟩ (.int .u64 fees);have CN:=Hd (C0.out.set5 fees);have O0:=Hd (Xa5 O0.out C0.out.r5 (by decide) tt);have HD0:=Hd ((tt.block D (Xa8 C0.out.r5 (Xa1 HD0.out)).symm).trans HD0.out);have C0:=Hd CN.out;clear tt CN;generalize V1.setCell ⟨T.b5,0,none⟩ (.int .u64 fees)=V2 at *;refine hK.out _ _ trivial ?_;clear hK K;try simp only[nm]
      refine Rl 6 rfl fun K hK=>?_
      have cc:=C0.out.r6.cell 0;have ff:=C0.out.r6.frozen 0;go_simp;clear cc ff;have tt:=Xa0 V2 ⟨T.b6,0,none⟩ (.int .i64 er);have CN:=Hd (C0.out.set6 er);have O0:=Hd (Xa5 O0.out C0.out.r6 (by decide) tt);have HD0:=Hd ((tt.block D (Xa8 C0.out.r6 (Xa1 HD0.out)).symm).trans HD0.out);have C0:=Hd CN.out;clear tt CN;generalize V2.setCell ⟨T.b6,0,none⟩ (.int .i64 er)=V3 at *;refine hK.out _ _ trivial ?_;clear hK K;try simp only[nm]
      refine wpAnyH_done (by kernel_rfl) ?_ _;go_wp2_with fail;refine⟨by simp,.inl ⟨_,_,rfl,run_takeDeferred HD0.out,?_⟩⟩;have CE:=C0.out.odd (grownBy_putObj' _ D (.deferred none)) (Xa1 HD0.out) HDW.out.1;exact⟨_,Xad (h:=rfl) _ _ ⟨T.b4,0,none⟩ ⟨T.b5,0,none⟩ ⟨T.b6,0,none⟩ _ _ _ (by rfl) (by rfl) (by rfl) (Xb5 CE.r4) (Xb4 CE.r5) (Xb6 CE.r6),Xak HTB.out.1 HTB.out.2.1 (by rw[←HS0.out];exact HFF.out) CE (O0.out.kept (grownBy_putObj' _ _ _) (.inr (Xam O0.out (Xa1 HD0.out))))⟩
end Go.Proofs.YtkhcgclnmdgpbaaDoor
