import Derived.Test.YtaljfbbieefooaaGreatDoorM1
import Derived.ProofKit
import Derived.OpenShut
import Derived.ShutString
import Derived.ChangeOld
import Derived.Lib.SmallJoins
import Derived.Deep.Slices
import Derived.Deep.Strs
import Derived.SizedLaws
import Derived.Laws.StructEq
set_option maxRecDepth 100000
set_option maxHeartbeats 16000000
set_option linter.unusedSimpArgs false
set_option linter.unusedVariables false
namespace Go.Proofs.YtaljfbbieefooaaGreatDoor
open Go.RowKit
def kz(a b l:Int):List Int:=[a,b,77,0,0,0,0,0,0,0,0,0,0,0,0,0,0,0,0,0,0,0,0,0,0,0,0,0,0,0,0,l]
theorem Xr1(a b l:Int):Tryz.prog.built 62 [(0,.int .u8 a),(1,.int .u8 b),(2,.int .u8 77),(31,.int .u8 l)]=some (bv (kz a b l)).toArray:=by kernel_rfl
theorem Xa9{a:Act}{o:Oper}(w:World)(t:TypeId)(parts:Array (Nat × Operand))(cells:Array Value)(ho:o.op=.build t parts)(h:Tryz.prog.built t (parts.map fun(i,x)=>(i,a.eval x)).toList=some cells):(execOp a.eval o).run Tryz.prog w=.ok (.value (.agg cells)) w:=by
 simp only[execOp,ho,Sem.run_bind,run_build w t _ cells h,Result.andThen_ok];rfl
theorem Xae{o:Oper}{a:Act}{w:World}{K:Act→World→Prop}{Q:Exit→Act→World→Prop}(t:TypeId)(parts:Array (Nat × Operand))(cells:Array Value)(ho:o.op=.build t parts)
 (h:Tryz.prog.built t (parts.map fun(i,x)=>(i,a.eval x)).toList=some cells) (hK:K (a.put o.dst (.agg cells)) w):o.wp Tryz.prog a w K Q:=
 wp_build t parts ho (by rw[h];rfl) (by rw[h];exact hK)
structure ButOne(base p:Nat)(w w':World):Prop where
 os:w'.os=w.os
 tape:w'.tape=w.tape
 output:w'.output=w.output
 size:w.heap.size≤w'.heap.size
 block:∀k,k<base→k≠p→w'.heap[k]?=w.heap[k]?
theorem ButOne.refl(base p:Nat)(w:World):ButOne base p w w:=⟨rfl,rfl,rfl,Lr _,fun _ _ _=>rfl⟩
theorem ButOne.trans{base p:Nat}{a b c:World}(h:ButOne base p a b)(k:ButOne base p b c):ButOne base p a c:=
 ⟨k.os.trans h.os,k.tape.trans h.tape,k.output.trans h.output,Lq h.size k.size,fun i hi hp=>(k.block i hi hp).trans (h.block i hi hp)⟩
theorem ButOne.below{base p B:Nat}{a b:World}(h:ButOne base p a b)(hB:B≤base)(hp:B≤p):Below B a b:=
 ⟨h.os,h.tape,h.output,h.size,fun k hk=>h.block k (by omega) (by omega)⟩
theorem allL{P:Program}{L:List Oper}{Q:Exit→Act→World→Prop}{md:Region.Mode}{S:World→Prop}{i:Nat}{o:Oper}{fuel:Nat}{listed:Array Bool}{a:Act}{w:World}{rs:List Nat}(ho:L[i]?=some o)
 (hw:Region.wanted o (yielded L.toArray a.tmps)=true)
 (h:∀K':Act→World→Prop,Shut (∀a w,S w→wpAnyH P md L.toArray Q S fuel (listed.setIfInBounds i true) a w→K' a w)→Oper.wp P o a w K' Q)
 (hs:AllReadyH P md L.toArray Q S fuel listed a w rs):AllReadyH P md L.toArray Q S fuel listed a w (i::rs):=
 AllReadyH.cons (by simpa using ho) (fun K hK=>by
  rw[if_pos hw];exact h K (fun a w hS hW=>hK a w hS fun _=>hW)) hs
theorem Xh7(x y:Int)(w:World):Calls Tryz.prog 71 #[.int .i64 x,.int .u8 y] w fun e w'=>∃z,e=.returned (.agg (bv z).toArray)∧z.length=32∧Below w.heap.size w w':=by
 go_enter Tryz.func71,Tryz.ntmps71
 go_wp2_with (first
  | ((with_reducible show wpList _ _ _ (⟨some 11,_,_,_,_,_⟩::_) _ _);go_must(refine wpList_plain rfl fun K hK=>Xae _ _ _ rfl (by simp only[List.map_toArray,List.map_cons,List.map_nil];exact Xr1 _ _ _) (hK _ _ ?_)))
  | ((with_reducible show wpList _ _ _ (⟨none,Op.store 62 _ _,_,_,_,_⟩::_) _ _);go_must(refine Xa2 rfl 62 (.tmp 4) (.tmp 11) rfl (bv (kz (x % 256) (wrap64 (x.tdiv 256) % 256) y)) Xan (Xbj _) rfl ?_ ?_ ?_;go_simp;go_simp;intro w1 hr1 hb1 hz1;have HR1:=Hd hr1;have HB1:=Hd hb1;clear hr1 hb1)))
 refine bodyPost_ret (results_cell_row (h:=rfl) _ w1 w.heap.size 62 _ (0,0) _ (by rfl) HR1.out.is Tryz.underlying62 rfl Xan) rfl ?_;exact⟨_,rfl,rfl,HB1.out⟩
def NoPages(w:World)(k:Nat):Prop:=∀xs fr,w.heap[k]?≠some (.cells xs 106 fr)
structure BookW(w0:World)(p base:Nat)(A:Option Addr)(n c:Nat)(ps:List Value)(w:World):Prop where
 row:Row w p 54 [.slice A n c]
 own:w.ownsRow base 106 1 (.slice A n c) n ps
 one:ButOne base p w0 w
 lt:base≤w.heap.size
 keep:∀k,k<w0.heap.size→k≠p→NoPages w0 k→w.heap[k]?=w0.heap[k]?
section
variable{w0 w w':World}{p base n c:Nat}{A:Option Addr}{ps:List Value}
theorem BookW.trans{A':Option Addr}{n' c':Nat}{ps':List Value}(h:BookW w0 p base A n c ps w)(h':BookW w p base A' n' c' ps' w'):BookW w0 p base A' n' c' ps' w':=
 ⟨h'.row,h'.own,h.one.trans h'.one,h'.lt,fun k hk hp hn=>by
  have e:=h.keep k hk hp hn;refine(h'.keep k (Nat.lt_of_lt_of_le hk h.one.size) hp ?_).trans e;intro xs fr;rw[e];exact hn xs fr⟩
theorem BookW.below(h:BookW w0 p base A n c ps w)(hb:Below w.heap.size w w'):BookW w0 p base A n c ps w':=
 ⟨h.row.below hb h.row.lt,Xas h.own hb,h.one.trans ⟨hb.os,hb.tape,hb.output,hb.size,fun k hk _=>hb.block k (by have:=h.lt;omega)⟩,by have:=h.lt;have:=hb.size;omega,
  fun k hk hp hn=>(hb.block k (Nat.lt_of_lt_of_le hk h.one.size)).trans (h.keep k hk hp hn)⟩
theorem BookW.alloc(h:BookW w0 p base A n c ps w)(o:Obj):BookW w0 p base A n c ps (w.alloc o):=h.below ((Br _ _).alloc (Lr _) o)
theorem BookW.drewN(h:BookW w0 p base A n c ps w)(k:Nat):BookW w0 p base A n c ps (w.drewN k):=⟨h.row.drewN k,h.own,⟨h.one.os,h.one.tape,h.one.output,h.one.size,h.one.block⟩,h.lt,h.keep⟩
theorem Xq7{v:Value}{m:Nat}(h:w.ownsRow base 106 1 v m ps){k:Nat}(hn:NoPages w k):some k≠v.ownBlock:=by
 rcases h.2 with⟨rfl,_⟩ | ⟨g',cap,cur,rfl,_,hh,_⟩
 ·simp[Value.ownBlock]
 ·intro he;have hg:k=g':=by simpa [Value.ownBlock]using he
  subst hg;exact hn _ _ hh
theorem BookW.last{q:List Value}{m:Nat}{A':Option Addr}{c':Nat}(h:BookW w0 p base A n c ps w)(hr:Row w' p 54 [.slice A n c])(ho:w'.ownsRow base 106 1 (.slice A' m c') m (ps++q))(hg:w.grownBy w' (Value.slice A n c).ownBlock) :
 BookW w0 p base A' m c' (ps++q) (w'.setCell ⟨p,0,none⟩ (.slice A' m c')):=by
 have hT:=Xa6 w' ⟨p,0,none⟩ (.slice A' m c');have hz:=hg.size;have hl:=h.lt;refine⟨hr.set_ 0 _,Xvx ho hr (by decide) 0 _,h.one.trans ⟨hg.os,hg.tape,hg.output,?_,fun k hk hp=>?_⟩,by rw[hT.size];omega,fun k hk hp hn=>?_⟩
 ·rw[hT.size];exact hz
 ·rw[hT.block k hp];exact hg.block k (by omega) fun e=>by have:=(h.own.lt k e.symm).1;omega
 ·have e:=h.keep k hk hp hn;rw[hT.block k hp];refine(hg.block k (Nat.lt_of_lt_of_le hk h.one.size) (Xq7 h.own ?_)).trans e;intro xs fr;rw[e];exact hn xs fr
theorem BookW.rowK{g t:Nat}{xs:List Value}(h:BookW w0 p base A n c ps w)(hr:Row w0 g t xs)(hg:g≠p)(ht:t≠106):Row w g t xs:=
 ⟨(h.keep g hr.lt hg (fun ys fr e=>by
  rw[hr.is]at e;injection e with e
  injection e with _ e
  exact ht e)).trans hr.is⟩
end
theorem AllBytes.map{α:Type}{f:α→List Int}{l:List α}(h:∀x ∈ l,AllBytes (f x)):AllBytes (l.flatMap f):=fun z hz=>by
 obtain⟨x,hx,hz⟩:=List.mem_flatMap.1 hz;exact h x hx z hz
structure LTx where
 sigs:List (List Int)
 m:LMsg
structure LTx.Wf(x:LTx):Prop where
 sigs:∀s ∈ x.sigs,s.length=64∧AllBytes s
 m:x.m.Wf
def pSigs(zs:List Int):PR (List (List Int)):=pList (pTake 64) zs
def pTx(zs:List Int):PR LTx:=match pSigs zs with
 | .error c=>.error c
 | .ok (s,r)=>match pMsg r with
  | .error c=>.error c
  | .ok (m,r)=>.ok (⟨s,m⟩,r)
def wTx(zs:List Int):Except Int LTx:=if 1232<zs.length then .error 3 else match pTx zs with
 | .error c=>.error c
 | .ok (x,r)=>if r.length=0 then .ok x else .error 4
theorem Xcb:∀(l:List (List Int)),(∀y ∈ l,y.length=64)→l.flatten.length=l.length*64
 | [],_=>rfl
 | y::r,h=>by
  have:=Xcb r (fun z hz=>h z (by simp[hz]));have hy:=h y (by simp);simp only[List.flatten_cons,List.length_append,List.length_cons,this,hy];omega
structure SigsIn(w:World)(B:Nat)(A:Option Addr)(n:Nat)(l:List (List Int)):Prop where
 len:l.length=n
 each:∀k ∈ l,k.length=64
 sees:Sees w B A (n*64) (bv l.flatten)
structure TRaw where
 SA:Option Addr
 sn:Nat
 sc:Nat
 q:Raw
def TRaw.cells(s:TRaw)(x:LTx):List Value:=.slice s.SA s.sn s.sc::s.q.cells x.m
structure TxIn(w:World)(B:Nat)(s:TRaw)(x:LTx):Prop where
 sigs:SigsIn w B s.SA s.sn x.sigs
 sn:s.sn≤s.sc∧s.sc≤maxLen
 m:MsgIn w B s.q x.m
section
variable{w w':World}{B B':Nat}
theorem SigsIn.keep{A:Option Addr}{n:Nat}{l:List (List Int)}(h:SigsIn w B A n l)(hk:∀p:Addr,p.block<B→w'.cell? p=w.cell? p):SigsIn w' B A n l:=⟨h.len,h.each,h.sees.keep hk⟩
theorem SigsIn.more{A:Option Addr}{n:Nat}{l:List (List Int)}(h:SigsIn w B A n l)(hB:B≤B'):SigsIn w B' A n l:=⟨h.len,h.each,h.sees.more hB⟩
theorem SigsIn.below{A:Option Addr}{n:Nat}{l:List (List Int)}(h:SigsIn w B A n l)(hb:Below B w w'):SigsIn w' B A n l:=h.keep fun _ hp=>hb.cell hp
variable{s:TRaw}{x:LTx}
theorem TxIn.keep(h:TxIn w B s x)(hk:∀p:Addr,p.block<B→w'.cell? p=w.cell? p):TxIn w' B s x:=⟨h.sigs.keep hk,h.sn,h.m.keep hk⟩
theorem TxIn.more(h:TxIn w B s x)(hB:B≤B'):TxIn w B' s x:=⟨h.sigs.more hB,h.sn,h.m.more hB⟩
theorem TxIn.below(h:TxIn w B s x)(hb:Below B w w'):TxIn w' B s x:=h.keep fun _ hp=>hb.cell hp
theorem TxIn.alloc(h:TxIn w B s x)(hB:B≤w.heap.size)(o:Obj):TxIn (w.alloc o) B s x:=h.keep fun p hp=>World.cell?_alloc_lt w o p (by omega)
theorem TxIn.drewN(h:TxIn w B s x)(n:Nat):TxIn (w.drewN n) B s x:=h.keep fun p hp=>rfl
theorem Xbb(h:x.m.recent.length=32):(s.cells x).length=40:=by simp[TRaw.cells,Xby h]
theorem Xe1(j:Nat):(s.cells x)[1+j]?=(s.q.cells x.m)[j]?:=by unfold TRaw.cells;rw[show 1+j=j+1 by omega];rfl
theorem Xf6:∀u ∈ s.cells x,u.oneCell'=true:=by
 intro u hu;rcases List.mem_cons.1 hu with rfl | hu
 ·rfl
 ·exact Xhf u hu
end
theorem Xel:(Tryz.prog.info? 34).map (·.size)=some 40:=by kernel_rfl
theorem Xgy:(Tryz.prog.info? 117).map (·.size)=some 64:=by kernel_rfl
theorem Xft:∀(l:List (List Int)) (k:Nat) (x:List Int),(∀y ∈ l,y.length=64)→l[k]?=some x→∀j,j<64→l.flatten[k*64+j]?=x[j]?
 | [],k,x,_,h,_,_=>by simp at h
 | y::r,0,x,hl,h,j,hj=>by
  have:y=x:=by simpa using h
  subst this;have hy:=hl y (by simp);rw[List.flatten_cons,List.getElem?_append_left (by omega)];simp
 | y::r,k+1,x,hl,h,j,hj=>by
  have hy:=hl y (by simp);rw[List.flatten_cons,List.getElem?_append_right (by omega)];have:=Xft r k x (fun z hz=>hl z (by simp[hz])) (by simpa using h) j hj;rw[←this];congr 1
  omega
structure SigAt(w:World)(a:Addr)(k:Nat)(x:List Int):Prop where
 cells:∀j u,(bv x)[j]?=some u→w.cell? ((a.add (k*64)).add j)=some u
 len:x.length=64
theorem SigsIn.get{w:World}{B n:Nat}{A:Option Addr}{l:List (List Int)}(h:SigsIn w B A n l){k:Nat}(hk:k<n):∃a x,A=some a∧a.block<B∧l[k]?=some x∧SigAt w a k x:=by
 obtain⟨x,hx⟩:∃x,l[k]?=some x:=⟨_,List.getElem?_eq_getElem (by rw[h.len];exact hk)⟩;have hxl:=h.each x (List.mem_of_getElem? hx);obtain⟨a,u,e,hb,_,_⟩:=h.sees.at_ (k:=k*64) (by omega);refine⟨a,x,e,hb,hx,fun j u hu=>?_,hxl⟩;have hj:j<64:=by have:=(List.getElem?_eq_some_iff.1 hu).1;rw[bL]at this;omega
 rw[bv_getElem?,←Xft l k x h.each hx j hj,←bv_getElem?]at hu;obtain⟨a',e',_,hc⟩:=h.sees.cell _ u hu;rw[e]at e';cases e'
 rw[Xc2];exact hc
theorem SigAt.keep{w w':World}{B k:Nat}{a:Addr}{x:List Int}(h:SigAt w a k x)(ha:a.block<B)(hk:∀p:Addr,p.block<B→w'.cell? p=w.cell? p):SigAt w' a k x:=
 ⟨fun j u hu=>(hk _ (by rw[Xad,Xad];exact ha)).trans (h.cells j u hu),h.len⟩
def zRaw:TRaw:=⟨none,0,0,⟨none,0,0,none,0,0,none,0,0⟩⟩
def zTx:LTx:=⟨[],⟨false,0,0,0,[],zero32,[],[]⟩⟩
def tzero:List Value:=.slice none 0 0::mzero
theorem Xis{t:TypeId}(ht:Tryz.prog.underlying t=some (.array 64 5))(z:List Int)(hz:z.length=64)(w:World) :
 (binOp .neq t (.agg (bv z).toArray) (.agg (bv z).toArray)).run Tryz.prog w=.ok (.bool false) w:=by
 obtain⟨i,hi⟩:=Xkj;rw[run_neq_struct,show(10000:Nat)=9999+1 from rfl,run_equalIn_array w 9999 _ _ ht hi,Xek,Xer z w _ (fun i hi=>by simp at hi;omega)];rfl
theorem Xk2(A B:Option Addr)(n c d:Nat)(l:List (List Int))(w:World)(S T:Nat)(hx:SigsIn w S A n l)(hy:SigsIn w T B n l)(hn:n≤maxLen) :
 Calls Tryz.prog 83 #[.slice A n c,.slice B n d] w fun e w'=>e=.returned (.bool true)∧∃k,w'=w.drewN k:=by
 unfold maxLen at hn;have HX:=Hd hx;have HY:=Hd hy;clear hx hy;go_enter Tryz.func83,Tryz.ntmps83
 go_wp2;go_loopw [5] (fun i wr=>∃k j:Nat,k≤n∧i=.int .i64 k∧wr=w.drewN j) (fun i _=>n - (intOf i).toNat)
 case atStart=>exact⟨0,0,Nat.zero_le _,rfl,rfl⟩
 case round =>
  obtain⟨k,j,hk,rfl,rfl⟩:=hrel;by_cases hlt:k<n
  ·obtain⟨a,x,rfl,ha,hxl,hxa⟩:=HX.out.get hlt;obtain⟨b,y,rfl,hb,hyl,hyb⟩:=HY.out.get hlt;obtain rfl:x=y:=by rw[hxl]at hyl;exact Option.some.inj hyl
   have ca:=hxa.cells;have cb:=hyb.cells;have NQ:=fun w=>Xis Tryz.underlying117 x hxa.len w
   have HSZ:=Hd (show(Tryz.prog.info? 117).map (·.size)=some (bv x).length by rw[Xgy,bL,hxa.len]);have CA:=Hd ca;have CB:=Hd cb;clear ca cb hxl hyl;generalize bv x=X at *;go_wp2;refine wp_region_quiet_lit (by kernel_rfl) (by kernel_rfl) ?_;repeat (first
    | ((with_reducible show wpQuiet _ _ _ _ (⟨some 20,_,_,_,_,_⟩::_) _);go_must(refine Xai (by kernel_rfl) 117 (.tmp 19) rfl (a.add (k*64)) X _ Tryz.underlying117 rfl HSZ.out (by rintro _ ⟨nq,rfl⟩;exact CA.out) ?_ ?_;go_simp;go_simp))
    | ((with_reducible show wpQuiet _ _ _ _ (⟨some 24,_,_,_,_,_⟩::_) _);go_must(refine Xai (by kernel_rfl) 117 (.tmp 23) rfl (b.add (k*64)) X _ Tryz.underlying117 rfl HSZ.out (by rintro _ ⟨nq,rfl⟩;exact CB.out) ?_ ?_;go_simp;go_simp))
    | go_big_quiet_step (fail))
   refine wpQuiet_nil ?_;intro nq;go_wp2;go_roundw
   case rel=>exact⟨k+1,j+nq,by omega,by go_num,by simp⟩
   case measure=>simp[intOf];omega
  ·go_wp2;go_ret;exact⟨rfl,j,rfl⟩
theorem Xup(s s':TRaw)(x:LTx)(B B':Nat)(w:World)(h:TxIn w B s x)(hB:B≤w.heap.size)(h':TxIn w B' s' x)(hB':B'≤w.heap.size) :
 Calls Tryz.prog 63 #[.agg (s.cells x).toArray,.agg (s'.cells x).toArray] w fun e w'=>e=.returned (.bool true)∧Below w.heap.size w w':=by
 obtain⟨SA,sn,sc,q⟩:=s;obtain⟨SB,sn',sd,q'⟩:=s';obtain rfl:sn'=sn:=h'.sigs.len.symm.trans h.sigs.len;have hr0:=(Row.new w 34 (TRaw.cells ⟨SA,sn',sc,q⟩ x)).alloc (.cells (TRaw.cells ⟨SB,sn',sd,q'⟩ x).toArray 34);have hr1:Row ((w.alloc (.cells (TRaw.cells ⟨SA,sn',sc,q⟩ x).toArray 34)).alloc (.cells (TRaw.cells ⟨SB,sn',sd,q'⟩ x).toArray 34)) (w.heap.size+1) 34 (TRaw.cells ⟨SB,sn',sd,q'⟩ x):=Row.new' _ _ _ (by simp);have hbw:=(((Br w.heap.size w).alloc (Lr _) (.cells (TRaw.cells ⟨SA,sn',sc,q⟩ x).toArray 34)).alloc (by simp) (.cells (TRaw.cells ⟨SB,sn',sd,q'⟩ x).toArray 34));have hw:=h.below (hbw.mono hB);have hw':=h'.below (hbw.mono hB');have HSM:=Hd (show(Tryz.prog.info? 32).map (·.size)=some (q.cells x.m).length by rw[Xcv,Xby h.m.recent]);have HSM':=Hd (show(Tryz.prog.info? 32).map (·.size)=some (q'.cells x.m).length by rw[Xcv,Xby h.m.recent]);have HCM:=Hd (Xe1 (s:=⟨SA,sn',sc,q⟩) (x:=x));have HCM':=Hd (Xe1 (s:=⟨SB,sn',sd,q'⟩) (x:=x));have c0:(TRaw.cells ⟨SA,sn',sc,q⟩ x)[0]?=some (.slice SA sn' sc):=rfl;have d0:(TRaw.cells ⟨SB,sn',sd,q'⟩ x)[0]?=some (.slice SB sn' sd):=rfl;have hsc:=h.sn;dsimp only at hsc HCM HCM'
 generalize TRaw.cells ⟨SA,sn',sc,q⟩ x=ca at *;generalize TRaw.cells ⟨SB,sn',sd,q'⟩ x=cb at *;have HR0:=Hd hr0;have HR1:=Hd hr1;have HB:=Hd hbw;have HW:=Hd hw;have HW':=Hd hw';have HSC:=Hd hsc;have a0:=(hr0.cell 0).trans c0;have b0:=(hr1.cell 0).trans d0;clear hr0 hr1 hbw hw hw' h h' hsc c0 d0;go_enter Tryz.func63,Tryz.ntmps63
 go_wp2_with fail;refine(Xk2 SA SB sn' sc sd x.sigs _ B B' HW.out.sigs HW'.out.sigs (by have:=HSC.out;omega)).mono ?_;rintro e w5 ⟨rfl,k5,hw5⟩;have hr5:Row w5 w.heap.size 34 ca:=by rw[hw5];exact HR0.out.drewN k5
 have hr5':Row w5 (w.heap.size+1) 34 cb:=by rw[hw5];exact HR1.out.drewN k5
 have hm5:TxIn w5 B ⟨SA,sn',sc,q⟩ x:=by rw[hw5];exact HW.out.drewN k5
 have hm5':TxIn w5 B' ⟨SB,sn',sd,q'⟩ x:=by rw[hw5];exact HW'.out.drewN k5
 have hb5:Below w.heap.size w w5:=by rw[hw5];exact below_drewN HB.out k5
 have HR5:=Hd hr5;have HR5':=Hd hr5';have HM5:=Hd hm5.m;have HM5':=Hd hm5'.m;have HB5:=Hd hb5;clear hr5 hr5' hm5 hm5' hb5 hw5 a0 b0 HR0 HR1 HB HW HW';go_wp2_with (first
  | ((with_reducible show wpList _ _ _ (⟨some 12,_,_,_,_,_⟩::_) _ _);go_must(refine Xal (by kernel_rfl) 32 (.tmp 11) rfl ⟨w.heap.size,1,none⟩ (q.cells x.m) _ Tryz.underlying32 rfl HSM.out (fun j u hu=>by rw[Xa5,HR5.out.cell,HCM.out];exact hu) ?_ ?_;go_simp))
  | ((with_reducible show wpList _ _ _ (⟨some 14,_,_,_,_,_⟩::_) _ _);go_must(refine Xal (by kernel_rfl) 32 (.tmp 13) rfl ⟨w.heap.size+1,1,none⟩ (q'.cells x.m) _ Tryz.underlying32 rfl HSM'.out (fun j u hu=>by rw[Xa5,HR5'.out.cell,HCM'.out];exact hu) ?_ ?_;go_simp)))
 refine(Xm6 q q' x.m B B' w5 HM5.out (Lq hB HB5.out.size) HM5'.out (Lq hB' HB5.out.size)).mono ?_;rintro e w6 ⟨rfl,hb6⟩;go_wp2_with fail;go_ret;exact⟨rfl,HB5.out.trans (hb6.mono HB5.out.size)⟩
theorem Xg6(n:Nat){z:List Int}(hz:z.length=64):(keyRow n z).length=n*64:=by
 unfold keyRow;induction n with
 | zero=>rfl
 | succ n ih=>rw[List.replicate_succ,List.flatten_cons,List.length_append,ih,bL,hz];omega
theorem Xo4{k:Nat}{z:List Int}(hz:z.length=64)(xs ys:List Value)(hys:(k+1)*64≤ys.length) :
 (xs++(keyRow k z++ys.drop (k*64))).take (xs.length+k*64)++bv z++(xs++(keyRow k z++ys.drop (k*64))).drop (xs.length+k*64+(bv z).length)=xs++(keyRow (k+1) z++ys.drop ((k+1)*64)):=by
 have hl:=Xg6 k hz;have hl2:(xs++keyRow k z).length=xs.length+k*64:=by rw[List.length_append,hl]
 have e2:xs.length+k*64+(bv z).length=(xs++keyRow k z).length+64:=by rw[hl2,bL,hz]
 rw[←List.append_assoc,List.take_left' hl2,e2,List.drop_length_add_append,List.drop_drop,Xhz,show k*64+64=(k+1)*64 by omega];simp only[List.append_assoc]
theorem Xfy{z:List Int}(hz:z.length=64):(Tryz.prog.info? 117).map (·.size)=some (bv z).length:=by rw[Xgy,bL,hz]
structure Sized(m:LMsg):Prop where
 keys:m.keys.length≤140737488355328
 ins:m.ins.length≤140737488355328
 looks:m.looks.length≤140737488355328
 inl:∀i ∈ m.ins,i.acc.length≤140737488355328∧i.dat.length≤140737488355328
 lol:∀l ∈ m.looks,l.wr.length≤140737488355328∧l.rd.length≤140737488355328
def inSize(l:List LIn):Nat:=(l.map fun i=>i.acc.length+i.dat.length).sum
def lookSize(l:List LLook):Nat:=(l.map fun i=>i.wr.length+i.rd.length).sum
theorem Xmq{l:List LIn}{x:LIn}(h:x ∈ l):x.acc.length+x.dat.length≤inSize l:=by
 induction l with
 | nil=>cases h
 | cons y r ih =>
  simp only[inSize,List.map_cons,List.sum_cons]at ih ⊢;rcases List.mem_cons.1 h with rfl | h
  ·omega
  ·have:=ih h;omega
theorem Xp3{l:List LLook}{x:LLook}(h:x ∈ l):x.wr.length+x.rd.length≤lookSize l:=by
 induction l with
 | nil=>cases h
 | cons y r ih =>
  simp only[lookSize,List.map_cons,List.sum_cons]at ih ⊢;rcases List.mem_cons.1 h with rfl | h
  ·omega
  ·have:=ih h;omega
open Go.ChangeShapes Go.WideShapes Go.RowKit
theorem Xd4{α:Type}{p:Nat→α→Prop}:∀(n:Nat),(∀i,i<n→∃x,p i x)→∃l:List α,l.length=n∧∀i x,l[i]?=some x→p i x
 | 0,_=>⟨[],rfl,fun i x h=>by simp at h⟩
 | n+1,h=>by
  obtain⟨l,hl,hp⟩:=Xd4 n fun i hi=>h i (by omega)
  obtain⟨x,hx⟩:=h n (Nat.lt_succ_self _);refine⟨l++[x],by simp[hl],fun i y hy=>?_⟩;by_cases hi:i<n
  ·rw[List.getElem?_append_left (by omega)]at hy;exact hp i y hy
  ·rw[List.getElem?_append_right (by omega)]at hy;have h1:=(List.getElem?_eq_some_iff.1 hy).1;simp at h1;have:i=n:=by omega
   subst this;rw[show i - l.length=0 by omega]at hy;simp at hy;exact hy ▸ hx
theorem KeysIn.of_at{w:World}{B:Nat}{A:Option Addr}{n:Nat}{l:List (List Int)}(hn:l.length=n)(h:∀(i:Nat) x,l[i]?=some x→x.length=32∧∃a,A=some a∧a.block<B∧∀j u,(bv x)[j]?=some u→w.cell? (a.add (i*32+j))=some u):KeysIn w B A n l:=by
 have he:∀k ∈ l,k.length=32:=fun k hk=>by
  obtain⟨i,hi,rfl⟩:=List.getElem_of_mem hk;exact(h i _ (List.getElem?_eq_getElem hi)).1
 have hf:l.flatten.length=n*32:=by
  rw[←hn];clear hn h;induction l with
  | nil=>rfl
  | cons y r ih =>
   have h1:=ih (fun k hk=>he k (by simp[hk]));have h2:=he y (by simp);simp only[List.flatten_cons,List.length_append,List.length_cons,h1,h2];omega
 refine⟨hn,he,⟨by rw[bL];exact hf,fun i u hu=>?_⟩⟩;have hi:=(List.getElem?_eq_some_iff.1 hu).1;rw[bL,hf]at hi;have hk:i / 32<l.length:=by omega
 obtain⟨h1,a,rfl,h2,h3⟩:=h (i / 32) _ (List.getElem?_eq_getElem hk);refine⟨_,rfl,h2,?_⟩;have hlt:i % 32<(bv l[i / 32]).length:=by rw[bL,h1];omega
 obtain⟨u',hu'⟩:∃u',(bv l[i / 32])[i % 32]?=some u':=⟨_,List.getElem?_eq_getElem hlt⟩;have h4:=h3 _ _ hu';rw[show i / 32*32+i % 32=i by omega]at h4;rw[h4];rw[bv_getElem?]at hu hu';obtain⟨z',hz',rfl⟩:∃z,(l[i / 32])[i % 32]?=some z∧u'=.int .u8 z:=by
  cases hq:(l[i / 32])[i % 32]? with
  | none=>rw[hq]at hu';simp at hu'
  | some z=>rw[hq]at hu';exact⟨z,rfl,by simpa using hu'.symm⟩
 have h5:=Xbl 32 l (i / 32) _ (fun i y hy=>he y (List.mem_of_getElem? hy)) (List.getElem?_eq_getElem hk) (i % 32) z' hz';rw[show i / 32*32+i % 32=i by omega]at h5;rw[h5]at hu;exact hu
theorem Xfl{z:Int}(h:(Lit.int .u8 z).wf=true):IsByte z:=by
 have:=bounds_u8 h;unfold IsByte;omega
section
variable{H:Type}{enc:TypeId × Value→H}
def Wt(t:TypeId)(d:DataW H):Prop:=∀n ∈ d.weights Tryz.prog t,n≤reachBytes
theorem Xug{e:TypeId}:∀{l:List (DataW H)},(∀n ∈ DataW.weightsAll Tryz.prog e l,n≤reachBytes)→∀d ∈ l,Wt e d
 | [],_,d,hd=>by simp at hd
 | y::r,h,d,hd=>by
  rcases List.mem_cons.1 hd with rfl | hd
  ·exact fun n hn=>h n (by simp[DataW.weightsAll,hn])
  ·exact Xug (l:=r) (fun n hn=>h n (by simp[DataW.weightsAll,hn])) d hd
variable{w:World}{base:Nat}{held:Bool}
theorem Xe2{t e:TypeId}{fuel:Nat}{cs:List Value}{x:DataW H × List MemPlace}(ht:Tryz.prog.underlying t=some (.slice e))(hc:0<Tryz.prog.cellsOf e)
 (h:DataW.trod enc Tryz.prog w base (fun _=>true) held fuel t cs=some x) (hw:Wt t x.1) :
 ∃A n c,cs=[.slice A n c]∧n≤c∧c≤maxLen∧n*Tryz.prog.bytesOf e≤reachBytes∧∀i,i<n→∃a cs' y m,A=some a∧a.block<w.heap.size∧cs'.length=Tryz.prog.cellsOf e ∧
  (∀j u,cs'[j]?=some u→w.cell? (a.add (i*Tryz.prog.cellsOf e+j))=some u)∧DataW.trod enc Tryz.prog w base (fun _=>true) held m e cs'=some y∧Wt e y.1:=by
 rcases Go.Deep.open_slice ht h with⟨rfl,rfl⟩ | ⟨a,len,cap,m,n,D,Pl,rfl,hb,hl,hm,hmm,rfl,hx⟩
 ·exact⟨none,0,0,rfl,Lr _,Nat.zero_le _,by simp,fun i hi=>by omega⟩
 ·have hm':m=cap:=by simpa using hmm
  have h1:((len+(m - len))*Tryz.prog.bytesOf e)≤reachBytes:=by
   refine hw _ ?_;simp[DataW.weights,ht]
  have h2:∀d ∈ (List.range len).map D,Wt e d:=Xug fun n hn=>hw n (by simp only[DataW.weights,ht];simp[hn])
  refine⟨some a,len,cap,rfl,hl,hm,Lq (Nat.mul_le_mul_right _ (by omega)) h1,fun i hi=>?_⟩;obtain⟨cs',hcs,htr⟩:=hx i (by omega);have hbl:=World.cells?_block hcs hc;obtain⟨_,hlen,hat⟩:=World.cells?_some hcs;refine⟨a,cs',_,n,rfl,by rwa [Xad]at hbl,hlen,fun j u hu=>?_,htr,h2 _ (by simp;exact⟨i,hi,rfl⟩)⟩;have:=hat j (by have:=(List.getElem?_eq_some_iff.1 hu).1;omega);rw[Xc2]at this;rw[this,hu]
theorem Xeo:Tryz.prog.cellsOf 5=1:=by kernel_rfl
theorem Xvs:Tryz.prog.bytesOf 5=1:=by kernel_rfl
theorem Xcw:Tryz.prog.cellsOf 62=32:=by kernel_rfl
theorem Xt2:Tryz.prog.bytesOf 62=32:=by kernel_rfl
theorem Xk0:Tryz.prog.cellsOf 28=32:=by kernel_rfl
theorem Xqw:Tryz.prog.cellsOf 61=3:=by kernel_rfl
theorem Xuy:Tryz.prog.bytesOf 61=56:=by kernel_rfl
theorem Xky:Tryz.prog.cellsOf 64=34:=by kernel_rfl
theorem Xqp:Tryz.prog.bytesOf 64=80:=by kernel_rfl
theorem Xjh:Tryz.prog.cellsOf 22=1:=by kernel_rfl
theorem Xff:reachBytes≤140737488355328:=by decide
theorem Xdt{fuel:Nat}{v:Value}{x:DataW H × List MemPlace}(h:DataW.trod enc Tryz.prog w base (fun _=>true) held fuel 22 [v]=some x)(hw:Wt 22 x.1) :
 ∃l,BytesIn w w.heap.size v l∧AllBytes l∧l.length≤140737488355328:=by
 obtain⟨A,n,c,hcs,h1,h2,h3,h4⟩:=Xe2 Tryz.underlying22 (by rw[Xeo];omega) h hw;obtain rfl:v=.slice A n c:=by simpa using hcs
 rw[Xvs]at h3;have:=Xff;obtain⟨l,hl,hp⟩:=Xd4 (α:=Int) (p:=fun i z=>IsByte z∧∃a,A=some a∧a.block<w.heap.size∧w.cell? (a.add i)=some (.int .u8 z)) n fun i hi=>by
  obtain⟨a,cs',y,m,e1,e2,e3,e4,e5,_⟩:=h4 i hi;obtain⟨z,rfl,_,hz⟩:=DataW.trod_int Tryz.underlying5 e5;have:=e4 0 _ rfl;rw[Xeo,Nat.mul_one,Nat.add_zero]at this;exact⟨z,Xfl hz,a,e1,e2,this⟩
 subst hl;refine⟨l,⟨A,c,rfl,⟨bL _,fun i u hu=>?_⟩,h1,h2⟩,fun z hz=>?_,by omega⟩
 ·rw[bv_getElem?]at hu;cases hq:l[i]? with
  | none=>rw[hq]at hu;simp at hu
  | some z =>
   rw[hq]at hu;obtain⟨_,a,e1,e2,e3⟩:=hp i z hq;obtain rfl:Value.int .u8 z=u:=by simpa using hu
   exact⟨a,e1,e2,e3⟩
 ·obtain⟨i,hi,rfl⟩:=List.getElem_of_mem hz;exact(hp i _ (List.getElem?_eq_getElem hi)).1
theorem Xhi{t:TypeId}{fuel:Nat}{cs:List Value}{x:DataW H × List MemPlace}(ht:Tryz.prog.underlying t=some (.array 32 5))(hc:Tryz.prog.cellsOf t=32)(h:DataW.trod enc Tryz.prog w base (fun _=>true) held fuel t cs=some x) :
 ∃l:List Int,cs=bv l∧l.length=32∧AllBytes l:=by
 obtain⟨xs,m,_,_,hl,hxs,hat⟩:=DataW.trod_array ht h;obtain⟨l,hll,hp⟩:=Xd4 (α:=Int) (p:=fun i z=>IsByte z∧cs[i]?=some (.int .u8 z)) 32 fun i hi=>by
  have h1:=hat i hi;have hx:xs[i]?=some xs[i]:=List.getElem?_eq_getElem (by omega);rw[Xeo,hx]at h1;obtain⟨z,hz,_,hwz⟩:=DataW.trod_int Tryz.underlying5 h1;refine⟨z,Xfl hwz,?_⟩;have:=congrArg List.head? hz;simpa [List.head?_take]using this
 rw[hc]at hl;refine⟨l,List.ext_getElem? fun i=>?_,hll,fun z hz=>?_⟩
 ·by_cases hi:i<32
  ·have e:=List.getElem?_eq_getElem (l:=l) (i:=i) (by omega);rw[bv_getElem?,e,(hp i _ e).2];rfl
  ·rw[List.getElem?_eq_none (by omega),List.getElem?_eq_none (by rw[bL];omega)]
 ·obtain⟨i,hi,rfl⟩:=List.getElem_of_mem hz;exact(hp i _ (List.getElem?_eq_getElem hi)).1
end
theorem Xmh{cs:List Value}(h:cs.length=3):∃a b c,cs=[a,b,c]:=by
 match cs,h with
 | [a,b,c],_=>exact⟨a,b,c,rfl⟩
theorem Xue{cs:List Value}(h:cs.length=2):∃a b,cs=[a,b]:=by
 match cs,h with
 | [a,b],_=>exact⟨a,b,rfl⟩
section
variable{H:Type}{enc:TypeId × Value→H}{w:World}{base:Nat}{held:Bool}
theorem wt_in{y0 y1 y2:DataW H}(h:Wt 61 (.agg [y0,y1,y2])):Wt 22 y1∧Wt 22 y2:=by
 refine⟨fun n hn=>h n ?_,fun n hn=>h n ?_⟩ <;> simp only[DataW.weights,Tryz.underlying61] <;> simp[DataW.weightsEach,hn]
theorem Xv0{y0 y1 y2:DataW H}(h:Wt 64 (.agg [y0,y1,y2])):Wt 22 y1∧Wt 22 y2:=by
 refine⟨fun n hn=>h n ?_,fun n hn=>h n ?_⟩ <;> simp only[DataW.weights,Tryz.underlying64] <;> simp[DataW.weightsEach,hn]
theorem wt_msg{y0 y1 y2 y3 y4 y5:DataW H}(h:Wt 32 (.agg [y0,y1,y2,y3,y4,y5])):Wt 26 y2∧Wt 29 y4∧Wt 30 y5:=by
 refine⟨fun n hn=>h n ?_,fun n hn=>h n ?_,fun n hn=>h n ?_⟩ <;> simp only[DataW.weights,Tryz.underlying32] <;> simp[DataW.weightsEach,hn]
theorem Xq4{fuel:Nat}{v:Value}{x:DataW H × List MemPlace}(h:DataW.trod enc Tryz.prog w base (fun _=>true) held fuel 26 [v]=some x)(hw:Wt 26 x.1) :
 ∃A n c l,v=.slice A n c∧n≤c∧c≤maxLen∧KeysIn w w.heap.size A n l∧(∀k ∈ l,k.length=32∧AllBytes k)∧l.length≤140737488355328:=by
 obtain⟨A,n,c,hcs,h1,h2,h3,h4⟩:=Xe2 Tryz.underlying26 (by rw[Xcw];omega) h hw;obtain rfl:v=.slice A n c:=by simpa using hcs
 rw[Xt2]at h3;have:=Xff;obtain⟨l,hl,hp⟩:=Xd4 (α:=List Int) (p:=fun i z=>(z.length=32∧AllBytes z)∧∃a,A=some a∧a.block<w.heap.size∧∀j u,(bv z)[j]?=some u→w.cell? (a.add (i*32+j))=some u) n fun i hi=>by
  obtain⟨a,cs',y,m,e1,e2,e3,e4,e5,_⟩:=h4 i hi;obtain⟨z,rfl,hz,hz'⟩:=Xhi Tryz.underlying62 Xcw e5;rw[Xcw]at e4;exact⟨z,⟨hz,hz'⟩,a,e1,e2,e4⟩
 subst hl;refine⟨A,l.length,c,l,rfl,h1,h2,KeysIn.of_at rfl fun i x hx=>⟨(hp i x hx).1.1,(hp i x hx).2⟩,fun k hk=>?_,by omega⟩;obtain⟨i,hi,rfl⟩:=List.getElem_of_mem hk;exact(hp i _ (List.getElem?_eq_getElem hi)).1
theorem Xto{fuel:Nat}{v:Value}{x:DataW H × List MemPlace}(h:DataW.trod enc Tryz.prog w base (fun _=>true) held fuel 29 [v]=some x)(hw:Wt 29 x.1) :
 ∃A n c l,v=.slice A n c∧n≤c∧c≤maxLen∧InsIn w w.heap.size A n l∧(∀i ∈ l,(IsByte i.p∧AllBytes i.acc∧AllBytes i.dat)∧i.acc.length≤140737488355328∧i.dat.length≤140737488355328)∧l.length≤140737488355328:=by
 obtain⟨A,n,c,hcs,h1,h2,h3,h4⟩:=Xe2 Tryz.underlying29 (by rw[Xqw];omega) h hw;obtain rfl:v=.slice A n c:=by simpa using hcs
 rw[Xuy]at h3;have:=Xff;obtain⟨l,hl,hp⟩:=Xd4 (α:=LIn) (p:=fun i z=>((IsByte z.p∧AllBytes z.acc∧AllBytes z.dat)∧z.acc.length≤140737488355328∧z.dat.length≤140737488355328) ∧
  ∃a va vd,A=some a∧a.block<w.heap.size∧w.cell? (a.add (i*3))=some (.int .u8 z.p)∧w.cell? (a.add (i*3+1))=some va∧w.cell? (a.add (i*3+2))=some vd∧BytesIn w w.heap.size va z.acc∧BytesIn w w.heap.size vd z.dat) n fun i hi=>by
  obtain⟨a,cs',y,m,e1,e2,e3,e4,e5,e6⟩:=h4 i hi;obtain⟨y0,y1,y2,k,rfl,hl,t0,t1,t2⟩:=Go.Deep.trod_struct3 Tryz.underlying61 e5;rw[Xqw]at e3 e4;obtain⟨c0,c1,c2,rfl⟩:∃c0 c1 c2,cs'=[c0,c1,c2]:=Xmh e3;obtain⟨w1,w2⟩:=wt_in e6;have t0':DataW.trod enc Tryz.prog w base (fun _=>true) held k 5 [c0]=some y0:=by simpa [Xeo]using t0
  have t1':DataW.trod enc Tryz.prog w base (fun _=>true) held k 22 [c1]=some y1:=by simpa [Xjh]using t1
  have t2':DataW.trod enc Tryz.prog w base (fun _=>true) held k 22 [c2]=some y2:=by simpa [Xjh]using t2
  obtain⟨z,hz,_,hz'⟩:=DataW.trod_int Tryz.underlying5 t0';obtain rfl:c0=.int .u8 z:=by simpa using hz
  obtain⟨la,a1,a2,a3⟩:=Xdt t1' w1;obtain⟨ld,d1,d2,d3⟩:=Xdt t2' w2;exact⟨⟨z,la,ld⟩,⟨⟨Xfl hz',a2,d2⟩,a3,d3⟩,a,c1,c2,e1,e2,e4 0 _ rfl,e4 1 _ rfl,e4 2 _ rfl,a1,d1⟩
 subst hl;refine⟨A,l.length,c,l,rfl,h1,h2,⟨rfl,fun i x hx=>(hp i x hx).2⟩,fun k hk=>?_,by omega⟩;obtain⟨i,hi,rfl⟩:=List.getElem_of_mem hk;exact(hp i _ (List.getElem?_eq_getElem hi)).1
theorem Xoq{fuel:Nat}{v:Value}{x:DataW H × List MemPlace}(h:DataW.trod enc Tryz.prog w base (fun _=>true) held fuel 30 [v]=some x)(hw:Wt 30 x.1) :
 ∃A n c l,v=.slice A n c∧n≤c∧c≤maxLen∧LooksIn w w.heap.size A n l∧(∀i ∈ l,((i.tab.length=32∧AllBytes i.tab)∧AllBytes i.wr∧AllBytes i.rd)∧i.wr.length≤140737488355328∧i.rd.length≤140737488355328)∧l.length≤140737488355328:=by
 obtain⟨A,n,c,hcs,h1,h2,h3,h4⟩:=Xe2 Tryz.underlying30 (by rw[Xky];omega) h hw;obtain rfl:v=.slice A n c:=by simpa using hcs
 rw[Xqp]at h3;have:=Xff;obtain⟨l,hl,hp⟩:=Xd4 (α:=LLook) (p:=fun i z=>(((z.tab.length=32∧AllBytes z.tab)∧AllBytes z.wr∧AllBytes z.rd)∧z.wr.length≤140737488355328∧z.rd.length≤140737488355328) ∧
  ∃a va vd,A=some a∧a.block<w.heap.size∧(∀j u,(bv z.tab++[va,vd])[j]?=some u→w.cell? (a.add (i*34+j))=some u)∧z.tab.length=32∧BytesIn w w.heap.size va z.wr∧BytesIn w w.heap.size vd z.rd) n fun i hi=>by
  obtain⟨a,cs',y,m,e1,e2,e3,e4,e5,e6⟩:=h4 i hi;obtain⟨y0,y1,y2,k,rfl,hl,t0,t1,t2⟩:=Go.Deep.trod_struct3 Tryz.underlying64 e5;rw[Xky]at e3 e4;obtain⟨w1,w2⟩:=Xv0 e6;have t0':DataW.trod enc Tryz.prog w base (fun _=>true) held k 62 (cs'.take 32)=some y0:=by simpa [Xcw]using t0
  obtain⟨z,hz,hz1,hz2⟩:=Xhi Tryz.underlying62 Xcw t0';obtain⟨c1,c2,hc12⟩:∃c1 c2,cs'.drop 32=[c1,c2]:=Xue (by rw[List.length_drop,e3]);obtain rfl:cs'=bv z++[c1,c2]:=by rw[←hz,←hc12,List.take_append_drop]
  have t1':DataW.trod enc Tryz.prog w base (fun _=>true) held k 22 [c1]=some y1:=by
   have:=t1;simp only[Xjh]at this;rw[hc12]at this;exact this
  have t2':DataW.trod enc Tryz.prog w base (fun _=>true) held k 22 [c2]=some y2:=by
   have:=t2;simp only[Xjh]at this;rw[show(33:Nat)=32+1 from rfl,←List.drop_drop,hc12]at this;exact this
  obtain⟨la,a1,a2,a3⟩:=Xdt t1' w1;obtain⟨ld,d1,d2,d3⟩:=Xdt t2' w2;exact⟨⟨z,la,ld⟩,⟨⟨⟨hz1,hz2⟩,a2,d2⟩,a3,d3⟩,a,c1,c2,e1,e2,e4,hz1,a1,d1⟩
 subst hl;refine⟨A,l.length,c,l,rfl,h1,h2,⟨rfl,fun i x hx=>(hp i x hx).2⟩,fun k hk=>?_,by omega⟩;obtain⟨i,hi,rfl⟩:=List.getElem_of_mem hk;exact(hp i _ (List.getElem?_eq_getElem hi)).1
end
theorem six_of{α:Type}{xs:List α}(h:xs.length=6):∃a b c d e f,xs=[a,b,c,d,e,f]:=by
 match xs,h with
 | [a,b,c,d,e,f],_=>exact⟨a,b,c,d,e,f,rfl⟩
theorem Xfx{cs:List Value}(h:cs.length=1):∃a,cs=[a]:=by
 match cs,h with
 | [a],_=>exact⟨a,rfl⟩
theorem Xi3:Tryz.prog.cellsOf 4=1:=by kernel_rfl
theorem Xpi:Tryz.prog.cellsOf 25=3:=by kernel_rfl
theorem Xrw:Tryz.prog.cellsOf 26=1:=by kernel_rfl
theorem Xsx:Tryz.prog.cellsOf 29=1:=by kernel_rfl
theorem Xof:Tryz.prog.cellsOf 30=1:=by kernel_rfl
theorem Xmd:Tryz.prog.cellsOf 32=39:=by kernel_rfl
theorem cut{α:Type}(cs:List α)(a k b:Nat)(h:a+k=b):cs.drop a=(cs.drop a).take k++cs.drop b:=by
 subst h;rw[←List.drop_drop,List.take_append_drop]
section
variable{H:Type}{enc:TypeId × Value→H}{w:World}{base b0:Nat}{held:Bool}
theorem Xi9{fuel:Nat}{cs:List Value}{x:DataW H × List MemPlace}(hf:DataW.trod enc Tryz.prog w base (fun _=>true) held fuel 32 cs=some x)(hw:Wt 32 x.1) :
 ∃q m,cs=Raw.cells q m∧MsgIn w w.heap.size q m∧m.Wf∧Sized m:=by
 obtain⟨xs,n,_,hx,hl,hlen,ht⟩:=DataW.trod_struct Tryz.underlying32 hf;rw[Xmd]at hl;obtain⟨y0,y1,y2,y3,y4,y5,rfl⟩:=six_of hlen;have hx1:x.1=.agg [y0.1,y1.1,y2.1,y3.1,y4.1,y5.1]:=by simpa using congrArg Prod.fst hx
 rw[hx1]at hw;obtain⟨w2,w4,w5⟩:=wt_msg hw;have t0:DataW.trod enc Tryz.prog w base (fun _=>true) held n 4 ((cs.drop 0).take 1)=some y0:=by rw[←Xi3];exact ht 0 _ rfl
 have t1:DataW.trod enc Tryz.prog w base (fun _=>true) held n 25 ((cs.drop 1).take 3)=some y1:=by rw[←Xpi];exact ht 1 _ rfl
 have t2:DataW.trod enc Tryz.prog w base (fun _=>true) held n 26 ((cs.drop 4).take 1)=some y2:=by rw[←Xrw];exact ht 2 _ rfl
 have t3:DataW.trod enc Tryz.prog w base (fun _=>true) held n 28 ((cs.drop 5).take 32)=some y3:=by rw[←Xk0];exact ht 3 _ rfl
 have t4:DataW.trod enc Tryz.prog w base (fun _=>true) held n 29 ((cs.drop 37).take 1)=some y4:=by rw[←Xsx];exact ht 4 _ rfl
 have t5:DataW.trod enc Tryz.prog w base (fun _=>true) held n 30 ((cs.drop 38).take 1)=some y5:=by rw[←Xof];exact ht 5 _ rfl
 have hsplit:cs=(cs.drop 0).take 1++((cs.drop 1).take 3++((cs.drop 4).take 1++((cs.drop 5).take 32++((cs.drop 37).take 1++(cs.drop 38).take 1)))):=by
  have e5:cs.drop 38=(cs.drop 38).take 1:=(List.take_of_length_le (by rw[List.length_drop];omega)).symm;rw[←e5,←cut cs 37 1 38 rfl,←cut cs 5 32 37 rfl,←cut cs 4 1 5 rfl,←cut cs 1 3 4 rfl,←cut cs 0 1 1 rfl];rfl
 obtain⟨b,hb,_⟩:=DataW.trod_bool Tryz.underlying4 t0;obtain⟨z0,z1,z2,k,_,_,s0,s1,s2⟩:=Go.Deep.trod_struct3 Tryz.underlying25 t1;obtain⟨c0,c1,c2,hc⟩:=Xmh (cs:=(cs.drop 1).take 3) (by simp;omega);rw[hc]at s0 s1 s2;have s0':DataW.trod enc Tryz.prog w base (fun _=>true) held k 5 [c0]=some z0:=by simpa [Xeo]using s0
 have s1':DataW.trod enc Tryz.prog w base (fun _=>true) held k 5 [c1]=some z1:=by simpa [Xeo]using s1
 have s2':DataW.trod enc Tryz.prog w base (fun _=>true) held k 5 [c2]=some z2:=by simpa [Xeo]using s2
 obtain⟨i0,hi0,_,wi0⟩:=DataW.trod_int Tryz.underlying5 s0';obtain⟨i1,hi1,_,wi1⟩:=DataW.trod_int Tryz.underlying5 s1';obtain⟨i2,hi2,_,wi2⟩:=DataW.trod_int Tryz.underlying5 s2';obtain⟨v2,hv2⟩:=Xfx (cs:=(cs.drop 4).take 1) (by simp;omega);obtain⟨v4,hv4⟩:=Xfx (cs:=(cs.drop 37).take 1) (by simp;omega);obtain⟨v5,hv5⟩:=Xfx (cs:=(cs.drop 38).take 1) (by simp;omega);rw[hv2]at t2;rw[hv4]at t4;rw[hv5]at t5;obtain⟨KA,kn,kc,ks,rfl,k1,k2,k3,k4,k5⟩:=Xq4 t2 w2;obtain⟨hh,hh1,hh2,hh3⟩:=Xhi Tryz.underlying28 Xk0 t3;obtain⟨IA,ni,ic,is,rfl,n1,n2,n3,n4,n5⟩:=Xto t4 w4;obtain⟨LA,ln,lc,ls,rfl,l1,l2,l3,l4,l5⟩:=Xoq t5 w5;obtain rfl:c0=.int .u8 i0:=by simpa using hi0
 obtain rfl:c1=.int .u8 i1:=by simpa using hi1
 obtain rfl:c2=.int .u8 i2:=by simpa using hi2
 refine⟨⟨KA,kn,kc,IA,ni,ic,LA,ln,lc⟩,⟨b,i0,i1,i2,ks,hh,is,ls⟩,?_,⟨hh2,k3,n3,l3,⟨k1,k2⟩,⟨n1,n2⟩,⟨l1,l2⟩⟩,
  ⟨Xfl wi0,Xfl wi1,Xfl wi2,k4,⟨hh2,hh3⟩,fun i hi=>(n4 i hi).1,fun l hl=>(l4 l hl).1⟩,⟨k5,n5,l5,fun i hi=>(n4 i hi).2,fun l hl=>(l4 l hl).2⟩⟩
 rw[hsplit,hb,hc,hv2,hh1,hv4,hv5];rfl
end
theorem SigsIn.of_at{w:World}{B:Nat}{A:Option Addr}{n:Nat}{l:List (List Int)}(hn:l.length=n)(h:∀(i:Nat) x,l[i]?=some x→x.length=64∧∃a,A=some a∧a.block<B∧∀j u,(bv x)[j]?=some u→w.cell? (a.add (i*64+j))=some u):SigsIn w B A n l:=by
 have he:∀k ∈ l,k.length=64:=fun k hk=>by
  obtain⟨i,hi,rfl⟩:=List.getElem_of_mem hk;exact(h i _ (List.getElem?_eq_getElem hi)).1
 have hf:l.flatten.length=n*64:=by
  rw[←hn];clear hn h;induction l with
  | nil=>rfl
  | cons y r ih =>
   have h1:=ih (fun k hk=>he k (by simp[hk]));have h2:=he y (by simp);simp only[List.flatten_cons,List.length_append,List.length_cons,h1,h2];omega
 refine⟨hn,he,⟨by rw[bL];exact hf,fun i u hu=>?_⟩⟩;have hi:=(List.getElem?_eq_some_iff.1 hu).1;rw[bL,hf]at hi;have hk:i / 64<l.length:=by omega
 obtain⟨h1,a,rfl,h2,h3⟩:=h (i / 64) _ (List.getElem?_eq_getElem hk);refine⟨_,rfl,h2,?_⟩;have hlt:i % 64<(bv l[i / 64]).length:=by rw[bL,h1];omega
 obtain⟨u',hu'⟩:∃u',(bv l[i / 64])[i % 64]?=some u':=⟨_,List.getElem?_eq_getElem hlt⟩;have h4:=h3 _ _ hu';rw[show i / 64*64+i % 64=i by omega]at h4;rw[h4];rw[bv_getElem?]at hu hu';obtain⟨z',hz',rfl⟩:∃z,(l[i / 64])[i % 64]?=some z∧u'=.int .u8 z:=by
  cases hq:(l[i / 64])[i % 64]? with
  | none=>rw[hq]at hu';simp at hu'
  | some z=>rw[hq]at hu';exact⟨z,rfl,by simpa using hu'.symm⟩
 have h5:=Xbl 64 l (i / 64) _ (fun i y hy=>he y (List.mem_of_getElem? hy)) (List.getElem?_eq_getElem hk) (i % 64) z' hz';rw[show i / 64*64+i % 64=i by omega]at h5;rw[h5]at hu;exact hu
section
variable{H:Type}{enc:TypeId × Value→H}{w:World}{base b0:Nat}{held:Bool}
theorem Xj9:Tryz.prog.cellsOf 117=64:=by kernel_rfl
theorem Xte:Tryz.prog.bytesOf 117=64:=by kernel_rfl
theorem Xrv:Tryz.prog.cellsOf 23=1:=by kernel_rfl
theorem Xv1:Tryz.prog.cellsOf 34=40:=by kernel_rfl
theorem Xus{t:TypeId}{fuel:Nat}{cs:List Value}{x:DataW H × List MemPlace}(ht:Tryz.prog.underlying t=some (.array 64 5))(hc:Tryz.prog.cellsOf t=64)(h:DataW.trod enc Tryz.prog w base (fun _=>true) held fuel t cs=some x) :
 ∃l:List Int,cs=bv l∧l.length=64∧AllBytes l:=by
 obtain⟨xs,m,_,_,hl,hxs,hat⟩:=DataW.trod_array ht h;obtain⟨l,hll,hp⟩:=Xd4 (α:=Int) (p:=fun i z=>IsByte z∧cs[i]?=some (.int .u8 z)) 64 fun i hi=>by
  have h1:=hat i hi;have hx:xs[i]?=some xs[i]:=List.getElem?_eq_getElem (by omega);rw[Xeo,hx]at h1;obtain⟨z,hz,_,hwz⟩:=DataW.trod_int Tryz.underlying5 h1;refine⟨z,Xfl hwz,?_⟩;have:=congrArg List.head? hz;simpa [List.head?_take]using this
 rw[hc]at hl;refine⟨l,List.ext_getElem? fun i=>?_,hll,fun z hz=>?_⟩
 ·by_cases hi:i<64
  ·have e:=List.getElem?_eq_getElem (l:=l) (i:=i) (by omega);rw[bv_getElem?,e,(hp i _ e).2];rfl
  ·rw[List.getElem?_eq_none (by omega),List.getElem?_eq_none (by rw[bL];omega)]
 ·obtain⟨i,hi,rfl⟩:=List.getElem_of_mem hz;exact(hp i _ (List.getElem?_eq_getElem hi)).1
theorem Xrm{fuel:Nat}{v:Value}{x:DataW H × List MemPlace}(h:DataW.trod enc Tryz.prog w base (fun _=>true) held fuel 23 [v]=some x)(hw:Wt 23 x.1) :
 ∃A n c l,v=.slice A n c∧n≤c∧c≤maxLen∧SigsIn w w.heap.size A n l∧(∀k ∈ l,k.length=64∧AllBytes k)∧l.length≤140737488355328:=by
 obtain⟨A,n,c,hcs,h1,h2,h3,h4⟩:=Xe2 Tryz.underlying23 (by rw[Xj9];omega) h hw;obtain rfl:v=.slice A n c:=by simpa using hcs
 rw[Xte]at h3;have:=Xff;obtain⟨l,hl,hp⟩:=Xd4 (α:=List Int) (p:=fun i z=>(z.length=64∧AllBytes z)∧∃a,A=some a∧a.block<w.heap.size∧∀j u,(bv z)[j]?=some u→w.cell? (a.add (i*64+j))=some u) n fun i hi=>by
  obtain⟨a,cs',y,m,e1,e2,e3,e4,e5,_⟩:=h4 i hi;obtain⟨z,rfl,hz,hz'⟩:=Xus Tryz.underlying117 Xj9 e5;rw[Xj9]at e4;exact⟨z,⟨hz,hz'⟩,a,e1,e2,e4⟩
 subst hl;refine⟨A,l.length,c,l,rfl,h1,h2,SigsIn.of_at rfl fun i x hx=>⟨(hp i x hx).1.1,(hp i x hx).2⟩,fun k hk=>?_,by omega⟩;obtain⟨i,hi,rfl⟩:=List.getElem_of_mem hk;exact(hp i _ (List.getElem?_eq_getElem hi)).1
theorem wt_tx{y0 y1:DataW H}(h:Wt 34 (.agg [y0,y1])):Wt 23 y0∧Wt 32 y1:=by
 refine⟨fun n hn=>h n ?_,fun n hn=>h n ?_⟩ <;> simp only[DataW.weights,Tryz.underlying34] <;> simp[DataW.weightsEach,hn]
theorem Xj1{fuel:Nat}{cs:List Value}{x:DataW H × List MemPlace}(hf:DataW.trod enc Tryz.prog w base (fun _=>true) held fuel 34 cs=some x)(hw:Wt 34 x.1) :
 ∃s t,cs=TRaw.cells s t∧TxIn w w.heap.size s t∧t.Wf∧Sized t.m∧t.sigs.length≤140737488355328:=by
 obtain⟨xs,n,_,hx,hl,hlen,ht⟩:=DataW.trod_struct Tryz.underlying34 hf;rw[Xv1]at hl;obtain⟨y0,y1,rfl⟩:∃a b,xs=[a,b]:=by
  match xs,hlen with
  | [a,b],_=>exact⟨a,b,rfl⟩
 have hx1:x.1=.agg [y0.1,y1.1]:=by simpa using congrArg Prod.fst hx
 rw[hx1]at hw;obtain⟨w0,w1⟩:=wt_tx hw;have t0:DataW.trod enc Tryz.prog w base (fun _=>true) held n 23 ((cs.drop 0).take 1)=some y0:=by rw[←Xrv];exact ht 0 _ rfl
 have t1:DataW.trod enc Tryz.prog w base (fun _=>true) held n 32 ((cs.drop 1).take 39)=some y1:=by rw[←Xmd];exact ht 1 _ rfl
 have hsplit:cs=(cs.drop 0).take 1++(cs.drop 1).take 39:=by
  have e5:cs.drop 1=(cs.drop 1).take 39:=(List.take_of_length_le (by rw[List.length_drop];omega)).symm;rw[←e5,←cut cs 0 1 1 rfl];rfl
 obtain⟨v0,hv0⟩:=Xfx (cs:=(cs.drop 0).take 1) (by simp;omega);rw[hv0]at t0;obtain⟨SA,sn,sc,ss,rfl,k1,k2,k3,k4,k5⟩:=Xrm t0 w0;obtain⟨q,m,e1,e2,e3,e4⟩:=Xi9 t1 w1;refine⟨⟨SA,sn,sc,q⟩,⟨ss,m⟩,?_,⟨k3,⟨k1,k2⟩,e2⟩,⟨k4,e3⟩,e4,k5⟩;rw[hsplit,hv0,e1];rfl
end
def ixs(l:LLook):Nat:=l.wr.length+l.rd.length
def tot(m:LMsg):Nat:=m.keys.length+lookSize m.looks
def astray(tt:Nat)(a:Int):Bool:=decide ((tt:Int)≤a)
def pstray(own:Nat)(p:Int):Bool:=decide (p=0∨(own:Int)≤p)
def stray(own tt:Nat)(i:LIn):Bool:=pstray own i.p||i.acc.any (astray tt)
def noix(l:LLook):Bool:=decide (ixs l=0)
def b1(x:LTx):Bool:=decide (x.m.s=0∨(x.sigs.length:Int)≠x.m.s)
def b2(m:LMsg):Bool:=decide (m.s≤m.r∨(m.keys.length:Int)<m.s+m.o)
def b3(m:LMsg):Bool:=m.looks.any noix
def b4(m:LMsg):Bool:=decide (64<tot m)
def b5(m:LMsg):Bool:=m.ins.any (stray m.keys.length (tot m))
def same32(x y:List Int)(is:List Nat):Bool:=is.all fun i=>x.getD i 0==y.getD i 0
theorem Xfj(x y:List Int)(w:World):∀(is:List Nat),(∀i ∈ is,i<x.length∧i<y.length)→(Op.eqItems 9999 5 1 (bv x).toArray (bv y).toArray is).run Tryz.prog w=.ok (same32 x y is) w
 | [],_=>by simp[Op.eqItems,same32]
 | i::is,h=>by
  have hi:=h i (by simp);have hc:(bv x).toArray[i]?=some (.int .u8 (x.getD i 0)):=by
   rw[List.getElem?_toArray];exact bv_at hi.1
  have hd:(bv y).toArray[i]?=some (.int .u8 (y.getD i 0)):=by
   rw[List.getElem?_toArray];exact bv_at hi.2
  have p:=run_part_plain (P:=Tryz.prog) w Xho (xs:=(bv x).toArray) (off:=i) hc;have p2:=run_part_plain (P:=Tryz.prog) w Xho (xs:=(bv y).toArray) (off:=i) hd;have ih:=Xfj x y w is fun k hk=>h k (by simp[hk])
  simp only[Op.eqItems,Nat.mul_one,Sem.run_bind,p,p2,Result.andThen_ok,run_equalIn_int w 9998 5 .u8 .u8 _ _ Tryz.underlying5];cases hb:(x.getD i 0==y.getD i 0)
  ·have:same32 x y (i::is)=false:=by simp only[same32,List.all_cons,hb,Bool.false_and]
   rw[this];simp
  ·have:same32 x y (i::is)=same32 x y is:=by simp only[same32,List.all_cons,hb,Bool.true_and]
   rw[this];simpa using ih
theorem Xgf{x y:List Int}{n:Nat}(hx:x.length=n)(hy:y.length=n):same32 x y (List.range n)=decide (x=y):=by
 rw[Bool.eq_iff_iff,decide_eq_true_iff];unfold same32;rw[List.all_eq_true];constructor
 ·intro h;refine List.ext_getElem (by omega) fun i h1 h2=>?_
  have:=h i (by simp;omega);rw[beq_iff_eq,List.getD_eq_getElem?_getD,List.getD_eq_getElem?_getD,List.getElem?_eq_getElem h1,List.getElem?_eq_getElem h2]at this;exact this
 ·rintro rfl i _;simp
theorem Xg7{x y:List Int}(hx:x.length=32)(hy:y.length=32)(w:World) :
 (binOp .eql 62 (.agg (bv x).toArray) (.agg (bv y).toArray)).run Tryz.prog w=.ok (.bool (decide (x=y))) w:=by
 obtain⟨i,hi⟩:=Xkj;rw[run_eql_struct,show(10000:Nat)=9999+1 from rfl,run_equalIn_array w 9999 _ _ Tryz.underlying62 hi,Xek,Xfj x y w _ (fun i hi=>by simp at hi;omega),Xgf hx hy];rfl
structure CsIn(sz:Nat)(w:World)(B:Nat)(A:Option Addr)(n:Nat)(l:List (List Value)):Prop where
 len:l.length=n
 each:∀k ∈ l,k.length=sz
 sees:Sees w B A (n*sz) l.flatten
theorem Xc3{sz:Nat}:∀{l:List (List Value)},(∀k ∈ l,k.length=sz)→l.flatten.length=l.length*sz
 | [],_=>by simp
 | y::r,h=>by
  rw[List.flatten_cons,List.length_append,Xc3 (l:=r) (fun z hz=>h z (List.mem_cons_of_mem _ hz)),h y (by simp),List.length_cons,Nat.add_mul];omega
section
variable{sz n B B':Nat}{w w':World}{A:Option Addr}{l:List (List Value)}
theorem CsIn.keep(h:CsIn sz w B A n l)(hk:∀p:Addr,p.block<B→w'.cell? p=w.cell? p):CsIn sz w' B A n l:=⟨h.len,h.each,h.sees.keep hk⟩
theorem CsIn.below(h:CsIn sz w B A n l)(hb:Below B w w'):CsIn sz w' B A n l:=⟨h.len,h.each,h.sees.below hb⟩
theorem CsIn.more(h:CsIn sz w B A n l)(hB:B≤B'):CsIn sz w B' A n l:=⟨h.len,h.each,h.sees.more hB⟩
theorem CsIn.get(h:CsIn sz w B A n l){k:Nat}(hk:k<n)(h0:0<sz):∃a x,A=some a∧a.block<B∧l[k]?=some x∧x.length=sz∧∀j u,x[j]?=some u→w.cell? ((a.add (k*sz)).add j)=some u:=by
 obtain⟨x,hx⟩:∃x,l[k]?=some x:=⟨_,List.getElem?_eq_getElem (by rw[h.len];exact hk)⟩;have hxl:=h.each x (List.mem_of_getElem? hx);have hat:=Xbl sz l k x (fun i y hy=>h.each y (List.mem_of_getElem? hy)) hx;obtain⟨u0,hu0⟩:∃u,x[0]?=some u:=⟨_,List.getElem?_eq_getElem (by rw[hxl];exact h0)⟩;obtain⟨a,e,hb,_⟩:=h.sees.cell _ _ (hat 0 u0 hu0);refine⟨a,x,e,hb,hx,hxl,fun j u hu=>?_⟩;obtain⟨a',e',_,hc⟩:=h.sees.cell _ _ (hat j u hu);rw[e]at e';cases e'
 rw[Xc2];exact hc
theorem CsIn.nil(w:World)(B:Nat)(A:Option Addr):CsIn sz w B A 0 []:=⟨rfl,by simp,by rw[Nat.zero_mul];exact Sees.nil _ _ _⟩
end
theorem Xh0{sz:Nat}{w:World}{g t:Nat}{l:List (List Value)}{ys:List Value}{n B:Nat}(hr:Row w g t (l.flatten++ys))(hn:l.length=n)(h:∀k ∈ l,k.length=sz)(hB:g<B):CsIn sz w B (some ⟨g,0,none⟩) n l:=
 ⟨hn,h,⟨by rw[Xc3 h,hn],fun i u hu=>⟨_,rfl,hB,by
  rw[Xa5,hr.cell,Nat.zero_add,List.getElem?_append_left (List.getElem?_eq_some_iff.1 hu).1];exact hu⟩⟩⟩
def rowOf(n:Nat)(z:List Value):List Value:=(List.replicate n z).flatten
theorem Xbo{sz:Nat}(n:Nat){z:List Value}(hz:z.length=sz):(rowOf n z).length=n*sz:=by
 unfold rowOf;rw[Xc3 (sz:=sz) (fun k hk=>by rw[List.eq_of_mem_replicate hk,hz]),List.length_replicate]
theorem Xg8(k:Nat)(z:List Value):rowOf (k+1) z=rowOf k z++z:=by
 unfold rowOf;rw[List.replicate_succ',List.flatten_append];simp
theorem Xf1{sz n k:Nat}{z:List Value}(hz:z.length=sz)(hk:k<n){j:Nat}{v:Value}(hv:z[j]?=some v):(rowOf n z)[k*sz+j]?=some v:=
 Xbl sz (List.replicate n z) k z (fun i y hy=>by
  have:=List.mem_of_getElem? hy;rw[List.eq_of_mem_replicate this,hz]) (by rw[List.getElem?_replicate_of_lt hk]) j v hv
structure LRole where
 key:List Int
 sg:Bool
 wr:Bool
theorem LRole.ext_iff'{a b:LRole}:a=b↔a.key=b.key∧a.sg=b.sg∧a.wr=b.wr:=by
 obtain⟨x,y,z⟩:=a;obtain⟨x',y',z'⟩:=b;constructor
 ·rintro h;cases h
  exact⟨rfl,rfl,rfl⟩
 ·rintro⟨h1,h2,h3⟩;simp only at h1 h2 h3;rw[h1,h2,h3]
instance:DecidableEq LRole:=fun a b=>decidable_of_iff (a.key=b.key∧a.sg=b.sg∧a.wr=b.wr) LRole.ext_iff'.symm
def LRole.cells(r:LRole):List Value:=bv r.key++[.bool r.sg,.bool r.wr]
def RoleOk(r:LRole):Prop:=r.key.length=32∧AllBytes r.key
theorem Xc5{r:LRole}(h:r.key.length=32):r.cells.length=34:=by simp[LRole.cells,bL,h]
theorem Xcy(r:LRole):∀u ∈ r.cells,u.oneCell'=true:=by
 intro u hu;rcases List.mem_append.1 hu with hu | hu
 ·exact Xbj _ _ hu
 ·simp only[List.mem_cons,List.not_mem_nil,or_false]at hu;rcases hu with rfl | rfl <;> rfl
theorem Xe9{r:LRole}(h:r.key.length=32):r.cells[32]?=some (.bool r.sg):=by
 unfold LRole.cells;rw[List.getElem?_append_right (by rw[bL,h];omega),bL,h];rfl
theorem Xcr{r:LRole}(h:r.key.length=32):r.cells[33]?=some (.bool r.wr):=by
 unfold LRole.cells;rw[List.getElem?_append_right (by rw[bL,h];omega),bL,h];rfl
theorem Xeu{r:LRole}{j:Nat}{u:Value}(h:(bv r.key)[j]?=some u):r.cells[j]?=some u:=by
 unfold LRole.cells;rw[List.getElem?_append_left (List.getElem?_eq_some_iff.1 h).1];exact h
theorem Xce{r:LRole}(h:r.key.length=32):(Tryz.prog.info? 93).map (·.size)=some r.cells.length:=by
 rw[Xc5 h];kernel_rfl
theorem Xcc(xs:Array Value)(off:Nat)(w:World):(part 62 xs off).run Tryz.prog w=.ok (.agg (xs.extract off (off+32))) w:=by
 have h1:(isAgg 62).run Tryz.prog w=.ok true w:=by kernel_rfl
 simp[part,h1]
theorem Xcs(xs:Array Value)(off:Nat)(w:World){v:Value}(h:xs[off]?=some v):(part 4 xs off).run Tryz.prog w=.ok v w:=
 run_part_plain (P:=Tryz.prog) w (by kernel_rfl) h
theorem Xih(d:Nat)(x y:List Int)(w:World):∀(is:List Nat),(∀i ∈ is,i<x.length∧i<y.length)→(Op.eqItems (d+1) 5 1 (bv x).toArray (bv y).toArray is).run Tryz.prog w=.ok (same32 x y is) w
 | [],_=>by simp[Op.eqItems,same32]
 | i::is,h=>by
  have hi:=h i (by simp);have hc:(bv x).toArray[i]?=some (.int .u8 (x.getD i 0)):=by
   rw[List.getElem?_toArray];exact bv_at hi.1
  have hd:(bv y).toArray[i]?=some (.int .u8 (y.getD i 0)):=by
   rw[List.getElem?_toArray];exact bv_at hi.2
  have p:=run_part_plain (P:=Tryz.prog) w Xho (xs:=(bv x).toArray) (off:=i) hc;have p2:=run_part_plain (P:=Tryz.prog) w Xho (xs:=(bv y).toArray) (off:=i) hd;have ih:=Xih d x y w is fun k hk=>h k (by simp[hk])
  simp only[Op.eqItems,Nat.mul_one,Sem.run_bind,p,p2,Result.andThen_ok,run_equalIn_int w d 5 .u8 .u8 _ _ Tryz.underlying5];cases hb:(x.getD i 0==y.getD i 0)
  ·have:same32 x y (i::is)=false:=by simp only[same32,List.all_cons,hb,Bool.false_and]
   rw[this];simp
  ·have:same32 x y (i::is)=same32 x y is:=by simp only[same32,List.all_cons,hb,Bool.true_and]
   rw[this];simpa using ih
theorem Xhj(d:Nat){x y:List Int}(hx:x.length=32)(hy:y.length=32)(w:World) :
 (Op.equalIn (d+1+1) 62 (.agg (bv x).toArray) (.agg (bv y).toArray)).run Tryz.prog w=.ok (decide (x=y)) w:=by
 obtain⟨i,hi⟩:=Xkj;rw[run_equalIn_array w (d+1) _ _ Tryz.underlying62 hi,Xek,Xih d x y w _ (fun i hi=>by simp at hi;omega),Xgf hx hy]
theorem Xio{r:LRole}(h:r.key.length=32):r.cells.toArray.extract 0 (0+32)=(bv r.key).toArray:=by
 apply Array.ext'
 unfold LRole.cells;rw[Array.toList_extract];simp[List.extract,bL,h]
theorem Xs8{x y:List Int}(hx:x.length=32)(hy:y.length=32)(w:World)(d:Nat)(hd:d=9997) :
 (Op.equalIn 9999 62 (.agg (bv x).toArray) (.agg (bv y).toArray)).run Tryz.prog w=.ok (decide (x=y)) w:=by
 have h:=Xhj d hx hy w;subst hd;exact h
theorem Xu3(a b:Bool)(w:World):(Op.equalIn 9999 4 (.bool a) (.bool b)).run Tryz.prog w=.ok (a==b) w:=by
 have:=run_equalIn_bool w 9998 4 a b Tryz.underlying4;rwa [show(9998+1:Nat)=9999 from rfl]at this
theorem Xqz:Tryz.prog.stoodInHeld 93=false:=by kernel_rfl
theorem Xmy:Tryz.prog.underlying 93=some (.struct (Tryz.prog.fieldsOf 93)):=by kernel_rfl
theorem Xlk(X Y:Array Value)(w:World){a b:Value}{s s' v v' c:Bool}(pa:(part 62 X 0).run Tryz.prog w=.ok a w)(pb:(part 62 Y 0).run Tryz.prog w=.ok b w)
 (ps:(part 4 X 32).run Tryz.prog w=.ok (.bool s) w) (ps':(part 4 Y 32).run Tryz.prog w=.ok (.bool s') w) (pv:(part 4 X 33).run Tryz.prog w=.ok (.bool v) w) (pv':(part 4 Y 33).run Tryz.prog w=.ok (.bool v') w)
 (hk:(Op.equalIn 9999 62 a b).run Tryz.prog w=.ok c w):(Op.eqFields 9999 X Y (Tryz.prog.fieldsOf 93).toList).run Tryz.prog w=.ok (c&&(s==s')&&(v==v')) w:=by
 simp only[Program.fieldsOf,Tryz.underlying93];have hb:=Xu3;simp only[Op.eqFields,ne_eq,String.reduceEq,not_false_eq_true,if_true,Sem.run_bind,pa,pb,Result.andThen_ok,hk];cases c
 ·simp
 ·simp only[Bool.not_true,Bool.false_eq_true,if_false,ps,ps',Sem.run_bind,Result.andThen_ok,hb];cases hs:(s==s')
  ·simp
  ·simp only[Bool.not_true,Bool.false_eq_true,if_false,pv,pv',Sem.run_bind,Result.andThen_ok,hb];cases hv:(v==v') <;> simp
theorem Xnl{x y:LRole}(hx:x.key.length=32)(hy:y.key.length=32)(w:World) :
 (Op.equalIn 10000 93 (.agg x.cells.toArray) (.agg y.cells.toArray)).run Tryz.prog w=.ok (decide (x=y)) w:=by
 have px1:=Xcc x.cells.toArray 0 w;have py1:=Xcc y.cells.toArray 0 w;rw[Xio hx]at px1;rw[Xio hy]at py1;have px2:=Xcs x.cells.toArray 32 w (v:=.bool x.sg) (by rw[List.getElem?_toArray];exact Xe9 hx);have py2:=Xcs y.cells.toArray 32 w (v:=.bool y.sg) (by rw[List.getElem?_toArray];exact Xe9 hy);have px3:=Xcs x.cells.toArray 33 w (v:=.bool x.wr) (by rw[List.getElem?_toArray];exact Xcr hx);have py3:=Xcs y.cells.toArray 33 w (v:=.bool y.wr) (by rw[List.getElem?_toArray];exact Xcr hy);rw[show(10000:Nat)=9999+1 from rfl,run_equalIn_struct w 9999 93 _ _ Xmy Xqz,Xlk _ _ w px1 py1 px2 py2 px3 py3 (Xs8 hx hy w _ rfl)];congr 1
 rw[Bool.eq_iff_iff,Bool.and_eq_true,Bool.and_eq_true,decide_eq_true_iff,decide_eq_true_iff,beq_iff_eq,beq_iff_eq,LRole.ext_iff',and_assoc]
theorem Xsn{x y:LRole}(hx:x.key.length=32)(hy:y.key.length=32)(w:World):(binOp .neq 93 (.agg x.cells.toArray) (.agg y.cells.toArray)).run Tryz.prog w=.ok (.bool (!decide (x=y))) w:=by
 rw[run_neq_struct,Xnl hx hy];rfl
structure RolesIn(w:World)(B:Nat)(A:Option Addr)(n:Nat)(l:List LRole):Prop where
 cs:CsIn 34 w B A n (l.map LRole.cells)
 ok:∀r ∈ l,RoleOk r
section
variable{n B B':Nat}{w w':World}{A:Option Addr}{l:List LRole}
theorem RolesIn.len(h:RolesIn w B A n l):l.length=n:=by have:=h.cs.len;rwa [List.length_map]at this
theorem RolesIn.keep(h:RolesIn w B A n l)(hk:∀p:Addr,p.block<B→w'.cell? p=w.cell? p):RolesIn w' B A n l:=⟨h.cs.keep hk,h.ok⟩
theorem RolesIn.below(h:RolesIn w B A n l)(hb:Below B w w'):RolesIn w' B A n l:=⟨h.cs.below hb,h.ok⟩
theorem RolesIn.more(h:RolesIn w B A n l)(hB:B≤B'):RolesIn w B' A n l:=⟨h.cs.more hB,h.ok⟩
theorem RolesIn.get(h:RolesIn w B A n l){k:Nat}(hk:k<n):∃a r,A=some a∧a.block<B∧l[k]?=some r∧RoleOk r∧∀j u,r.cells[j]?=some u→w.cell? ((a.add (k*34)).add j)=some u:=by
 obtain⟨a,x,e,hb,hx,_,hc⟩:=h.cs.get hk (by omega);rw[List.getElem?_map]at hx;obtain⟨r,hr,rfl⟩:=Option.map_eq_some_iff.1 hx;exact⟨a,r,e,hb,hr,h.ok r (List.mem_of_getElem? hr),hc⟩
theorem RolesIn.nil(w:World)(B:Nat)(A:Option Addr):RolesIn w B A 0 []:=⟨CsIn.nil _ _ _,by simp⟩
end
theorem Xn7{l:List LRole}(h:∀r ∈ l,RoleOk r):∀k ∈ l.map LRole.cells,k.length=34:=fun k hk=>by
 obtain⟨r,hr,rfl⟩:=List.mem_map.1 hk;exact Xc5 (h r hr).1
theorem Xkc{w:World}{g t:Nat}{l:List LRole}{ys:List Value}{n B:Nat}(hr:Row w g t ((l.map LRole.cells).flatten++ys))(hn:l.length=n)(he:∀r ∈ l,RoleOk r)(hB:g<B):RolesIn w B (some ⟨g,0,none⟩) n l:=
 ⟨Xh0 hr (by rw[List.length_map,hn]) (Xn7 he) hB,he⟩
def r0:LRole:=⟨List.replicate 32 0,false,false⟩
def zR:Value:=.agg r0.cells.toArray
theorem infoR:(Tryz.prog.info? 93).map (fun i=>(i.zero,i.size,i.bytes))=some (some zR,34,34):=by kernel_rfl
structure IsR(h:List Value):Prop where
 len:h.length=34
 one:∀u ∈ h,u.oneCell'=true
 neq:∀w,(binOp .neq 93 (.agg h.toArray) (.agg h.toArray)).run Tryz.prog w=.ok (.bool false) w
 size:(Tryz.prog.info? 93).map (·.size)=some h.length
def sheetC(l:Value)(h f:List Value):List Value:=l::(h++f)
theorem Xur{k:Nat}{z:List Value}(hz:z.length=34)(xs ys:List Value)(hys:(k+1)*34≤ys.length) :
 (xs++(rowOf k z++ys.drop (k*34))).take (xs.length+k*34)++z++(xs++(rowOf k z++ys.drop (k*34))).drop (xs.length+k*34+z.length)=xs++(rowOf (k+1) z++ys.drop ((k+1)*34)):=by
 have hl:=Xbo k hz;have hl2:(xs++rowOf k z).length=xs.length+k*34:=by rw[List.length_append,hl]
 have e2:xs.length+k*34+z.length=(xs++rowOf k z).length+34:=by rw[hl2,hz]
 rw[←List.append_assoc,List.take_left' hl2,e2,List.drop_length_add_append,List.drop_drop,Xg8,show k*34+34=(k+1)*34 by omega];simp only[List.append_assoc]
theorem Xgx(z:Value)(n:Nat):(madeCells z.cells n).toList.length=n:=by simp[madeCells]
theorem Row.of_ownN{w:World}{base N size g:Nat}{e:TypeId}{xs:List Value}(h:w.ownsRow base e size (.slice (some ⟨g,0,none⟩) N N) N xs):Row w g e xs:=by
 rcases h.2 with⟨h1,_⟩ | ⟨g',cap,cur,h1,h2,h3,h4,h5,h6,h7⟩
 ·cases h1
 ·cases h1
  refine⟨?_⟩;rw[h3,←h7,←h6,←Array.length_toList,List.take_length]
theorem Xtr{w:World}{g:Nat}{l:List (List Int)}{ys:List Value}{n:Nat}(hr:Row w g 62 (bv l.flatten++ys))(hn:l.length=n)(h32:∀k ∈ l,k.length=32){B:Nat}(hB:g<B):KeysIn w B (some ⟨g,0,none⟩) n l:=
 ⟨hn,h32,⟨by rw[bL,Xc7 l h32,hn],fun i u hu=>⟨_,rfl,hB,by
  rw[Xa5,hr.cell,Nat.zero_add,List.getElem?_append_left (List.getElem?_eq_some_iff.1 hu).1];exact hu⟩⟩⟩
theorem Xt3{k:Nat}{l:List (List Int)}{x:List Int}{cs:List Value}(h32:∀k ∈ l,k.length=32)(hx:l[k]?=some x) :
 (bv (l.take k).flatten++cs.drop (k*32)).take (k*32)++bv x++(bv (l.take k).flatten++cs.drop (k*32)).drop (k*32+(bv x).length)=bv (l.take (k+1)).flatten++cs.drop ((k+1)*32):=by
 have hk:=(List.getElem?_eq_some_iff.1 hx).1;have hl:(bv (l.take k).flatten).length=k*32:=by
  rw[bL,Xc7 _ (fun y hy=>h32 y (List.mem_of_mem_take hy)),List.length_take];congr 1;omega
 have hxl:=h32 x (List.mem_of_getElem? hx);rw[List.take_left' hl,bL,hxl,show k*32+32=(bv (l.take k).flatten).length+32 by rw[hl],List.drop_length_add_append,List.drop_drop,Xgm hx,Xes,show k*32+32=(k+1)*32 by omega]
theorem twinK(A:Option Addr)(n c:Nat)(l:List (List Int))(z:List Int)(w:World)(S:Nat)
 (hx:KeysIn w S A n l) (hS:S≤w.heap.size) (hn:n≤1000000000) (hz:z.length=32) :
 Calls Tryz.prog 86 #[.slice A n c,.agg (bv z).toArray] w fun e w'=>∃g,e=.returned (.slice (some ⟨g,0,none⟩) n (n+3))∧w.heap.size≤g∧Row w' g 62 (bv l.flatten++keyRow 3 z)∧Below w.heap.size w w':=by
 have HX:=Hd hx;have HZ:=Hd hz;have RB:=Hd (Row.new w 62 (bv z));have hb0:Below w.heap.size w (w.alloc (Obj.cells (bv z).toArray 62)):=(Br _ _).alloc (Lr _) _;have HB0:=Hd hb0;have z0:(w.alloc (Obj.cells (bv z).toArray 62)).heap.size=w.heap.size+1:=by simp
 clear hx hb0;go_enter Tryz.func86,Tryz.ntmps86
 go_upto_region 1 with fail
 generalize (w.alloc (Obj.cells (bv z).toArray 62))=W at *;have ZW:=Hd z0;clear z0;go_wp2_with (first
  | (at_make;(obtain⟨i0,hi,hz0,hz1,hz2⟩:=info_parts Xtj);go_must(refine wpList_make_full _ rfl (.tmp 10) (.tmp 10) 26 rfl W.heap.size 62 i0 _ 32 Tryz.underlying26 hi hz0 hz1 .i64 .i64 _ _ (n+3) rfl rfl (by simp) (by simp) (by rw[hz2];omega) (by unfold maxLen;omega) (Lr _) ?_;intro w1 hown hgrow;have hrow:=Row.of_ownN hown;have hb1:=(Br W.heap.size W).grown hgrow (Lr _) (fun k hk=>by cases hk))))
 have hlen:=Xgx (.agg (zeros 32).toArray) ((n+3)*32);generalize (madeCells (Value.agg (zeros 32).toArray).cells ((n+3)*32)).toList=cs at *;have HL:=Hd hlen;have R:=Hd hrow;have RB1:=Hd (RB.out.below hb1 (by have:=ZW.out;omega));have HB1:=Hd (HB0.out.trans (hb1.mono (by have:=ZW.out;omega)));have HZ1:Hid (W.heap.size<w1.heap.size):=Hd hrow.lt;clear hlen hrow hown hgrow hb1 RB HB0;have lenl:=HX.out.len;go_loopw [6] (fun i wr=>∃k:Nat,k≤n∧i=.int .i64 k∧Row wr W.heap.size 62 (bv (l.take k).flatten++cs.drop (k*32))∧Below W.heap.size w1 wr) (fun i _=>n - (intOf i).toNat)
 case atStart=>exact⟨0,Nat.zero_le _,rfl,by simpa [bv,cv]using R.out,Br _ _⟩
 case round =>
 clear R;obtain⟨k,hk,rfl,hr,hb⟩:=hrel;have RR:=Hd hr;have HB:=Hd hb;clear hr hb;by_cases hlt:k<n
 ·obtain⟨a,x,rfl,hab,hxl,hat⟩:=HX.out.get hlt;have HX1:=Hd hxl;have HB2:=Hd (HB1.out.trans (HB.out.mono (by have:=ZW.out;omega)));have HAT:=Hd (hat.keep hab fun p hp=>HB2.out.cell (by omega));have HSZ:=Hd (Xeh hat.len);have HCL:Hid (k*32+(bv x).length≤(bv (l.take k).flatten++cs.drop (k*32)).length):=by
   have h1:=HL.out;have h2:(bv (l.take k).flatten).length=k*32:=by
    rw[bL,Xc7 _ (fun y hy=>HX.out.each y (List.mem_of_mem_take hy)),List.length_take];congr 1;omega
   refine Hd ?_;rw[List.length_append,h2,List.length_drop,bL,hat.len];omega
  clear hxl hat;go_wp2_with (first
   | ((with_reducible show wpList _ _ _ (⟨some 23,_,_,_,_,_⟩::_) _ _);go_must(refine Xa3 rfl 62 (.tmp 22) rfl (a.add (k*32)) (bv x) _ Tryz.underlying62 rfl HSZ.out HAT.out.cells ?_ ?_;go_simp))
   | ((with_reducible show wpList _ _ _ (⟨none,Op.store 62 _ _,_,_,_,_⟩::_) _ _);go_must(refine Xak rfl 62 (.tmp 24) (.tmp 23) rfl W.heap.size 62 (k*32) _ (bv x) RR.out HSZ.out HCL.out (Xbj x) ?_ ?_ ?_;go_simp;go_simp;intro w2 hr2 ht2;have HR2:=Hd hr2;have HT2:=Hd ht2;clear hr2 ht2)))
  go_roundw
  case rel =>
   refine⟨k+1,by omega,by go_num,?_,HB.out.trans (HT2.out.below (Lr _))⟩;have:=HR2.out;rwa [Xt3 HX.out.each HX1.out]at this
  case measure=>simp[intOf];omega
 ·obtain rfl:k=n:=by omega
  have R2:Hid (Row wr W.heap.size 62 (bv l.flatten++cs.drop (k*32))):=by
   have:=RR.out;rw[List.take_of_length_le (by omega)]at this;exact Hd this
  have HFL:Hid ((bv l.flatten).length=k*32):=Hd (by rw[bL,Xc7 l HX.out.each,HX.out.len]);clear RR;go_wp2_with fail;go_loopw [7] (fun i wr=>∃j:Nat,j≤3∧i=.int .i64 j∧Row wr W.heap.size 62 (bv l.flatten++(keyRow j z++(cs.drop (k*32)).drop (j*32)))∧Below W.heap.size w1 wr) (fun i _=>3 - (intOf i).toNat)
  case atStart=>exact⟨0,Nat.zero_le _,rfl,by simpa [keyRow]using R2.out,HB.out⟩
  case round =>
   clear R2 HB;obtain⟨j,hj,rfl,hr,hb⟩:=hrel;have RR:=Hd hr;have HB:=Hd hb;clear hr hb;by_cases hlt:j<3
   ·have HBX:=Hd (RB1.out.below HB.out (by have:=ZW.out;omega));have HCL:Hid ((k+j)*32+(bv z).length≤(bv l.flatten++(keyRow j z++(cs.drop (k*32)).drop (j*32))).length):=by
     have h1:=HL.out;have h2:=HFL.out;have h3:=Xgg j HZ.out;refine Hd ?_;rw[List.length_append,List.length_append,h2,h3,List.length_drop,List.length_drop,bL,HZ.out];omega
    go_wp2_with (first
     | ((with_reducible show wpList _ _ _ (⟨some 34,_,_,_,_,_⟩::_) _ _);go_must(refine Xa1 rfl 62 (.tmp 3) rfl w.heap.size 62 (bv z) _ Tryz.underlying62 rfl (Xeh HZ.out) HBX.out ?_ ?_;go_simp))
     | ((with_reducible show wpList _ _ _ (⟨none,Op.store 62 _ _,_,_,_,_⟩::_) _ _);go_must(refine Xak rfl 62 (.tmp 35) (.tmp 34) rfl W.heap.size 62 ((k+j)*32) _ (bv z) RR.out (Xeh HZ.out) HCL.out (Xbj z) ?_ ?_ ?_;go_simp;go_simp;intro w2 hr2 ht2;have HR2:=Hd hr2;have HT2:=Hd ht2;clear hr2 ht2)))
    go_roundw
    case rel =>
     refine⟨j+1,by omega,by go_num,?_,HB.out.trans (HT2.out.below (Lr _))⟩;have:=HR2.out;have e:=Xor (k:=j) HZ.out (bv l.flatten) (cs.drop (k*32)) (by have:=HL.out;rw[List.length_drop];omega);rw[HFL.out,←Nat.add_mul]at e;rwa [e]at this
    case measure=>simp[intOf];omega
   ·obtain rfl:j=3:=by omega
    have R3:Hid (Row wr W.heap.size 62 (bv l.flatten++keyRow 3 z)):=by
     have:=RR.out;rw[List.drop_of_length_le (by have:=HL.out;rw[List.length_drop];omega),List.append_nil]at this;exact Hd this
    clear RR;go_wp2_with fail;go_ret;exact⟨W.heap.size,rfl,by have:=ZW.out;omega,R3.out,HB1.out.trans (HB.out.mono (by have:=ZW.out;omega))⟩
def mk0:List Int:=[165,90,0,0,0,0,0,0,0,0,0,0,0,0,0,0,0,0,0,0,0,0,0,0,0,0,0,0,0,0,0,0]
theorem Xru:Tryz.prog.built 62 [(0,.int .u8 165),(1,.int .u8 90)]=some (bv mk0).toArray:=by kernel_rfl
theorem Xll(w:World):Calls Tryz.prog 74 #[] w fun e w'=>e=.returned (.agg (bv mk0).toArray)∧Below w.heap.size w w':=by
 go_enter Tryz.func74,Tryz.ntmps74
 go_wp2_with (first
  | ((with_reducible show wpList _ _ _ (⟨some 1,_,_,_,_,_⟩::_) _ _);go_must(refine wpList_plain rfl fun K hK=>Xae _ _ _ rfl (by simp only[List.map_toArray,List.map_cons,List.map_nil];exact Xru) (hK _ _ ?_)))
  | ((with_reducible show wpList _ _ _ (⟨none,Op.store 62 _ _,_,_,_,_⟩::_) _ _);go_must(refine Xa2 rfl 62 (.tmp 0) (.tmp 1) rfl (bv mk0) Xan (Xbj _) rfl ?_ ?_ ?_;go_simp;go_simp;intro w1 hr1 hb1 hz1;have HR1:=Hd hr1;have HB1:=Hd hb1;clear hr1 hb1)))
 refine bodyPost_ret (results_cell_row (h:=rfl) _ w1 w.heap.size 62 _ (0,0) _ (by rfl) HR1.out.is Tryz.underlying62 rfl Xan) rfl ?_;exact⟨rfl,HB1.out⟩
theorem Xtp(A:Option Addr)(n c:Nat)(l:List (List Int))(w:World)(S:Nat)(hx:KeysIn w S A n l)(hS:S≤w.heap.size)(hn:n≤1000000000) :
 Calls Tryz.prog 73 #[.slice A n c] w fun e w'=>∃g,e=.returned (.slice (some ⟨g,0,none⟩) n (n+3))∧w.heap.size≤g∧Row w' g 62 (bv l.flatten++keyRow 3 mk0)∧Below w.heap.size w w':=by
 have HX:=Hd hx;clear hx;go_enter Tryz.func73,Tryz.ntmps73
 go_wp2_with fail;refine(Xll w).mono ?_;rintro e w1 ⟨rfl,hb1⟩;have HB1:=Hd hb1;have HT:=Hd (twinK A n c l mk0 w1 w.heap.size ((HX.out.more hS).below HB1.out) HB1.out.size hn rfl);clear hb1;generalize hC:(bv mk0).toArray=C at *;go_wp2_with fail;rw[←hC];refine(hC ▸ HT.out).mono ?_;rintro e w2 ⟨g,rfl,hg,hr,hb⟩;have R:=Hd hr;clear hr;go_wp2_with fail;go_ret;exact⟨g,rfl,Lq HB1.out.size hg,R.out,HB1.out.trans (hb.mono HB1.out.size)⟩
theorem Xqa{j n:Nat}{z:List Int}(hz:z.length=32)(hj:j<n){i:Nat}{u:Value}(hu:(bv z)[i]?=some u):(keyRow n z)[j*32+i]?=some u:=by
 unfold keyRow;have hl:∀(i:Nat) y,(List.replicate n (bv z))[i]?=some y→y.length=32:=fun i y hy=>by
  have:=List.eq_of_mem_replicate (List.mem_of_getElem? hy);rw[this,bL,hz]
 exact Xbl 32 (List.replicate n (bv z)) j (bv z) hl (by rw[List.getElem?_replicate_of_lt hj]) i u hu
theorem leftK(g:Nat)(B:Option Addr)(n d:Nat)(l:List (List Int))(z:List Int)(w:World)(S:Nat)
 (hr:Row w g 62 (bv l.flatten++keyRow 3 z)) (hy:KeysIn w S B n l) (hS:S≤w.heap.size) (hn:n≤1000000000) (hz:z.length=32) :
 Calls Tryz.prog 89 #[.slice (some ⟨g,0,none⟩) n (n+3),.slice B n d,.agg (bv z).toArray] w fun e w'=>e=.returned (.bool true)∧Below w.heap.size w w':=by
 have hb0:Below w.heap.size w (w.alloc (Obj.cells (bv z).toArray 62)):=(Br _ _).alloc (Lr _) _;have RB:=Hd (Row.new w 62 (bv z));have R:=Hd (hr.alloc (Obj.cells (bv z).toArray 62));have HB0:=Hd hb0;have hlen:=hy.len;have h32:=hy.each;have HFL:Hid ((bv l.flatten).length=n*32):=Hd (by rw[bL,Xc7 l h32,hlen]);have HK:=Hd (Xki (some ⟨g,0,none⟩) B n (n+3) d l _ w.heap.size w.heap.size (Xtr R.out hlen h32 hr.lt) ((hy.more hS).below hb0) (by unfold maxLen;omega));have NQ:=fun w=>Xh3 Tryz.underlying62 z hz w
 have HZ:=Hd hz;clear hr hy hb0 h32 hlen;go_enter Tryz.func89,Tryz.ntmps89
 go_upto_region 1 with fail
 generalize (w.alloc (Obj.cells (bv z).toArray 62))=W at *;go_wp2_with fail;refine HK.out.mono ?_;rintro e w1 ⟨rfl,k,rfl⟩;go_wp2_with fail;go_loopw [8] (fun i wr=>∃j q:Nat,j≤3∧i=.int .i64 j∧wr=W.drewN q) (fun i _=>3 - (intOf i).toNat)
 case atStart=>exact⟨0,k,Nat.zero_le _,rfl,rfl⟩
 case round =>
  obtain⟨j,q,hj,rfl,rfl⟩:=hrel;by_cases hlt:j<3
  ·have CA:=Hd (show ∀i u,(bv z)[i]?=some u→W.cell? ((⟨g,(n+j)*32,none⟩:Addr).add i)=some u from fun i u hu=>by
    rw[Xa5,R.out.cell,List.getElem?_append_right (by rw[HFL.out];omega),HFL.out,show(n+j)*32+i - n*32=j*32+i by omega];exact Xqa HZ.out hlt hu)
   have CB:=Hd (show ∀i u,(bv z)[i]?=some u→W.cell? ((⟨w.heap.size,0,none⟩:Addr).add i)=some u from fun i u hu=>by
    rw[Xa5,RB.out.cell,Nat.zero_add];exact hu)
   have HSZ:=Hd (Xeh HZ.out);generalize bv z=X at *;go_wp2;refine wp_region_quiet_lit (by kernel_rfl) (by kernel_rfl) ?_;repeat (first
    | ((with_reducible show wpQuiet _ _ _ _ (⟨some 36,_,_,_,_,_⟩::_) _);go_must(refine Xai (by kernel_rfl) 62 (.tmp 35) rfl ⟨g,(n+j)*32,none⟩ X _ Tryz.underlying62 rfl HSZ.out (by rintro _ ⟨nq,rfl⟩;exact CA.out) ?_ ?_;go_simp;go_simp))
    | ((with_reducible show wpQuiet _ _ _ _ (⟨some 37,_,_,_,_,_⟩::_) _);go_must(refine Xai (by kernel_rfl) 62 (.tmp 5) rfl ⟨w.heap.size,0,none⟩ X _ Tryz.underlying62 rfl HSZ.out (by rintro _ ⟨nq,rfl⟩;exact CB.out) ?_ ?_;go_simp;go_simp))
    | go_big_quiet_step (fail))
   refine wpQuiet_nil ?_;intro nq;go_wp2;go_roundw
   case rel=>exact⟨j+1,q+nq,by omega,by go_num,by simp⟩
   case measure=>simp[intOf];omega
  ·go_wp2;go_ret;exact⟨rfl,below_drewN HB0.out q⟩
theorem Xso(g:Nat)(B:Option Addr)(n d:Nat)(l:List (List Int))(w:World)(S:Nat)
 (hr:Row w g 62 (bv l.flatten++keyRow 3 mk0)) (hy:KeysIn w S B n l) (hS:S≤w.heap.size) (hn:n≤1000000000) :
 Calls Tryz.prog 85 #[.slice (some ⟨g,0,none⟩) n (n+3),.slice B n d] w fun e w'=>e=.returned (.bool true)∧Below w.heap.size w w':=by
 have HX:=Hd hy;have R:=Hd hr;clear hy hr;go_enter Tryz.func85,Tryz.ntmps85
 go_wp2_with fail;refine(Xll w).mono ?_;rintro e w1 ⟨rfl,hb1⟩;have HB1:=Hd hb1;have HT:=Hd (leftK g B n d l mk0 w1 w.heap.size (R.out.below HB1.out R.out.lt) ((HX.out.more hS).below HB1.out) HB1.out.size hn rfl);clear hb1;generalize hC:(bv mk0).toArray=C at *;go_wp2_with fail;rw[←hC];refine(hC ▸ HT.out).mono ?_;rintro e w2 ⟨rfl,hb⟩;go_wp2_with fail;go_ret;exact⟨rfl,HB1.out.trans (hb.mono HB1.out.size)⟩
theorem csSetR{k:Nat}{l:List (List Value)}{x:List Value}{cs:List Value}(h:∀k ∈ l,k.length=34)(hx:l[k]?=some x) :
 ((l.take k).flatten++cs.drop (k*34)).take (k*34)++x++((l.take k).flatten++cs.drop (k*34)).drop (k*34+x.length)=(l.take (k+1)).flatten++cs.drop ((k+1)*34):=by
 have hk:=(List.getElem?_eq_some_iff.1 hx).1;have hl:(l.take k).flatten.length=k*34:=by
  rw[Xc3 (sz:=34) (fun y hy=>h y (List.mem_of_mem_take hy)),List.length_take];congr 1;omega
 have hxl:=h x (List.mem_of_getElem? hx);rw[List.take_left' hl,hxl,show k*34+34=(l.take k).flatten.length+34 by rw[hl],List.drop_length_add_append,List.drop_drop,List.take_add_one,hx,List.flatten_append,show k*34+34=(k+1)*34 by omega];simp
theorem sameR(A B:Option Addr)(n c d:Nat)(l:List (List Value))(w:World)(S T:Nat)(hx:CsIn 34 w S A n l)(hy:CsIn 34 w T B n l)(ho:∀k ∈ l,IsR k)(hn:n≤maxLen) :
 Calls Tryz.prog 64 #[.slice A n c,.slice B n d] w fun e w'=>e=.returned (.bool true)∧∃k,w'=w.drewN k:=by
 unfold maxLen at hn;have HX:=Hd hx;have HY:=Hd hy;have HO:=Hd ho;clear hx hy ho;go_enter Tryz.func64,Tryz.ntmps64
 go_wp2;go_loopw [5] (fun i wr=>∃k j:Nat,k≤n∧i=.int .i64 k∧wr=w.drewN j) (fun i _=>n - (intOf i).toNat)
 case atStart=>exact⟨0,0,Nat.zero_le _,rfl,rfl⟩
 case round =>
  obtain⟨k,j,hk,rfl,rfl⟩:=hrel;by_cases hlt:k<n
  ·obtain⟨a,x,rfl,ha,hxl,_,ca⟩:=HX.out.get hlt (by omega);obtain⟨b,y,rfl,hb,hyl,_,cb⟩:=HY.out.get hlt (by omega);obtain rfl:x=y:=by rw[hxl]at hyl;exact Option.some.inj hyl
   have hxo:=HO.out x (List.mem_of_getElem? hxl);have NQ:=fun w=>hxo.neq w
   have HSZ:=Hd hxo.size;have CA:=Hd ca;have CB:=Hd cb;clear ca cb hxl hyl hxo;go_wp2;refine wp_region_quiet_lit (by kernel_rfl) (by kernel_rfl) ?_;repeat (first
    | ((with_reducible show wpQuiet _ _ _ _ (⟨some 20,_,_,_,_,_⟩::_) _);go_must(refine Xai (by kernel_rfl) 93 (.tmp 19) rfl (a.add (k*34)) x _ Tryz.underlying93 rfl HSZ.out (by rintro _ ⟨nq,rfl⟩;exact CA.out) ?_ ?_;go_simp;go_simp))
    | ((with_reducible show wpQuiet _ _ _ _ (⟨some 24,_,_,_,_,_⟩::_) _);go_must(refine Xai (by kernel_rfl) 93 (.tmp 23) rfl (b.add (k*34)) x _ Tryz.underlying93 rfl HSZ.out (by rintro _ ⟨nq,rfl⟩;exact CB.out) ?_ ?_;go_simp;go_simp))
    | go_big_quiet_step (fail))
   refine wpQuiet_nil ?_;intro nq;go_wp2;go_roundw
   case rel=>exact⟨k+1,j+nq,by omega,by go_num,by simp⟩
   case measure=>simp[intOf];omega
  ·go_wp2;go_ret;exact⟨rfl,j,rfl⟩
theorem twinR(A:Option Addr)(n c:Nat)(l:List (List Value))(z:List Value)(w:World)(S:Nat)
 (hx:CsIn 34 w S A n l) (ho:∀k ∈ l,IsR k) (hS:S≤w.heap.size) (hn:n≤1000000000) (hz:IsR z) :
 Calls Tryz.prog 48 #[.slice A n c,.agg z.toArray] w fun e w'=>∃g,e=.returned (.slice (some ⟨g,0,none⟩) n (n+3))∧w.heap.size≤g∧Row w' g 93 (l.flatten++rowOf 3 z)∧Below w.heap.size w w':=by
 have HX:=Hd hx;have HO:=Hd ho;have HZ:=Hd hz;have RB:=Hd (Row.new w 93 z);have hb0:Below w.heap.size w (w.alloc (Obj.cells z.toArray 93)):=(Br _ _).alloc (Lr _) _;have HB0:=Hd hb0;have z0:(w.alloc (Obj.cells z.toArray 93)).heap.size=w.heap.size+1:=by simp
 clear hx hb0 ho;go_enter Tryz.func48,Tryz.ntmps48
 go_upto_region 1 with fail
 generalize (w.alloc (Obj.cells z.toArray 93))=W at *;have ZW:=Hd z0;clear z0;go_wp2_with (first
  | (at_make;(obtain⟨i0,hi,hz0,hz1,hz2⟩:=info_parts infoR);go_must(refine wpList_make_full _ rfl (.tmp 10) (.tmp 10) 35 rfl W.heap.size 93 i0 _ 34 Tryz.underlying35 hi hz0 hz1 .i64 .i64 _ _ (n+3) rfl rfl (by simp) (by simp) (by rw[hz2];omega) (by unfold maxLen;omega) (Lr _) ?_;intro w1 hown hgrow;have hrow:=Row.of_ownN hown;have hb1:=(Br W.heap.size W).grown hgrow (Lr _) (fun k hk=>by cases hk))))
 have hlen:=Xgx zR ((n+3)*34);generalize (madeCells zR.cells ((n+3)*34)).toList=cs at *;have HL:=Hd hlen;have R:=Hd hrow;have RB1:=Hd (RB.out.below hb1 (by have:=ZW.out;omega));have HB1:=Hd (HB0.out.trans (hb1.mono (by have:=ZW.out;omega)));have HZ1:Hid (W.heap.size<w1.heap.size):=Hd hrow.lt;clear hlen hrow hown hgrow hb1 RB HB0;have lenl:=HX.out.len;go_loopw [6] (fun i wr=>∃k:Nat,k≤n∧i=.int .i64 k∧Row wr W.heap.size 93 ((l.take k).flatten++cs.drop (k*34))∧Below W.heap.size w1 wr) (fun i _=>n - (intOf i).toNat)
 case atStart=>exact⟨0,Nat.zero_le _,rfl,by simpa using R.out,Br _ _⟩
 case round =>
 clear R;obtain⟨k,hk,rfl,hr,hb⟩:=hrel;have RR:=Hd hr;have HB:=Hd hb;clear hr hb;by_cases hlt:k<n
 ·obtain⟨a,x,rfl,hab,hxl,hxn,hat⟩:=HX.out.get hlt (by omega);have HX1:=Hd hxl;have HB2:=Hd (HB1.out.trans (HB.out.mono (by have:=ZW.out;omega)));have HAT:Hid (∀j u,x[j]?=some u→wr.cell? ((a.add (k*34)).add j)=some u):=Hd fun j u hu=>(HB2.out.cell (by rw[Xad,Xad];omega)).trans (hat j u hu)
  have HXO:=Hd (HO.out x (List.mem_of_getElem? hxl));have HSZ:=Hd HXO.out.size;have HCL:Hid (k*34+x.length≤((l.take k).flatten++cs.drop (k*34)).length):=by
   have h1:=HL.out;have h2:((l.take k).flatten).length=k*34:=by
    rw[Xc3 (sz:=34) (fun y hy=>HX.out.each y (List.mem_of_mem_take hy)),List.length_take];congr 1;omega
   refine Hd ?_;rw[List.length_append,h2,List.length_drop,hxn];omega
  clear hxl hat hxn;go_wp2_with (first
   | ((with_reducible show wpList _ _ _ (⟨some 23,_,_,_,_,_⟩::_) _ _);go_must(refine Xa3 rfl 93 (.tmp 22) rfl (a.add (k*34)) x _ Tryz.underlying93 rfl HSZ.out HAT.out ?_ ?_;go_simp))
   | ((with_reducible show wpList _ _ _ (⟨none,Op.store 93 _ _,_,_,_,_⟩::_) _ _);go_must(refine Xak rfl 93 (.tmp 24) (.tmp 23) rfl W.heap.size 93 (k*34) _ x RR.out HSZ.out HCL.out HXO.out.one ?_ ?_ ?_;go_simp;go_simp;intro w2 hr2 ht2;have HR2:=Hd hr2;have HT2:=Hd ht2;clear hr2 ht2)))
  go_roundw
  case rel =>
   refine⟨k+1,by omega,by go_num,?_,HB.out.trans (HT2.out.below (Lr _))⟩;have:=HR2.out;rwa [csSetR HX.out.each HX1.out]at this
  case measure=>simp[intOf];omega
 ·obtain rfl:k=n:=by omega
  have R2:Hid (Row wr W.heap.size 93 (l.flatten++cs.drop (k*34))):=by
   have:=RR.out;rw[List.take_of_length_le (by omega)]at this;exact Hd this
  have HFL:Hid ((l.flatten).length=k*34):=Hd (by rw[Xc3 HX.out.each,HX.out.len]);clear RR;go_wp2_with fail;go_loopw [7] (fun i wr=>∃j:Nat,j≤3∧i=.int .i64 j∧Row wr W.heap.size 93 (l.flatten++(rowOf j z++(cs.drop (k*34)).drop (j*34)))∧Below W.heap.size w1 wr) (fun i _=>3 - (intOf i).toNat)
  case atStart=>exact⟨0,Nat.zero_le _,rfl,by simpa [rowOf]using R2.out,HB.out⟩
  case round =>
   clear R2 HB;obtain⟨j,hj,rfl,hr,hb⟩:=hrel;have RR:=Hd hr;have HB:=Hd hb;clear hr hb;by_cases hlt:j<3
   ·have HBX:=Hd (RB1.out.below HB.out (by have:=ZW.out;omega));have HCL:Hid ((k+j)*34+z.length≤(l.flatten++(rowOf j z++(cs.drop (k*34)).drop (j*34))).length):=by
     have h1:=HL.out;have h2:=HFL.out;have h3:=Xbo j HZ.out.len;refine Hd ?_;rw[List.length_append,List.length_append,h2,h3,List.length_drop,List.length_drop,HZ.out.len];omega
    go_wp2_with (first
     | ((with_reducible show wpList _ _ _ (⟨some 34,_,_,_,_,_⟩::_) _ _);go_must(refine Xa1 rfl 93 (.tmp 3) rfl w.heap.size 93 z _ Tryz.underlying93 rfl HZ.out.size HBX.out ?_ ?_;go_simp))
     | ((with_reducible show wpList _ _ _ (⟨none,Op.store 93 _ _,_,_,_,_⟩::_) _ _);go_must(refine Xak rfl 93 (.tmp 35) (.tmp 34) rfl W.heap.size 93 ((k+j)*34) _ z RR.out HZ.out.size HCL.out HZ.out.one ?_ ?_ ?_;go_simp;go_simp;intro w2 hr2 ht2;have HR2:=Hd hr2;have HT2:=Hd ht2;clear hr2 ht2)))
    go_roundw
    case rel =>
     refine⟨j+1,by omega,by go_num,?_,HB.out.trans (HT2.out.below (Lr _))⟩;have:=HR2.out;have e:=Xur (k:=j) HZ.out.len (l.flatten) (cs.drop (k*34)) (by have:=HL.out;rw[List.length_drop];omega);rw[HFL.out,←Nat.add_mul]at e;rwa [e]at this
    case measure=>simp[intOf];omega
   ·obtain rfl:j=3:=by omega
    have R3:Hid (Row wr W.heap.size 93 (l.flatten++rowOf 3 z)):=by
     have:=RR.out;rw[List.drop_of_length_le (by have:=HL.out;rw[List.length_drop];omega),List.append_nil]at this;exact Hd this
    clear RR;go_wp2_with fail;go_ret;exact⟨W.heap.size,rfl,by have:=ZW.out;omega,R3.out,HB1.out.trans (HB.out.mono (by have:=ZW.out;omega))⟩
theorem leftR(g:Nat)(B:Option Addr)(n d:Nat)(l:List (List Value))(z:List Value)(w:World)(S:Nat)
 (hr:Row w g 93 (l.flatten++rowOf 3 z)) (hy:CsIn 34 w S B n l) (ho:∀k ∈ l,IsR k) (hS:S≤w.heap.size) (hn:n≤1000000000) (hz:IsR z) :
 Calls Tryz.prog 68 #[.slice (some ⟨g,0,none⟩) n (n+3),.slice B n d,.agg z.toArray] w fun e w'=>e=.returned (.bool true)∧Below w.heap.size w w':=by
 have hb0:Below w.heap.size w (w.alloc (Obj.cells z.toArray 93)):=(Br _ _).alloc (Lr _) _;have RB:=Hd (Row.new w 93 z);have R:=Hd (hr.alloc (Obj.cells z.toArray 93));have HB0:=Hd hb0;have hlen:=hy.len;have h64:=hy.each;have HFL:Hid ((l.flatten).length=n*34):=Hd (by rw[Xc3 h64,hlen]);have HK:=Hd (sameR (some ⟨g,0,none⟩) B n (n+3) d l _ w.heap.size w.heap.size (Xh0 R.out hlen h64 hr.lt) ((hy.more hS).below hb0) ho (by unfold maxLen;omega));have NQ:=fun w=>hz.neq w
 have HZ:=Hd hz;clear hr hy hb0 h64 hlen ho;go_enter Tryz.func68,Tryz.ntmps68
 go_upto_region 1 with fail
 generalize (w.alloc (Obj.cells z.toArray 93))=W at *;go_wp2_with fail;refine HK.out.mono ?_;rintro e w1 ⟨rfl,k,rfl⟩;go_wp2_with fail;go_loopw [8] (fun i wr=>∃j q:Nat,j≤3∧i=.int .i64 j∧wr=W.drewN q) (fun i _=>3 - (intOf i).toNat)
 case atStart=>exact⟨0,k,Nat.zero_le _,rfl,rfl⟩
 case round =>
  obtain⟨j,q,hj,rfl,rfl⟩:=hrel;by_cases hlt:j<3
  ·have CA:=Hd (show ∀i u,z[i]?=some u→W.cell? ((⟨g,(n+j)*34,none⟩:Addr).add i)=some u from fun i u hu=>by
    rw[Xa5,R.out.cell,List.getElem?_append_right (by rw[HFL.out];omega),HFL.out,show(n+j)*34+i - n*34=j*34+i by omega];exact Xf1 HZ.out.len hlt hu)
   have CB:=Hd (show ∀i u,z[i]?=some u→W.cell? ((⟨w.heap.size,0,none⟩:Addr).add i)=some u from fun i u hu=>by
    rw[Xa5,RB.out.cell,Nat.zero_add];exact hu)
   have HSZ:=Hd HZ.out.size;go_wp2;refine wp_region_quiet_lit (by kernel_rfl) (by kernel_rfl) ?_;repeat (first
    | ((with_reducible show wpQuiet _ _ _ _ (⟨some 36,_,_,_,_,_⟩::_) _);go_must(refine Xai (by kernel_rfl) 93 (.tmp 35) rfl ⟨g,(n+j)*34,none⟩ z _ Tryz.underlying93 rfl HSZ.out (by rintro _ ⟨nq,rfl⟩;exact CA.out) ?_ ?_;go_simp;go_simp))
    | ((with_reducible show wpQuiet _ _ _ _ (⟨some 37,_,_,_,_,_⟩::_) _);go_must(refine Xai (by kernel_rfl) 93 (.tmp 5) rfl ⟨w.heap.size,0,none⟩ z _ Tryz.underlying93 rfl HSZ.out (by rintro _ ⟨nq,rfl⟩;exact CB.out) ?_ ?_;go_simp;go_simp))
    | go_big_quiet_step (fail))
   refine wpQuiet_nil ?_;intro nq;go_wp2;go_roundw
   case rel=>exact⟨j+1,q+nq,by omega,by go_num,by simp⟩
   case measure=>simp[intOf];omega
  ·go_wp2;go_ret;exact⟨rfl,below_drewN HB0.out q⟩
theorem Xq9{r:LRole}(h:r.key.length=32):IsR r.cells:=⟨Xc5 h,Xcy r,fun w=>by rw[Xsn h h];simp,Xce h⟩
theorem Xpc{l:List Value}(hl:l.length=32):∃f:Fin 32→Value,l=List.ofFn f:=⟨fun i=>l.getD i undef,by
 refine List.ext_getElem (by simpa using hl) fun i h1 h2=>?_
 rw[List.getElem_ofFn,List.getD_eq_getElem?_getD,List.getElem?_eq_getElem h1];rfl⟩
theorem Xlo{l:List Value}(hl:l.length=32)(b:Bool):Tryz.prog.built 93 [(0,.agg l.toArray),(1,.bool b)]=some (l++[Value.bool b,.bool false]).toArray:=by
 obtain⟨f,rfl⟩:=Xpc hl;kernel_rfl
theorem Xiu{l:List LRole}(h:∀r ∈ l,RoleOk r):∀k ∈ l.map LRole.cells,IsR k:=fun k hk=>by
 obtain⟨r,hr,rfl⟩:=List.mem_map.1 hk;exact Xq9 (h r hr).1
def mkR:LRole:=⟨mk0,true,false⟩
theorem Xkk:IsR mkR.cells:=Xq9 (by decide:mkR.key.length=32)
theorem Xm5(w:World):Calls Tryz.prog 49 #[] w fun e w'=>e=.returned (.agg mkR.cells.toArray)∧Below w.heap.size w w':=by
 have rz:Row (w.alloc (.cells r0.cells.toArray 93)) w.heap.size 93 r0.cells:=Row.new _ _ _;have hb0:Below w.heap.size w (w.alloc (.cells r0.cells.toArray 93)):=(Br _ _).alloc (Lr _) _;have RZ:=Hd rz;have HB0:=Hd hb0;have hX:∀c,c=r0.cells.toArray→w.alloc (.cells c 93)=w.alloc (.cells r0.cells.toArray 93):=by rintro _ rfl;rfl
 obtain⟨W,hW⟩:∃W,W=w.alloc (.cells r0.cells.toArray 93):=⟨_,rfl⟩;rw[←hW]at RZ HB0 hX;have HX:=Hd hX;clear rz hb0 hX hW;go_enter Tryz.func49,Tryz.ntmps49
 go_upto_region 1 with fail
 rw[HX.out];rotate_left
 ·kernel_rfl
 clear HX;go_wp2_with fail;refine(Xll W).mono ?_;rintro e w1 ⟨rfl,hb1⟩;have R1:=Hd (RZ.out.below hb1 RZ.out.lt);have B1:=Hd (HB0.out.trans (hb1.mono HB0.out.size));clear hb1 HB0 RZ;go_wp2_with (first
  | ((with_reducible show wpList _ _ _ (⟨some 2,_,_,_,_,_⟩::_) _ _);go_must(refine wpList_plain rfl fun K hK=>Xae _ _ _ rfl (by simp only[List.map_toArray,List.map_cons,List.map_nil];exact Xlo (l:=bv mk0) (by decide) _) (hK _ _ ?_)))
  | ((with_reducible show wpList _ _ _ (⟨none,Op.store 93 _ _,_,_,_,_⟩::_) _ _);go_must(refine Xab rfl 93 (.tmp 0) (.tmp 2) rfl w.heap.size r0.cells mkR.cells R1.out Xkk.size (by decide) Xkk.one ?_ ?_ ?_;go_simp;(go_simp;rfl);intro w3 hr3 ht3;have R3:=Hd hr3;have T3:=Hd ht3;clear hr3 ht3)))
 refine bodyPost_ret (results_cell_row (h:=rfl) _ w3 w.heap.size 93 _ (0,0) _ (by rfl) R3.out.is Tryz.underlying93 rfl Xkk.size) rfl ?_;exact⟨rfl,B1.out.trans (T3.out.below (Lr _))⟩
theorem Xp7(A:Option Addr)(n c B:Nat)(l:List LRole)(w:World)(hx:RolesIn w B A n l)(hB:B≤w.heap.size)(hn:n≤1000000) :
 Calls Tryz.prog 21 #[.slice A n c] w fun e w'=>∃g,e=.returned (.slice (some ⟨g,0,none⟩) n (n+3))∧w.heap.size≤g∧Row w' g 93 ((l.map LRole.cells).flatten++rowOf 3 mkR.cells)∧Below w.heap.size w w':=by
 have HX:=Hd hx;clear hx;go_enter Tryz.func21,Tryz.ntmps21
 go_wp2_with fail;refine(Xm5 _).mono ?_;rintro e w1 ⟨rfl,hb1⟩;have H:=Hd (twinR A n c (l.map LRole.cells) mkR.cells w1 B (HX.out.cs.below (hb1.mono hB)) (Xiu HX.out.ok) (Lq hB hb1.size) (by omega) Xkk);have B1:=Hd hb1;clear hb1;go_wp2_with fail;refine H.out.mono ?_;rintro e w2 ⟨g,rfl,hg,hr,hb2⟩;have R2:=Hd hr;have HG:=Hd (Lq B1.out.size hg);have B2:=Hd (B1.out.trans (hb2.mono B1.out.size));clear hr hb2 hg;go_wp2_with fail;go_ret;exact⟨g,rfl,HG.out,R2.out,B2.out⟩
theorem Xri(g:Nat)(A:Option Addr)(n d B:Nat)(l:List LRole)(w:World)(hr:Row w g 93 ((l.map LRole.cells).flatten++rowOf 3 mkR.cells))(hx:RolesIn w B A n l)(hB:B≤w.heap.size)(hn:n≤1000000) :
 Calls Tryz.prog 36 #[.slice (some ⟨g,0,none⟩) n (n+3),.slice A n d] w fun e w'=>e=.returned (.bool true)∧Below w.heap.size w w':=by
 have HX:=Hd hx;have HR:=Hd hr;clear hx hr;go_enter Tryz.func36,Tryz.ntmps36
 go_wp2_with fail;refine(Xm5 _).mono ?_;rintro e w1 ⟨rfl,hb1⟩;have H:=Hd (leftR g A n d (l.map LRole.cells) mkR.cells w1 B (HR.out.below hb1 HR.out.lt) (HX.out.cs.below (hb1.mono hB)) (Xiu HX.out.ok) (Lq hB hb1.size) (by omega) Xkk);have B1:=Hd hb1;clear hb1;generalize mkR.cells=M at *;go_wp2_with fail;refine H.out.mono ?_;rintro e w2 ⟨rfl,hb2⟩;have B2:=Hd (B1.out.trans (hb2.mono B1.out.size));clear hb2;go_wp2_with fail;go_ret;exact⟨rfl,B2.out⟩
structure IsAc(h:List Value):Prop where
 len:h.length=34
 one:∀u ∈ h,u.oneCell'=true
 neq:∀w,(binOp .neq 69 (.agg h.toArray) (.agg h.toArray)).run Tryz.prog w=.ok (.bool false) w
 size:(Tryz.prog.info? 69).map (·.size)=some h.length
theorem Xt9{k:Nat}{z:List Value}(hz:z.length=34)(xs ys:List Value)(hys:(k+1)*34≤ys.length) :
 (xs++(rowOf k z++ys.drop (k*34))).take (xs.length+k*34)++z++(xs++(rowOf k z++ys.drop (k*34))).drop (xs.length+k*34+z.length)=xs++(rowOf (k+1) z++ys.drop ((k+1)*34)):=by
 have hl:=Xbo k hz;have hl2:(xs++rowOf k z).length=xs.length+k*34:=by rw[List.length_append,hl]
 have e2:xs.length+k*34+z.length=(xs++rowOf k z).length+34:=by rw[hl2,hz]
 rw[←List.append_assoc,List.take_left' hl2,e2,List.drop_length_add_append,List.drop_drop,Xg8,show k*34+34=(k+1)*34 by omega];simp only[List.append_assoc]
end Go.Proofs.YtaljfbbieefooaaGreatDoor
