import Derived.Test.YtdgbodljmdcagaaGreatDoorQ7
import Derived.Defers
import Derived.Deep.DeepCutAuto
set_option maxRecDepth 100000
set_option maxHeartbeats 16000000
set_option linter.unusedSimpArgs false
set_option linter.unusedVariables false
namespace Go.Proofs.YtdgbodljmdcagaaGreatDoor
open Go.RowKit
structure TxV(w:World)(lo hi:Nat)(s:TRaw)(x:LTx):Prop where
 short:x.sigs.length≤65535
 is:∃mid,lo≤mid∧mid≤hi∧SigsV w lo mid (.slice s.SA s.sn s.sc) x.sigs∧MsgV w mid hi s.q x.m
theorem SigsV.stay{w w':World}{lo hi:Nat}{v:Value}{l:List (List Int)}(h:SigsV w lo hi v l)(hk:∀k,lo≤k→k<hi→w'.heap[k]?=w.heap[k]?):SigsV w' lo hi v l:=by
 refine⟨⟨h.own.1,?_⟩,h.lt,h.each⟩;rcases h.own.2 with h2 | ⟨g,cap,cur,hv,hg,hh,r⟩
 ·exact .inl h2
 ·exact .inr ⟨g,cap,cur,hv,hg,(hk g hg (h.lt g (by rw[hv];rfl))).trans hh,r⟩
theorem SigsV.form{w:World}{lo hi:Nat}{v:Value}{l:List (List Int)}(h:SigsV w lo hi v l):∃A c,v=.slice A l.length c:=by
 rcases h.own.2 with⟨rfl,h2⟩ | ⟨g,cap,cur,rfl,_⟩
 ·exact⟨_,_,by rw[h2]⟩
 ·exact⟨_,_,rfl⟩
theorem SigsV.in_{w:World}{lo hi:Nat}{A:Option Addr}{n c:Nat}{l:List (List Int)}(h:SigsV w lo hi (.slice A n c) l):SigsIn w hi A n l∧n≤c∧c≤maxLen:=by
 obtain⟨A',c',e⟩:=h.form;cases e
 refine⟨⟨rfl,h.each,⟨by rw[bL,Xde l h.each],fun i u hu=>?_⟩⟩,Xk3 h.own⟩;obtain⟨g,rfl,h1,h2,h3,h4⟩:=Xfj h.own hu;exact⟨_,rfl,h.lt g h1,by rw[Xa5,Nat.zero_add];exact h4⟩
theorem TxV.in_{w:World}{lo hi:Nat}{s:TRaw}{x:LTx}(h:TxV w lo hi s x):TxIn w hi s x:=by
 obtain⟨mid,h1,h2,h3,h4⟩:=h.is;obtain⟨h5,h6⟩:=h3.in_;exact⟨h5.more h2,h6,h4.in_⟩
theorem TxV.stay{w w':World}{lo hi:Nat}{s:TRaw}{x:LTx}(h:TxV w lo hi s x)(hz:w.heap.size≤w'.heap.size)(hk:∀k,lo≤k→k<hi→w'.heap[k]?=w.heap[k]?):TxV w' lo hi s x:=by
 obtain⟨mid,h1,h2,h3,h4⟩:=h.is;exact⟨h.short,mid,h1,h2,h3.stay fun k a b=>hk k a (by omega),h4.stay hz fun k a b=>hk k (by omega) b⟩
theorem TxV.more{w:World}{lo hi hi':Nat}{s:TRaw}{x:LTx}(h:TxV w lo hi s x)(hh:hi≤hi'):TxV w lo hi' s x:=by
 obtain⟨mid,h1,h2,h3,h4⟩:=h.is;exact⟨h.short,mid,h1,by omega,h3,h4.more hh⟩
def GetTxDone(w:World)(zs:List Int)(e:Ending)(w':World):Prop:=
 (∃x r s lo,pTx zs=.ok (x,r)∧e=.returned (.tuple #[.agg (TRaw.cells s x).toArray,.int .i64 ((zs.length:Int) - r.length),.int .i64 0])∧w.heap.size≤lo∧TxV w' lo w'.heap.size s x∧Below w.heap.size w w') ∨
 (∃c,pTx zs=.error c∧e=.returned (.tuple #[.agg tzero.toArray,.int .i64 0,.int .i64 c])∧Below w.heap.size w w')
theorem Xw2:(Tryz.prog.info? 201).map (·.size)=some 41:=by kernel_rfl
theorem Xpe{sg rest:Value}{ms:List Value}(h:ms.length=39):(rcells sg ms rest).length=41:=by simp[rcells,h]
theorem Xp1{A B:Option Addr}{n c m d:Nat}{ms:List Value}(h:∀u ∈ ms,u.oneCell'=true):∀u ∈ rcells (.slice A n c) ms (.slice B m d),u.oneCell'=true:=by
 intro u hu;simp only[rcells,List.mem_cons,List.mem_append,List.not_mem_nil,or_false]at hu;rcases hu with rfl | hu | rfl
 ·rfl
 ·exact h u hu
 ·rfl
section
variable{P:Program}
theorem Xbq{fn:Func}{p0 p1 p2:Tmp}{t0:TypeId}(h:fn.results=#[.cell p0 t0,.tmp p1,.tmp p2])(tmps:Array Value)(w:World)(a0:Addr)(v0 v1 v2:Value)
 (h0:tmps.getD p0 undef=.pointer (some a0)) (h1:tmps.getD p1 undef=v1) (h2:tmps.getD p2 undef=v2)
 (l0:(loadVar t0 a0).run P w=.ok v0 w) :
 (results fn tmps).run P w=.ok (.tuple #[v0,v1,v2]) w:=by
 have h0':tmps[p0]?.getD undef=.pointer (some a0):=by simpa using h0
 have h1':tmps[p1]?.getD undef=v1:=by simpa using h1
 have h2':tmps[p2]?.getD undef=v2:=by simpa using h2
 simp[results,h,h0',h1',h2',asAddr,l0]
theorem Xaf{fn:Func}{p0 p1:Tmp}{t0:TypeId}(h:fn.results=#[.cell p0 t0,.tmp p1])(tmps:Array Value)(w:World)(a0:Addr)(v0 v1:Value)
 (h0:tmps.getD p0 undef=.pointer (some a0)) (h1:tmps.getD p1 undef=v1)
 (l0:(loadVar t0 a0).run P w=.ok v0 w) :
 (results fn tmps).run P w=.ok (.tuple #[v0,v1]) w:=by
 have h0':tmps[p0]?.getD undef=.pointer (some a0):=by simpa using h0
 have h1':tmps[p1]?.getD undef=v1:=by simpa using h1
 simp[results,h,h0',h1',asAddr,l0]
end
theorem gettx_(A:Option Addr)(n c B:Nat)(zs:List Int)(w:World)(hs:Sees w B A n (bv zs))(hB:B≤w.heap.size)(hnc:n≤c)(hc:c≤maxLen)(hz:AllBytes zs) :
 Calls Tryz.prog 94 #[.slice A n c] w (GetTxDone w zs):=by
 have hn:zs.length=n:=by have:=hs.len;rwa [bL]at this
 subst hn;have hmx:=hc;unfold maxLen at hmx;have r0:=Row.new w 42 tzero;have b0:Below w.heap.size w (w.alloc (.cells tzero.toArray 42)):=(Br _ _).alloc (Lr _) _;have z0:(w.alloc (.cells tzero.toArray 42)).heap.size=w.heap.size+1:=by simp
 have HS:=Hd (hs.below (b0.mono hB));have R0:=Hd r0;have B0:=Hd b0;have Z0:=Hd z0;have HC:=Hd (And.intro hnc hc);have HZ:=Hd hz;clear hs r0 b0 z0 hz;obtain⟨W,hW⟩:∃W,W=w.alloc (.cells tzero.toArray 42):=⟨_,rfl⟩;go_enter Tryz.func94,Tryz.ntmps94
 go_upto_region 1 with fail
 have hX:∀c,c=tzero.toArray→w.alloc (.cells c 42)=W:=by rintro _ rfl;exact hW.symm
 rw[hX];rotate_left
 ·kernel_rfl
 rw[←hW]at HS R0 B0 Z0;clear hW hX;go_upto_region 2 with(((with_reducible show wpList _ _ _ (⟨none,Op.store 201 _ _,_,_,_,_⟩::_) _ _);go_must(refine Xa1 rfl 201 (.tmp 5) (.tmp 7) rfl (rcells (.slice none 0 0) mzero (.slice A zs.length c)) (by rw[Xw2,Xpe Xar]) (Xp1 Xbv) rfl ?_ ?_ ?_;go_simp;(go_simp;kernel_rfl);intro w1 hr1 hb1 hz1;have R1:=Hd hr1;have B1:=Hd hb1;have Z1:=Hd hz1;clear hr1 hb1 hz1)))
 have HR0:=Hd (R0.out.below B1.out R0.out.lt);have HS1:=Hd (HS.out.below (B1.out.mono (Lq hB B0.out.size)));have HB1:=Hd (B0.out.trans (B1.out.mono B0.out.size));have HSG:=Hd (Xlv W.heap.size B zs w1 ⟨A,c,R1.out,HS1.out,HC.out.1,HC.out.2⟩ (Lq hB B0.out.size) HZ.out);clear R0 B0 B1 HS;go_wp2_with fail;refine HSG.out.mono ?_;rintro e w2 (⟨l,r,v,hp,rfl,hsv,hrd,hb⟩ | ⟨x,hp,rfl,hb⟩);rotate_left
 ·have hx:=Xng _ _ HZ.out hp;have HP:Hid (pTx zs=.error x):=Hd (by unfold pTx;rw[hp]);have HR2:=Hd (hb.row HR0.out (show w.heap.size≠W.heap.size by have:=Z0.out;omega));have HB2:=Hd (HB1.out.trans (hb.below (show w.heap.size≤W.heap.size by have:=Z0.out;omega) HB1.out.size));clear hp hb HSG;rcases hx with rfl | rfl
  all_goals
   go_wp2_with (((with_reducible show wpList _ _ _ (⟨none,Op.store 42 _ _,_,_,_,_⟩::_) _ _);go_must(refine Xa4 rfl 42 (.tmp 2) (.tmp 11) rfl w.heap.size tzero tzero HR2.out Xan rfl Xap ?_ ?_ ?_;go_simp;(go_simp;kernel_rfl);intro w3 hr3 ht3;have R3:=Hd hr3;have T3:=Hd ht3;clear hr3 ht3)))
   refine bodyPost_ret (Xbq (h:=rfl) _ w3 ⟨w.heap.size,0,none⟩ _ _ _ (by rfl) (by rfl) (by rfl) (run_loadVar_row w3 w.heap.size 42 42 tzero.toArray (0,0) _ R3.out.is Tryz.underlying42 rfl (by rw[List.size_toArray];exact Xan))) rfl ?_;exact .inr ⟨_,HP.out,rfl,HB2.out.trans (T3.out.below (Lr _))⟩
 have hrb:AllBytes r:=HZ.out.behind (Xh8 _ _ _ HZ.out hp).1;have hll:=(Xh8 _ _ _ HZ.out hp).2.1;have HM:=Hd (txmsg_ W.heap.size B v r w2 hrd (Lq hB (by have:=Z0.out;omega)) hrb);have HSV:=Hd hsv;have HPS:=Hd hp;have HR2:=Hd (hb.row HR0.out (show w.heap.size≠W.heap.size by have:=Z0.out;omega));have HBU2:=Hd hb;have HLL:=Hd hll;have HRB:=Hd hrb;have HLE:=Hd (Xj3 _ _ _ hp).le;clear hp hsv hrd hb hrb hll HSG HR0;go_wp2_with fail;refine HM.out.mono ?_;rintro e w3 (⟨m,r',q,lo,hp,rfl,hlo,hv,hrd,hb⟩ | ⟨x,hp,rfl,hb⟩);rotate_left
 ·have hx:=Xhb HRB.out hp;have HP:Hid (pTx zs=.error x):=Hd (by unfold pTx;rw[HPS.out];dsimp only;rw[hp]);have HR3:=Hd (hb.row HR2.out (show w.heap.size≠W.heap.size by have:=Z0.out;omega));have HB3:=Hd (HB1.out.trans ((HBU2.out.trans hb).below (show w.heap.size≤W.heap.size by have:=Z0.out;omega) HB1.out.size));clear hp hb HM;rcases hx with rfl | rfl
  all_goals
   go_wp2_with (((with_reducible show wpList _ _ _ (⟨none,Op.store 42 _ _,_,_,_,_⟩::_) _ _);go_must(refine Xa4 rfl 42 (.tmp 2) (.tmp 16) rfl w.heap.size tzero tzero HR3.out Xan rfl Xap ?_ ?_ ?_;go_simp;(go_simp;kernel_rfl);intro w4 hr4 ht4;have R4:=Hd hr4;have T4:=Hd ht4;clear hr4 ht4)))
   refine bodyPost_ret (Xbq (h:=rfl) _ w4 ⟨w.heap.size,0,none⟩ _ _ _ (by rfl) (by rfl) (by rfl) (run_loadVar_row w4 w.heap.size 42 42 tzero.toArray (0,0) _ R4.out.is Tryz.underlying42 rfl (by rw[List.size_toArray];exact Xan))) rfl ?_;exact .inr ⟨_,HP.out,rfl,HB3.out.trans (T4.out.below (Lr _))⟩
 obtain⟨A2,c2,hr3,hs3,hnc2,hmc2⟩:=hrd;obtain⟨SA,sc,rfl⟩:=HSV.out.form;have hl39:=Xaq (q:=q) hv.recent;have HP:Hid (pTx zs=.ok (⟨l,m⟩,r')):=Hd (by unfold pTx;rw[HPS.out];dsimp only;rw[hp]);have hle2:=(Xe0 _ _ _ hp).le;have hle1:=HLE.out;have hwr:IntKind.i64.wrap ((zs.length:Int) - r'.length)=(zs.length:Int) - r'.length:=by rw[IntKind.wrap_i64];omega
 have hcs:rcells (.slice SA l.length sc) (q.cells m) (.slice A2 r'.length c2)=TRaw.cells ⟨SA,l.length,sc,q⟩ ⟨l,m⟩++[.slice A2 r'.length c2]:=rfl;have htl:(TRaw.cells ⟨SA,l.length,sc,q⟩ ⟨l,m⟩).length=40:=Xac hv.recent;have HTX:Hid (TxV w3 w1.heap.size w3.heap.size ⟨SA,l.length,sc,q⟩ ⟨l,m⟩):=Hd ⟨HLL.out,w2.heap.size,HBU2.out.size,hb.size,(HSV.out.stay fun k a b=>hb.block k b (by have:=Z1.out;omega)),(by obtain⟨a1,b1,a2,b2,a3,b3,k1,k2⟩:=hv.is;exact⟨hv.recent,hv.short,a1,b1,a2,b2,a3,b3,by omega,k2⟩)⟩;have HW3:=Hd (show w1.heap.size≤w3.heap.size from Lq HBU2.out.size hb.size);have HR3:=Hd (hb.row HR2.out (show w.heap.size≠W.heap.size by have:=Z0.out;omega));have HB3:=Hd (HB1.out.trans ((HBU2.out.trans hb).below (show w.heap.size≤W.heap.size by have:=Z0.out;omega) HB1.out.size));obtain⟨cs,hcs2⟩:∃cs,cs=TRaw.cells ⟨SA,l.length,sc,q⟩ ⟨l,m⟩:=⟨_,rfl⟩;have HCO:Hid (∀u ∈ cs,u.oneCell'=true):=Hd (by rw[hcs2];exact Xbm);have HCS:=Hd hcs2;rw[←hcs2]at hcs htl;rw[hcs]at hr3;have HSZ:=Hd (show(Tryz.prog.info? 42).map (·.size)=some cs.length by rw[Xba,htl]);have HTL:=Hd htl;have HRD:=Hd hr3;clear hcs2 hcs htl hr3 hs3 hv hp hb HM HSV HPS HR2;go_upto_region 8 with fail
 obtain⟨V,hV⟩:∃V,V=w3.drew:=⟨_,rfl⟩;have HRV:Hid (Row V W.heap.size 201 (cs++[.slice A2 r'.length c2])):=Hd (by rw[hV];exact HRD.out.drew);have HR0V:Hid (Row V w.heap.size 42 tzero):=Hd (by rw[hV];exact HR3.out.drew);have HTV:Hid (TxV V w1.heap.size V.heap.size ⟨SA,l.length,sc,q⟩ ⟨l,m⟩):=Hd (by rw[hV];exact HTX.out.stay (Lr _) fun _ _ _=>rfl);have HBV:Hid (Below w.heap.size w V):=Hd (by rw[hV];exact HB3.out.drew);have HS:Hid (V.rangeAt W.heap.size 0 cs∧V.cell? ⟨W.heap.size,40,none⟩=some (.slice A2 r'.length c2)):=Hd ⟨fun j u hu=>by rw[HRV.out.cell,Nat.zero_add,List.getElem?_append_left (List.getElem?_eq_some_iff.1 hu).1];exact hu,by rw[HRV.out.cell,List.getElem?_append_right (by rw[HTL.out];omega),HTL.out];rfl⟩;refine wp_region_held_drew (S:=fun V=>V.rangeAt W.heap.size 0 cs∧V.cell? ⟨W.heap.size,40,none⟩=some (.slice A2 r'.length c2)) (by kernel_rfl) (by rw[←hV];exact HS.out) (fun _=>?_);rw[←hV];clear hV HRD HR3 HTX HB3;refine Tk 0 rfl ?_ HS.out ?_ ⟨?_,rfl⟩
 ·intro w hw;(try dsimp only at hw);go_simp;try with_reducible rfl
 try simp only[nm]
 refine Tl 1 (v:=.agg cs.toArray) rfl (yieldsIf_load_mid (by rfl) 42 (.tmp 18) rfl W.heap.size 0 (by go_simp) cs _ (fun w hw=>hw.1) Tryz.underlying42 rfl HSZ.out) HS.out ?_;try simp only[nm]
 refine Tk 2 rfl ?_ HS.out ?_ ⟨?_,rfl⟩
 ·intro w hw;(try dsimp only at hw);go_simp;try with_reducible rfl
 try simp only[nm]
 refine Tk 3 rfl ?_ HS.out ?_ ⟨?_,rfl⟩
 ·intro w hw;(try dsimp only at hw);go_simp;try with_reducible rfl
 try simp only[nm]
 refine Tk 4 rfl ?_ HS.out ?_ ⟨?_,rfl⟩
 ·intro w hw;(try dsimp only at hw);go_simp;try with_reducible rfl
 try simp only[nm]
 refine Tk 5 rfl ?_ HS.out ?_ ⟨?_,rfl⟩
 ·intro w hw;(try dsimp only at hw);obtain⟨_,hw⟩:=hw;go_simp;try with_reducible rfl
 try simp only[nm]
 refine Tk 6 rfl ?_ HS.out ?_ ⟨?_,rfl⟩
 ·intro w hw;(try dsimp only at hw);go_simp;try with_reducible rfl
 try simp only[nm]
 refine Tk 7 rfl ?_ HS.out ?_ ⟨?_,rfl⟩
 ·intro w hw;(try dsimp only at hw);go_simp;try with_reducible rfl
 try simp only[nm]
 refine Rl 8 rfl fun K hK=>?_
 refine Xah 42 (.tmp 2) (.tmp 19) rfl w.heap.size tzero cs HR0V.out HSZ.out (by rw[HTL.out];rfl) HCO.out ?_ ?_ ?_
 ·go_simp
 ·go_simp
 intro V2 hr2 ht2;have HR2:=Hd hr2;have HT2:=Hd ht2;have hrd2:=ht2.row HRV.out (show W.heap.size≠w.heap.size by have:=Z0.out;omega);have HS2:Hid (V2.rangeAt W.heap.size 0 cs∧V2.cell? ⟨W.heap.size,40,none⟩=some (.slice A2 r'.length c2)):=Hd ⟨fun j u hu=>by rw[hrd2.cell,Nat.zero_add,List.getElem?_append_left (List.getElem?_eq_some_iff.1 hu).1];exact hu,by rw[hrd2.cell,List.getElem?_append_right (by rw[HTL.out];omega),HTL.out];rfl⟩;clear hr2 ht2 hrd2;refine hK.out _ _ HS2.out ?_;clear hK K;try simp only[nm]
 refine Tk 9 rfl ?_ HS2.out ?_ ⟨?_,rfl⟩
 ·intro w hw;(try dsimp only at hw);go_simp;try with_reducible rfl
 try simp only[nm]
 refine Tk 10 rfl ?_ HS2.out ?_ ⟨?_,rfl⟩
 ·intro w hw;(try dsimp only at hw);go_simp;try with_reducible rfl
 try simp only[nm]
 refine wpAnyH_done (by kernel_rfl) ?_ _;go_wp2_with fail;refine bodyPost_ret (Xbq (h:=rfl) _ V2 ⟨w.heap.size,0,none⟩ _ _ _ (by rfl) (by rfl) (by rfl) (run_loadVar_row V2 w.heap.size 42 42 cs.toArray (0,0) _ HR2.out.is Tryz.underlying42 rfl (by rw[List.size_toArray];exact HSZ.out))) rfl ?_;refine .inl ⟨⟨l,m⟩,r',⟨SA,l.length,sc,q⟩,w1.heap.size,HP.out,by rw[HCS.out];rfl,?_,?_,?_⟩
 ·exact HB1.out.size
 ·refine(HTV.out.stay (w':=V2) (by rw[HT2.out.size];exact Lr _) fun k a b=>HT2.out.block k ?_).more (by rw[HT2.out.size];exact Lr _);have:=Z0.out;have:=Z1.out;omega
 ·exact HBV.out.trans (HT2.out.below (Lr _))
theorem bookTx(p base B:Nat)(ks:List (Sl × Kd))(C ms:List Value)(S K I L:Sl)(iv lv:Nat→Sl × Sl)(w0 w:World)(h:Bk w0 p base ks w)
 (h0:C[0]?=some S.val) (hm:∀j,C[1+j]?=ms[j]?) (hl:ms.length=39)
 (h4:ms[4]?=some K.val) (h37:ms[37]?=some I.val) (h38:ms[38]?=some L.val) (hI:TwoAt w B 3 1 I iv) (hL:TwoAt w B 34 32 L lv) (hB:B≤base) (hp:B≤p) (hn:ks.length+4+2*I.n+2*L.n≤1000000) :
 Calls Tryz.prog 21 #[.pointer (some ⟨p,0,none⟩),.agg C.toArray] w fun e w'=>e=.returned (.tuple #[])∧Bk w0 p base (ks++([(S,Kd.s)]++pagesOf K iv I.n lv L.n)) w':=by
 have HW:=Hd h;have hplt:=h.plt;have H1:=Hd ((h.alloc (.cells C.toArray 42)).start);have RM:=Hd (Row.new w 42 C);have hBs:B≤w.heap.size:=by
  obtain⟨P,A,c,_,_,h3⟩:=h;have:=h3.lt;omega
 have HI:=Hd (hI.keep ((Br B w).alloc hBs (.cells C.toArray 42)));have HL:=Hd (hL.keep ((Br B w).alloc hBs (.cells C.toArray 42)));have HM:=Hd hm;have H4:=Hd (And.intro h4 (And.intro h37 h38));have HB:=Hd (And.intro hB hp);have HN:=Hd hn;have HSM:=Hd (show(Tryz.prog.info? 40).map (·.size)=some ms.length by rw[Xat,hl]);have c0:(w.alloc (.cells C.toArray 42)).cell? ⟨w.heap.size,0,none⟩=some S.val:=by rw[RM.out.cell];exact h0
 have hkn:ks.length≤1000000:=by omega
 have HTR:Hid (∀ks' w',Bk (w.alloc (.cells C.toArray 42)) p base ks' w'→Bk w0 p base ks' w'):=Hd fun ks' w' h'=>(HW.out.alloc _).trans h'
 clear h hI hL h4 h37 h38 hB hp hm hn h0 hl;go_enter Tryz.func21,Tryz.ntmps21
 unfold Sl.val at c0;go_wp2_with fail;refine(bkSigs p base ks S _ _ H1.out hkn).mono ?_;rintro e w1 ⟨rfl,hb1⟩;have HB1:=Hd hb1;clear hb1 c0 H1;generalize w.alloc (.cells C.toArray 42)=W at *;obtain⟨mb,hmb⟩:∃mb,w.heap.size=mb:=⟨_,rfl⟩;rw[hmb]at RM ⊢;have hne:mb≠p:=by omega
 have R1:=Hd (HB1.out.row RM.out hne (by decide));clear hplt hmb;go_wp2_with (((with_reducible show wpList _ _ _ (⟨some 10,_,_,_,_,_⟩::_) _ _);go_must(refine Xa3 rfl 40 (.tmp 9) rfl ⟨mb,1,none⟩ ms _ Tryz.underlying40 rfl HSM.out (fun j u hu=>by rw[Xa5,R1.out.cell,HM.out];exact hu) ?_ ?_;go_simp)))
 refine(Xmm p base B (ks++[(S,Kd.s)]) ms K I L iv lv W w1 HB1.out H4.out.1 H4.out.2.1 H4.out.2.2 (HI.out.keep (HB1.out.one.below HB.out.1 HB.out.2)) (HL.out.keep (HB1.out.one.below HB.out.1 HB.out.2)) HB.out.1 HB.out.2 (by have:=HN.out;rw[List.length_append];simp;omega)).mono ?_;rintro e w2 ⟨rfl,hb2⟩;have HB2:=Hd hb2;clear hb2;go_wp2_with fail;go_end0
 refine⟨rfl,HTR.out _ _ ?_⟩;have:=HB2.out;rw[List.append_assoc]at this;exact this
def txPages(S K:Sl)(iv:Nat→Sl × Sl)(n:Nat)(lv:Nat→Sl × Sl)(m:Nat):List (Sl × Kd):=[(S,Kd.s)]++pagesOf K iv n lv m
structure TxPages(w:World)(lo hi:Nat)(s:TRaw)(x:LTx)(S K I L:Sl)(iv lv:Nat→Sl × Sl):Prop where
 sg:Value.slice s.SA s.sn s.sc=S.val
 k:Value.slice s.q.KA s.q.kn s.q.kc=K.val
 i:Value.slice s.q.IA s.q.n s.q.ic=I.val
 l:Value.slice s.q.LA s.q.ln s.q.lc=L.val
 ti:TwoAt w hi 3 1 I iv
 tl:TwoAt w hi 34 32 L lv
 fits:∀y ∈ txPages S K iv I.n lv L.n,SlFit w y
 rise:(blocks (txPages S K iv I.n lv L.n)).Pairwise (·<·)
 low:∀g ∈ blocks (txPages S K iv I.n lv L.n),lo≤g∧g<hi
 n:I.n=x.m.ins.length∧L.n=x.m.looks.length
theorem TxV.pages{w:World}{lo hi:Nat}{s:TRaw}{x:LTx}(h:TxV w lo hi s x):∃S K I L iv lv,TxPages w lo hi s x S K I L iv lv:=by
 obtain⟨mid,h1,h2,h3,h4⟩:=h.is;obtain⟨K,I,L,iv,lv,hp⟩:=h4.pages;obtain⟨S,hS,_,hx0,hx1⟩:=Xjk h3.own;have fS:SlFit w (S,Kd.s):=by
  obtain⟨A,n,c⟩:=S;cases A with
  | none=>exact hx0 rfl
  | some g =>
   obtain⟨b1,b2,_,b4,b5,cur,b6,b7⟩:=hx1 g rfl;exact⟨b4,b5,cur,b6,Nat.le_of_eq b7.symm,fun _=>b7⟩
 have gS:∀g,S.A=some g→lo≤g∧g<mid:=fun g hg=>⟨(hx1 g hg).1,h3.lt g (hx1 g hg).2.2.1⟩
 refine⟨S,K,I,L,iv,lv,hS,hp.k,hp.i,hp.l,hp.ti,hp.tl,fun y hy=>?_,?_,fun g hg=>?_,hp.n⟩
 ·rcases List.mem_append.1 hy with hy | hy
  ·rw[List.mem_singleton.1 hy];exact fS
  ·exact hp.fits y hy
 ·unfold txPages;rw[Xb0];exact Xft (m:=mid) (Xh3 _) hp.rise (fun g hg=>(gS g (Xbb _ g hg)).2) fun g hg=>(hp.low g hg).1
 ·unfold txPages at hg;rw[Xb0]at hg;rcases List.mem_append.1 hg with hg | hg
  ·have:=gS g (Xbb _ g hg);omega
  ·have:=hp.low g hg;omega
theorem Xvs(w:World)(lo hi:Nat):TxPages w lo hi zRaw zTx ⟨none,0,0⟩ ⟨none,0,0⟩ ⟨none,0,0⟩ ⟨none,0,0⟩ (fun _=>(⟨none,0,0⟩,⟨none,0,0⟩)) (fun _=>(⟨none,0,0⟩,⟨none,0,0⟩)):=by
 refine⟨rfl,rfl,rfl,rfl,fun i hi=>absurd hi (Nat.not_lt_zero i),fun i hi=>absurd hi (Nat.not_lt_zero i),fun y hy=>?_,?_,fun g hg=>?_,rfl,rfl⟩
 ·have hy':y ∈ [((⟨none,0,0⟩:Sl),Kd.s),(⟨none,0,0⟩,Kd.k)]:=hy;simp only[List.mem_cons,List.not_mem_nil,or_false]at hy';rcases hy' with rfl | rfl <;> exact⟨rfl,rfl⟩
 ·exact List.Pairwise.nil
 ·cases hg
theorem TxPages.below{w w':World}{lo hi:Nat}{s:TRaw}{x:LTx}{S K I L:Sl}{iv lv:Nat→Sl × Sl}(h:TxPages w lo hi s x S K I L iv lv)(hb:Below hi w w'):TxPages w' lo hi s x S K I L iv lv:=
 ⟨h.sg,h.k,h.i,h.l,h.ti.keep hb,h.tl.keep hb,fun y hy=>(h.fits y hy).keep fun g hg=>hb.block g (h.low g (List.mem_filterMap.2 ⟨y,hy,hg⟩)).2,h.rise,h.low,h.n⟩
theorem Xr4(p base lo hi:Nat)(ks:List (Sl × Kd))(s:TRaw)(x:LTx)(S K I L:Sl)(iv lv:Nat→Sl × Sl)(w0 w:World)(h:Bk w0 p base ks w)(hr:x.m.recent.length=32)
 (hp:TxPages w lo hi s x S K I L iv lv) (hb:hi≤base) (hbp:hi≤p) (hn:ks.length+4+2*x.m.ins.length+2*x.m.looks.length≤1000000) :
 Calls Tryz.prog 21 #[.pointer (some ⟨p,0,none⟩),.agg (s.cells x).toArray] w fun e w'=>e=.returned (.tuple #[])∧Bk w0 p base (ks++txPages S K iv I.n lv L.n) w':=by
 refine bookTx p base hi ks (s.cells x) (s.q.cells x.m) S K I L iv lv w0 w h ?_ (Xc1 (s:=s) (x:=x)) (Xaq hr) ?_ ?_ ?_ hp.ti hp.tl hb hbp (by rw[hp.n.1,hp.n.2];exact hn)
 ·rw[Xuj,hp.sg]
 ·rw[Xjx,hp.k]
 ·rw[Xds hr,hp.i]
 ·rw[Xdo hr,hp.l]
structure LReady where
 bytes:List Int
 tx:LTx
 roles:List LRole
 u:Int
 p:Int
 bad:Int
 fee:Int
 cost:Int
 pri:Int
structure YRaw where
 BA:Option Addr
 bn:Nat
 bc:Nat
 t:TRaw
 RA:Option Addr
 rn:Nat
 rc:Nat
def LReady.last(x:LReady):List Value:=[.int .u64 x.u,.int .u64 x.p,.int .i64 x.bad,.int .u64 x.fee,.int .u64 x.cost,.int .u64 x.pri]
def YRaw.cells(q:YRaw)(x:LReady):List Value:=.slice q.BA q.bn q.bc::(q.t.cells x.tx++(.slice q.RA q.rn q.rc::x.last))
structure ReadyIn(w:World)(B:Nat)(q:YRaw)(x:LReady):Prop where
 bs:Sees w B q.BA q.bn (bv x.bytes)
 bn:q.bn≤q.bc∧q.bc≤maxLen
 tx:TxIn w B q.t x.tx
 rs:RolesIn w B q.RA q.rn x.roles
 rn:q.rn≤q.rc∧q.rc≤maxLen
section
variable{w w':World}{B B':Nat}{q:YRaw}{x:LReady}
theorem ReadyIn.below(h:ReadyIn w B q x)(hb:Below B w w'):ReadyIn w' B q x:=⟨h.bs.below hb,h.bn,h.tx.below hb,h.rs.below hb,h.rn⟩
theorem Xbe(h:x.tx.m.recent.length=32):(q.cells x).length=48:=by
 simp[YRaw.cells,Xac h,LReady.last]
theorem Xeh{j:Nat}{u:Value}(h:(q.t.cells x.tx)[j]?=some u):(q.cells x)[1+j]?=some u:=by
 rw[Nat.add_comm];show(q.t.cells x.tx++_)[j]?=_
 rw[List.getElem?_append_left (List.getElem?_eq_some_iff.1 h).1];exact h
theorem Xea(h:x.tx.m.recent.length=32)(j:Nat):(q.cells x)[41+j]?=(.slice q.RA q.rn q.rc::x.last)[j]?:=by
 rw[show 41+j=40+j+1 by omega];show(q.t.cells x.tx++_)[40+j]?=_
 rw[List.getElem?_append_right (by rw[Xac h];omega),Xac h,show 40+j - 40=j by omega]
theorem Xbk:∀u ∈ q.cells x,u.oneCell'=true:=by
 intro u hu;rcases List.mem_cons.1 hu with rfl | hu
 ·rfl
 rcases List.mem_append.1 hu with hu | hu
 ·exact Xbm u hu
 ·simp only[LReady.last,List.mem_cons,List.not_mem_nil,or_false]at hu;rcases hu with rfl | rfl | rfl | rfl | rfl | rfl | rfl <;> rfl
end
def zReady:LReady:=⟨[],zTx,[],0,0,0,0,0,0⟩
def zYRaw:YRaw:=⟨none,0,0,zRaw,none,0,0⟩
theorem Xlo(w:World)(B:Nat):ReadyIn w B zYRaw zReady:=
 ⟨Sees.nil _ _ _,by simp[zYRaw,maxLen],Xvu w B,⟨⟨rfl,fun c hc=>(by cases hc),Sees.nil _ _ _⟩,fun r hr=>(by cases hr)⟩,by simp[zYRaw,maxLen]⟩
def yPages(Bs Rs S K:Sl)(iv:Nat→Sl × Sl)(n:Nat)(lv:Nat→Sl × Sl)(m:Nat):List (Sl × Kd):=[(Bs,Kd.b)]++(txPages S K iv n lv m++[(Rs,Kd.r)])
structure YPages(w:World)(lo hi:Nat)(q:YRaw)(x:LReady)(Bs Rs S K I L:Sl)(iv lv:Nat→Sl × Sl):Prop where
 b:Value.slice q.BA q.bn q.bc=Bs.val
 r:Value.slice q.RA q.rn q.rc=Rs.val
 t:∃lo' hi',lo≤lo'∧hi'≤hi∧TxPages w lo' hi' q.t x.tx S K I L iv lv
 fb:SlFit w (Bs,Kd.b)
 fr:SlFit w (Rs,Kd.r)
 ne:(blocks (yPages Bs Rs S K iv I.n lv L.n)).Pairwise (·≠·)
 low:∀g ∈ blocks (yPages Bs Rs S K iv I.n lv L.n),lo≤g∧g<hi
def WholeDone(w:World)(zs:List Int)(e:Ending)(w':World):Prop:=
 (∃x s lo,wTx zs=.ok x∧e=.returned (.tuple #[.agg (TRaw.cells s x).toArray,.int .i64 0])∧w.heap.size≤lo∧TxV w' lo w'.heap.size s x∧Below w.heap.size w w') ∨
 (∃c,wTx zs=.error c∧e=.returned (.tuple #[.agg tzero.toArray,.int .i64 c])∧Below w.heap.size w w')
theorem whole_(A:Option Addr)(n c B:Nat)(zs:List Int)(w:World)(hs:Sees w B A n (bv zs))(hB:B≤w.heap.size)(hnc:n≤c)(hc:c≤maxLen)(hz:AllBytes zs) :
 Calls Tryz.prog 53 #[.slice A n c] w (WholeDone w zs):=by
 have hn:zs.length=n:=by have:=hs.len;rwa [bL]at this
 subst hn;have hmx:=hc;unfold maxLen at hmx;have r0:=Row.new w 42 tzero;have b0:Below w.heap.size w (w.alloc (.cells tzero.toArray 42)):=(Br _ _).alloc (Lr _) _;have z0:(w.alloc (.cells tzero.toArray 42)).heap.size=w.heap.size+1:=by simp
 have HG:=Hd (gettx_ A zs.length c B zs (w.alloc (.cells tzero.toArray 42)) (hs.below (b0.mono hB)) (Lq hB b0.size) hnc hc hz);have R0:=Hd r0;have B0:=Hd b0;have Z0:=Hd z0;have HZ:=Hd hz;clear hs r0 b0 z0 hz;obtain⟨W,hW⟩:∃W,W=w.alloc (.cells tzero.toArray 42):=⟨_,rfl⟩;go_enter Tryz.func53,Tryz.ntmps53
 go_upto_region 1 with fail
 have hX:∀c,c=tzero.toArray→w.alloc (.cells c 42)=W:=by rintro _ rfl;exact hW.symm
 rw[hX];rotate_left
 ·kernel_rfl
 rw[←hW]at HG R0 B0 Z0;clear hW hX;by_cases hbig:1232<zs.length
 ·have HP:Hid (wTx zs=.error 3):=Hd (by unfold wTx;rw[if_pos hbig]);have hbig':(1232:Int)<zs.length:=by omega
  go_wp2_with (((with_reducible show wpList _ _ _ (⟨none,Op.store 42 _ _,_,_,_,_⟩::_) _ _);go_must(refine Xa4 rfl 42 (.tmp 2) (.tmp 10) rfl w.heap.size tzero tzero R0.out Xan rfl Xap ?_ ?_ ?_;go_simp;(go_simp;kernel_rfl);intro w3 hr3 ht3;have R3:=Hd hr3;have T3:=Hd ht3;clear hr3 ht3)))
  refine bodyPost_ret (Xaf (h:=rfl) _ w3 ⟨w.heap.size,0,none⟩ _ _ (by rfl) (by rfl) (run_loadVar_row w3 w.heap.size 42 42 tzero.toArray (0,0) _ R3.out.is Tryz.underlying42 rfl (by rw[List.size_toArray];exact Xan))) rfl ?_;exact .inr ⟨_,HP.out,rfl,B0.out.trans (T3.out.below (Lr _))⟩
 have hbig':¬(1232:Int)<zs.length:=by omega
 go_wp2_with fail;refine HG.out.mono ?_;rintro e w2 (⟨x,r,s,lo,hp,rfl,hlo,hv,hb⟩ | ⟨x,hp,rfl,hb⟩);rotate_left
 ·have hx:=Xls HZ.out hp;have HP:Hid (wTx zs=.error x):=Hd (by unfold wTx;rw[if_neg hbig,hp]);have HR2:=Hd (R0.out.below hb R0.out.lt);have HB2:=Hd (B0.out.trans (hb.mono B0.out.size));have HLT:=Hd (show w.heap.size<w2.heap.size by have:=HR2.out.lt;exact this);clear hp hb HG;rcases hx with rfl | rfl
  all_goals
   go_wp2_with (first
    | ((with_reducible show wpList _ _ _ (⟨none,Op.store 42 (.tmp 4) _,_,_,_,_⟩::_) _ _);go_must(refine Xa1 rfl 42 (.tmp 4) (.tmp 14) rfl tzero Xan Xap rfl ?_ ?_ ?_;go_simp;go_simp;intro w3 hr3 hb3 hz3;have B3:=Hd hb3;clear hr3 hb3 hz3))
    | ((with_reducible show wpList _ _ _ (⟨none,Op.store 42 (.tmp 2) _,_,_,_,_⟩::_) _ _);go_must(refine Xa4 rfl 42 (.tmp 2) (.tmp 19) rfl w.heap.size tzero tzero (HR2.out.below B3.out HLT.out) Xan rfl Xap ?_ ?_ ?_;go_simp;(go_simp;kernel_rfl);intro w4 hr4 ht4;have R4:=Hd hr4;have T4:=Hd ht4;clear hr4 ht4)))
   refine bodyPost_ret (Xaf (h:=rfl) _ w4 ⟨w.heap.size,0,none⟩ _ _ (by rfl) (by rfl) (run_loadVar_row w4 w.heap.size 42 42 tzero.toArray (0,0) _ R4.out.is Tryz.underlying42 rfl (by rw[List.size_toArray];exact Xan))) rfl ?_;exact .inr ⟨_,HP.out,rfl,(HB2.out.trans (B3.out.mono HB2.out.size)).trans (T4.out.below (Lr _))⟩
 have hle:=(Xn7 _ _ _ hp).le;have HR2:=Hd (R0.out.below hb R0.out.lt);have HB2:=Hd (B0.out.trans (hb.mono B0.out.size));have HLT:=Hd HR2.out.lt;have HTX:=Hd hv;have HSZ:=Hd (show(Tryz.prog.info? 42).map (·.size)=some (TRaw.cells s x).length by rw[Xba,Xac hv.in_.m.recent]);have HTL:=Hd (Xac (s:=s) (x:=x) hv.in_.m.recent);have HCO:=Hd (Xbm (s:=s) (x:=x));have HLO:=Hd hlo;have HP2:=Hd hp;obtain⟨T,hT⟩:∃T:Int,T=(zs.length:Int) - r.length:=⟨_,rfl⟩;rw[←hT];have HT:=Hd hT;obtain⟨cs,hcs⟩:∃cs,cs=TRaw.cells s x:=⟨_,rfl⟩;have HCS:=Hd hcs;rw[←hcs]at HSZ HTL HCO ⊢;clear hcs hT hp hv hlo hb HG;by_cases h0:r.length=0
 ·have hT0:¬T<zs.length:=by have:=HT.out;omega
  have HP:Hid (wTx zs=.ok x):=Hd (by unfold wTx;rw[if_neg hbig,HP2.out];dsimp only;rw[if_pos h0]);go_wp2_with (first
   | ((with_reducible show wpList _ _ _ (⟨none,Op.store 42 (.tmp 4) _,_,_,_,_⟩::_) _ _);go_must(refine Xa1 rfl 42 (.tmp 4) (.tmp 14) rfl cs HSZ.out HCO.out (by rw[HTL.out];rfl) ?_ ?_ ?_;go_simp;go_simp;intro w3 hr3 hb3 hz3;have R3:=Hd hr3;have B3:=Hd hb3;clear hr3 hb3 hz3))
   | ((with_reducible show wpList _ _ _ (⟨some 26,_,_,_,_,_⟩::_) _ _);go_must(refine Xa0 rfl 42 (.tmp 4) rfl w2.heap.size 42 cs _ Tryz.underlying42 rfl HSZ.out R3.out ?_ ?_;go_simp))
   | ((with_reducible show wpList _ _ _ (⟨none,Op.store 42 (.tmp 2) _,_,_,_,_⟩::_) _ _);go_must(refine Xa4 rfl 42 (.tmp 2) (.tmp 26) rfl w.heap.size tzero cs (HR2.out.below B3.out HLT.out) HSZ.out (by rw[HTL.out];rfl) HCO.out ?_ ?_ ?_;go_simp;go_simp;intro w4 hr4 ht4;have R4:=Hd hr4;have T4:=Hd ht4;clear hr4 ht4)))
  refine bodyPost_ret (Xaf (h:=rfl) _ w4 ⟨w.heap.size,0,none⟩ _ _ (by rfl) (by rfl) (run_loadVar_row w4 w.heap.size 42 42 cs.toArray (0,0) _ R4.out.is Tryz.underlying42 rfl (by rw[List.size_toArray];exact HSZ.out))) rfl ?_;refine .inl ⟨x,s,lo,HP.out,by rw[HCS.out];rfl,?_,?_,(HB2.out.trans (B3.out.mono HB2.out.size)).trans (T4.out.below (Lr _))⟩
  ·exact Lq B0.out.size HLO.out
  ·refine(HTX.out.stay (w':=w4) (by rw[T4.out.size];exact B3.out.size) fun k a b=>(T4.out.block k ?_).trans (B3.out.block k b)).more (by rw[T4.out.size];exact B3.out.size);have:=Z0.out;have:=HLO.out;omega
 ·have hT0:T<zs.length:=by have:=HT.out;omega
  have HP:Hid (wTx zs=.error 4):=Hd (by unfold wTx;rw[if_neg hbig,HP2.out];dsimp only;rw[if_neg h0]);go_wp2_with (first
   | ((with_reducible show wpList _ _ _ (⟨none,Op.store 42 (.tmp 4) _,_,_,_,_⟩::_) _ _);go_must(refine Xa1 rfl 42 (.tmp 4) (.tmp 14) rfl cs HSZ.out HCO.out (by rw[HTL.out];rfl) ?_ ?_ ?_;go_simp;go_simp;intro w3 hr3 hb3 hz3;have B3:=Hd hb3;clear hr3 hb3 hz3))
   | ((with_reducible show wpList _ _ _ (⟨none,Op.store 42 (.tmp 2) _,_,_,_,_⟩::_) _ _);go_must(refine Xa4 rfl 42 (.tmp 2) (.tmp 25) rfl w.heap.size tzero tzero (HR2.out.below B3.out HLT.out) Xan rfl Xap ?_ ?_ ?_;go_simp;(go_simp;kernel_rfl);intro w4 hr4 ht4;have R4:=Hd hr4;have T4:=Hd ht4;clear hr4 ht4)))
  refine bodyPost_ret (Xaf (h:=rfl) _ w4 ⟨w.heap.size,0,none⟩ _ _ (by rfl) (by rfl) (run_loadVar_row w4 w.heap.size 42 42 tzero.toArray (0,0) _ R4.out.is Tryz.underlying42 rfl (by rw[List.size_toArray];exact Xan))) rfl ?_;exact .inr ⟨_,HP.out,rfl,(HB2.out.trans (B3.out.mono HB2.out.size)).trans (T4.out.below (Lr _))⟩
def yzero:List Value:=YRaw.cells zYRaw zReady
theorem Xmo:zReady.tx.m.recent.length=32:=rfl
theorem Xbz:yzero.length=48:=Xbe Xmo
theorem Xe1:∀u ∈ yzero,u.oneCell'=true:=Xbk
theorem Xb6:(Tryz.prog.info? 48).map (·.size)=some 48:=by kernel_rfl
theorem Xdf:tzero.length=40:=Xac (x:=zTx) (s:=zRaw) rfl
theorem Xo2(cs:List Value)(c:Int)(w:World)(hl:cs.length=40)(h1:∀u ∈ cs,u.oneCell'=true) :
 Calls Tryz.prog 52 #[.agg cs.toArray,.int .i64 c] w fun e w'=>e=.returned (.tuple #[.agg (if c=0 then cs else tzero).toArray,.int .i64 c])∧Below w.heap.size w w':=by
 obtain⟨W,HX,hb0,hr0,hr1⟩:∃W,Hid (∀z,z=tzero.toArray→(w.alloc (.cells cs.toArray 42)).alloc (.cells z 42)=W)∧Below w.heap.size w W∧Row W w.heap.size 42 cs∧Row W (w.heap.size+1) 42 tzero:=by
  refine⟨_,Hd fun z h=>by rw[h],((Br w.heap.size w).alloc (Lr _) _).alloc (by simp) _,(Row.new w 42 cs).alloc _,Row.new' (w.alloc (.cells cs.toArray 42)) 42 _ (by simp)⟩
 have HSZ:=Hd (show(Tryz.prog.info? 42).map (·.size)=some cs.length by rw[hl];exact Xba);have HSZ0:=Hd (show(Tryz.prog.info? 42).map (·.size)=some tzero.length by rw[Xdf];exact Xba);have HL:=Hd (show tzero.length=cs.length by rw[hl];exact Xdf);have H1:=Hd h1;have HB0:=Hd hb0;have HR0:=Hd hr0;have HR1:=Hd hr1;have HF:=Hd (fun w=>Xcx c w);clear hl h1 hb0 hr0 hr1;by_cases h0:c=0
 ·subst h0;rw[if_pos rfl];rw[show decide ((0:Int)≠0)=false from rfl]at HF;go_enter Tryz.func52,Tryz.ntmps52
  go_upto_region 1 with fail
  rw[HX.out];rotate_left
  ·kernel_rfl
  clear HX;go_wp2_with (first
   | (go_at_call 40;refine(HF.out _).mono ?_;rintro e w' ⟨rfl,hw⟩;obtain rfl:=hw.symm)
   | ((with_reducible show wpList _ _ _ (⟨some 11,_,_,_,_,_⟩::_) _ _);go_must(refine Xa0 rfl 42 (.tmp 2) rfl w.heap.size 42 cs _ Tryz.underlying42 rfl HSZ.out HR0.out ?_ ?_;go_simp))
   | ((with_reducible show wpList _ _ _ (⟨none,Op.store 42 _ _,_,_,_,_⟩::_) _ _);go_must(refine Xa4 rfl 42 (.tmp 4) (.tmp 11) rfl (w.heap.size+1) tzero cs HR1.out HSZ.out HL.out H1.out ?_ ?_ ?_;go_simp;go_simp;intro w4 hr4 ht4;have R4:=Hd hr4;have T4:=Hd ht4;clear hr4 ht4)))
  refine bodyPost_ret (Xaf (h:=rfl) _ w4 ⟨w.heap.size+1,0,none⟩ _ _ (by rfl) (by rfl) (run_loadVar_row w4 (w.heap.size+1) 42 42 cs.toArray (0,0) _ R4.out.is Tryz.underlying42 rfl (by rw[List.size_toArray];exact HSZ.out))) rfl ?_;exact⟨rfl,HB0.out.trans (T4.out.below (by omega))⟩
 ·rw[if_neg h0];rw[decide_eq_true h0]at HF;clear h0;go_enter Tryz.func52,Tryz.ntmps52
  go_upto_region 1 with fail
  rw[HX.out];rotate_left
  ·kernel_rfl
  clear HX;obtain⟨W2,HX2,hb2,hr2⟩:∃W2,Hid (∀z,z=tzero.toArray→W.alloc (.cells z 42)=W2)∧Below W.heap.size W W2∧Row W2 W.heap.size 42 tzero:=by
   refine⟨_,Hd fun z h=>by rw[h],(Br W.heap.size W).alloc (Lr _) _,Row.new W 42 _⟩
  have HR12:=Hd (HR1.out.below hb2 HR1.out.lt);have HB2:=Hd (HB0.out.trans (hb2.mono HB0.out.size));have HR2:=Hd hr2;clear hb2 hr2 HR1 HB0;go_upto_region 3 with(go_at_call 40;refine(HF.out _).mono ?_;rintro e w' ⟨rfl,hw⟩;obtain rfl:=hw.symm)
  rw[HX2.out];rotate_left
  ·kernel_rfl
  clear HX2;go_wp2_with (first
   | ((with_reducible show wpList _ _ _ (⟨some 9,_,_,_,_,_⟩::_) _ _);go_must(refine Xa0 rfl 42 (.tmp 6) rfl W.heap.size 42 tzero _ Tryz.underlying42 rfl HSZ0.out HR2.out ?_ ?_;go_simp))
   | ((with_reducible show wpList _ _ _ (⟨none,Op.store 42 _ _,_,_,_,_⟩::_) _ _);go_must(refine Xa4 rfl 42 (.tmp 4) (.tmp 9) rfl (w.heap.size+1) tzero tzero HR12.out HSZ0.out rfl Xap ?_ ?_ ?_;go_simp;go_simp;intro w4 hr4 ht4;have R4:=Hd hr4;have T4:=Hd ht4;clear hr4 ht4)))
  refine bodyPost_ret (Xaf (h:=rfl) _ w4 ⟨w.heap.size+1,0,none⟩ _ _ (by rfl) (by rfl) (run_loadVar_row w4 (w.heap.size+1) 42 42 tzero.toArray (0,0) _ R4.out.is Tryz.underlying42 rfl (by rw[List.size_toArray];exact HSZ0.out))) rfl ?_;exact⟨rfl,HB2.out.trans (T4.out.below (by omega))⟩
theorem Xpl(cs:List Value)(c:Int)(w:World)(hl:cs.length=48)(h1:∀u ∈ cs,u.oneCell'=true) :
 Calls Tryz.prog 38 #[.agg cs.toArray,.int .i64 c] w fun e w'=>e=.returned (.tuple #[.agg (if c=0 then cs else yzero).toArray,.int .i64 c])∧Below w.heap.size w w':=by
 obtain⟨W,HX,hb0,hr0,hr1⟩:∃W,Hid (∀z,z=yzero.toArray→(w.alloc (.cells cs.toArray 48)).alloc (.cells z 48)=W)∧Below w.heap.size w W∧Row W w.heap.size 48 cs∧Row W (w.heap.size+1) 48 yzero:=by
  refine⟨_,Hd fun z h=>by rw[h],((Br w.heap.size w).alloc (Lr _) _).alloc (by simp) _,(Row.new w 48 cs).alloc _,Row.new' (w.alloc (.cells cs.toArray 48)) 48 _ (by simp)⟩
 have HSZ:=Hd (show(Tryz.prog.info? 48).map (·.size)=some cs.length by rw[hl];exact Xb6);have HSZ0:=Hd (show(Tryz.prog.info? 48).map (·.size)=some yzero.length by rw[Xbz];exact Xb6);have HL:=Hd (show yzero.length=cs.length by rw[hl];exact Xbz);have H1:=Hd h1;have HB0:=Hd hb0;have HR0:=Hd hr0;have HR1:=Hd hr1;have HF:=Hd (fun w=>Xcx c w);clear hl h1 hb0 hr0 hr1;by_cases h0:c=0
 ·subst h0;rw[if_pos rfl];rw[show decide ((0:Int)≠0)=false from rfl]at HF;go_enter Tryz.func38,Tryz.ntmps38
  go_upto_region 1 with fail
  rw[HX.out];rotate_left
  ·kernel_rfl
  clear HX;go_wp2_with (first
   | (go_at_call 40;refine(HF.out _).mono ?_;rintro e w' ⟨rfl,hw⟩;obtain rfl:=hw.symm)
   | ((with_reducible show wpList _ _ _ (⟨some 11,_,_,_,_,_⟩::_) _ _);go_must(refine Xa0 rfl 48 (.tmp 2) rfl w.heap.size 48 cs _ Tryz.underlying48 rfl HSZ.out HR0.out ?_ ?_;go_simp))
   | ((with_reducible show wpList _ _ _ (⟨none,Op.store 48 _ _,_,_,_,_⟩::_) _ _);go_must(refine Xa4 rfl 48 (.tmp 4) (.tmp 11) rfl (w.heap.size+1) yzero cs HR1.out HSZ.out HL.out H1.out ?_ ?_ ?_;go_simp;go_simp;intro w4 hr4 ht4;have R4:=Hd hr4;have T4:=Hd ht4;clear hr4 ht4)))
  refine bodyPost_ret (Xaf (h:=rfl) _ w4 ⟨w.heap.size+1,0,none⟩ _ _ (by rfl) (by rfl) (run_loadVar_row w4 (w.heap.size+1) 48 48 cs.toArray (0,0) _ R4.out.is Tryz.underlying48 rfl (by rw[List.size_toArray];exact HSZ.out))) rfl ?_;exact⟨rfl,HB0.out.trans (T4.out.below (by omega))⟩
 ·rw[if_neg h0];rw[decide_eq_true h0]at HF;clear h0;go_enter Tryz.func38,Tryz.ntmps38
  go_upto_region 1 with fail
  rw[HX.out];rotate_left
  ·kernel_rfl
  clear HX;obtain⟨W2,HX2,hb2,hr2⟩:∃W2,Hid (∀z,z=yzero.toArray→W.alloc (.cells z 48)=W2)∧Below W.heap.size W W2∧Row W2 W.heap.size 48 yzero:=by
   refine⟨_,Hd fun z h=>by rw[h],(Br W.heap.size W).alloc (Lr _) _,Row.new W 48 _⟩
  have HR12:=Hd (HR1.out.below hb2 HR1.out.lt);have HB2:=Hd (HB0.out.trans (hb2.mono HB0.out.size));have HR2:=Hd hr2;clear hb2 hr2 HR1 HB0;go_upto_region 3 with(go_at_call 40;refine(HF.out _).mono ?_;rintro e w' ⟨rfl,hw⟩;obtain rfl:=hw.symm)
  rw[HX2.out];rotate_left
  ·kernel_rfl
  clear HX2;go_wp2_with (first
   | ((with_reducible show wpList _ _ _ (⟨some 9,_,_,_,_,_⟩::_) _ _);go_must(refine Xa0 rfl 48 (.tmp 6) rfl W.heap.size 48 yzero _ Tryz.underlying48 rfl HSZ0.out HR2.out ?_ ?_;go_simp))
   | ((with_reducible show wpList _ _ _ (⟨none,Op.store 48 _ _,_,_,_,_⟩::_) _ _);go_must(refine Xa4 rfl 48 (.tmp 4) (.tmp 9) rfl (w.heap.size+1) yzero yzero HR12.out HSZ0.out rfl Xe1 ?_ ?_ ?_;go_simp;go_simp;intro w4 hr4 ht4;have R4:=Hd hr4;have T4:=Hd ht4;clear hr4 ht4)))
  refine bodyPost_ret (Xaf (h:=rfl) _ w4 ⟨w.heap.size+1,0,none⟩ _ _ (by rfl) (by rfl) (run_loadVar_row w4 (w.heap.size+1) 48 48 yzero.toArray (0,0) _ R4.out.is Tryz.underlying48 rfl (by rw[List.size_toArray];exact HSZ0.out))) rfl ?_;exact⟨rfl,HB2.out.trans (T4.out.below (by omega))⟩
theorem Xqn(g:Nat)(cs:List Value)(c x:Int)(u:FrameMode)(w:World)(hl:cs.length=40)(h1:∀u ∈ cs,u.oneCell'=true)(r0:Row w g 42 cs)(r1:Row w (g+1) 49 [.int .i64 x])(r2:Row w (g+2) 49 [.int .i64 c]) :
 CallsD Tryz.prog 51 #[.pointer (some ⟨g,0,none⟩),.pointer (some ⟨g+2,0,none⟩),.pointer (some ⟨g+1,0,none⟩)] u w fun e u' w' =>
  u'=u∧(e=.returned (.tuple #[])∧Row w' g 42 (if c=0 then cs else tzero)∧Row w' (g+1) 49 [.int .i64 c]∧Below g w w')∧w.heap.size≤w'.heap.size∧∀k,k<w.heap.size→k≠g→k≠g+1→w'.heap[k]?=w.heap[k]?:=by
 have HSZ:=Hd (show(Tryz.prog.info? 42).map (·.size)=some cs.length by rw[hl];exact Xba);have HT:=Hd (Xo2 cs c w hl h1);obtain⟨ds,hds⟩:∃ds,ds=(if c=0 then cs else tzero):=⟨_,rfl⟩;rw[←hds]at HT ⊢;have HDL:=Hd (show cs.length=ds.length by rw[hds];split <;> first | rfl | (rw[hl];exact Xdf.symm));have HDZ:=Hd (show(Tryz.prog.info? 42).map (·.size)=some ds.length by rw[←HDL.out];exact HSZ.out);have HD1:=Hd (show ∀u ∈ ds,u.oneCell'=true by rw[hds];split <;> first | exact h1 | exact Xap);have R0:=Hd r0;have R1:=Hd r1;have R2:=Hd r2;have c2:w.cell? ⟨g+2,0,none⟩=some (.int .i64 c):=r2.cell 0;clear hl h1 r0 r1 r2 hds;refine(callsD_of_wp (R:=fun e w'=>(e=.returned (.tuple #[])∧Row w' g 42 ds∧Row w' (g+1) 49 [.int .i64 c]∧Below g w w')∧w.heap.size≤w'.heap.size∧∀k,k<w.heap.size→k≠g→k≠g+1→w'.heap[k]?=w.heap[k]?) Tryz.func51 rfl ?_).mono fun e u' w' h=>h
 simp only[Tryz.ntmps51,List.size_toArray,List.length_cons,List.length_nil,Nat.reduceAdd,Nat.reduceSub,Array.replicate_succ,Array.replicate_zero,List.push_toArray,List.append_toArray,List.nil_append,List.cons_append];go_wp2_with ((with_reducible show wpList _ _ _ (⟨some 4,_,_,_,_,_⟩::_) _ _);go_must(refine Xa0 rfl 42 (.tmp 0) rfl g 42 cs _ Tryz.underlying42 rfl HSZ.out R0.out ?_ ?_;go_simp))
 refine HT.out.mono ?_;rintro e w1 ⟨rfl,hb1⟩;have R01:=Hd (R0.out.below hb1 R0.out.lt);have R11:=Hd (R1.out.below hb1 R1.out.lt);have B1:=Hd hb1;have HG:=Hd (show g≤w.heap.size from Nat.le_of_lt R0.out.lt);clear hb1 c2 HT R0 R1;go_wp2_with ((with_reducible show wpList _ _ _ (⟨none,Op.store 42 _ _,_,_,_,_⟩::_) _ _);go_must(refine Xa4 rfl 42 (.tmp 0) (.tmp 7) rfl g cs ds R01.out HDZ.out HDL.out HD1.out ?_ ?_ ?_;go_simp;go_simp;intro w4 hr4 ht4;have R4:=Hd hr4;have T4:=Hd ht4;have c1:w4.cell? ⟨g+1,0,none⟩=some (.int .i64 x):=(ht4.row R11.out (by omega)).cell 0;have f1:=(ht4.row R11.out (by omega)).frozen 0;clear hr4 ht4))
 have R14:=T4.out.row R11.out (show g+1≠g by omega);have ht5:=Xa2 w4 ⟨g+1,0,none⟩ (.int .i64 c);refine bodyPost_end (results_none rfl _ _ _) rfl ?_;refine⟨⟨rfl,?_,R14.set_ 0 _,?_⟩,?_,?_⟩
 ·exact ht5.row R4.out (show g≠g+1 by omega)
 ·exact((B1.out.mono HG.out).trans (T4.out.below (Lr _))).trans (ht5.below (show g≤g+1 by omega))
 ·rw[ht5.size,T4.out.size];exact B1.out.size
 ·intro k h4 h2 h3;exact(ht5.block k h3).trans ((T4.out.block k h2).trans (B1.out.block k h4))
theorem Xvy(g:Nat)(cs:List Value)(c x:Int)(u:FrameMode)(w:World)(hl:cs.length=48)(h1:∀u ∈ cs,u.oneCell'=true)(r0:Row w g 48 cs)(r1:Row w (g+1) 49 [.int .i64 x])(r2:Row w (g+2) 49 [.int .i64 c]) :
 CallsD Tryz.prog 37 #[.pointer (some ⟨g,0,none⟩),.pointer (some ⟨g+2,0,none⟩),.pointer (some ⟨g+1,0,none⟩)] u w fun e u' w' =>
  u'=u∧(e=.returned (.tuple #[])∧Row w' g 48 (if c=0 then cs else yzero)∧Row w' (g+1) 49 [.int .i64 c]∧Below g w w')∧w.heap.size≤w'.heap.size∧∀k,k<w.heap.size→k≠g→k≠g+1→w'.heap[k]?=w.heap[k]?:=by
 have HSZ:=Hd (show(Tryz.prog.info? 48).map (·.size)=some cs.length by rw[hl];exact Xb6);have HT:=Hd (Xpl cs c w hl h1);obtain⟨ds,hds⟩:∃ds,ds=(if c=0 then cs else yzero):=⟨_,rfl⟩;rw[←hds]at HT ⊢;have HDL:=Hd (show cs.length=ds.length by rw[hds];split <;> first | rfl | (rw[hl];exact Xbz.symm));have HDZ:=Hd (show(Tryz.prog.info? 48).map (·.size)=some ds.length by rw[←HDL.out];exact HSZ.out);have HD1:=Hd (show ∀u ∈ ds,u.oneCell'=true by rw[hds];split <;> first | exact h1 | exact Xe1);have R0:=Hd r0;have R1:=Hd r1;have R2:=Hd r2;have c2:w.cell? ⟨g+2,0,none⟩=some (.int .i64 c):=r2.cell 0;clear hl h1 r0 r1 r2 hds;refine(callsD_of_wp (R:=fun e w'=>(e=.returned (.tuple #[])∧Row w' g 48 ds∧Row w' (g+1) 49 [.int .i64 c]∧Below g w w')∧w.heap.size≤w'.heap.size∧∀k,k<w.heap.size→k≠g→k≠g+1→w'.heap[k]?=w.heap[k]?) Tryz.func37 rfl ?_).mono fun e u' w' h=>h
 simp only[Tryz.ntmps37,List.size_toArray,List.length_cons,List.length_nil,Nat.reduceAdd,Nat.reduceSub,Array.replicate_succ,Array.replicate_zero,List.push_toArray,List.append_toArray,List.nil_append,List.cons_append];go_wp2_with ((with_reducible show wpList _ _ _ (⟨some 4,_,_,_,_,_⟩::_) _ _);go_must(refine Xa0 rfl 48 (.tmp 0) rfl g 48 cs _ Tryz.underlying48 rfl HSZ.out R0.out ?_ ?_;go_simp))
 refine HT.out.mono ?_;rintro e w1 ⟨rfl,hb1⟩;have R01:=Hd (R0.out.below hb1 R0.out.lt);have R11:=Hd (R1.out.below hb1 R1.out.lt);have B1:=Hd hb1;have HG:=Hd (show g≤w.heap.size from Nat.le_of_lt R0.out.lt);clear hb1 c2 HT R0 R1;go_wp2_with ((with_reducible show wpList _ _ _ (⟨none,Op.store 48 _ _,_,_,_,_⟩::_) _ _);go_must(refine Xa4 rfl 48 (.tmp 0) (.tmp 7) rfl g cs ds R01.out HDZ.out HDL.out HD1.out ?_ ?_ ?_;go_simp;go_simp;intro w4 hr4 ht4;have R4:=Hd hr4;have T4:=Hd ht4;have c1:w4.cell? ⟨g+1,0,none⟩=some (.int .i64 x):=(ht4.row R11.out (by omega)).cell 0;have f1:=(ht4.row R11.out (by omega)).frozen 0;clear hr4 ht4))
 have R14:=T4.out.row R11.out (show g+1≠g by omega);have ht5:=Xa2 w4 ⟨g+1,0,none⟩ (.int .i64 c);refine bodyPost_end (results_none rfl _ _ _) rfl ?_;refine⟨⟨rfl,?_,R14.set_ 0 _,?_⟩,?_,?_⟩
 ·exact ht5.row R4.out (show g≠g+1 by omega)
 ·exact((B1.out.mono HG.out).trans (T4.out.below (Lr _))).trans (ht5.below (show g≤g+1 by omega))
 ·rw[ht5.size,T4.out.size];exact B1.out.size
 ·intro k h4 h2 h3;exact(ht5.block k h3).trans ((T4.out.block k h2).trans (B1.out.block k h4))
def wx(zs:List Int):LTx:=match wTx zs with
 | .ok x=>x
 | .error _=>zTx
structure TxGot(w:World)(lo hi:Nat)(x:LTx)(cs:List Value):Prop where
 le:lo≤hi
 short:x.m.ins.length≤65535∧x.m.looks.length≤65535
 is:∃s,cs=TRaw.cells s x∧TxIn w hi s x∧∃S K I L iv lv,TxPages w lo hi s x S K I L iv lv
section
variable{w w':World}{lo hi lo' hi':Nat}{x:LTx}{cs cs':List Value}
theorem TxGot.below(h:TxGot w lo hi x cs)(hb:Below hi w w'):TxGot w' lo hi x cs:=by
 obtain⟨s,h1,h2,S,K,I,L,iv,lv,h3⟩:=h.is;exact⟨h.le,h.short,s,h1,h2.below hb,S,K,I,L,iv,lv,h3.below hb⟩
theorem TxGot.len(h:TxGot w lo hi x cs):cs.length=40:=by
 obtain⟨s,rfl,h2,_⟩:=h.is;exact Xac h2.m.recent
theorem TxGot.size(h:TxGot w lo hi x cs):(Tryz.prog.info? 42).map (·.size)=some cs.length:=by rw[h.len,Xba]
theorem TxGot.one(h:TxGot w lo hi x cs):∀u ∈ cs,u.oneCell'=true:=by
 obtain⟨s,rfl,_⟩:=h.is;exact Xbm
theorem TxGot.same(h:TxGot w lo hi x cs)(h':TxGot w lo' hi' x cs')(hz:hi≤w.heap.size)(hz':hi'≤w.heap.size) :
 Calls Tryz.prog 17 #[.agg cs.toArray,.agg cs'.toArray] w fun e w'=>e=.returned (.bool true)∧Below w.heap.size w w':=by
 obtain⟨s,rfl,h2,_⟩:=h.is;obtain⟨s',rfl,h2',_⟩:=h'.is;exact Xrw s s' x hi hi' w h2 hz h2' hz'
theorem TxV.got{s:TRaw}(h:TxV w lo hi s x):TxGot w lo hi x (TRaw.cells s x):=by
 obtain⟨mid,h1,h2,_,h4⟩:=h.is;exact⟨by omega,⟨h4.short.2.1,h4.short.2.2⟩,s,rfl,h.in_,h.pages⟩
theorem Xuw(w:World)(lo hi:Nat)(h:lo≤hi):TxGot w lo hi zTx tzero:=
 ⟨h,by simp[zTx],zRaw,rfl,Xvu w hi,_,_,_,_,_,_,Xvs w lo hi⟩
theorem Xia(S K:Sl)(iv lv:Nat→Sl × Sl)(n m:Nat):(txPages S K iv n lv m).length=2+2*n+2*m:=by
 unfold txPages pagesOf;simp only[List.length_append,List.length_cons,List.length_nil,Xfx];omega
theorem TxGot.pages(h:TxGot w lo hi x cs):∃ps:List (Sl × Kd),(∀y ∈ ps,SlFit w y)∧(blocks ps).Pairwise (·<·)∧(∀g ∈ blocks ps,lo≤g∧g<hi)∧ps.length≤262142 ∧
 ∀(p base:Nat) (ks:List (Sl × Kd)) (w0 w1:World),Below hi w w1→Bk w0 p base ks w1→hi≤base→hi≤p→ks.length≤500000 →
  Calls Tryz.prog 21 #[.pointer (some ⟨p,0,none⟩),.agg cs.toArray] w1 fun e w'=>e=.returned (.tuple #[])∧Bk w0 p base (ks++ps) w':=by
 obtain⟨s,rfl,h2,S,K,I,L,iv,lv,h3⟩:=h.is;have hs:=h.short;refine⟨txPages S K iv I.n lv L.n,h3.fits,h3.rise,h3.low,by rw[Xia,h3.n.1,h3.n.2];omega,fun p base ks w0 w1 hb hk h4 h5 h6=>?_⟩;exact Xr4 p base lo hi ks s x S K I L iv lv w0 w1 hk h2.m.recent (h3.below hb) h4 h5 (by omega)
end
theorem Xus{w:World}{g t:Nat}{xs ys:List Value}(h:Row w g t (xs++ys)){n:Nat}(hn:xs.length=n):Sees w w.heap.size (some ⟨g,0,none⟩) n xs:=
 ⟨hn,fun i u hu=>⟨_,rfl,h.lt,by
  rw[Xa5,h.cell,Nat.zero_add,List.getElem?_append_left (List.getElem?_eq_some_iff.1 hu).1];exact hu⟩⟩
theorem Xte{w1:World}{g t:Nat}{zs:List Int}{k r:Nat}(hk:k<zs.length)(R:Row w1 g t (bv (zs.take k++List.replicate (zs.length - k+r) 0))) :
 Row (w1.setCell ⟨g,k,none⟩ (.int .u8 (zs.getD k 0))) g t (bv (zs.take (k+1)++List.replicate (zs.length - (k+1)+r) 0)):=by
 have h:=R.set_ k (.int .u8 (zs.getD k 0));have e:(bv (zs.take k++List.replicate (zs.length - k+r) 0)).set k (.int .u8 (zs.getD k 0))=bv (zs.take (k+1)++List.replicate (zs.length - (k+1)+r) 0):=by
  rw[show zs.length - k+r=zs.length - (k+1)+r+1 by omega,List.replicate_succ,List.take_succ_eq_append_getElem hk,List.getD_eq_getElem?_getD,List.getElem?_eq_getElem hk];simp only[bv,cv,List.map_append,List.map_cons];rw[List.set_append_right _ _ (by simp;omega)];simp[Nat.min_eq_left (Nat.le_of_lt hk)]
 rwa [e]at h
theorem Xtz{w1:World}{g t:Nat}{zs:List Int}{j:Nat}{m:Int}(hj:j<3)(R:Row w1 g t (bv (zs++(List.replicate j m++List.replicate (3 - j) 0)))) :
 Row (w1.setCell ⟨g,zs.length+j,none⟩ (.int .u8 m)) g t (bv (zs++(List.replicate (j+1) m++List.replicate (3 - (j+1)) 0))):=by
 have h:=R.set_ (zs.length+j) (.int .u8 m);obtain rfl | rfl | rfl:j=0∨j=1∨j=2:=by omega
 all_goals simpa [bv,cv,List.set_append,List.replicate]using h
theorem Xqp(A:Option Addr)(n c:Nat)(zs:List Int)(m:Int)(w:World)(S:Nat)
 (hx:Sees w S A n (bv zs)) (hS:S≤w.heap.size) (hn:n≤1099511627776) :
 Calls Tryz.prog 36 #[.slice A n c,.int .u8 m] w fun e w'=>∃g,e=.returned (.slice (some ⟨g,0,none⟩) n (n+3))∧w.heap.size≤g∧Row w' g 5 (bv (zs++List.replicate 3 m))∧Below w.heap.size w w':=by
 obtain⟨i0,hi,hz0,hz1,hz2⟩:=info_parts Xb3;have l0:zs.length=n:=by have:=hx.len;rwa [bL]at this
 subst l0;go_enter Tryz.func36,Tryz.ntmps36
 go_wp2_with (first
  | (at_make;go_must(refine wpList_make_full _ rfl (.tmp 10) (.tmp 10) 22 rfl w.heap.size 5 i0 _ 1 Tryz.underlying22 hi hz0 hz1 .i64 .i64 _ _ (zs.length+3) rfl rfl (by simp) (by simp) (by rw[hz2];omega) (by unfold maxLen;omega) (Lr _) ?_);intro w1 hown hgrow))
 rw[Xjb]at hown;have R:=Hd (Row.of_own hown);have hb1:=(Br w.heap.size w).grown hgrow (Lr _) (fun k hk=>by cases hk);clear hown hgrow hi hz0 hz1 hz2;go_loopw [6] (fun i wr=>∃k:Nat,k≤zs.length∧i=.int .i64 k∧Row wr w.heap.size 5 (bv (zs.take k++List.replicate (zs.length - k+3) 0))∧Below w.heap.size w wr) (fun i _=>zs.length - (intOf i).toNat)
 case atStart=>exact⟨0,Nat.zero_le _,rfl,by simpa using R.out,hb1⟩
 case round =>
  obtain⟨k,hk,rfl,hr,hbr⟩:=hrel;clear R hb1;have RR:=Hd hr;by_cases hlt:k<zs.length
  ·obtain⟨a,rfl,ha,hca⟩:=((hx.below (hbr.mono hS))).byte hlt;have f0:=hr.frozen k;have c0:=hr.cell k;rw[bv_getElem?,List.getElem?_append_right (by simp;omega),List.getElem?_replicate_of_lt (by simp;omega)]at c0;have c0:wr.cell? ⟨w.heap.size,k,none⟩=some (.int .u8 0):=c0;have HS:=Hd (Xte (r:=3) hlt hr);generalize zs.getD k 0=z at *;clear hr;go_wp2;go_roundw
   case rel=>exact⟨k+1,by omega,by go_num,HS.out,hbr.setCell (Lr _) _⟩
   case measure=>simp[intOf];omega
  ·have hk':k=zs.length:=by omega
   have R2:Hid (Row wr w.heap.size 5 (bv (zs++List.replicate 3 0))):=by
    have:=hr;rw[hk']at this;simpa using Hd this
   clear hr hk' RR;go_wp2;go_loopw [7] (fun i wr=>∃j:Nat,j≤3∧i=.int .i64 j∧Row wr w.heap.size 5 (bv (zs++(List.replicate j m++List.replicate (3 - j) 0)))∧Below w.heap.size w wr) (fun i _=>3 - (intOf i).toNat)
   case atStart=>exact⟨0,Nat.zero_le _,rfl,by simpa using R2.out,hbr⟩
   case round =>
    obtain⟨j,hj,rfl,hr,hbr2⟩:=hrel;clear R2 hbr;have RR:=Hd hr;by_cases hlt:j<3
    ·have f0:=hr.frozen (zs.length+j);have c0:=hr.cell (zs.length+j);rw[bv_getElem?,List.getElem?_append_right (by omega),List.getElem?_append_right (by simp),List.getElem?_replicate_of_lt (by simp;omega)]at c0;have c0:wr.cell? ⟨w.heap.size,zs.length+j,none⟩=some (.int .u8 0):=c0;clear hr;go_wp2;go_roundw
     case rel=>exact⟨j+1,by omega,by go_num,Xtz hlt RR.out,hbr2.setCell (Lr _) _⟩
     case measure=>simp[intOf];omega
    ·have hj3:j=3:=by omega
     have R3:Hid (Row wr w.heap.size 5 (bv (zs++List.replicate 3 m))):=by
      have:=hr;rw[hj3]at this;simpa using Hd this
     clear hr hj3 RR;go_wp2;go_ret;exact⟨w.heap.size,rfl,Lr _,R3.out,hbr2⟩
theorem Xq0(A:Option Addr)(n c:Nat)(zs:List Int)(w:World)(S:Nat)
 (hx:Sees w S A n (bv zs)) (hS:S≤w.heap.size) (hn:n≤1099511627776) :
 Calls Tryz.prog 11 #[.slice A n c] w fun e w'=>∃g,e=.returned (.slice (some ⟨g,0,none⟩) n (n+3))∧w.heap.size≤g∧Row w' g 5 (bv (zs++List.replicate 3 165))∧Below w.heap.size w w':=by
 have H:=Hd (Xqp A n c zs 165 w S hx hS hn);go_enter Tryz.func11,Tryz.ntmps11
 go_wp2_with fail;refine H.out.mono ?_;rintro e w1 ⟨g,rfl,hg,hr,hb⟩;have R:=Hd hr;clear hr;go_wp2_with fail;go_ret;exact⟨g,rfl,hg,R.out,hb⟩
theorem Xsl(g:Nat)(B:Option Addr)(n d:Nat)(zs:List Int)(m:Int)(w:World)(S:Nat)
 (hr:Row w g 5 (bv (zs++List.replicate 3 m))) (hy:Sees w S B n (bv zs)) (hn:n≤1099511627776) :
 Calls Tryz.prog 60 #[.slice (some ⟨g,0,none⟩) n (n+3),.slice B n d,.int .u8 m] w fun e w'=>e=.returned (.bool true)∧∃k,w'=w.drewN k:=by
 have l0:zs.length=n:=by have:=hy.len;rwa [bL]at this
 subst l0;have hs:Sees w w.heap.size (some ⟨g,0,none⟩) zs.length (bv zs):=⟨bL _,fun i u hu=>⟨_,rfl,hr.lt,by
  rw[Xa5,hr.cell,Xbt,Nat.zero_add,List.getElem?_append_left (List.getElem?_eq_some_iff.1 hu).1];exact hu⟩⟩
 have SB:=Hd (Xi2 (some ⟨g,0,none⟩) B zs.length zs.length (zs.length+3) d zs zs w _ _ hs hy (by unfold maxLen;omega) (by unfold maxLen;omega));have R:=Hd hr;clear hs hr;go_enter Tryz.func60,Tryz.ntmps60
 go_wp2_with fail;refine SB.out.mono ?_;rintro e w1 ⟨rfl,k,rfl⟩;simp only[decide_true];go_wp2_with fail;go_loop [8] (fun i=>∃j:Nat,j≤3∧i=.int .i64 j) (fun i=>3 - (intOf i).toNat)
 case atStart=>exact⟨0,Nat.zero_le _,rfl⟩
 case round =>
  obtain⟨j,hj,rfl⟩:=hrel;by_cases hlt:j<3
  ·have c0:=R.out.cell (zs.length+j);rw[bv_getElem?,List.getElem?_append_right (by omega),List.getElem?_replicate_of_lt (by omega)]at c0;have c0:w.cell? ⟨g,zs.length+j,none⟩=some (.int .u8 m):=c0;have hm:(m != m)=false:=by simp
   go_wp2;go_round
   case rel=>exact⟨j+1,by omega,by go_num⟩
   case measure=>simp[intOf];omega
  ·go_wp2;go_ret;exact⟨rfl,k,rfl⟩
theorem Xqr(g:Nat)(B:Option Addr)(n d:Nat)(zs:List Int)(w:World)(S:Nat)
 (hr:Row w g 5 (bv (zs++List.replicate 3 165))) (hy:Sees w S B n (bv zs)) (hn:n≤1099511627776) :
 Calls Tryz.prog 18 #[.slice (some ⟨g,0,none⟩) n (n+3),.slice B n d] w fun e w'=>e=.returned (.bool true)∧∃k,w'=w.drewN k:=by
 have H:=Hd (Xsl g B n d zs 165 w S hr hy hn);clear hr;go_enter Tryz.func18,Tryz.ntmps18
 go_wp2_with fail;refine H.out.mono ?_;rintro e w1 ⟨rfl,k,rfl⟩;go_wp2_with fail;go_ret;exact⟨rfl,k,rfl⟩
theorem Xa8{P:Program}{a:Act}{o:Oper}(w:World)(ty:TypeId)(x:Operand)(ho:o.op=.load ty x)(p:Addr)(cs:List Value)(d:TypeDesc)(hu:P.underlying ty=some d)(hd:d.isRow=true)(hi:(P.info? ty).map (·.size)=some cs.length)
 (hc:∀j v,cs[j]?=some v→w.cell? (p.add j)=some v) (hx:a.eval x=.pointer (some p)):(execOp a.eval o).run P w=.ok (.value (.agg cs.toArray)) w:=by
 unfold execOp;simp only[ho,hx,Sem.run_bind,Sem.run_pure,Xd2 w p ty cs d hc hu hd hi,Result.andThen_ok]
end Go.Proofs.YtdgbodljmdcagaaGreatDoor
