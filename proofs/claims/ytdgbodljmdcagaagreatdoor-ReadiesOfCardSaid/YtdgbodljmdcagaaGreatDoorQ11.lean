import Derived.Test.YtdgbodljmdcagaaGreatDoorQ10
set_option maxRecDepth 100000
set_option maxHeartbeats 16000000
set_option linter.unusedSimpArgs false
set_option linter.unusedVariables false
namespace Go.Proofs.YtdgbodljmdcagaaGreatDoor
open Go.RowKit Go.Maps
def LkOk(x:LLook):Prop:=KeyOk x.tab∧AllBytes x.wr∧AllBytes x.rd
def errL(ts:List LTab)(x:LLook):Int:=match findT ts x.tab with | none=>11 | some l=>if x.wr.any (out6 l.length)||x.rd.any (out6 l.length)then 8 else 0
def wrL(ts:List LTab)(x:LLook):List (List Int):=pickK (fKeys ts x.tab) x.wr
def rdL(ts:List LTab)(x:LLook):List (List Int):=pickK (fKeys ts x.tab) x.rd
def resErr(ts:List LTab):List LLook→Int
 | []=>0
 | x::r=>if errL ts x=0 then resErr ts r else errL ts x
def resW(ts:List LTab)(ls:List LLook):List (List Int):=if resErr ts ls=0 then ls.flatMap (wrL ts)else[]
def resR(ts:List LTab)(ls:List LLook):List (List Int):=if resErr ts ls=0 then ls.flatMap (rdL ts)else[]
theorem Xeg(ts:List LTab):∀(a b:List LLook),resErr ts (a++b)=if resErr ts a=0 then resErr ts b else resErr ts a
 | [],b=>by simp[resErr]
 | x::r,b=>by
  show(if errL ts x=0 then resErr ts (r++b)else errL ts x)=if (if errL ts x=0 then resErr ts r else errL ts x)=0 then resErr ts b else if errL ts x=0 then resErr ts r else errL ts x
  by_cases e:errL ts x=0
  ·simp only[if_pos e];exact Xeg ts r b
  ·simp only[if_neg e]
theorem Xp8(ts:List LTab)(x:LLook):resErr ts [x]=errL ts x:=by
 unfold resErr;split
 ·rename_i h;rw[h];rfl
 ·rfl
theorem Xfh{ts:List LTab}{ls:List LLook}{k:Nat}{x:LLook}(h:ls[k]?=some x)(h0:resErr ts (ls.take k)=0):resErr ts (ls.take (k+1))=errL ts x:=by
 rw[List.take_add_one,h,Xeg,if_pos h0];exact Xp8 ts x
theorem Xdc{ts:List LTab}{ls:List LLook}{k:Nat}{x:LLook}(h:ls[k]?=some x)(h0:resErr ts (ls.take k)=0){c:Int}(hc:errL ts x=c)(h1:c≠0):resErr ts ls=c:=by
 have:=Xeg ts (ls.take (k+1)) (ls.drop (k+1));rw[List.take_append_drop,Xfh h h0,hc,if_neg h1]at this;exact this
theorem Xck(l:List (List Int))(ix:List Int):(pickK l ix).length=ix.length:=by simp[pickK]
theorem Xmp(ts:List LTab):∀ls:List LLook,(ls.flatMap (wrL ts)).length≤lookSize ls∧(ls.flatMap (rdL ts)).length≤lookSize ls
 | []=>⟨Nat.zero_le _,Nat.zero_le _⟩
 | x::r=>by
  obtain⟨a,b⟩:=Xmp ts r;have e:lookSize (x::r)=(x.wr.length+x.rd.length)+lookSize r:=by simp[lookSize]
  rw[e,List.flatMap_cons,List.flatMap_cons,List.length_append,List.length_append,wrL,rdL,Xck,Xck];omega
theorem Xdr{α:Type}(f:LLook→List α){ls:List LLook}{k:Nat}{x:LLook}(h:ls[k]?=some x):(ls.take (k+1)).flatMap f=(ls.take k).flatMap f++f x:=by
 rw[List.take_add_one,h,List.flatMap_append];simp
structure Two(w0:World)(u v:Value)(a b:List (List Int))(V:World):Prop where
 ou:V.ownsRow w0.heap.size 78 32 u a.length (bv a.flatten)
 ov:V.ownsRow w0.heap.size 78 32 v b.length (bv b.flatten)
 d:∀g,u.ownBlock=some g→v.ownBlock≠some g
 b:Below w0.heap.size w0 V
section
variable{w0 V V':World}{u v u' v':Value}{a b a':List (List Int)}
theorem Xch{w:World}{base size n g t:Nat}{e:TypeId}{v:Value}{xs ys:List Value}(h:w.ownsRow base e size v n xs)(hr:Row w g t ys)(hne:e≠t):some g≠v.ownBlock:=by
 intro hg;obtain⟨cur,hc⟩:=Xpz h hg.symm;rw[hr.is]at hc;injection hc with hc
 injection hc with _ hc
 exact hne hc.symm
theorem Two.below(h:Two w0 u v a b V)(hb:Below V.heap.size V V'):Two w0 u v a b V':=⟨Xal h.ou hb,Xal h.ov hb,h.d,h.b.trans (hb.mono h.b.size)⟩
theorem Two.pickU(h:Two w0 u v a b V)(hg:Grew V V' u u')(ho:V'.ownsRow w0.heap.size 78 32 u' a'.length (bv a'.flatten)):Two w0 u' v a' b V':=by
 have hlt:=h.ov.lt;refine⟨ho,Xfv h.ov (fun g e=>hg.grown.block g (hlt g e).2 (fun e'=>h.d g e'.symm e)),fun g e e'=>?_,h.b.trans (hg.below h.ou h.b.size)⟩;rcases hg.fresh g e with h1 | h1
 ·exact h.d g h1 e'
 ·have:=(hlt g e').2;omega
theorem Two.pickV(h:Two w0 u v a b V)(hg:Grew V V' v v')(ho:V'.ownsRow w0.heap.size 78 32 v' a'.length (bv a'.flatten)):Two w0 u v' a a' V':=by
 have hlt:=h.ou.lt;refine⟨Xfv h.ou (fun g e=>hg.grown.block g (hlt g e).2 (fun e'=>h.d g e e'.symm)),ho,fun g e e'=>?_,h.b.trans (hg.below h.ov h.b.size)⟩;rcases hg.fresh g e' with h1 | h1
 ·exact h.d g e h1
 ·have:=(hlt g e).2;omega
end
theorem Xms{w w0:World}{u:Value}{a:List (List Int)}(ho:w.ownsRow w0.heap.size 78 32 u a.length (bv a.flatten))(h32:∀y ∈ a,y.length=32) :
 ∃S:Sl,u=S.val∧S.n=a.length∧S.n≤S.c∧S.c≤maxLen∧KOut w w0.heap.size w.heap.size ⟨S.A,S.n,S.n⟩ a∧∀g,S.A=some g→u.ownBlock=some g:=by
 obtain⟨x,hv,hn,hx0,hx1⟩:=Xjk ho;obtain⟨A,c,hu,hs,hnc,hcm,_⟩:=Xbs ho;obtain⟨A',n,c'⟩:=x;have hvv:Value.slice (A'.map fun g=>⟨g,0,none⟩) n c'=.slice A a.length c:=hv.symm.trans hu;injection hvv with e1 e2 e3
 subst e1 e2 e3;refine⟨⟨A',a.length,c'⟩,hv,rfl,hnc,hcm,⟨?_,⟨rfl,h32,hs⟩,⟨Lr _,Lq hnc hcm⟩,?_⟩,?_⟩
 ·cases A' with
  | none =>
   have:=(hx0 rfl).1;exact⟨this,this⟩
  | some g =>
   obtain⟨b1,b2,_,b4,b5,cur,b6,b7⟩:=hx1 g rfl;refine⟨Lr _,Lq b4 b5,cur,b6,?_,fun h=>absurd h (by show ¬(34:Nat)<32;omega)⟩;show a.length*32≤cur.length
   have b4':a.length≤c':=b4;have b7':cur.length=c'*32:=b7;omega
 ·intro g e;have e':A'=some g:=e;subst e';obtain⟨b1,b2,_⟩:=hx1 g rfl;exact⟨b1,b2⟩
 ·intro g e;have e':A'=some g:=e;subst e';exact(hx1 g rfl).2.2.1
theorem all32{ts:List LTab}(hg:TsOk ts):∀(ls:List LLook),(∀x ∈ ls,LkOk x)→resErr ts ls=0→(∀y ∈ ls.flatMap (wrL ts),y.length=32)∧∀y ∈ ls.flatMap (rdL ts),y.length=32
 | [],_,_=>⟨fun y hy=>(by cases hy),fun y hy=>(by cases hy)⟩
 | x::r,hok,h0=>by
  obtain⟨h1,h2⟩:errL ts x=0∧resErr ts r=0:=by
   unfold resErr at h0;split at h0
   ·exact⟨‹_›,h0⟩
   ·exact absurd h0 ‹_›
  obtain⟨a,b⟩:=all32 hg r (fun y hy=>hok y (List.mem_cons_of_mem _ hy)) h2;obtain⟨k0,k1,k2⟩:=hok x (by simp);unfold errL at h1;cases hf:findT ts x.tab with
  | none=>rw[hf]at h1;simp at h1
  | some l =>
   rw[hf]at h1;obtain⟨h32,_,_⟩:=hg.find hf;have hx:x.wr.any (out6 l.length)=false∧x.rd.any (out6 l.length)=false:=by
    simp only[]at h1;split at h1
    ·cases h1
    ·rename_i hn
     simpa using hn
   have e:fKeys ts x.tab=l:=by unfold fKeys;rw[hf];rfl
   rw[List.flatMap_cons,List.flatMap_cons];unfold wrL rdL;rw[e];refine⟨fun y hy=>?_,fun y hy=>?_⟩
   ·rcases List.mem_append.1 hy with hy | hy
    ·exact Xks h32 hx.1 k1 y hy
    ·exact a y hy
   ·rcases List.mem_append.1 hy with hy | hy
    ·exact Xks h32 hx.2 k2 y hy
    ·exact b y hy
def ResDone(w:World)(ts:List LTab)(ls:List LLook)(e:Ending)(w':World):Prop:=
 ∃S T:Sl,e=.returned (.tuple #[S.val,T.val,.int .i64 (resErr ts ls)])∧KOut w' w.heap.size w'.heap.size S (resW ts ls)∧KOut w' w.heap.size w'.heap.size T (resR ts ls)∧((∀g,S.A=some g→T.A≠some g)∧S.c=S.n∧T.c=T.n)∧Below w.heap.size w w'
theorem ResDone.not{w w':World}{ts:List LTab}{ls:List LLook}{c:Int}(hc:resErr ts ls=c)(h0:c≠0)(hb:Below w.heap.size w w'):ResDone w ts ls (.returned (.tuple #[nilK,nilK,.int .i64 c])) w':=by
 have h1:resErr ts ls≠0:=by rw[hc];exact h0
 refine⟨⟨none,0,0⟩,⟨none,0,0⟩,by rw[hc];rfl,?_,?_,⟨fun g e=>(by cases e),rfl,rfl⟩,hb⟩
 ·rw[resW,if_neg h1];exact KOut.nil _ _ _
 ·rw[resR,if_neg h1];exact KOut.nil _ _ _
theorem Xj9(rb mb hi n:Nat)(ts:List LTab)(A:Option Addr)(m c B:Nat)(ls:List LLook)(w:World)(h:Reg w rb mb hi n ts)(hl:LooksIn w B A m ls)(hB:B≤w.heap.size)(hok:∀x ∈ ls,LkOk x)(hm:m≤4000)(hs:lookSize ls≤4000) :
 Calls Tryz.prog 83 #[.pointer (some ⟨rb,0,none⟩),.slice A m c] w (ResDone w ts ls):=by
 have HT:=Hd (Xkw rb mb _ h.row);have HREG:=Hd h;have HHI:=Hd h.lt.2.2;have HL:=Hd hl;have HLN:=Hd hl.len;have HOK:=Hd hok;have HS:=Hd hs;clear h hl hok hs;go_enter Tryz.func83,Tryz.ntmps83
 go_wp2_with (go_at_call 80;refine HT.out.mono ?_;rintro e w' ⟨rfl,rfl⟩)
 go_loopw [4,5,16] (fun u v i wr=>∃k:Nat,k≤m∧i=.int .i64 k∧resErr ts (ls.take k)=0∧Two w u v ((ls.take k).flatMap (wrL ts)) ((ls.take k).flatMap (rdL ts)) wr) (fun u v i _=>m - (intOf i).toNat)
 case atStart=>exact⟨0,Nat.zero_le _,rfl,rfl,⟨World.ownsRow_nil _ _ _ _,World.ownsRow_nil _ _ _ _,fun g e=>(by cases e),Br _ _⟩⟩
 case round =>
  obtain⟨k,hk,rfl,hr0,htwo⟩:=hrel;have HR0:=Hd hr0;have H2:=Hd htwo;have HREGR:=Hd (HREG.out.below (htwo.b.mono HHI.out));have c0:wr.cell? ⟨rb,0,none⟩=some (.map (some mb)):=HREGR.out.row.cell 0;have HRB:Hid (rb<wr.heap.size):=Hd HREGR.out.row.lt;have HSZW:Hid (w.heap.size≤wr.heap.size):=Hd htwo.b.size;clear hr0 htwo;by_cases hlt:k<m
  ·obtain⟨a,x,va,vd,rfl,hab,hx,hat⟩:=(HL.out.below (H2.out.b.mono hB)).get hlt;obtain⟨⟨hkey,hwb,hrb⟩,hmem⟩:=And.intro (HOK.out x (List.mem_of_getElem? hx)) (List.mem_of_getElem? hx);have hsz:=Xin hmem;obtain⟨A1,c1,rfl,hs1,hn1,hc1⟩:=hat.wr.is;obtain⟨A2,c2,rfl,hs2,hn2,hc2⟩:=hat.rd.is;have HX:=Hd hx;have HKEY:=Hd hkey;have HWB:=Hd (And.intro hwb hrb);have HSN:=Hd (show x.wr.length≤4000∧x.rd.length≤4000 by have:=HS.out;omega);have HS1:=Hd (And.intro hs1 hs2);have HON:=Hd (Xei (tab:=x.tab) hat.wr hat.rd);have HCE:=Hd hat.cells;have HSZL:=Hd (Xdm hat.len (.slice A1 x.wr.length c1) (.slice A2 x.rd.length c2));have HLL:Hid (34=(bv x.tab++[Value.slice A1 x.wr.length c1,.slice A2 x.rd.length c2]).length):=Hd (by simp[bL,hat.len]);have HXL:Hid ((bv x.tab).length=32):=Hd (by rw[bL,hat.len]);have HSX:=Hd (show(Tryz.prog.info? 78).map (·.size)=some (bv x.tab).length by rw[bL,hat.len];exact Xab);have HC32:Hid (∀V:World,Row V wr.heap.size 124 (bv x.tab++[Value.slice A1 x.wr.length c1,.slice A2 x.rd.length c2])→V.cell? ⟨wr.heap.size,32,none⟩=some (.slice A1 x.wr.length c1)∧V.cell? ⟨wr.heap.size,33,none⟩=some (.slice A2 x.rd.length c2)):=Hd fun V hr=>Xc5 hr hat.len
   obtain⟨g,hlk,hg⟩:=HREGR.out.look_any hkey;have hmb:mb<wr.heap.size:=Nat.lt_of_lt_of_le HREGR.out.lt.2.1 HREGR.out.lt.2.2;have HLK:Hid (∀V:World,Below wr.heap.size wr V→∀q,(Instr.lookup 64 (.map (some mb)) (.agg (bv x.tab).toArray) true).run Tryz.prog (V.drewN q)=.ok (.tuple #[seen ts x.tab g,.bool (findT ts x.tab).isSome]) (V.drewN q)):=Hd fun V hV q=>hlk _ (hV.block mb hmb)
   clear hmb;clear hkey hwb hrb hmem hsz hs1 hs2 hn1 hn2 hc1 hc2 hat hx hlk;generalize hXX:bv x.tab=X at *;generalize hLL:X++[Value.slice A1 x.wr.length c1,.slice A2 x.rd.length c2]=L at *;have HXI:Hid (∀j u,X[j]?=some u→L[j]?=some u):=Hd fun j u hu=>by
    rw[←hLL,List.getElem?_append_left (List.getElem?_eq_some_iff.1 hu).1];exact hu
   clear hXX hLL;cases hf:findT ts x.tab with
   | none =>
    have hv:seen ts x.tab g=nilK:=by unfold seen;rw[hf]
    rw[hv,hf]at HLK;unfold nilK at HLK;have HE:Hid (resErr ts ls=11):=Hd (Xdc HX.out HR0.out (by unfold errL;rw[hf]) (by omega));clear hv hf hg;go_wp2_with (first
     | ((with_reducible show wpList _ _ _ (⟨some 19,_,_,_,_,_⟩::_) _ _);go_must(refine Xa3 rfl 124 (.tmp 18) rfl (a.add (k*34)) L _ Tryz.underlying124 rfl HSZL.out HCE.out ?_ ?_;go_simp))
     | (with_reducible show wpList _ _ _ (⟨none,Op.store 124 _ _,_,_,_,_⟩::_) _ _;go_must(refine Xa1 rfl 124 (.tmp 8) (.tmp 19) rfl L HSZL.out HON.out (by rw[←HLL.out];kernel_rfl) ?_ ?_ ?_;go_simp;go_simp;intro W hr2 hb2 hz2;have RL:=Hd hr2;have BW:=Hd hb2;have hlw:=HLK.out W hb2;have cW:W.cell? ⟨rb,0,none⟩=some (.map (some mb)):=(hb2.cell HRB.out).trans c0;clear hr2 hb2 hz2)))
    try simp only[Act.put]
    refine wp_region_quiet_lit (by kernel_rfl) (by kernel_rfl) ?_;repeat (first
     | ((with_reducible show wpQuiet _ _ _ _ (⟨some 26,_,_,_,_,_⟩::_) _);go_must(refine Xa6 (by kernel_rfl) 78 (.tmp 25) rfl ⟨wr.heap.size,0,none⟩ X _ Tryz.underlying78 rfl HSX.out (by rintro _ ⟨nq,rfl⟩ j v hv;exact(by rw[Xa5,Nat.zero_add];exact(RL.out.cell j).trans (HXI.out j v hv))) ?_ ?_;go_simp;go_simp))
     | go_big_quiet_step (fail))
    refine wpQuiet_nil ?_;intro nq;go_wp2_with fail;go_ret3
    exact ResDone.not HE.out (by omega) (H2.out.b.trans ((show Below wr.heap.size wr (W.drewN nq)from⟨BW.out.os,BW.out.tape,BW.out.output,BW.out.size,BW.out.block⟩).mono H2.out.b.size))
   | some l =>
    have hv:seen ts x.tab g=.slice (some ⟨g,0,none⟩) l.length l.length:=by unfold seen;rw[hf]
    rw[hv,hf]at HLK;obtain⟨hgr,hgi⟩:=hg l hf;obtain⟨h32,hl1,hl2⟩:=HREG.out.good.find hf;have HF:=Hd hf;have HG32:=Hd h32;have HGK:Hid (∀V:World,Below wr.heap.size wr V→KeysIn V w.heap.size (some ⟨g,0,none⟩) l.length l):=Hd fun V hV=>Xmw (ys:=[]) (by rw[List.append_nil];exact hgr.below hV hgr.lt) rfl h32 (Nat.lt_of_lt_of_le hgi HHI.out)
    clear hv hf hg hgr h32;have HLE:=Hd hl2;obtain⟨tt,htt⟩:∃tt,tt=l.length:=⟨_,rfl⟩;have HTT:=Hd htt;rw[←htt]at HLK hl1 hl2;obtain⟨n1,hn1⟩:∃n1,n1=x.wr.length:=⟨_,rfl⟩;obtain⟨n2,hn2⟩:∃n2,n2=x.rd.length:=⟨_,rfl⟩;have HN1:=Hd hn1;have HN2:=Hd hn2;rw[←hn1,←hn2]at HC32 HS1;rw[←hn1,←hn2]at HSN;clear hn1 hn2 htt;go_wp2_with (first
     | ((with_reducible show wpList _ _ _ (⟨some 19,_,_,_,_,_⟩::_) _ _);go_must(refine Xa3 rfl 124 (.tmp 18) rfl (a.add (k*34)) L _ Tryz.underlying124 rfl HSZL.out HCE.out ?_ ?_;go_simp))
     | (with_reducible show wpList _ _ _ (⟨none,Op.store 124 _ _,_,_,_,_⟩::_) _ _;go_must(refine Xa1 rfl 124 (.tmp 8) (.tmp 19) rfl L HSZL.out HON.out (by rw[←HLL.out];kernel_rfl) ?_ ?_ ?_;go_simp;go_simp;intro W hr2 hb2 hz2;have RL:=Hd hr2;have BW:=Hd hb2;have hlw:=HLK.out W hb2;have cW:W.cell? ⟨rb,0,none⟩=some (.map (some mb)):=(hb2.cell HRB.out).trans c0;clear hr2 hb2 hz2)))
    try simp only[Act.put]
    refine wp_region_quiet_lit (by kernel_rfl) (by kernel_rfl) ?_;repeat (first
     | ((with_reducible show wpQuiet _ _ _ _ (⟨some 26,_,_,_,_,_⟩::_) _);go_must(refine Xa6 (by kernel_rfl) 78 (.tmp 25) rfl ⟨wr.heap.size,0,none⟩ X _ Tryz.underlying78 rfl HSX.out (by rintro _ ⟨nq,rfl⟩ j v hv;exact(by rw[Xa5,Nat.zero_add];exact(RL.out.cell j).trans (HXI.out j v hv))) ?_ ?_;go_simp;go_simp))
     | go_big_quiet_step (fail))
    refine wpQuiet_nil ?_;intro nq;have HBV:Hid (Below wr.heap.size wr (W.drewN nq)):=Hd ⟨BW.out.os,BW.out.tape,BW.out.output,BW.out.size,BW.out.block⟩;have RV:Hid (Row (W.drewN nq) wr.heap.size 124 L):=Hd ⟨RL.out.is⟩;have H2V:=Hd (H2.out.below HBV.out);have cV:(W.drewN nq).cell? ⟨rb,0,none⟩=some (.map (some mb)):=cW;clear RL BW hlw cW;generalize W.drewN nq=V at *;obtain⟨e1,e2⟩:=HC32.out V RV.out;have C1:=Hd (Xqt A1 (some ⟨g,0,none⟩) n1 c1 tt tt B x.wr V (HS1.out.1.below (HBV.out.mono (Lq hB HSZW.out))) (Lq (Lq hB HSZW.out) HBV.out.size) HWB.out.1 HSN.out.1 (by omega));by_cases hp1:x.wr.any (out6 tt)=true
    ·have HE:Hid (resErr ts ls=8):=Hd (Xdc HX.out HR0.out (by unfold errL;rw[HF.out];dsimp only;rw[←HTT.out];simp[hp1]) (by omega));rw[hp1]at C1;clear hp1;go_wp2_with fail;refine C1.out.mono ?_;rintro e w2 ⟨rfl,hb2⟩;have B2:=Hd hb2;clear hb2;go_wp2_with fail;go_ret3
     exact ResDone.not HE.out (by omega) ((H2V.out.below B2.out).b)
    have hp1:x.wr.any (out6 tt)=false:=by simpa using hp1
    have HP1:=Hd hp1;rw[hp1]at C1;clear hp1;go_wp2_with fail;refine C1.out.mono ?_;rintro e w2 ⟨rfl,hb2⟩;have hb2r:Below wr.heap.size wr w2:=HBV.out.trans (hb2.mono HBV.out.size);have HB2:=Hd hb2r;have H22:=Hd (H2V.out.below hb2);have R2:=Hd (RV.out.below hb2 RV.out.lt);have hz2:w.heap.size≤w2.heap.size:=Lq HSZW.out hb2r.size;have HZ2:=Hd hz2;obtain⟨f1,f2⟩:=HC32.out w2 R2.out;have C2:=Hd (Xqt A2 (some ⟨g,0,none⟩) n2 c2 tt tt B x.rd w2 (HS1.out.2.below (hb2r.mono (Lq hB HSZW.out))) (Lq hB hz2) HWB.out.2 HSN.out.2 (by omega));clear e1 e2 hb2 hb2r C1 cV H2V RV HBV hz2;by_cases hp2:x.rd.any (out6 tt)=true
    ·have HE:Hid (resErr ts ls=8):=Hd (Xdc HX.out HR0.out (by unfold errL;rw[HF.out];dsimp only;rw[←HTT.out];simp[hp2]) (by omega));rw[hp2]at C2;clear hp2;go_wp2_with fail;refine C2.out.mono ?_;rintro e w3 ⟨rfl,hb3⟩;have B3:=Hd hb3;clear hb3;go_wp2_with fail;go_ret3
     exact ResDone.not HE.out (by omega) ((H22.out.below B3.out).b)
    have hp2:x.rd.any (out6 tt)=false:=by simpa using hp2
    have HP2:=Hd hp2;rw[hp2]at C2;clear hp2;go_wp2_with fail;refine C2.out.mono ?_;rintro e w3 ⟨rfl,hb3⟩;have hb3r:Below wr.heap.size wr w3:=HB2.out.trans (hb3.mono HB2.out.size);have HB3:=Hd hb3r;have H23:=Hd (H22.out.below hb3);have R3:=Hd (R2.out.below hb3 R2.out.lt);obtain⟨g1,g2⟩:=HC32.out w3 R3.out;have hlen:=Xmp ts (ls.take k);have hlk2:=Xd5 (l:=ls) k;have HSUM:Hid (((ls.take k).flatMap (wrL ts)).length+n1≤1000000∧((ls.take k).flatMap (rdL ts)).length+n2≤1000000):=Hd (by have:=HS.out;have:=HSN.out;omega);have C3:=Hd (pick_ w.heap.size w.heap.size _ _ _ (some ⟨g,0,none⟩) A1 tt tt n1 c1 l x.wr w3 H23.out.ou H23.out.b.size (by rw[HTT.out];exact HGK.out w3 hb3r) (((HS1.out.1.below (hb3r.mono (Lq hB HSZW.out)))).more hB) (Lr _) HWB.out.1 (by rw[←HTT.out];exact HP1.out) HSUM.out.1 hl2);clear f1 f2 hb3 hb3r C2 R2 H22 HB2 hlen hlk2;go_wp2_with fail;refine C3.out.mono ?_;rintro e w4 ⟨u4,rfl,ho4,hg4⟩;have ho4':w4.ownsRow w.heap.size 78 32 u4 ((ls.take k).flatMap (wrL ts)++pickK l x.wr).length (bv ((ls.take k).flatMap (wrL ts)++pickK l x.wr).flatten):=by
     rw[List.length_append,Xck,List.flatten_append,Xbt,←HN1.out];exact ho4
    have H24:=Hd (H23.out.pickU hg4 ho4');have R4:=Hd (hg4.row R3.out (Xch H23.out.ou R3.out (by decide)));have hz4:w.heap.size≤w4.heap.size:=H24.out.b.size;have hb4r:Below w.heap.size wr w4:=(HB3.out.mono HSZW.out).trans (hg4.below H23.out.ou H23.out.b.size);have hgk4:KeysIn w4 w.heap.size (some ⟨g,0,none⟩) l.length l:=(HGK.out w3 HB3.out).below (hg4.below H23.out.ou H23.out.b.size);obtain⟨i1,i2⟩:=HC32.out w4 R4.out;have C4:=Hd (pick_ w.heap.size w.heap.size _ _ _ (some ⟨g,0,none⟩) A2 tt tt n2 c2 l x.rd w4 H24.out.ov H24.out.b.size (by rw[HTT.out];exact hgk4) (((HS1.out.2.below (hb4r.mono hB))).more hB) (Lr _) HWB.out.2 (by rw[←HTT.out];exact HP2.out) HSUM.out.2 hl2);clear g1 g2 ho4 ho4' hg4 C3 R3 H23 hz4 hb4r hgk4 HB3;go_wp2_with fail;refine C4.out.mono ?_;rintro e w5 ⟨v5,rfl,ho5,hg5⟩;have ho5':w5.ownsRow w.heap.size 78 32 v5 ((ls.take k).flatMap (rdL ts)++pickK l x.rd).length (bv ((ls.take k).flatMap (rdL ts)++pickK l x.rd).flatten):=by
     rw[List.length_append,Xck,List.flatten_append,Xbt,←HN2.out];exact ho5
    have H25:=Hd (H24.out.pickV hg5 ho5');clear i1 i2 ho5 ho5' hg5 C4 R4 H24;have HNX:Hid (resErr ts (ls.take (k+1))=0):=Hd (by
     rw[Xfh HX.out HR0.out];unfold errL;rw[HF.out];simp only[];rw[←HTT.out,HP1.out,HP2.out];rfl)
    have HNW:Hid ((ls.take (k+1)).flatMap (wrL ts)=(ls.take k).flatMap (wrL ts)++pickK l x.wr∧(ls.take (k+1)).flatMap (rdL ts)=(ls.take k).flatMap (rdL ts)++pickK l x.rd):=Hd (by
     rw[Xdr _ HX.out,Xdr _ HX.out];unfold wrL rdL fKeys;rw[HF.out];exact⟨rfl,rfl⟩)
    go_wp2_with fail;go_roundw
    case rel =>
     refine⟨k+1,by omega,by go_num,HNX.out,?_⟩;rw[HNW.out.1,HNW.out.2];exact H25.out
    case measure=>simp[intOf];omega
  ·have hkm:k=m:=by omega
   have HTK:Hid (ls.take k=ls):=Hd (List.take_of_length_le (by rw[HLN.out];omega));have HE:Hid (resErr ts ls=0):=Hd (by have:=HR0.out;rwa [HTK.out]at this);have HF:Hid (Two w _ _ (ls.flatMap (wrL ts)) (ls.flatMap (rdL ts)) wr):=Hd (by have:=H2.out;rw[HTK.out]at this;exact this);have h32:(∀y ∈ ls.flatMap (wrL ts),y.length=32)∧∀y ∈ ls.flatMap (rdL ts),y.length=32:=by
    have:=all32 HREG.out.good ls HOK.out HE.out;exact this
   obtain⟨S,rfl,hS1,hS2,hS3,hS4,hS5⟩:=Xms HF.out.ou h32.1;obtain⟨T,rfl,hT1,hT2,hT3,hT4,hT5⟩:=Xms HF.out.ov h32.2;have HDONE:Hid (ResDone w ts ls (.returned (.tuple #[.slice (S.A.map fun g=>⟨g,0,none⟩) S.n S.n,.slice (T.A.map fun g=>⟨g,0,none⟩) T.n T.n,.int .i64 0])) wr):=Hd
    ⟨⟨S.A,S.n,S.n⟩,⟨T.A,T.n,T.n⟩,by rw[HE.out];rfl,by rw[resW,if_pos HE.out];exact hS4,by rw[resR,if_pos HE.out];exact hT4,⟨fun g e e'=>HF.out.d g (hS5 g e) (hT5 g e'),rfl,rfl⟩,HF.out.b⟩
   have CS:=Hd (clipK (S.A.map fun g=>⟨g,0,none⟩) S.n S.c wr hS2 hS3);have CT:=Hd (clipK (T.A.map fun g=>⟨g,0,none⟩) T.n T.c wr hT2 hT3);clear hS1 hS2 hS3 hS4 hS5 hT1 hT2 hT3 hT4 hT5 h32 hkm;unfold Sl.val;go_wp2_with fail;refine CS.out.mono ?_;rintro e w' ⟨rfl,rfl⟩;go_wp2_with fail;refine CT.out.mono ?_;rintro e w' ⟨rfl,rfl⟩;go_wp2_with fail;go_ret3
   exact HDONE.out
open Go.RowKit
structure Elems{α:Type}(size:Nat)(E:World→Nat→List Value→α→Prop)(w:World)(B:Nat)(l:List α)(css:List (List Value)):Prop where
 len:css.length=l.length
 at_:∀(i:Nat) (x:α) (cs:List Value),l[i]?=some x→css[i]?=some cs→E w B cs x∧cs.length=size∧∀u ∈ cs,u.oneCell'=true
section
variable{α:Type}{size:Nat}{E:World→Nat→List Value→α→Prop}{w w':World}{B B':Nat}{l l':List α}{css css':List (List Value)}
theorem Elems.size_(h:Elems size E w B l css):∀(i:Nat) y,css[i]?=some y→y.length=size:=fun i y hy=>by
 have hi:=(List.getElem?_eq_some_iff.1 hy).1;exact(h.at_ i _ y (List.getElem?_eq_getElem (by rw[←h.len];exact hi)) hy).2.1
theorem Elems.app(h:Elems size E w B l css)(h':Elems size E w B l' css'):Elems size E w B (l++l') (css++css'):=
 ⟨by rw[List.length_append,List.length_append,h.len,h'.len],fun i x cs hx hcs=>by
  by_cases hi:i<l.length
  ·rw[List.getElem?_append_left hi]at hx;rw[List.getElem?_append_left (by rw[h.len];exact hi)]at hcs;exact h.at_ i x cs hx hcs
  ·rw[List.getElem?_append_right (by omega)]at hx;rw[List.getElem?_append_right (by rw[h.len];omega),h.len]at hcs;exact h'.at_ _ x cs hx hcs⟩
theorem Elems.map(h:Elems size E w B l css)(hm:∀cs x,E w B cs x→E w' B' cs x):Elems size E w' B' l css:=
 ⟨h.len,fun i x cs hx hcs=>by
  obtain⟨a,b⟩:=h.at_ i x cs hx hcs;exact⟨hm _ _ a,b⟩⟩
theorem Elems.get(h:Elems size E w B l css){A:Option Addr}{C:Nat}(hs:Sees w C A (l.length*size) css.flatten){k:Nat}(hk:k<l.length)(h0:0<size) :
 ∃a x cs,A=some a∧a.block<C∧l[k]?=some x∧css[k]?=some cs∧E w B cs x∧cs.length=size∧(∀j u,cs[j]?=some u→w.cell? ((a.add (k*size)).add j)=some u)∧∀u ∈ cs,u.oneCell'=true:=by
 have hx:=List.getElem?_eq_getElem (l:=l) (i:=k) hk;have hcs:=List.getElem?_eq_getElem (l:=css) (i:=k) (by rw[h.len];exact hk);obtain⟨e1,e2,e3⟩:=h.at_ k _ _ hx hcs;have hat:=Xbh size css k _ h.size_ hcs;obtain⟨u0,hu0⟩:∃u,(css[k]'(by rw[h.len];exact hk))[0]?=some u:=⟨_,List.getElem?_eq_getElem (show 0<(css[k]'(by rw[h.len];exact hk)).length by rw[e2];exact h0)⟩;obtain⟨a,rfl,hab,_⟩:=hs.cell _ _ (hat 0 u0 hu0);refine⟨a,_,_,rfl,hab,hx,hcs,e1,e2,fun j u hu=>?_,e3⟩;obtain⟨a',e,_,hc⟩:=hs.cell _ _ (hat j u hu);cases e
 rw[Xbr];exact hc
end
def k0:List Int:=List.replicate 32 0
def k3:List Int:=3::List.replicate 31 0
def kn(x:List Int):Bool:=decide (x=k0)||decide (x=k3)
theorem Xvq:k0.length=32:=rfl
theorem Xn8:k3.length=32:=rfl
theorem Xn1:Tryz.prog.built 78 []=some (bv k0).toArray:=by kernel_rfl
theorem Xkf:Tryz.prog.built 78 [(0,.int .u8 3)]=some (bv k3).toArray:=by kernel_rfl
theorem Xlt(w:World):Calls Tryz.prog 149 #[] w fun e w'=>e=.returned (.agg (bv k0).toArray)∧Below w.heap.size w w':=by
 go_enter Tryz.func149,Tryz.ntmps149
 go_wp2_with (first
  | ((with_reducible show wpList _ _ _ (⟨some 1,_,_,_,_,_⟩::_) _ _);go_must(refine wpList_plain rfl fun K hK=>Xav _ _ _ rfl (by simp only[List.map_toArray,List.map_nil];exact Xn1) (hK _ _ ?_)))
  | ((with_reducible show wpList _ _ _ (⟨none,Op.store 78 _ _,_,_,_,_⟩::_) _ _);go_must(refine Xa1 rfl 78 (.tmp 0) (.tmp 1) rfl (bv k0) Xab (Xae _) rfl ?_ ?_ ?_;go_simp;go_simp;intro w1 hr1 hb1 hz1;have HR1:=Hd hr1;have HB1:=Hd hb1;clear hr1 hb1)))
 refine bodyPost_ret (results_cell_row (h:=rfl) _ w1 w.heap.size 78 _ (0,0) _ (by rfl) HR1.out.is Tryz.underlying78 rfl Xab) rfl ?_;exact⟨rfl,HB1.out⟩
theorem Xkj(w:World):Calls Tryz.prog 119 #[] w fun e w'=>e=.returned (.agg (bv k3).toArray)∧Below w.heap.size w w':=by
 go_enter Tryz.func119,Tryz.ntmps119
 go_wp2_with (first
  | ((with_reducible show wpList _ _ _ (⟨some 1,_,_,_,_,_⟩::_) _ _);go_must(refine wpList_plain rfl fun K hK=>Xav _ _ _ rfl (by simp only[List.map_toArray,List.map_cons,List.map_nil];exact Xkf) (hK _ _ ?_)))
  | ((with_reducible show wpList _ _ _ (⟨none,Op.store 78 _ _,_,_,_,_⟩::_) _ _);go_must(refine Xa1 rfl 78 (.tmp 0) (.tmp 1) rfl (bv k3) Xab (Xae _) rfl ?_ ?_ ?_;go_simp;go_simp;intro w1 hr1 hb1 hz1;have HR1:=Hd hr1;have HB1:=Hd hb1;clear hr1 hb1)))
 refine bodyPost_ret (results_cell_row (h:=rfl) _ w1 w.heap.size 78 _ (0,0) _ (by rfl) HR1.out.is Tryz.underlying78 rfl Xab) rfl ?_;exact⟨rfl,HB1.out⟩
theorem Xvm(x:List Int)(w:World)(hx:x.length=32):Calls Tryz.prog 134 #[.agg (bv x).toArray] w fun e w'=>e=.returned (.bool (kn x))∧Below w.heap.size w w':=by
 have hb0:Below w.heap.size w (w.alloc (.cells (bv x).toArray 78)):=(Br _ _).alloc (Lr _) _;have RX:=Hd (Row.new w 78 (bv x));have HB0:=Hd hb0;have HSZ:=Hd (show(Tryz.prog.info? 78).map (·.size)=some (bv x).length by rw[bL,hx];exact Xab);have HLT:Hid (w.heap.size<(w.alloc (.cells (bv x).toArray 78)).heap.size):=Hd (by simp);have HK:Hid (kn x=(decide (x=k0)||decide (x=k3))):=Hd rfl;have N0:=fun w=>Xej hx Xvq w
 have N3:=fun w=>Xej hx Xn8 w
 clear hb0;generalize kn x=bb at *;generalize bv x=X at *;generalize hWW:w.alloc (.cells X.toArray 78)=W at *;have HWW:=Hd hWW;clear hWW;by_cases h0:x=k0
 ·have HQ:Hid (bb=true):=Hd (by rw[HK.out,decide_eq_true h0];rfl);rw[decide_eq_true h0]at N0;clear h0 HK N3;go_enter Tryz.func134,Tryz.ntmps134
  go_upto_region 1 with fail
  rw[HWW.out];clear HWW;go_wp2_with fail;refine wp_region_held_drew (S:=(fun V=>Below W.heap.size W V)) (by kernel_rfl) (Br W.heap.size W).drew (fun _=>?_);refine Tl 0 (v:=.agg X.toArray) rfl (Or.inl ⟨by rfl,fun wz hwz=>Xa8 wz 78 (.tmp 1) rfl ⟨w.heap.size,0,none⟩ X _ Tryz.underlying78 rfl HSZ.out (fun j u hu=>(hwz.cell (by rw[Xa5];show w.heap.size<W.heap.size;have:=HLT.out;omega)).trans (by rw[Xa5,Nat.zero_add];exact(RX.out.cell j).trans hu)) (by go_simp)⟩) (Br W.heap.size W).drew ?_;try simp only[nm]
  refine Rl 1 rfl fun K hK=>?_
  go_simp;refine(Xlt _).mono ?_;rintro e w1 ⟨rfl,hb1⟩;have B1:=Hd (show Below W.heap.size W w1 from((Br W.heap.size W).drew).trans hb1);clear hb1;refine hK.out _ _ B1.out ?_;clear hK K;try simp only[nm]
  refine Tk 2 rfl ?_ B1.out ?_ ⟨?_,rfl⟩
  ·intro w hw;(try dsimp only at hw);go_simp;try with_reducible rfl
  try simp only[nm]
  refine Tk 3 rfl ?_ B1.out ?_ ⟨?_,rfl⟩
  ·intro w hw;(try dsimp only at hw);go_simp;try with_reducible rfl
  try simp only[nm]
  refine Tl 4 (v:=undef) rfl (Or.inr ⟨by rfl,rfl⟩) B1.out ?_;try simp only[nm]
  refine Tl 5 (v:=undef) rfl (Or.inr ⟨by rfl,rfl⟩) B1.out ?_;try simp only[nm]
  refine Tl 6 (v:=undef) rfl (Or.inr ⟨by rfl,rfl⟩) B1.out ?_;try simp only[nm]
  refine Tk 7 rfl ?_ B1.out ?_ ⟨?_,rfl⟩
  ·intro w hw;(try dsimp only at hw);go_simp;try with_reducible rfl
  try simp only[nm]
  refine Tk 8 rfl ?_ B1.out ?_ ⟨?_,rfl⟩
  ·intro w hw;(try dsimp only at hw);go_simp;try with_reducible rfl
  try simp only[nm]
  refine wpAnyH_done (by kernel_rfl) ?_ _;go_wp2_with fail;go_ret;exact⟨Xad HQ.out.symm,HB0.out.trans (B1.out.mono HB0.out.size)⟩
 by_cases h3:x=k3
 ·have HQ:Hid (bb=true):=Hd (by rw[HK.out,decide_eq_true h3,Bool.or_true]);rw[decide_eq_false h0]at N0;rw[decide_eq_true h3]at N3;clear h0 h3 HK;go_enter Tryz.func134,Tryz.ntmps134
  go_upto_region 1 with fail
  rw[HWW.out];clear HWW;go_wp2_with fail;refine wp_region_held_drew (S:=(fun V=>Below W.heap.size W V)) (by kernel_rfl) (Br W.heap.size W).drew (fun _=>?_);refine Tl 0 (v:=.agg X.toArray) rfl (Or.inl ⟨by rfl,fun wz hwz=>Xa8 wz 78 (.tmp 1) rfl ⟨w.heap.size,0,none⟩ X _ Tryz.underlying78 rfl HSZ.out (fun j u hu=>(hwz.cell (by rw[Xa5];show w.heap.size<W.heap.size;have:=HLT.out;omega)).trans (by rw[Xa5,Nat.zero_add];exact(RX.out.cell j).trans hu)) (by go_simp)⟩) (Br W.heap.size W).drew ?_;try simp only[nm]
  refine Rl 1 rfl fun K hK=>?_
  go_simp;refine(Xlt _).mono ?_;rintro e w1 ⟨rfl,hb1⟩;have B1:=Hd (show Below W.heap.size W w1 from((Br W.heap.size W).drew).trans hb1);clear hb1;refine hK.out _ _ B1.out ?_;clear hK K;try simp only[nm]
  refine Tk 2 rfl ?_ B1.out ?_ ⟨?_,rfl⟩
  ·intro w hw;(try dsimp only at hw);go_simp;try with_reducible rfl
  try simp only[nm]
  refine Tk 3 rfl ?_ B1.out ?_ ⟨?_,rfl⟩
  ·intro w hw;(try dsimp only at hw);go_simp;try with_reducible rfl
  try simp only[nm]
  refine Tl 4 (v:=.agg X.toArray) rfl (Or.inl ⟨by rfl,fun wz hwz=>Xa8 wz 78 (.tmp 1) rfl ⟨w.heap.size,0,none⟩ X _ Tryz.underlying78 rfl HSZ.out (fun j u hu=>(hwz.cell (by rw[Xa5];show w.heap.size<W.heap.size;have:=HLT.out;omega)).trans (by rw[Xa5,Nat.zero_add];exact(RX.out.cell j).trans hu)) (by go_simp)⟩) B1.out ?_;try simp only[nm]
  refine Rl 5 rfl fun K hK=>?_
  go_simp;refine(Xkj _).mono ?_;rintro e w2 ⟨rfl,hb2⟩;have B2:=Hd (B1.out.trans (hb2.mono B1.out.size));clear hb2;refine hK.out _ _ B2.out ?_;clear hK K;try simp only[nm]
  refine Tk 6 rfl ?_ B2.out ?_ ⟨?_,rfl⟩
  ·intro w hw;(try dsimp only at hw);go_simp;try with_reducible rfl
  try simp only[nm]
  refine Tk 7 rfl ?_ B2.out ?_ ⟨?_,rfl⟩
  ·intro w hw;(try dsimp only at hw);go_simp;try with_reducible rfl
  try simp only[nm]
  refine Tk 8 rfl ?_ B2.out ?_ ⟨?_,rfl⟩
  ·intro w hw;(try dsimp only at hw);go_simp;try with_reducible rfl
  try simp only[nm]
  refine wpAnyH_done (by kernel_rfl) ?_ _;go_wp2_with fail;go_ret;exact⟨Xad HQ.out.symm,HB0.out.trans (B2.out.mono HB0.out.size)⟩
 ·have HQ:Hid (bb=false):=Hd (by rw[HK.out,decide_eq_false h0,decide_eq_false h3];rfl);rw[decide_eq_false h0]at N0;rw[decide_eq_false h3]at N3;clear h0 h3 HK;go_enter Tryz.func134,Tryz.ntmps134
  go_upto_region 1 with fail
  rw[HWW.out];clear HWW;go_wp2_with fail;refine wp_region_held_drew (S:=(fun V=>Below W.heap.size W V)) (by kernel_rfl) (Br W.heap.size W).drew (fun _=>?_);refine Tl 0 (v:=.agg X.toArray) rfl (Or.inl ⟨by rfl,fun wz hwz=>Xa8 wz 78 (.tmp 1) rfl ⟨w.heap.size,0,none⟩ X _ Tryz.underlying78 rfl HSZ.out (fun j u hu=>(hwz.cell (by rw[Xa5];show w.heap.size<W.heap.size;have:=HLT.out;omega)).trans (by rw[Xa5,Nat.zero_add];exact(RX.out.cell j).trans hu)) (by go_simp)⟩) (Br W.heap.size W).drew ?_;try simp only[nm]
  refine Rl 1 rfl fun K hK=>?_
  go_simp;refine(Xlt _).mono ?_;rintro e w1 ⟨rfl,hb1⟩;have B1:=Hd (show Below W.heap.size W w1 from((Br W.heap.size W).drew).trans hb1);clear hb1;refine hK.out _ _ B1.out ?_;clear hK K;try simp only[nm]
  refine Tk 2 rfl ?_ B1.out ?_ ⟨?_,rfl⟩
  ·intro w hw;(try dsimp only at hw);go_simp;try with_reducible rfl
  try simp only[nm]
  refine Tk 3 rfl ?_ B1.out ?_ ⟨?_,rfl⟩
  ·intro w hw;(try dsimp only at hw);go_simp;try with_reducible rfl
  try simp only[nm]
  refine Tl 4 (v:=.agg X.toArray) rfl (Or.inl ⟨by rfl,fun wz hwz=>Xa8 wz 78 (.tmp 1) rfl ⟨w.heap.size,0,none⟩ X _ Tryz.underlying78 rfl HSZ.out (fun j u hu=>(hwz.cell (by rw[Xa5];show w.heap.size<W.heap.size;have:=HLT.out;omega)).trans (by rw[Xa5,Nat.zero_add];exact(RX.out.cell j).trans hu)) (by go_simp)⟩) B1.out ?_;try simp only[nm]
  refine Rl 5 rfl fun K hK=>?_
  go_simp;refine(Xkj _).mono ?_;rintro e w2 ⟨rfl,hb2⟩;have B2:=Hd (B1.out.trans (hb2.mono B1.out.size));clear hb2;refine hK.out _ _ B2.out ?_;clear hK K;try simp only[nm]
  refine Tk 6 rfl ?_ B2.out ?_ ⟨?_,rfl⟩
  ·intro w hw;(try dsimp only at hw);go_simp;try with_reducible rfl
  try simp only[nm]
  refine Tk 7 rfl ?_ B2.out ?_ ⟨?_,rfl⟩
  ·intro w hw;(try dsimp only at hw);go_simp;try with_reducible rfl
  try simp only[nm]
  refine Tk 8 rfl ?_ B2.out ?_ ⟨?_,rfl⟩
  ·intro w hw;(try dsimp only at hw);go_simp;try with_reducible rfl
  try simp only[nm]
  refine wpAnyH_done (by kernel_rfl) ?_ _;go_wp2_with fail;go_ret;exact⟨Xad HQ.out.symm,HB0.out.trans (B2.out.mono HB0.out.size)⟩
theorem Xdt{P:Program}{op:Oper}{a:Act}{w0:World}{c:Array Value}{K:Act→World→Prop}{Q:Exit→Act→World→Prop}(ty:TypeId)(x y:Operand)(ho:op.op=.store ty x y)
 (cs:List Value) (hi:(P.info? ty).map (·.size)=some cs.length) (h1:∀u ∈ cs,u.oneCell'=true) (hl:c.size=cs.length)
 (hx:a.eval x=.pointer (some ⟨w0.heap.size,0,none⟩)) (hy:a.eval y=.agg cs.toArray)
 (h:∀w',Row w' w0.heap.size ty cs→Below w0.heap.size w0 w'→w'.heap.size=w0.heap.size+1→K (a.put op.dst undef) w'):op.wp P a ((w0.alloc (.cells c ty)).drew) K Q:=by
 have hr:Row (w0.alloc (.cells c ty)).drew w0.heap.size ty c.toList:=by
  have:=Row.new w0 ty c.toList;exact Row.drew (by simpa using this)
 refine Xah ty x y ho w0.heap.size c.toList cs hr hi (by simpa using hl) h1 hx hy fun w' hr' ht=>?_
 exact h w' hr' ((((Br _ w0).alloc (Lr _) _).drew).trans (ht.below (Lr _))) (by rw[ht.size];simp)
def below7(m:LMsg)(i:Nat):Int:=if (i:Int)<m.s then m.s - m.r else(m.keys.length:Int) - m.o
def ownRole(m:LMsg)(k:List Int)(i:Nat):LRole:=⟨k,decide ((i:Int)<m.s),decide ((i:Int)<below7 m i)&&!kn k⟩
theorem own7(q:Raw)(m:LMsg)(k:List Int)(i B:Nat)(w:World)(hk:KeysIn w B q.KA q.kn m.keys)(hre:m.recent.length=32)(hB:B≤w.heap.size)(hi:m.keys[i]?=some k)(hs:IsByte m.s)(hr:IsByte m.r)(ho:IsByte m.o)(hn:q.kn≤1000000) :
 Calls Tryz.prog 133 #[.agg (q.cells m).toArray,.int .i64 i] w fun e w'=>e=.returned (.agg (ownRole m k i).cells.toArray)∧Below w.heap.size w w':=by
 have hlen:=hk.len;have hin:i<q.kn:=by rw[←hlen];exact(List.getElem?_eq_some_iff.1 hi).1
 obtain⟨a,k',hKA,hab,hx',hat⟩:=hk.get hin;obtain rfl:k'=k:=by rw[hi]at hx';exact(Option.some.inj hx').symm
 have hkl:=hat.len;have rm:=Row.new w 40 (q.cells m);have hb0:Below w.heap.size w ((w.alloc (.cells (q.cells m).toArray 40)).alloc (.cells r0.cells.toArray 101)):=((Br w.heap.size w).alloc (Lr _) _).alloc (by simp) _;have rm2:=rm.alloc (.cells r0.cells.toArray 101);have rz:Row ((w.alloc (.cells (q.cells m).toArray 40)).alloc (.cells r0.cells.toArray 101)) (w.heap.size+1) 101 r0.cells:=Row.new' _ _ _ (by simp);have hcs:∀j u,(bv k')[j]?=some u→((w.alloc (.cells (q.cells m).toArray 40)).alloc (.cells r0.cells.toArray 101)).cell? ((a.add (i*32)).add j)=some u:=fun j u hu=>(hb0.cell (by rw[Xa7,Xa7];omega)).trans (hat.cells j u hu)
 have HX0:∀c,c=r0.cells.toArray→(w.alloc (.cells (q.cells m).toArray 40)).alloc (.cells c 101)=(w.alloc (.cells (q.cells m).toArray 40)).alloc (.cells r0.cells.toArray 101):=by rintro _ rfl;rfl
 have hlt:w.heap.size<((w.alloc (.cells (q.cells m).toArray 40)).alloc (.cells r0.cells.toArray 101)).heap.size∧w.heap.size+1<((w.alloc (.cells (q.cells m).toArray 40)).alloc (.cells r0.cells.toArray 101)).heap.size:=⟨rm2.lt,rz.lt⟩;have hc1:=rm2.cell 1;have hc2:=rm2.cell 2;have hc3:=rm2.cell 3;have hc4:=rm2.cell 4;rw[Xjr]at hc1;rw[Xjm]at hc2;rw[Xka]at hc3;rw[Xjx,hKA]at hc4;have HAB:Hid (a.block<((w.alloc (.cells (q.cells m).toArray 40)).alloc (.cells r0.cells.toArray 101)).heap.size):=Hd (by have:=hlt.1;omega);have HKN:=Hd (fun w=>Xvm k' w hkl);have HQ0:Hid ((ownRole m k' i).cells=bv k'++[.bool (decide ((i:Int)<m.s)),.bool (decide ((i:Int)<below7 m i)&&!kn k')]):=Hd rfl;have HBL:Hid (below7 m i=if (i:Int)<m.s then m.s - m.r else(q.kn:Int) - m.o):=Hd (by unfold below7;rw[hlen]);have HXL:Hid ((bv k').length=32):=Hd (by rw[bL,hkl]);have HSZ:=Hd (show(Tryz.prog.info? 78).map (·.size)=some (bv k').length by rw[HXL.out];exact Xab);have H1:=Hd (Xae k');have HSR:Hid (∀x y,(Tryz.prog.info? 101).map (·.size)=some (bv k'++[Value.bool x,.bool y]).length):=Hd fun x y=>Xfp (r:=⟨k',x,y⟩) hkl
 have HSL:Hid (∀x y,r0.cells.length=(bv k'++[Value.bool x,.bool y]).length):=Hd fun x y=>(Xc3 (r:=⟨k',x,y⟩) hkl).symm
 have HSO:Hid (∀x y,∀u ∈ bv k'++[Value.bool x,.bool y],u.oneCell'=true):=Hd fun x y=>Xd3 ⟨k',x,y⟩
 have CK:=Hd hcs;have HB0:=Hd hb0;have HLT:=Hd hlt;have RZ:=Hd rz;have C1:=Hd hc1;have C2:=Hd hc2;have C3:=Hd hc3;have C4:=Hd hc4;obtain⟨s0,s1⟩:0≤m.s∧m.s<256:=hs;obtain⟨t0,t1⟩:0≤m.r∧m.r<256:=hr;obtain⟨o0,o1⟩:0≤m.o∧m.o<256:=ho;have ws:IntKind.i64.wrap m.s=m.s:=IntWalk.i64_in _ (by omega);have wr:IntKind.i64.wrap m.r=m.r:=IntWalk.i64_in _ (by omega);have wo:IntKind.i64.wrap m.o=m.o:=IntWalk.i64_in _ (by omega);have n0:(0:Int)≤(i:Int):=Int.natCast_nonneg _;have n1:(i:Int)<(q.kn:Int):=by omega
 clear hk hre hi hx' hat hkl rm hb0 rm2 rz hcs hlt hc1 hc2 hc3 hc4 hKA hlen hab;generalize (q.cells m).toArray=MC at *;generalize (ownRole m k' i).cells=RC at *;generalize below7 m i=BL at *;generalize kn k'=bb at *;generalize bv k'=X at *;obtain⟨KA,n,kc,IA,ni,ic,LA,ln,lc⟩:=q;dsimp only at *
 generalize m.s=s at *;generalize m.r=r at *;generalize m.o=o at *;obtain⟨W,hW⟩:∃W,W=(w.alloc (.cells MC 40)).alloc (.cells r0.cells.toArray 101):=⟨_,rfl⟩;have HX:Hid (∀c,c=r0.cells.toArray→(w.alloc (.cells MC 40)).alloc (.cells c 101)=W):=Hd (by rw[hW];exact HX0);rw[←hW]at HAB CK HB0 HLT RZ C1 C2 C3 C4;clear HX0 hW;by_cases hsg:(i:Int)<s
 ·by_cases hwr:(i:Int)<s - r
  ·have HQ:Hid (RC=X++[.bool true,.bool (!bb)]):=Hd (by rw[HQ0.out,HBL.out];simp[hsg,hwr]);clear HQ0 HBL;go_enter Tryz.func133,Tryz.ntmps133
   go_upto_region 1 with fail
   rw[HX.out];rotate_left
   ·kernel_rfl
   clear HX;refine wp_region_held_drew (S:=(fun V=>Below W.heap.size W V)) (by kernel_rfl) (Br W.heap.size W).drew (fun _=>?_);have SB:=Hd (Br W.heap.size W).drew;refine Tk 0 rfl ?_ SB.out ?_ ⟨?_,rfl⟩
   ·intro w hw;(try dsimp only at hw);go_simp;try with_reducible rfl
   try simp only[nm]
   refine Tk 1 rfl ?_ SB.out ?_ ⟨?_,rfl⟩
   ·intro wz hwz;try dsimp only at hwz
    have q:=(hwz.cell (p:=⟨w.heap.size,4,none⟩) HLT.out.1).trans C4.out;go_simp;try with_reducible rfl
   try simp only[nm]
   refine Tk 2 rfl ?_ SB.out ?_ ⟨?_,rfl⟩
   ·intro w hw;(try dsimp only at hw);go_simp;try with_reducible rfl
   try simp only[nm]
   refine Tk 3 rfl ?_ SB.out ?_ ⟨?_,rfl⟩
   ·intro w hw;(try dsimp only at hw);go_simp;try with_reducible rfl
   try simp only[nm]
   refine Tl 4 (v:=.agg X.toArray) rfl (Or.inl ⟨by rfl,fun wz hwz=>Xa8 wz 78 (.tmp 12) rfl (a.add (i*32)) X _ Tryz.underlying78 rfl HSZ.out (fun j u hu=>(hwz.cell (by rw[Xa7,Xa7];exact HAB.out)).trans (CK.out j u hu)) (by go_simp)⟩) SB.out ?_;try simp only[nm]
   refine Tk 5 rfl ?_ SB.out ?_ ⟨?_,rfl⟩
   ·intro w hw;(try dsimp only at hw);go_simp;try with_reducible rfl
   try simp only[nm]
   refine Tk 6 rfl ?_ SB.out ?_ ⟨?_,rfl⟩
   ·intro w hw;(try dsimp only at hw);go_simp;try with_reducible rfl
   try simp only[nm]
   refine Tk 7 rfl ?_ SB.out ?_ ⟨?_,rfl⟩
   ·intro wz hwz;try dsimp only at hwz
    have q:=(hwz.cell (p:=⟨w.heap.size,1,none⟩) HLT.out.1).trans C1.out;go_simp;try with_reducible rfl
   try simp only[nm]
   refine Tk 8 rfl ?_ SB.out ?_ ⟨?_,rfl⟩
   ·intro w hw;(try dsimp only at hw);go_simp;try with_reducible rfl
   try simp only[nm]
   refine Rl 9 rfl fun K hK=>?_
   go_simp;refine hK.out _ _ (SB.out.alloc (Lr _) _) ?_;clear hK K;try simp only[nm]
   refine Rl 10 rfl fun K hK=>?_
   refine Xdt 78 (.tmp 5) (.tmp 13) rfl X HSZ.out H1.out ?_ ?_ ?_ ?_
   ·rw[HXL.out];rfl
   ·go_simp
   ·go_simp
   intro w1 hr1 hb1 hz1;have R1:=Hd hr1;have B1:=Hd hb1;have Z1:=Hd hz1;clear hr1 hb1 hz1;refine hK.out _ _ B1.out ?_;clear hK K;try simp only[Act.put]
   refine Tk 11 rfl ?_ B1.out ?_ ⟨?_,rfl⟩
   ·intro w hw;(try dsimp only at hw);go_simp;try with_reducible rfl
   try simp only[nm]
   refine wpAnyH_done (by kernel_rfl) ?_ _;have D1:=Hd ((B1.out.cell (p:=⟨w.heap.size,1,none⟩) HLT.out.1).trans C1.out);have D2:=Hd ((B1.out.cell (p:=⟨w.heap.size,2,none⟩) HLT.out.1).trans C2.out);have D3:=Hd ((B1.out.cell (p:=⟨w.heap.size,3,none⟩) HLT.out.1).trans C3.out);have D4:=Hd ((B1.out.cell (p:=⟨w.heap.size,4,none⟩) HLT.out.1).trans C4.out);have d1:=D1.out;have d2:=D2.out;have d3:=D3.out;have d4:=D4.out;go_wp2_with fail;go_quiet (fail)
   have RZ2:=Hd ((RZ.out.below B1.out HLT.out.2).drewN nq);have R2:=Hd (R1.out.drewN nq);have B2:=Hd (below_drewN (B1.out) nq);go_wp2_with fail;clear d1 d2 d3 d4 D1 D2 D3 D4;have RZ3:=Hd RZ2.out.drew;have R3:=Hd R2.out.drew;have B3:=Hd B2.out.drew;refine wp_region_held_drew (S:=(fun V=>Row V W.heap.size 78 X)) (by kernel_rfl) R3.out (fun _=>?_);generalize (w1.drewN nq).drew=w2 at *;refine Tl 0 (v:=.agg X.toArray) rfl (Or.inl ⟨by rfl,fun wz hwz=>Xa8 wz 78 (.tmp 5) rfl ⟨W.heap.size,0,none⟩ X _ Tryz.underlying78 rfl HSZ.out (fun j u hu=>by rw[Xa5,Nat.zero_add];exact(hwz.cell j).trans hu) (by go_simp)⟩) R3.out ?_;try simp only[nm]
   refine Tk 1 rfl ?_ R3.out ?_ ⟨?_,rfl⟩
   ·intro w hw;(try dsimp only at hw);go_simp;try with_reducible rfl
   try simp only[nm]
   refine Tk 2 rfl ?_ R3.out ?_ ⟨?_,rfl⟩
   ·intro w hw;(try dsimp only at hw);go_simp;try with_reducible rfl
   try simp only[nm]
   refine Tk 3 rfl ?_ R3.out ?_ ⟨?_,rfl⟩
   ·intro w hw;(try dsimp only at hw);go_simp;try with_reducible rfl
   try simp only[nm]
   refine Tk 4 rfl ?_ R3.out ?_ ⟨?_,rfl⟩
   ·intro w hw;(try dsimp only at hw);go_simp;try with_reducible rfl
   try simp only[nm]
   refine Tk 5 rfl ?_ R3.out ?_ ⟨?_,rfl⟩
   ·intro w hw;(try dsimp only at hw);go_simp;try with_reducible rfl
   try simp only[nm]
   refine Tl 6 (v:=.agg X.toArray) rfl (Or.inl ⟨by rfl,fun wz hwz=>Xa8 wz 78 (.tmp 5) rfl ⟨W.heap.size,0,none⟩ X _ Tryz.underlying78 rfl HSZ.out (fun j u hu=>by rw[Xa5,Nat.zero_add];exact(hwz.cell j).trans hu) (by go_simp)⟩) R3.out ?_;try simp only[nm]
   refine Rl 7 rfl fun K hK=>?_
   go_simp;refine(HKN.out _).mono ?_;rintro e w3 ⟨rfl,hb3⟩;have R4:=Hd (R3.out.below hb3 R3.out.lt);have RZ4:=Hd (RZ3.out.below hb3 RZ3.out.lt);have B4:=Hd (B3.out.trans (hb3.mono B3.out.size));clear hb3;refine hK.out _ _ R4.out ?_;clear hK K;try simp only[nm]
   refine Tk 8 rfl ?_ R4.out ?_ ⟨?_,rfl⟩
   ·intro w hw;(try dsimp only at hw);go_simp;try with_reducible rfl
   try simp only[nm]
   refine Tk 9 rfl ?_ R4.out ?_ ⟨?_,rfl⟩
   ·intro w hw;(try dsimp only at hw);go_simp;try with_reducible rfl
   try simp only[nm]
   refine Tl 10 (v:=.agg (X++[Value.bool true,.bool (!bb)]).toArray) rfl (Or.inl ⟨by rfl,fun wz hwz=>Xak wz _ _ _ rfl (by simp only[List.map_toArray,List.map_cons,List.map_nil];exact Xf2 HXL.out _ _)⟩) R4.out ?_;try simp only[nm]
   refine Rl 11 rfl fun K hK=>?_
   refine Xah 101 (.tmp 4) (.tmp 46) rfl (w.heap.size+1) r0.cells (X++[.bool true,.bool (!bb)]) RZ4.out (HSR.out _ _) (HSL.out _ _) (HSO.out _ _) ?_ ?_ ?_
   ·go_simp
   ·go_simp
   intro w5 hr5 ht5;have RZ5:=Hd hr5;have B5:=Hd ((HB0.out.trans (B4.out.mono HB0.out.size)).trans (ht5.below (Nat.le_succ _)));have R5:=Hd (ht5.row R4.out (by have:=HLT.out.2;omega));clear hr5 ht5;refine hK.out _ _ R5.out ?_;clear hK K;try simp only[Act.put]
   refine wpAnyH_done (by kernel_rfl) ?_ _;go_wp2_with fail;refine bodyPost_ret (results_cell_row (h:=rfl) _ w5 (w.heap.size+1) 101 _ (0,0) _ (by rfl) RZ5.out.is Tryz.underlying101 rfl (HSR.out _ _)) rfl ?_;exact⟨by rw[HQ.out],B5.out⟩
  ·have hwf:decide ((i:Int)<s - r)=false:=decide_eq_false hwr;have HQ:Hid (RC=X++[.bool true,.bool false]):=Hd (by rw[HQ0.out,HBL.out];simp[hsg,hwr]);clear HQ0 HBL;go_enter Tryz.func133,Tryz.ntmps133
   go_upto_region 1 with fail
   rw[HX.out];rotate_left
   ·kernel_rfl
   clear HX;refine wp_region_held_drew (S:=(fun V=>Below W.heap.size W V)) (by kernel_rfl) (Br W.heap.size W).drew (fun _=>?_);have SB:=Hd (Br W.heap.size W).drew;refine Tk 0 rfl ?_ SB.out ?_ ⟨?_,rfl⟩
   ·intro w hw;(try dsimp only at hw);go_simp;try with_reducible rfl
   try simp only[nm]
   refine Tk 1 rfl ?_ SB.out ?_ ⟨?_,rfl⟩
   ·intro wz hwz;try dsimp only at hwz
    have q:=(hwz.cell (p:=⟨w.heap.size,4,none⟩) HLT.out.1).trans C4.out;go_simp;try with_reducible rfl
   try simp only[nm]
   refine Tk 2 rfl ?_ SB.out ?_ ⟨?_,rfl⟩
   ·intro w hw;(try dsimp only at hw);go_simp;try with_reducible rfl
   try simp only[nm]
   refine Tk 3 rfl ?_ SB.out ?_ ⟨?_,rfl⟩
   ·intro w hw;(try dsimp only at hw);go_simp;try with_reducible rfl
   try simp only[nm]
   refine Tl 4 (v:=.agg X.toArray) rfl (Or.inl ⟨by rfl,fun wz hwz=>Xa8 wz 78 (.tmp 12) rfl (a.add (i*32)) X _ Tryz.underlying78 rfl HSZ.out (fun j u hu=>(hwz.cell (by rw[Xa7,Xa7];exact HAB.out)).trans (CK.out j u hu)) (by go_simp)⟩) SB.out ?_;try simp only[nm]
   refine Tk 5 rfl ?_ SB.out ?_ ⟨?_,rfl⟩
   ·intro w hw;(try dsimp only at hw);go_simp;try with_reducible rfl
   try simp only[nm]
   refine Tk 6 rfl ?_ SB.out ?_ ⟨?_,rfl⟩
   ·intro w hw;(try dsimp only at hw);go_simp;try with_reducible rfl
   try simp only[nm]
   refine Tk 7 rfl ?_ SB.out ?_ ⟨?_,rfl⟩
   ·intro wz hwz;try dsimp only at hwz
    have q:=(hwz.cell (p:=⟨w.heap.size,1,none⟩) HLT.out.1).trans C1.out;go_simp;try with_reducible rfl
   try simp only[nm]
   refine Tk 8 rfl ?_ SB.out ?_ ⟨?_,rfl⟩
   ·intro w hw;(try dsimp only at hw);go_simp;try with_reducible rfl
   try simp only[nm]
   refine Rl 9 rfl fun K hK=>?_
   go_simp;refine hK.out _ _ (SB.out.alloc (Lr _) _) ?_;clear hK K;try simp only[nm]
   refine Rl 10 rfl fun K hK=>?_
   refine Xdt 78 (.tmp 5) (.tmp 13) rfl X HSZ.out H1.out ?_ ?_ ?_ ?_
   ·rw[HXL.out];rfl
   ·go_simp
   ·go_simp
   intro w1 hr1 hb1 hz1;have R1:=Hd hr1;have B1:=Hd hb1;have Z1:=Hd hz1;clear hr1 hb1 hz1;refine hK.out _ _ B1.out ?_;clear hK K;try simp only[Act.put]
   refine Tk 11 rfl ?_ B1.out ?_ ⟨?_,rfl⟩
   ·intro w hw;(try dsimp only at hw);go_simp;try with_reducible rfl
   try simp only[nm]
   refine wpAnyH_done (by kernel_rfl) ?_ _;have D1:=Hd ((B1.out.cell (p:=⟨w.heap.size,1,none⟩) HLT.out.1).trans C1.out);have D2:=Hd ((B1.out.cell (p:=⟨w.heap.size,2,none⟩) HLT.out.1).trans C2.out);have D3:=Hd ((B1.out.cell (p:=⟨w.heap.size,3,none⟩) HLT.out.1).trans C3.out);have D4:=Hd ((B1.out.cell (p:=⟨w.heap.size,4,none⟩) HLT.out.1).trans C4.out);have d1:=D1.out;have d2:=D2.out;have d3:=D3.out;have d4:=D4.out;go_wp2_with fail;go_quiet (fail)
   have RZ2:=Hd ((RZ.out.below B1.out HLT.out.2).drewN nq);have R2:=Hd (R1.out.drewN nq);have B2:=Hd (below_drewN (B1.out) nq);go_wp2_with fail;clear d1 d2 d3 d4 D1 D2 D3 D4;have RZ3:=Hd RZ2.out.drew;have R3:=Hd R2.out.drew;have B3:=Hd B2.out.drew;refine wp_region_held_drew (S:=(fun V=>Row V W.heap.size 78 X)) (by kernel_rfl) R3.out (fun _=>?_);generalize (w1.drewN nq).drew=w2 at *;refine Tl 0 (v:=.agg X.toArray) rfl (Or.inl ⟨by rfl,fun wz hwz=>Xa8 wz 78 (.tmp 5) rfl ⟨W.heap.size,0,none⟩ X _ Tryz.underlying78 rfl HSZ.out (fun j u hu=>by rw[Xa5,Nat.zero_add];exact(hwz.cell j).trans hu) (by go_simp)⟩) R3.out ?_;try simp only[nm]
   refine Tk 1 rfl ?_ R3.out ?_ ⟨?_,rfl⟩
   ·intro w hw;(try dsimp only at hw);go_simp;try with_reducible rfl
   try simp only[nm]
   refine Tk 2 rfl ?_ R3.out ?_ ⟨?_,rfl⟩
   ·intro w hw;(try dsimp only at hw);go_simp;try with_reducible rfl
   try simp only[nm]
   refine Tk 3 rfl ?_ R3.out ?_ ⟨?_,rfl⟩
   ·intro w hw;(try dsimp only at hw);go_simp;try with_reducible rfl
   try simp only[nm]
   refine Tk 4 rfl ?_ R3.out ?_ ⟨?_,rfl⟩
   ·intro w hw;(try dsimp only at hw);go_simp;try with_reducible rfl
   try simp only[nm]
   refine Tk 5 rfl ?_ R3.out ?_ ⟨?_,rfl⟩
   ·intro w hw;(try dsimp only at hw);go_simp;try with_reducible rfl
   try simp only[nm]
   have R4:=R3;have RZ4:=RZ3;have B4:=B3;refine Tl 6 (v:=undef) rfl (Or.inr ⟨by rfl,rfl⟩) R4.out ?_;try simp only[nm]
   refine Tl 7 (v:=undef) rfl (Or.inr ⟨by rfl,rfl⟩) R4.out ?_;try simp only[nm]
   refine Tl 8 (v:=undef) rfl (Or.inr ⟨by rfl,rfl⟩) R4.out ?_;try simp only[nm]
   refine Tk 9 rfl ?_ R4.out ?_ ⟨?_,rfl⟩
   ·intro w hw;(try dsimp only at hw);go_simp;try with_reducible rfl
   try simp only[nm]
   refine Tl 10 (v:=.agg (X++[Value.bool true,.bool false]).toArray) rfl (Or.inl ⟨by rfl,fun wz hwz=>Xak wz _ _ _ rfl (by simp only[List.map_toArray,List.map_cons,List.map_nil];exact Xf2 HXL.out _ _)⟩) R4.out ?_;try simp only[nm]
   refine Rl 11 rfl fun K hK=>?_
   refine Xah 101 (.tmp 4) (.tmp 46) rfl (w.heap.size+1) r0.cells (X++[.bool true,.bool false]) RZ4.out (HSR.out _ _) (HSL.out _ _) (HSO.out _ _) ?_ ?_ ?_
   ·go_simp
   ·go_simp
   intro w5 hr5 ht5;have RZ5:=Hd hr5;have B5:=Hd ((HB0.out.trans (B4.out.mono HB0.out.size)).trans (ht5.below (Nat.le_succ _)));have R5:=Hd (ht5.row R4.out (by have:=HLT.out.2;omega));clear hr5 ht5;refine hK.out _ _ R5.out ?_;clear hK K;try simp only[Act.put]
   refine wpAnyH_done (by kernel_rfl) ?_ _;go_wp2_with fail;refine bodyPost_ret (results_cell_row (h:=rfl) _ w5 (w.heap.size+1) 101 _ (0,0) _ (by rfl) RZ5.out.is Tryz.underlying101 rfl (HSR.out _ _)) rfl ?_;exact⟨by rw[HQ.out],B5.out⟩
 ·by_cases hwr:(i:Int)<(n:Int) - o
  ·have hsf:decide ((i:Int)<s)=false:=decide_eq_false hsg;have HQ:Hid (RC=X++[.bool false,.bool (!bb)]):=Hd (by rw[HQ0.out,HBL.out];simp[hsg,hwr]);clear HQ0 HBL;go_enter Tryz.func133,Tryz.ntmps133
   go_upto_region 1 with fail
   rw[HX.out];rotate_left
   ·kernel_rfl
   clear HX;refine wp_region_held_drew (S:=(fun V=>Below W.heap.size W V)) (by kernel_rfl) (Br W.heap.size W).drew (fun _=>?_);have SB:=Hd (Br W.heap.size W).drew;refine Tk 0 rfl ?_ SB.out ?_ ⟨?_,rfl⟩
   ·intro w hw;(try dsimp only at hw);go_simp;try with_reducible rfl
   try simp only[nm]
   refine Tk 1 rfl ?_ SB.out ?_ ⟨?_,rfl⟩
   ·intro wz hwz;try dsimp only at hwz
    have q:=(hwz.cell (p:=⟨w.heap.size,4,none⟩) HLT.out.1).trans C4.out;go_simp;try with_reducible rfl
   try simp only[nm]
   refine Tk 2 rfl ?_ SB.out ?_ ⟨?_,rfl⟩
   ·intro w hw;(try dsimp only at hw);go_simp;try with_reducible rfl
   try simp only[nm]
   refine Tk 3 rfl ?_ SB.out ?_ ⟨?_,rfl⟩
   ·intro w hw;(try dsimp only at hw);go_simp;try with_reducible rfl
   try simp only[nm]
   refine Tl 4 (v:=.agg X.toArray) rfl (Or.inl ⟨by rfl,fun wz hwz=>Xa8 wz 78 (.tmp 12) rfl (a.add (i*32)) X _ Tryz.underlying78 rfl HSZ.out (fun j u hu=>(hwz.cell (by rw[Xa7,Xa7];exact HAB.out)).trans (CK.out j u hu)) (by go_simp)⟩) SB.out ?_;try simp only[nm]
   refine Tk 5 rfl ?_ SB.out ?_ ⟨?_,rfl⟩
   ·intro w hw;(try dsimp only at hw);go_simp;try with_reducible rfl
   try simp only[nm]
   refine Tk 6 rfl ?_ SB.out ?_ ⟨?_,rfl⟩
   ·intro w hw;(try dsimp only at hw);go_simp;try with_reducible rfl
   try simp only[nm]
   refine Tk 7 rfl ?_ SB.out ?_ ⟨?_,rfl⟩
   ·intro wz hwz;try dsimp only at hwz
    have q:=(hwz.cell (p:=⟨w.heap.size,1,none⟩) HLT.out.1).trans C1.out;go_simp;try with_reducible rfl
   try simp only[nm]
   refine Tk 8 rfl ?_ SB.out ?_ ⟨?_,rfl⟩
   ·intro w hw;(try dsimp only at hw);go_simp;try with_reducible rfl
   try simp only[nm]
   refine Rl 9 rfl fun K hK=>?_
   go_simp;refine hK.out _ _ (SB.out.alloc (Lr _) _) ?_;clear hK K;try simp only[nm]
   refine Rl 10 rfl fun K hK=>?_
   refine Xdt 78 (.tmp 5) (.tmp 13) rfl X HSZ.out H1.out ?_ ?_ ?_ ?_
   ·rw[HXL.out];rfl
   ·go_simp
   ·go_simp
   intro w1 hr1 hb1 hz1;have R1:=Hd hr1;have B1:=Hd hb1;have Z1:=Hd hz1;clear hr1 hb1 hz1;refine hK.out _ _ B1.out ?_;clear hK K;try simp only[Act.put]
   refine Tk 11 rfl ?_ B1.out ?_ ⟨?_,rfl⟩
   ·intro w hw;(try dsimp only at hw);go_simp;try with_reducible rfl
   try simp only[nm]
   refine wpAnyH_done (by kernel_rfl) ?_ _;have D1:=Hd ((B1.out.cell (p:=⟨w.heap.size,1,none⟩) HLT.out.1).trans C1.out);have D2:=Hd ((B1.out.cell (p:=⟨w.heap.size,2,none⟩) HLT.out.1).trans C2.out);have D3:=Hd ((B1.out.cell (p:=⟨w.heap.size,3,none⟩) HLT.out.1).trans C3.out);have D4:=Hd ((B1.out.cell (p:=⟨w.heap.size,4,none⟩) HLT.out.1).trans C4.out);have d1:=D1.out;have d2:=D2.out;have d3:=D3.out;have d4:=D4.out;go_wp2_with fail;go_quiet (fail)
   have RZ2:=Hd ((RZ.out.below B1.out HLT.out.2).drewN nq);have R2:=Hd (R1.out.drewN nq);have B2:=Hd (below_drewN (B1.out) nq);go_wp2_with fail;clear d1 d2 d3 d4 D1 D2 D3 D4;have RZ3:=Hd RZ2.out.drew;have R3:=Hd R2.out.drew;have B3:=Hd B2.out.drew;refine wp_region_held_drew (S:=(fun V=>Row V W.heap.size 78 X)) (by kernel_rfl) R3.out (fun _=>?_);generalize (w1.drewN nq).drew=w2 at *;refine Tl 0 (v:=.agg X.toArray) rfl (Or.inl ⟨by rfl,fun wz hwz=>Xa8 wz 78 (.tmp 5) rfl ⟨W.heap.size,0,none⟩ X _ Tryz.underlying78 rfl HSZ.out (fun j u hu=>by rw[Xa5,Nat.zero_add];exact(hwz.cell j).trans hu) (by go_simp)⟩) R3.out ?_;try simp only[nm]
   refine Tk 1 rfl ?_ R3.out ?_ ⟨?_,rfl⟩
   ·intro w hw;(try dsimp only at hw);go_simp;try with_reducible rfl
   try simp only[nm]
   refine Tk 2 rfl ?_ R3.out ?_ ⟨?_,rfl⟩
   ·intro w hw;(try dsimp only at hw);go_simp;try with_reducible rfl
   try simp only[nm]
   refine Tk 3 rfl ?_ R3.out ?_ ⟨?_,rfl⟩
   ·intro w hw;(try dsimp only at hw);go_simp;try with_reducible rfl
   try simp only[nm]
   refine Tk 4 rfl ?_ R3.out ?_ ⟨?_,rfl⟩
   ·intro w hw;(try dsimp only at hw);go_simp;try with_reducible rfl
   try simp only[nm]
   refine Tk 5 rfl ?_ R3.out ?_ ⟨?_,rfl⟩
   ·intro w hw;(try dsimp only at hw);go_simp;try with_reducible rfl
   try simp only[nm]
   refine Tl 6 (v:=.agg X.toArray) rfl (Or.inl ⟨by rfl,fun wz hwz=>Xa8 wz 78 (.tmp 5) rfl ⟨W.heap.size,0,none⟩ X _ Tryz.underlying78 rfl HSZ.out (fun j u hu=>by rw[Xa5,Nat.zero_add];exact(hwz.cell j).trans hu) (by go_simp)⟩) R3.out ?_;try simp only[nm]
   refine Rl 7 rfl fun K hK=>?_
   go_simp;refine(HKN.out _).mono ?_;rintro e w3 ⟨rfl,hb3⟩;have R4:=Hd (R3.out.below hb3 R3.out.lt);have RZ4:=Hd (RZ3.out.below hb3 RZ3.out.lt);have B4:=Hd (B3.out.trans (hb3.mono B3.out.size));clear hb3;refine hK.out _ _ R4.out ?_;clear hK K;try simp only[nm]
   refine Tk 8 rfl ?_ R4.out ?_ ⟨?_,rfl⟩
   ·intro w hw;(try dsimp only at hw);go_simp;try with_reducible rfl
   try simp only[nm]
   refine Tk 9 rfl ?_ R4.out ?_ ⟨?_,rfl⟩
   ·intro w hw;(try dsimp only at hw);go_simp;try with_reducible rfl
   try simp only[nm]
   refine Tl 10 (v:=.agg (X++[Value.bool false,.bool (!bb)]).toArray) rfl (Or.inl ⟨by rfl,fun wz hwz=>Xak wz _ _ _ rfl (by simp only[List.map_toArray,List.map_cons,List.map_nil];exact Xf2 HXL.out _ _)⟩) R4.out ?_;try simp only[nm]
   refine Rl 11 rfl fun K hK=>?_
   refine Xah 101 (.tmp 4) (.tmp 46) rfl (w.heap.size+1) r0.cells (X++[.bool false,.bool (!bb)]) RZ4.out (HSR.out _ _) (HSL.out _ _) (HSO.out _ _) ?_ ?_ ?_
   ·go_simp
   ·go_simp
   intro w5 hr5 ht5;have RZ5:=Hd hr5;have B5:=Hd ((HB0.out.trans (B4.out.mono HB0.out.size)).trans (ht5.below (Nat.le_succ _)));have R5:=Hd (ht5.row R4.out (by have:=HLT.out.2;omega));clear hr5 ht5;refine hK.out _ _ R5.out ?_;clear hK K;try simp only[Act.put]
   refine wpAnyH_done (by kernel_rfl) ?_ _;go_wp2_with fail;refine bodyPost_ret (results_cell_row (h:=rfl) _ w5 (w.heap.size+1) 101 _ (0,0) _ (by rfl) RZ5.out.is Tryz.underlying101 rfl (HSR.out _ _)) rfl ?_;exact⟨by rw[HQ.out],B5.out⟩
  ·have hwf:decide ((i:Int)<(n:Int) - o)=false:=decide_eq_false hwr;have hsf:decide ((i:Int)<s)=false:=decide_eq_false hsg;have HQ:Hid (RC=X++[.bool false,.bool false]):=Hd (by rw[HQ0.out,HBL.out];simp[hsg,hwr]);clear HQ0 HBL;go_enter Tryz.func133,Tryz.ntmps133
   go_upto_region 1 with fail
   rw[HX.out];rotate_left
   ·kernel_rfl
   clear HX;refine wp_region_held_drew (S:=(fun V=>Below W.heap.size W V)) (by kernel_rfl) (Br W.heap.size W).drew (fun _=>?_);have SB:=Hd (Br W.heap.size W).drew;refine Tk 0 rfl ?_ SB.out ?_ ⟨?_,rfl⟩
   ·intro w hw;(try dsimp only at hw);go_simp;try with_reducible rfl
   try simp only[nm]
   refine Tk 1 rfl ?_ SB.out ?_ ⟨?_,rfl⟩
   ·intro wz hwz;try dsimp only at hwz
    have q:=(hwz.cell (p:=⟨w.heap.size,4,none⟩) HLT.out.1).trans C4.out;go_simp;try with_reducible rfl
   try simp only[nm]
   refine Tk 2 rfl ?_ SB.out ?_ ⟨?_,rfl⟩
   ·intro w hw;(try dsimp only at hw);go_simp;try with_reducible rfl
   try simp only[nm]
   refine Tk 3 rfl ?_ SB.out ?_ ⟨?_,rfl⟩
   ·intro w hw;(try dsimp only at hw);go_simp;try with_reducible rfl
   try simp only[nm]
   refine Tl 4 (v:=.agg X.toArray) rfl (Or.inl ⟨by rfl,fun wz hwz=>Xa8 wz 78 (.tmp 12) rfl (a.add (i*32)) X _ Tryz.underlying78 rfl HSZ.out (fun j u hu=>(hwz.cell (by rw[Xa7,Xa7];exact HAB.out)).trans (CK.out j u hu)) (by go_simp)⟩) SB.out ?_;try simp only[nm]
   refine Tk 5 rfl ?_ SB.out ?_ ⟨?_,rfl⟩
   ·intro w hw;(try dsimp only at hw);go_simp;try with_reducible rfl
   try simp only[nm]
   refine Tk 6 rfl ?_ SB.out ?_ ⟨?_,rfl⟩
   ·intro w hw;(try dsimp only at hw);go_simp;try with_reducible rfl
   try simp only[nm]
   refine Tk 7 rfl ?_ SB.out ?_ ⟨?_,rfl⟩
   ·intro wz hwz;try dsimp only at hwz
    have q:=(hwz.cell (p:=⟨w.heap.size,1,none⟩) HLT.out.1).trans C1.out;go_simp;try with_reducible rfl
   try simp only[nm]
   refine Tk 8 rfl ?_ SB.out ?_ ⟨?_,rfl⟩
   ·intro w hw;(try dsimp only at hw);go_simp;try with_reducible rfl
   try simp only[nm]
   refine Rl 9 rfl fun K hK=>?_
   go_simp;refine hK.out _ _ (SB.out.alloc (Lr _) _) ?_;clear hK K;try simp only[nm]
   refine Rl 10 rfl fun K hK=>?_
   refine Xdt 78 (.tmp 5) (.tmp 13) rfl X HSZ.out H1.out ?_ ?_ ?_ ?_
   ·rw[HXL.out];rfl
   ·go_simp
   ·go_simp
   intro w1 hr1 hb1 hz1;have R1:=Hd hr1;have B1:=Hd hb1;have Z1:=Hd hz1;clear hr1 hb1 hz1;refine hK.out _ _ B1.out ?_;clear hK K;try simp only[Act.put]
   refine Tk 11 rfl ?_ B1.out ?_ ⟨?_,rfl⟩
   ·intro w hw;(try dsimp only at hw);go_simp;try with_reducible rfl
   try simp only[nm]
   refine wpAnyH_done (by kernel_rfl) ?_ _;have D1:=Hd ((B1.out.cell (p:=⟨w.heap.size,1,none⟩) HLT.out.1).trans C1.out);have D2:=Hd ((B1.out.cell (p:=⟨w.heap.size,2,none⟩) HLT.out.1).trans C2.out);have D3:=Hd ((B1.out.cell (p:=⟨w.heap.size,3,none⟩) HLT.out.1).trans C3.out);have D4:=Hd ((B1.out.cell (p:=⟨w.heap.size,4,none⟩) HLT.out.1).trans C4.out);have d1:=D1.out;have d2:=D2.out;have d3:=D3.out;have d4:=D4.out;go_wp2_with fail;go_quiet (fail)
   have RZ2:=Hd ((RZ.out.below B1.out HLT.out.2).drewN nq);have R2:=Hd (R1.out.drewN nq);have B2:=Hd (below_drewN (B1.out) nq);go_wp2_with fail;clear d1 d2 d3 d4 D1 D2 D3 D4;have RZ3:=Hd RZ2.out.drew;have R3:=Hd R2.out.drew;have B3:=Hd B2.out.drew;refine wp_region_held_drew (S:=(fun V=>Row V W.heap.size 78 X)) (by kernel_rfl) R3.out (fun _=>?_);generalize (w1.drewN nq).drew=w2 at *;refine Tl 0 (v:=.agg X.toArray) rfl (Or.inl ⟨by rfl,fun wz hwz=>Xa8 wz 78 (.tmp 5) rfl ⟨W.heap.size,0,none⟩ X _ Tryz.underlying78 rfl HSZ.out (fun j u hu=>by rw[Xa5,Nat.zero_add];exact(hwz.cell j).trans hu) (by go_simp)⟩) R3.out ?_;try simp only[nm]
   refine Tk 1 rfl ?_ R3.out ?_ ⟨?_,rfl⟩
   ·intro w hw;(try dsimp only at hw);go_simp;try with_reducible rfl
   try simp only[nm]
   refine Tk 2 rfl ?_ R3.out ?_ ⟨?_,rfl⟩
   ·intro w hw;(try dsimp only at hw);go_simp;try with_reducible rfl
   try simp only[nm]
   refine Tk 3 rfl ?_ R3.out ?_ ⟨?_,rfl⟩
   ·intro w hw;(try dsimp only at hw);go_simp;try with_reducible rfl
   try simp only[nm]
   refine Tk 4 rfl ?_ R3.out ?_ ⟨?_,rfl⟩
   ·intro w hw;(try dsimp only at hw);go_simp;try with_reducible rfl
   try simp only[nm]
   refine Tk 5 rfl ?_ R3.out ?_ ⟨?_,rfl⟩
   ·intro w hw;(try dsimp only at hw);go_simp;try with_reducible rfl
   try simp only[nm]
   have R4:=R3;have RZ4:=RZ3;have B4:=B3;refine Tl 6 (v:=undef) rfl (Or.inr ⟨by rfl,rfl⟩) R4.out ?_;try simp only[nm]
   refine Tl 7 (v:=undef) rfl (Or.inr ⟨by rfl,rfl⟩) R4.out ?_;try simp only[nm]
   refine Tl 8 (v:=undef) rfl (Or.inr ⟨by rfl,rfl⟩) R4.out ?_;try simp only[nm]
   refine Tk 9 rfl ?_ R4.out ?_ ⟨?_,rfl⟩
   ·intro w hw;(try dsimp only at hw);go_simp;try with_reducible rfl
   try simp only[nm]
   refine Tl 10 (v:=.agg (X++[Value.bool false,.bool false]).toArray) rfl (Or.inl ⟨by rfl,fun wz hwz=>Xak wz _ _ _ rfl (by simp only[List.map_toArray,List.map_cons,List.map_nil];exact Xf2 HXL.out _ _)⟩) R4.out ?_;try simp only[nm]
   refine Rl 11 rfl fun K hK=>?_
   refine Xah 101 (.tmp 4) (.tmp 46) rfl (w.heap.size+1) r0.cells (X++[.bool false,.bool false]) RZ4.out (HSR.out _ _) (HSL.out _ _) (HSO.out _ _) ?_ ?_ ?_
   ·go_simp
   ·go_simp
   intro w5 hr5 ht5;have RZ5:=Hd hr5;have B5:=Hd ((HB0.out.trans (B4.out.mono HB0.out.size)).trans (ht5.below (Nat.le_succ _)));have R5:=Hd (ht5.row R4.out (by have:=HLT.out.2;omega));clear hr5 ht5;refine hK.out _ _ R5.out ?_;clear hK K;try simp only[Act.put]
   refine wpAnyH_done (by kernel_rfl) ?_ _;go_wp2_with fail;refine bodyPost_ret (results_cell_row (h:=rfl) _ w5 (w.heap.size+1) 101 _ (0,0) _ (by rfl) RZ5.out.is Tryz.underlying101 rfl (HSR.out _ _)) rfl ?_;exact⟨by rw[HQ.out],B5.out⟩
end Go.Proofs.YtdgbodljmdcagaaGreatDoor
