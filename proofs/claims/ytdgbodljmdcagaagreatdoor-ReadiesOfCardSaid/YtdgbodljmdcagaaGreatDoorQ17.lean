import Derived.Test.YtdgbodljmdcagaaGreatDoorQ16
set_option maxRecDepth 100000
set_option maxHeartbeats 16000000
set_option linter.unusedSimpArgs false
set_option linter.unusedVariables false
namespace Go.Proofs.YtdgbodljmdcagaaGreatDoor
open Go.RowKit
theorem errL_w{ts:List LTab}{x:LLook}{l:List (List Int)}(hf:findT ts x.tab=some l)(h:x.wr.any (out6 l.length)=true):errL ts x=8:=by
 unfold errL;rw[hf];simp[h]
theorem errL_r{ts:List LTab}{x:LLook}{l:List (List Int)}(hf:findT ts x.tab=some l)(h:x.rd.any (out6 l.length)=true):errL ts x=8:=by
 unfold errL;rw[hf];simp[h]
theorem errL_0{ts:List LTab}{x:LLook}{l:List (List Int)}(hf:findT ts x.tab=some l)(h1:x.wr.any (out6 l.length)=false)(h2:x.rd.any (out6 l.length)=false):errL ts x=0:=by
 unfold errL;rw[hf];simp[h1,h2]
structure RL(w V:World)(u v:Value)(a b:List (List Int))(FA:Option Addr)(fn:Nat)(l:List (List Int)):Prop where
 two:Two w u v a b V
 keys:KeysIn V V.heap.size FA fn l
 nu:∀ad,FA=some ad→u.ownBlock≠some ad.block
 nv:∀ad,FA=some ad→v.ownBlock≠some ad.block
section
variable{w V V':World}{u v u' v':Value}{a b a':List (List Int)}{FA:Option Addr}{fn:Nat}{l:List (List Int)}
theorem KeysIn.grew(h:KeysIn V V.heap.size FA fn l)(hg:Grew V V' u u')(hn:∀ad,FA=some ad→u.ownBlock≠some ad.block):KeysIn V' V'.heap.size FA fn l:=
 ⟨h.len,h.each,⟨h.sees.len,fun i x hx=>by
  obtain⟨ad,e,hab,hc⟩:=h.sees.cell i x hx;refine⟨ad,e,Nat.lt_of_lt_of_le hab hg.size,?_⟩;rw[←hc];exact World.cell?_of_block (w:=V) (by rw[Xa7];exact hg.grown.block _ hab fun e'=>hn ad e e'.symm)⟩⟩
theorem KeysIn.old(h:KeysIn V V.heap.size FA fn l)(hl:1≤fn){ad:Addr}(e:FA=some ad):ad.block<V.heap.size:=by
 obtain⟨a',u,e',hab,_⟩:=h.sees.at_ (k:=0) (by omega);rw[e]at e';cases e'
 exact hab
theorem RL.pickU(h:RL w V u v a b FA fn l)(hl:1≤fn)(hg:Grew V V' u u')(ho:V'.ownsRow w.heap.size 78 32 u' a'.length (bv a'.flatten)):RL w V' u' v a' b FA fn l:=
 ⟨h.two.pickU hg ho,h.keys.grew hg h.nu,fun ad e e'=>by
  rcases hg.fresh _ e' with h1 | h1
  ·exact h.nu ad e h1
  ·have:=h.keys.old hl e;omega,h.nv⟩
theorem RL.pickV(h:RL w V u v a b FA fn l)(hl:1≤fn)(hg:Grew V V' v v')(ho:V'.ownsRow w.heap.size 78 32 v' a'.length (bv a'.flatten)):RL w V' u v' a a' FA fn l:=
 ⟨h.two.pickV hg ho,h.keys.grew hg h.nv,h.nu,fun ad e e'=>by
  rcases hg.fresh _ e' with h1 | h1
  ·exact h.nv ad e h1
  ·have:=h.keys.old hl e;omega⟩
theorem RL.start(h:Two w u v a b V)(hb:Below V.heap.size V V')(hk:KeysIn V' V'.heap.size FA fn l)(hf:∀ad,FA=some ad→V.heap.size≤ad.block):RL w V' u v a b FA fn l:=
 ⟨h.below hb,hk,fun ad e e'=>by have:=(h.ou.lt _ e').2;have:=hf ad e;omega,fun ad e e'=>by have:=(h.ov.lt _ e').2;have:=hf ad e;omega⟩
end
def RResDone(w:World)(ts:List LTab)(ls:List LLook)(e:Ending)(w':World):Prop:=
 ∃A1 n1 c1 A2 n2 c2,e=.returned (.tuple #[.slice A1 n1 c1,.slice A2 n2 c2,.int .i64 (resErr ts ls)])∧KeysIn w' w'.heap.size A1 n1 (resW ts ls)∧KeysIn w' w'.heap.size A2 n2 (resR ts ls)∧Below w.heap.size w w'
theorem RResDone.not{w w':World}{ts:List LTab}{ls:List LLook}{c:Int}(hc:resErr ts ls=c)(h0:c≠0)(hb:Below w.heap.size w w'):RResDone w ts ls (.returned (.tuple #[.slice none 0 0,.slice none 0 0,.int .i64 c])) w':=by
 have h1:resErr ts ls≠0:=by rw[hc];exact h0
 refine⟨none,0,0,none,0,0,by rw[hc],?_,?_,hb⟩
 ·rw[resW,if_neg h1];exact⟨rfl,by simp,Sees.nil _ _ _⟩
 ·rw[resR,if_neg h1];exact⟨rfl,by simp,Sees.nil _ _ _⟩
theorem Xp5(pb base:Nat)(v:Value)(ts:List LTab)(S:Nat→Prop)(A:Option Addr)(m c B:Nat)(ls:List LLook)(w:World)(h:RReg w pb base v ts S)(hl:LooksIn w B A m ls)(hB:B≤w.heap.size)(hok:∀x ∈ ls,LkOk x)(hm:m≤4000)(hs:lookSize ls≤4000)(hn:ts.length≤1000) :
 Calls Tryz.prog 44 #[.pointer (some ⟨pb,0,none⟩),.slice A m c] w (RResDone w ts ls):=by
 have HREG:=Hd h;have HL:=Hd hl;have HLN:=Hd hl.len;have HOK:=Hd hok;have HS:=Hd hs;have HN:=Hd hn;have HBW:=Hd hB;clear h hl hok hs hn hB;go_enter Tryz.func44,Tryz.ntmps44
 go_wp2_with fail;go_loopw [7,8,9] (fun u y i wr=>∃(k:Nat) (uo yo:Value),k≤m∧i=.int .i64 k∧uo=u∧yo=y∧resErr ts (ls.take k)=0∧Two w uo yo ((ls.take k).flatMap (wrL ts)) ((ls.take k).flatMap (rdL ts)) wr) (fun u y i _=>m - (intOf i).toNat)
 case atStart=>exact⟨0,_,_,Nat.zero_le _,rfl,rfl,rfl,rfl,⟨World.ownsRow_nil _ _ _ _,World.ownsRow_nil _ _ _ _,fun g e=>(by cases e),Br _ _⟩⟩
 case round =>
  obtain⟨k,uo,yo,hk,rfl,rfl,rfl,hr0,htwo⟩:=hrel;have HR0:=Hd hr0;have H2:=Hd htwo;clear hr0 htwo;obtain⟨wo,rfl⟩:∃wo:World,wo=wr:=⟨_,rfl⟩;by_cases hlt:k<m
  ·obtain⟨a,x,va,vd,rfl,hab,hx,hat⟩:=HL.out.get hlt;obtain⟨⟨hkey,hwb,hrb⟩,hmem⟩:=And.intro (HOK.out x (List.mem_of_getElem? hx)) (List.mem_of_getElem? hx);have hsz:=Xin hmem;obtain⟨A1,c1,rfl,hs1,hn1,hc1⟩:=hat.wr.is;obtain⟨A2,c2,rfl,hs2,hn2,hc2⟩:=hat.rd.is;have HX:=Hd hx;have HWB:=Hd (And.intro hwb hrb);have HSX:=Hd (show(Tryz.prog.info? 78).map (·.size)=some (bv x.tab).length by rw[bL,hat.len];exact Xab);have HF:=Hd (Xqd pb base v ts S x.tab wo (HREG.out.below H2.out.b) hkey HN.out);have CK:Hid (∀j u,(bv x.tab)[j]?=some u→wo.cell? ((a.add (k*34)).add j)=some u):=Hd fun j u hu=>((H2.out.b.mono HBW.out).cell (by rw[Xa7,Xa7];exact hab)).trans <| hat.cells j u (by rw[List.getElem?_append_left (List.getElem?_eq_some_iff.1 hu).1];exact hu)
   have HAB:=Hd hab;have hc32:w.cell? ((a.add (k*34)).add 32)=some (.slice A1 x.wr.length c1):=hat.cells 32 _ (by rw[List.getElem?_append_right (by rw[bL,hat.len];exact Lr _),bL,hat.len];rfl);have hc33:w.cell? ((a.add (k*34)).add 33)=some (.slice A2 x.rd.length c2):=hat.cells 33 _ (by rw[List.getElem?_append_right (by rw[bL,hat.len];omega),bL,hat.len];rfl);obtain⟨n1,hw1⟩:∃n1,n1=x.wr.length:=⟨_,rfl⟩;obtain⟨n2,hw2⟩:∃n2,n2=x.rd.length:=⟨_,rfl⟩;rw[←hw1]at hc32 hs1;rw[←hw2]at hc33 hs2;have HC:Hid (∀V:World,Below w.heap.size w V→V.cell? ⟨(a.add (k*34)).block,(a.add (k*34)).off+32,none⟩=some (.slice A1 n1 c1)∧V.cell? ⟨(a.add (k*34)).block,(a.add (k*34)).off+33,none⟩=some (.slice A2 n2 c2)∧Sees V B A1 n1 (bv x.wr)∧Sees V B A2 n2 (bv x.rd)):=Hd fun V hV0=>have hV:Below B w V:=hV0.mono HBW.out
    ⟨(hV.cell (p:=(a.add (k*34)).add 32) (by rw[Xa7,Xa7];exact hab)).trans hc32,(hV.cell (p:=(a.add (k*34)).add 33) (by rw[Xa7,Xa7];exact hab)).trans hc33,hs1.below hV,hs2.below hV⟩
   have HN1:=Hd hw1;have HN2:=Hd hw2;have HSN:Hid (n1≤4000∧n2≤4000):=Hd (by have:=HS.out;omega);have hlen:=Xmp ts (ls.take k);have hlk2:=Xd5 (l:=ls) k;have HSUM:Hid (((ls.take k).flatMap (wrL ts)).length+n1≤1000000∧((ls.take k).flatMap (rdL ts)).length+n2≤1000000):=Hd (by have:=HS.out;have:=HSN.out;omega);clear hkey hwb hrb hmem hsz hs1 hs2 hn1 hn2 hc1 hc2 hat hx hc32 hc33 hw1 hw2 hlen hlk2 hab;cases hf:findT ts x.tab with
   | none =>
    have HE:Hid (resErr ts ls=11):=Hd (Xdc HX.out HR0.out (by unfold errL;rw[hf]) (by omega));have HFE:Hid (fErr ts x.tab=11):=Hd (by unfold fErr;rw[hf];rfl);clear hf;generalize bv x.tab=X at *;go_wp2_with ((with_reducible show wpList _ _ _ (⟨some 26,_,_,_,_,_⟩::_) _ _);go_must(refine Xa3 rfl 78 (.tmp 25) rfl (a.add (k*34)) X _ Tryz.underlying78 rfl HSX.out CK.out ?_ ?_;go_simp))
    refine HF.out.mono ?_;rintro e w2 ⟨FA,fn,fc,rfl,hk2,hn2,hb2,hfr⟩;have HB2:=Hd (H2.out.b.trans (hb2.mono H2.out.b.size));clear hk2 hb2 hfr hn2;rw[HFE.out];go_wp2_with fail;go_ret3
    exact RResDone.not HE.out (by omega) HB2.out
   | some l =>
    have HFD:=Hd hf;have HFE:Hid (fErr ts x.tab=0):=Hd (by unfold fErr;rw[hf];rfl);have HFK:Hid (fKeys ts x.tab=l):=Hd (by unfold fKeys;rw[hf];rfl);obtain⟨h32,hl1,hl2⟩:=HREG.out.good.find hf;have HG32:=Hd h32;clear hf h32;generalize bv x.tab=X at *;go_wp2_with ((with_reducible show wpList _ _ _ (⟨some 26,_,_,_,_,_⟩::_) _ _);go_must(refine Xa3 rfl 78 (.tmp 25) rfl (a.add (k*34)) X _ Tryz.underlying78 rfl HSX.out CK.out ?_ ?_;go_simp))
    refine HF.out.mono ?_;rintro e w2 ⟨FA,fn,fc,rfl,hk2,hn2,hb2,hfr⟩;rw[HFK.out]at hk2;have hfn:fn=l.length:=hk2.len.symm;have H3:=Hd (RL.start H2.out hb2 hk2 hfr);have HFN:=Hd hfn;rw[←hfn]at hl1 hl2;clear hk2 hb2 hfr hfn hn2 CK HF HSX;rw[HFE.out];go_wp2_with fail;go_loopw [7,12] (fun z j wr=>∃(q:Nat) (zo:Value),q≤n1∧j=.int .i64 q∧zo=z∧(x.wr.take q).any (out6 l.length)=false∧RL w wr zo yo ((ls.take k).flatMap (wrL ts)++pickK l (x.wr.take q)) ((ls.take k).flatMap (rdL ts)) FA fn l) (fun z j _=>n1 - (intOf j).toNat)
    case atStart=>exact⟨0,_,Nat.zero_le _,rfl,rfl,rfl,by simpa [pickK]using H3.out⟩
    case round =>
     obtain⟨q,z1,hq,rfl,rfl,hany,hrl⟩:=hrel;have hn4:=HSN.out.1;have HA:=Hd hany;have RU:=Hd hrl;obtain⟨e32,e33,s1,s2⟩:=HC.out wr hrl.two.b;have HZW:Hid (w.heap.size≤wr.heap.size):=Hd hrl.two.b.size;by_cases hlq:q<n1
     ·obtain⟨ia,ei,hib,hci⟩:=s1.byte hlq;have hxz:=Xgl (l:=x.wr) (k:=q) (by rw[←HN1.out];exact hlq);have hz:=HWB.out.1 _ (List.mem_of_getElem? hxz);have HXZ:=Hd hxz;clear hany hrl hxz s1 s2;generalize x.wr.getD q 0=z at *;obtain⟨z0,z1⟩:=hz;obtain⟨zz,rfl⟩:∃zz:Nat,z=zz:=⟨z.toNat,by omega⟩;subst ei;by_cases hout:fn≤zz
      ·have HE:Hid (resErr ts ls=8):=Hd (Xdc HX.out HR0.out (errL_w HFD.out (Xdw HXZ.out (by rw[←HFN.out];simp[out6];omega))) (by omega));go_wp2_with fail;go_ret3
       exact RResDone.not HE.out (by omega) RU.out.two.b
      ·have hlt2:zz<fn:=by omega
       clear hout;obtain⟨ka,ky,ek,hkb,hky,hkat⟩:=RU.out.keys.get hlt2;subst ek;have HCS:=Hd (show(bv ky).length=32 by rw[bL,hkat.len]);have HSK:=Hd (show(Tryz.prog.info? 78).map (·.size)=some (bv ky).length by rw[bL,hkat.len];exact Xab);have CA:Hid (∀j u,(bv ky)[j]?=some u→wr.cell? ((ka.add (zz*32)).add j)=some u):=Hd hkat.cells;have H1:=Hd (Xae ky);have hst:out6 l.length ((zz:Nat):Int)=false:=by rw[←HFN.out];simp[out6];omega
       have HNA:Hid ((x.wr.take (q+1)).any (out6 l.length)=false):=Hd (by rw[Xb4 HXZ.out,HA.out,hst];rfl);have HNX:Hid ((ls.take k).flatMap (wrL ts)++pickK l (x.wr.take (q+1))=((ls.take k).flatMap (wrL ts)++pickK l (x.wr.take q))++[ky]):=Hd (by
        rw[Xgm HXZ.out,show l.getD ((zz:Nat):Int).toNat []=ky by rw[List.getD_eq_getElem?_getD,show((zz:Nat):Int).toNat=zz from rfl,hky];rfl,List.append_assoc])
       have HLQ:Hid (((ls.take k).flatMap (wrL ts)++pickK l (x.wr.take q)).length≤1000000):=Hd (by
        rw[List.length_append,Xck,List.length_take];have:=HSUM.out.1;omega)
       clear hky hkat hkb hst hib z0 z1;have OU:=Hd RU.out.two.ou;generalize hY:bv ky=Y at *;have HYY:=Hd hY;clear hY;generalize hZZ:(ls.take k).flatMap (wrL ts)++pickK l (x.wr.take q)=Z at *;clear hZZ;go_wp2_with (first
        | ((with_reducible show wpList _ _ _ (⟨some 66,_,_,_,_,_⟩::_) _ _);go_must(refine Xa3 rfl 78 (.tmp 65) rfl (ka.add (zz*32)) Y _ Tryz.underlying78 rfl HSK.out CA.out ?_ ?_;go_simp))
        | ((with_reducible show wpList _ _ _ (⟨some 67,_,_,_,_,_⟩::_) _ _);go_must(refine Xaa rfl 34 78 (.tmp 66) rfl Y _ 32 32 Tryz.underlying34 Xaj zsz6 (by omega) (by omega) HCS.out ?_ ?_;go_simp))
        | ((with_reducible show wpList _ _ _ (⟨some 68,_,_,_,_,_⟩::_) _ _);go_must(refine Xag rfl (.tmp 55) (.tmp 67) 34 rfl w.heap.size 78 _ 32 32 Tryz.underlying34 Xaj zsz6 (by omega) _ Z.length (bv Z.flatten) Y 1 HCS.out H1.out rfl ?_ OU.out ?_ HZW.out (by unfold maxLen;have:=HLQ.out;omega) (by have:=HLQ.out;omega) ?_;go_simp;go_simp;intro v4 w4 ho4 hg4;have HO4:=Hd ho4;have HG4:=Hd hg4;clear ho4 hg4)))
       go_roundw
       case rel =>
        refine⟨q+1,_,by omega,by go_num,rfl,HNA.out,?_⟩;rw[HNX.out];refine RU.out.pickU hl1 HG4.out ?_;have:=HO4.out;rw[←HYY.out]at this;rw[List.length_append,List.flatten_append,Xbt];simpa using this
       case measure=>simp[intOf];omega
     ·have hqn:q=n1:=by omega
      have HTK:Hid (x.wr.take q=x.wr):=Hd (List.take_of_length_le (by rw[←HN1.out];omega));have HPU:Hid (x.wr.any (out6 l.length)=false):=Hd (by have:=HA.out;rwa [HTK.out]at this);rw[HTK.out]at hrl;have RU2:=Hd hrl;clear hany hrl hqn RU s1 s2 HA HTK;obtain⟨wU,rfl⟩:∃wv:World,wv=wr:=⟨_,rfl⟩;go_wp2_with fail;go_loopw [8,13] (fun z j wr=>∃(qq:Nat) (zo:Value),qq≤n2∧j=.int .i64 qq∧zo=z∧(x.rd.take qq).any (out6 l.length)=false∧RL w wr z1 zo ((ls.take k).flatMap (wrL ts)++pickK l x.wr) ((ls.take k).flatMap (rdL ts)++pickK l (x.rd.take qq)) FA fn l) (fun z j _=>n2 - (intOf j).toNat)
      case atStart=>exact⟨0,_,Nat.zero_le _,rfl,rfl,rfl,by simpa [pickK]using RU2.out⟩
      case round =>
       obtain⟨qq,z2,hq2,rfl,rfl,hany,hrl⟩:=hrel;have hn4:=HSN.out.2;have HA:=Hd hany;have RV:=Hd hrl;obtain⟨e32,e33,s1,s2⟩:=HC.out wr hrl.two.b;have HZW:Hid (w.heap.size≤wr.heap.size):=Hd hrl.two.b.size;by_cases hlq2:qq<n2
       ·obtain⟨ia,ei,hib,hci⟩:=s2.byte hlq2;have hxz:=Xgl (l:=x.rd) (k:=qq) (by rw[←HN2.out];exact hlq2);have hz:=HWB.out.2 _ (List.mem_of_getElem? hxz);have HXZ:=Hd hxz;clear hany hrl hxz s1 s2;generalize x.rd.getD qq 0=z at *;obtain⟨z0,z1⟩:=hz;obtain⟨zz,rfl⟩:∃zz:Nat,z=zz:=⟨z.toNat,by omega⟩;subst ei;by_cases hout:fn≤zz
        ·have HE:Hid (resErr ts ls=8):=Hd (Xdc HX.out HR0.out (errL_r HFD.out (Xdw HXZ.out (by rw[←HFN.out];simp[out6];omega))) (by omega));go_wp2_with fail;go_ret3
         exact RResDone.not HE.out (by omega) RV.out.two.b
        ·have hlt2:zz<fn:=by omega
         clear hout;obtain⟨ka,ky,ek,hkb,hky,hkat⟩:=RV.out.keys.get hlt2;subst ek;have HCS:=Hd (show(bv ky).length=32 by rw[bL,hkat.len]);have HSK:=Hd (show(Tryz.prog.info? 78).map (·.size)=some (bv ky).length by rw[bL,hkat.len];exact Xab);have CA:Hid (∀j u,(bv ky)[j]?=some u→wr.cell? ((ka.add (zz*32)).add j)=some u):=Hd hkat.cells;have H1:=Hd (Xae ky);have hst:out6 l.length ((zz:Nat):Int)=false:=by rw[←HFN.out];simp[out6];omega
         have HNA:Hid ((x.rd.take (qq+1)).any (out6 l.length)=false):=Hd (by rw[Xb4 HXZ.out,HA.out,hst];rfl);have HNX:Hid ((ls.take k).flatMap (rdL ts)++pickK l (x.rd.take (qq+1))=((ls.take k).flatMap (rdL ts)++pickK l (x.rd.take qq))++[ky]):=Hd (by
          rw[Xgm HXZ.out,show l.getD ((zz:Nat):Int).toNat []=ky by rw[List.getD_eq_getElem?_getD,show((zz:Nat):Int).toNat=zz from rfl,hky];rfl,List.append_assoc])
         have HLQ:Hid (((ls.take k).flatMap (rdL ts)++pickK l (x.rd.take qq)).length≤1000000):=Hd (by
          rw[List.length_append,Xck,List.length_take];have:=HSUM.out.2;omega)
         clear hky hkat hkb hst hib z0 z1;have OU:=Hd RV.out.two.ov;generalize hY:bv ky=Y at *;have HYY:=Hd hY;clear hY;generalize hZZ:(ls.take k).flatMap (rdL ts)++pickK l (x.rd.take qq)=Z at *;clear hZZ;go_wp2_with (first
          | ((with_reducible show wpList _ _ _ (⟨some 102,_,_,_,_,_⟩::_) _ _);go_must(refine Xa3 rfl 78 (.tmp 101) rfl (ka.add (zz*32)) Y _ Tryz.underlying78 rfl HSK.out CA.out ?_ ?_;go_simp))
          | ((with_reducible show wpList _ _ _ (⟨some 103,_,_,_,_,_⟩::_) _ _);go_must(refine Xaa rfl 34 78 (.tmp 102) rfl Y _ 32 32 Tryz.underlying34 Xaj zsz6 (by omega) (by omega) HCS.out ?_ ?_;go_simp))
          | ((with_reducible show wpList _ _ _ (⟨some 104,_,_,_,_,_⟩::_) _ _);go_must(refine Xag rfl (.tmp 91) (.tmp 103) 34 rfl w.heap.size 78 _ 32 32 Tryz.underlying34 Xaj zsz6 (by omega) _ Z.length (bv Z.flatten) Y 1 HCS.out H1.out rfl ?_ OU.out ?_ HZW.out (by unfold maxLen;have:=HLQ.out;omega) (by have:=HLQ.out;omega) ?_;go_simp;go_simp;intro v4 w4 ho4 hg4;have HO4:=Hd ho4;have HG4:=Hd hg4;clear ho4 hg4)))
         go_roundw
         case rel =>
          refine⟨qq+1,_,by omega,by go_num,rfl,HNA.out,?_⟩;rw[HNX.out];refine RV.out.pickV hl1 HG4.out ?_;have:=HO4.out;rw[←HYY.out]at this;rw[List.length_append,List.flatten_append,Xbt];simpa using this
         case measure=>simp[intOf];omega
       ·have hqn2:qq=n2:=by omega
        have HTK:Hid (x.rd.take qq=x.rd):=Hd (List.take_of_length_le (by rw[←HN2.out];omega));have HPV:Hid (x.rd.any (out6 l.length)=false):=Hd (by have:=HA.out;rwa [HTK.out]at this);rw[HTK.out]at hrl;have RV2:=Hd hrl;clear hany hrl hqn2 RV s1 s2 HA HTK;obtain⟨wV,rfl⟩:∃wv:World,wv=wr:=⟨_,rfl⟩;have HNR:Hid (resErr ts (ls.take (k+1))=0):=Hd (by rw[Xfh HX.out HR0.out];exact errL_0 HFD.out HPU.out HPV.out);have HNW:Hid ((ls.take (k+1)).flatMap (wrL ts)=(ls.take k).flatMap (wrL ts)++pickK l x.wr∧(ls.take (k+1)).flatMap (rdL ts)=(ls.take k).flatMap (rdL ts)++pickK l x.rd):=Hd (by
         rw[Xdr _ HX.out,Xdr _ HX.out];unfold wrL rdL;rw[HFK.out];exact⟨rfl,rfl⟩)
        go_wp2_with fail;go_roundw
        case rel =>
         refine⟨k+1,_,_,by omega,by go_num,rfl,rfl,HNR.out,?_⟩;rw[HNW.out.1,HNW.out.2];exact RV2.out.two
        case measure=>simp[intOf];omega
  ·have hkm:k=m:=by omega
   have HTK:Hid (ls.take k=ls):=Hd (List.take_of_length_le (by rw[HLN.out];omega));have HE:Hid (resErr ts ls=0):=Hd (by have:=HR0.out;rwa [HTK.out]at this);have HT:=H2.out;rw[HTK.out]at HT;have HF:=Hd HT;obtain⟨h32a,h32b⟩:=all32 HREG.out.good ls HOK.out HE.out;obtain⟨A1,c1,rfl,hs1,_,_,_⟩:=Xbs HT.ou;obtain⟨A2,c2,rfl,hs2,_,_,_⟩:=Xbs HT.ov;have HDONE:Hid (RResDone w ts ls (.returned (.tuple #[.slice A1 (ls.flatMap (wrL ts)).length c1,.slice A2 (ls.flatMap (rdL ts)).length c2,.int .i64 0])) wo):=Hd
    ⟨A1,_,c1,A2,_,c2,by rw[HE.out],by rw[resW,if_pos HE.out];exact⟨rfl,h32a,hs1⟩,by rw[resR,if_pos HE.out];exact⟨rfl,h32b,hs2⟩,HT.b⟩
   clear HT hs1 hs2 h32a h32b hkm H2 HF;go_wp2_with fail;go_ret3
   exact HDONE.out
theorem Xgk{w:World}{g t mb cl:Nat}{es:Array MapEntry}{xs:List Value}(hr:Row w g t xs)(hm:w.heap[mb]?=some (.map es cl)):g≠mb:=by
 rintro rfl;rw[hr.is]at hm;cases hm
theorem Xjj{w:World}{base size n mb cl:Nat}{e:TypeId}{es:Array MapEntry}{v:Value}{xs:List Value}(h:w.ownsRow base e size v n xs)(hm:w.heap[mb]?=some (.map es cl)):v.ownBlock≠some mb:=fun e=>by
 obtain⟨cur,hc⟩:=Xpz h e;rw[hc]at hm;cases hm
section
variable{w w':World}{pb qb base base' rb mb hi n tb:Nat}{v v' u:Value}{ts us:List LTab}{S S':Nat→Prop}
theorem RReg.map(h:RReg w pb base v ts S){es:Array MapEntry}{cl:Nat}(hg:w.grownBy w' (some mb))(hm:w.heap[mb]?=some (.map es cl)):RReg w' pb base v ts S:=by
 obtain⟨css,h1,h2⟩:=h.tabs;exact h.keep (fun g xs hr=>hr.grown hg (fun e=>Xgk hr hm (Option.some.inj e))) (hg.block pb h.row.lt (fun e=>Xgk h.row hm (Option.some.inj e))) fun g e=>hg.block g (h1.lt g e).2 fun e'=>Xjj h1 hm (e.trans e')
theorem PutKeep.row{g t:Nat}{xs:List Value}(hk:PutKeep w w' pb v v')(h':RReg w pb base v ts S)(hr:Row w g t xs)(h1:t≠85)(h2:147≠t):Row w' g t xs:=by
 obtain⟨css',h1',h2'⟩:=h'.tabs;exact⟨(hk.block g hr.lt (Xvr hr h'.row h1) (fun e=>Xch h1' hr h2 e.symm)).trans hr.is⟩
theorem PutKeep.keepReg(hk:PutKeep w w' pb v v')(h':RReg w pb base v ts S):KeepReg w w' tb:=by
 refine⟨hk.size,fun k es cl _ hm=>?_,fun k t xs _ ht hr=>hk.row h' hr ?_ ?_⟩
 ·obtain⟨css',h1',h2'⟩:=h'.tabs;exact hk.block k (Array.getElem?_eq_some_iff.1 hm).1 (fun e=>Xgk h'.row hm e.symm) (Xjj h1' hm)
 ·rcases ht with rfl | rfl <;> decide
 ·rcases ht with rfl | rfl <;> decide
theorem Reg.rput(h:Reg w rb mb hi n us)(h':RReg w pb base v ts S)(hk:PutKeep w w' pb v v'):Reg w' rb mb w'.heap.size n us:=
 h.keepReg (tb:=hi) (hk.keepReg h') (Lr _)
theorem RReg.bnd(h:RReg w pb base v ts S):RReg w pb base v ts (fun g=>g<w.heap.size):=h.weak fun g hg _=>hg
end
structure TRaw11 where
 KA:Option Addr
 kn:Nat
 kc:Nat
def TRaw11.cells(q:TRaw11)(x:LTab):List Value:=bv x.key++[.slice q.KA q.kn q.kc]
structure TabIn(w:World)(B:Nat)(q:TRaw11)(x:LTab):Prop where
 tab:x.key.length=32
 keys:KeysIn w B q.KA q.kn x.keys
 kn:q.kn≤q.kc∧q.kc≤maxLen
structure TabOk11(x:LTab):Prop where
 tab:KeyOk x.key
 keys:∀k ∈ x.keys,KeyOk k
 kn:x.keys.length≤140737488355328
structure TabsIn(w:World)(B:Nat)(A:Option Addr)(n:Nat)(l:List LTab):Prop where
 len:l.length=n
 at_:∀i x,l[i]?=some x→∃a q,A=some a∧a.block<B∧(∀j u,(TRaw11.cells q x)[j]?=some u→w.cell? (a.add (i*33+j))=some u)∧TabIn w B q x
section
variable{w w':World}{B B':Nat}{q:TRaw11}{x:LTab}{A:Option Addr}{n:Nat}{l:List LTab}
theorem TabIn.below(h:TabIn w B q x)(hb:Below B w w'):TabIn w' B q x:=⟨h.tab,h.keys.below hb,h.kn⟩
theorem TabsIn.get(h:TabsIn w B A n l){k:Nat}(hk:k<n):∃a q x,A=some a∧a.block<B∧l[k]?=some x∧(∀j u,(TRaw11.cells q x)[j]?=some u→w.cell? ((a.add (k*33)).add j)=some u)∧TabIn w B q x:=by
 obtain⟨x,hx⟩:∃x,l[k]?=some x:=⟨_,List.getElem?_eq_getElem (by rw[h.len];exact hk)⟩;obtain⟨a,q,rfl,hab,hc,hi⟩:=h.at_ k x hx;exact⟨a,q,x,rfl,hab,hx,fun j u hu=>by rw[Xbr];exact hc j u hu,hi⟩
theorem Xlq{j:Nat}{u:Value}(h:(bv x.key)[j]?=some u):(TRaw11.cells q x)[j]?=some u:=by
 unfold TRaw11.cells;rw[List.getElem?_append_left (List.getElem?_eq_some_iff.1 h).1];exact h
theorem Xi7(h:x.key.length=32):(TRaw11.cells q x)[32]?=some (.slice q.KA q.kn q.kc):=by
 unfold TRaw11.cells;rw[List.getElem?_append_right (by rw[bL,h];exact Lr _),bL,h];rfl
end
theorem Xgo:Tryz.prog.cellsOf 80=33:=by kernel_rfl
theorem Xov:Tryz.prog.bytesOf 80=56:=by kernel_rfl
theorem Xtf{α:Type}{xs:List α}(h:xs.length=2):∃a b,xs=[a,b]:=by
 match xs,h with
 | [a,b],_=>exact⟨a,b,rfl⟩
section
variable{H:Type}{enc:TypeId × Value→H}{w:World}{base b0:Nat}{held:Bool}
theorem Xtp{y0 y1:DataW H}(h:Wt 80 (.agg [y0,y1])):Wt 34 y1:=by
 refine fun n hn=>h n ?_
 simp only[DataW.weights,Tryz.underlying80];simp[DataW.weightsEach,hn]
theorem Xip{fuel:Nat}{cs:List Value}{x:DataW H × List MemPlace}(hf:DataW.trod enc Tryz.prog w base (fun _=>true) held fuel 80 cs=some x)(hw:Wt 80 x.1) :
 ∃q m,cs=TRaw11.cells q m∧TabIn w w.heap.size q m∧TabOk11 m:=by
 obtain⟨xs,n,_,hx,hl,hlen,ht⟩:=DataW.trod_struct Tryz.underlying80 hf;rw[Xgo]at hl;obtain⟨y1,y2,rfl⟩:=Xtf hlen;have hx1:x.1=.agg [y1.1,y2.1]:=by simpa using congrArg Prod.fst hx
 rw[hx1]at hw;have w2:=Xtp hw;have t1:DataW.trod enc Tryz.prog w base (fun _=>true) held n 78 ((cs.drop 0).take 32)=some y1:=by rw[←Xg2];exact ht 0 _ rfl
 have t2:DataW.trod enc Tryz.prog w base (fun _=>true) held n 34 ((cs.drop 32).take 1)=some y2:=by rw[←Xt7];exact ht 1 _ rfl
 have hsplit:cs=(cs.drop 0).take 32++(cs.drop 32).take 1:=by
  have e5:cs.drop 32=(cs.drop 32).take 1:=(List.take_of_length_le (by rw[List.length_drop];omega)).symm;rw[←e5,←cut cs 0 32 32 rfl];rfl
 obtain⟨v2,hv2⟩:=one_of (cs:=(cs.drop 32).take 1) (by simp;omega);rw[hv2]at t2;obtain⟨z,hz,hz1,hz2⟩:=Xrp Tryz.underlying78 Xg2 t1;obtain⟨KA,kn,kc,ks,rfl,k1,k2,k3,k4,k5⟩:=Xr2 t2 w2;refine⟨⟨KA,kn,kc⟩,⟨z,ks⟩,?_,⟨hz1,k3,⟨k1,k2⟩⟩,⟨⟨hz1,hz2⟩,k4,k5⟩⟩;rw[hsplit,hz,hv2];rfl
theorem Xqu{fuel:Nat}{v:Value}{x:DataW H × List MemPlace}(h:DataW.trod enc Tryz.prog w base (fun _=>true) held fuel 23 [v]=some x)(hw:Wt 23 x.1) :
 ∃A n c l,v=.slice A n c∧n≤c∧c≤maxLen∧TabsIn w w.heap.size A n l∧(∀y ∈ l,TabOk11 y)∧l.length≤140737488355328:=by
 obtain⟨A,n,c,hcs,h1,h2,h3,h4⟩:=Xqa Tryz.underlying23 (by rw[Xgo];omega) h hw;obtain rfl:v=.slice A n c:=by simpa using hcs
 rw[Xov]at h3;have:=Xrz;obtain⟨l,hl,hp⟩:=Xjo (α:=LTab) (p:=fun i z=>TabOk11 z∧∃a q,A=some a∧a.block<w.heap.size∧(∀j u,(TRaw11.cells q z)[j]?=some u→w.cell? (a.add (i*33+j))=some u)∧TabIn w w.heap.size q z) n fun i hi=>by
  obtain⟨a,cs',y,m,e1,e2,e3,e4,e5,e6⟩:=h4 i hi;obtain⟨q,z,rfl,hz,hz'⟩:=Xip e5 e6;rw[Xgo]at e4;exact⟨z,hz',a,q,e1,e2,e4,hz⟩
 subst hl;refine⟨A,l.length,c,l,rfl,h1,h2,⟨rfl,fun i x hx=>(hp i x hx).2⟩,fun k hk=>?_,by omega⟩;obtain⟨i,hi,rfl⟩:=List.getElem_of_mem hk;exact(hp i _ (List.getElem?_eq_getElem hi)).1
theorem Xmf{A:Option Addr}{n c:Nat}{d:DataW H}{p:List MemPlace}(h:DataW.Trod enc Tryz.prog w base (fun _=>true) held 23 (.slice A n c) d p)(hw:Wt 23 d) :
 ∃l,n≤c∧c≤maxLen∧TabsIn w w.heap.size A n l∧(∀y ∈ l,TabOk11 y)∧l.length≤140737488355328:=by
 obtain⟨fuel,hf⟩:=h;obtain⟨A',n',c',l,hv,h1⟩:=Xqu (v:=.slice A n c) hf hw;injection hv with e1 e2 e3
 subst e1 e2 e3;exact⟨l,h1⟩
end
structure LSt(w V:World)(rb mb pb:Nat)(v:Value)(ts:List LTab)(k:Nat):Prop where
 b:Below w.heap.size w V
 r:∃n,n≤k∧Reg V rb mb V.heap.size n ts
 m:RReg V pb w.heap.size v ts (fun g=>g<V.heap.size)
 len:ts.length≤k
 low:w.heap.size≤mb∧w.heap.size≤pb
section
variable{w V V':World}{rb mb pb k:Nat}{v:Value}{ts:List LTab}
theorem LSt.below(h:LSt w V rb mb pb v ts k)(hb:Below V.heap.size V V'):LSt w V' rb mb pb v ts k:=by
 obtain⟨n,h1,h2⟩:=h.r;exact⟨h.b.trans (hb.mono h.b.size),⟨n,h1,(h2.below hb).more hb.size (Lr _)⟩,(h.m.below hb).bnd,h.len,h.low⟩
theorem LSt.made{w1:World}(hr:Reg w1 (w.heap.size+1) w.heap.size w1.heap.size 0 [])(hb:Below w.heap.size w w1) :
 LSt w (w1.alloc (.cells #[.slice none 0 0] 85)) (w.heap.size+1) w.heap.size w1.heap.size (.slice none 0 0) [] 0:=by
 have ba:Below w1.heap.size w1 (w1.alloc (.cells #[.slice none 0 0] 85)):=(Br _ _).alloc (Lr _) _;refine⟨hb.trans (ba.mono hb.size),⟨0,Lr _,(hr.below ba).more ba.size (Lr _)⟩,⟨Row.new w1 _ [.slice none 0 0],⟨[],World.ownsRow_nil _ _ _ _,⟨rfl,fun i x cs hx=>by simp at hx⟩⟩,fun t ht=>by cases ht⟩,Nat.zero_le _,Lr _,hb.size⟩
structure LMid(w w1:World)(rb mb pb:Nat)(v:Value)(ts ts':List LTab)(k:Nat):Prop where
 b:Below w.heap.size w w1
 r:∃n,n≤k+1∧Reg w1 rb mb w1.heap.size n ts'
 m:RReg w1 pb w.heap.size v ts (fun g=>g<w1.heap.size)
 len:ts.length≤k
 low:w.heap.size≤mb∧w.heap.size≤pb
theorem LSt.mid{w1:World}{x:List Int}{l:List (List Int)}{e:Ending}(h:LSt w V rb mb pb v ts k){n:Nat}(hn:n≤k)(hr:Reg V rb mb V.heap.size n ts)(hd:PutTDone V rb mb n ts x l e w1):LMid w w1 rb mb pb v ts (putT ts x l) k:=by
 obtain⟨_,hreg,hgr⟩:=hd;obtain⟨es,cl,hm⟩:=hr.is_map;exact⟨h.b.grown hgr h.b.size (fun j hj=>by cases hj;exact h.low.1),⟨n+1,by omega,hreg⟩,(h.m.map hgr hm).weak fun g hg _=>hg,h.len,h.low⟩
theorem LMid.below{w1 w2:World}{ts':List LTab}(h:LMid w w1 rb mb pb v ts ts' k)(hb:Below w1.heap.size w1 w2):LMid w w2 rb mb pb v ts ts' k:=by
 obtain⟨n,h1,h2⟩:=h.r;exact⟨h.b.trans (hb.mono h.b.size),⟨n,h1,(h2.below hb).more hb.size (Lr _)⟩,(h.m.below hb).bnd,h.len,h.low⟩
theorem LMid.end_{w1 w2:World}{x:List Int}{l:List (List Int)}{e:Ending}(h:LMid w w1 rb mb pb v ts (putT ts x l) k)(hd:RPutDone w1 pb w.heap.size v ts (fun g=>g<w1.heap.size) x l e w2):∃v',LSt w w2 rb mb pb v' (putT ts x l) (k+1):=by
 obtain⟨_,v',hrr,hpk⟩:=hd;obtain⟨css,h1,h2⟩:=h.m.tabs;obtain⟨n,hn,hreg⟩:=h.r;refine⟨v',⟨⟨hpk.os.trans h.b.os,hpk.tape.trans h.b.tape,hpk.output.trans h.b.output,Lq h.b.size hpk.size,fun j hj=>?_⟩,⟨n,hn,hreg.rput h.m hpk⟩,hrr.weak fun g hg _=>hg,?_,h.low⟩⟩
 ·refine(hpk.block j (Nat.lt_of_lt_of_le hj h.b.size) (fun e=>?_) fun e=>?_).trans (h.b.block j hj)
  ·have:=h.low.2;omega
  ·have:=(h1.lt j e).1;omega
 ·have:=Xuo ts x l;have:=h.len;omega
end
theorem Xo5{l:List LTab}{j:Nat}{t:LTab}(h:l[j]?=some t):laidT [] (l.take (j+1))=putT (laidT [] (l.take j)) t.key t.keys:=by
 rw[List.take_add_one,h,Xko];rfl
def isGreat11(l:List LTab):Bool:=l.any fun t=>decide (400<t.keys.length)
theorem Xox{l:List LTab}{k:Nat}{t:LTab}(h:l[k]?=some t):isGreat11 (l.take (k+1))=(isGreat11 (l.take k)||decide (400<t.keys.length)):=by
 unfold isGreat11;rw[List.take_add_one,h,List.any_append];simp
theorem Xt8{l:List LTab}{k:Nat}{t:LTab}(h:l[k]?=some t)(h4:400<t.keys.length):isGreat11 l=true:=List.any_eq_true.2 ⟨t,List.mem_of_getElem? h,decide_eq_true h4⟩
theorem Xvz(BA A:Option Addr)(bn bc n c B:Nat)(l:List LTab)(w:World)(hl:TabsIn w B A n l)(hn:n≤maxLen) :
 Calls Tryz.prog 8 #[.slice BA bn bc,.slice A n c] w fun e w'=>e=.returned (.bool (decide (5000<bn)||decide (20<n)||isGreat11 l))∧w'=w:=by
 unfold maxLen at hn;have HL:=Hd hl;have HN:=Hd hl.len;clear hl;by_cases h5:5000<bn
 ·have h5':(5000:Int)<bn:=by omega
  rw[decide_eq_true h5,Bool.true_or,Bool.true_or];go_enter Tryz.func8,Tryz.ntmps8
  go_wp2;go_ret;exact⟨rfl,rfl⟩
 have h5':¬(5000:Int)<bn:=by omega
 by_cases h2:20<n
 ·have h2':(20:Int)<n:=by omega
  rw[decide_eq_false h5,decide_eq_true h2,Bool.false_or,Bool.true_or];clear h5 h2;go_enter Tryz.func8,Tryz.ntmps8
  go_wp2;go_ret;exact⟨rfl,rfl⟩
 have h2':¬(20:Int)<n:=by omega
 rw[decide_eq_false h5,decide_eq_false h2,Bool.false_or,Bool.false_or];clear h5;obtain⟨gr,hgr⟩:∃gr,gr=isGreat11 l:=⟨_,rfl⟩;rw[←hgr];have HGR:=Hd hgr;clear hgr;go_enter Tryz.func8,Tryz.ntmps8
 go_wp2;go_loop [5] (fun i=>∃k:Nat,k≤n∧i=.int .i64 k∧isGreat11 (l.take k)=false) (fun i=>n - (intOf i).toNat)
 case atStart=>exact⟨0,Nat.zero_le _,rfl,rfl⟩
 case round =>
  obtain⟨k,hk,rfl,hg⟩:=hrel;have HG:=Hd hg;clear hg;by_cases hlt:k<n
  ·obtain⟨a,q,t,rfl,hab,ht,hcs,hin⟩:=HL.out.get hlt;obtain⟨KA,kn,kc⟩:=q;have c32:w.cell? ⟨(a.add (k*33)).block,(a.add (k*33)).off+32,none⟩=some (.slice KA kn kc):=hcs 32 _ (Xi7 hin.tab);have hkl:=hin.keys.len;have hkc:=hin.kn;unfold maxLen at hkc;dsimp only at hkl hkc
   have HT:=Hd ht;clear hcs hin ht;by_cases h4:400<kn
   ·have h4':(400:Int)<kn:=by omega
    have HE:Hid (gr=true):=Hd (by rw[HGR.out];exact Xt8 HT.out (by omega));clear h4;go_wp2;go_ret;exact⟨by rw[HE.out];rfl,rfl⟩
   ·have h4':¬(400:Int)<kn:=by omega
    have HE:Hid (isGreat11 (l.take (k+1))=false):=Hd (by rw[Xox HT.out,HG.out,decide_eq_false (by omega)];rfl);clear h4;go_wp2;go_round
    case rel=>exact⟨k+1,by omega,by go_num,HE.out⟩
    case measure=>simp[intOf];omega
  ·have hkn:k=n:=by omega
   have HE:Hid (gr=false):=Hd (by
    have h1:=HG.out;rwa [hkn,List.take_of_length_le (by rw[HN.out];exact Lr _),←HGR.out]at h1)
   clear hkn;go_wp2;go_ret;exact⟨by rw[HE.out];rfl,rfl⟩
def LaidDone(w:World)(l:List LTab)(e:Ending)(w':World):Prop:=
 ∃rb mb pb v,e=.returned (.tuple #[.pointer (some ⟨rb,0,none⟩),.pointer (some ⟨pb,0,none⟩)])∧LSt w w' rb mb pb v (laidT [] l) l.length
theorem laid11(A:Option Addr)(n c B:Nat)(l:List LTab)(w:World)(hl:TabsIn w B A n l)(hB:B≤w.heap.size)(hok:∀t ∈ l,TabOk11 t)(hn:n≤40) :
 Calls Tryz.prog 10 #[.slice A n c] w (LaidDone w l):=by
 have HL:=Hd hl;have HN:=Hd hl.len;have HOK:=Hd hok;have HBW:=Hd hB;clear hl hok hB;go_enter Tryz.func10,Tryz.ntmps10
 go_wp2_with fail;refine(Xq3 w).mono ?_;rintro e w1 ⟨rfl,hreg,hb⟩;have L0:=Hd (LSt.made hreg hb);have HZ1:=Hd hb.size;clear hreg hb;obtain⟨rb,hrb⟩:∃rb,rb=w.heap.size+1:=⟨_,rfl⟩;rw[←hrb]at L0 ⊢;clear hrb;obtain⟨mb,hmb⟩:∃mb,mb=w.heap.size:=⟨_,rfl⟩;have L0':LSt w (w1.alloc (.cells #[.slice none 0 0] 85)) rb mb w1.heap.size (.slice none 0 0) [] 0:=by rw[hmb];exact L0.out
 have L0:=Hd L0';clear L0' hmb;go_wp2_with fail;go_loopw [6] (fun i wr=>∃(k:Nat) (v:Value),k≤n∧i=.int .i64 k∧LSt w wr rb mb w1.heap.size v (laidT [] (l.take k)) k) (fun i _=>n - (intOf i).toNat)
 case atStart=>exact⟨0,_,Nat.zero_le _,rfl,L0.out⟩
 case round =>
  clear L0;obtain⟨k,v,hk,rfl,hst⟩:=hrel;have LK:=Hd hst;clear hst;by_cases hlt:k<n
  ·obtain⟨a,q,t,rfl,hab,ht,hcs,hin⟩:=HL.out.get hlt;obtain⟨KA,kn,kc⟩:=q;have hto:=HOK.out t (List.mem_of_getElem? ht);have HCK:Hid (∀V,Below w.heap.size w V→(∀j u,(bv t.key)[j]?=some u→V.cell? ((a.add (k*33)).add j)=some u)∧V.cell? ⟨(a.add (k*33)).block,(a.add (k*33)).off+32,none⟩=some (.slice KA kn kc)):=Hd fun V hb=>by
    have h1:(a.add (k*33)).block<w.heap.size:=by rw[Xa7];exact Nat.lt_of_lt_of_le hab HBW.out
    exact⟨fun j u hu=>(hb.cell (by rw[Xa7];exact h1)).trans (hcs j u (Xlq hu)),(hb.cell (p:=⟨(a.add (k*33)).block,(a.add (k*33)).off+32,none⟩) h1).trans (hcs 32 _ (Xi7 hin.tab))⟩
   have HKI:Hid (∀V,Below w.heap.size w V→KeysIn V B KA kn t.keys):=Hd fun V hb=>(hin.below (hb.mono HBW.out)).keys
   have HKN:=Hd hin.kn;have HKO:=Hd hto.tab;have HTK:=Hd (Xo5 ht);have HSX:=Hd (show(Tryz.prog.info? 78).map (·.size)=some (bv t.key).length by rw[bL,hin.tab];exact Xab);clear hcs hin hto ht;obtain⟨X,hX⟩:∃X,X=bv t.key:=⟨_,rfl⟩;have HXE:=Hd hX;rw[←hX]at HCK HSX;clear hX;go_wp2_with fail;have HS1:=Hd LK.out.b.drew;refine wp_region_held_drew (S:=(fun V=>Below w.heap.size w V)) (by kernel_rfl) HS1.out (fun _=>?_);have LD:=Hd (LK.out.below (Br _ _).drew);obtain⟨V0,hV0⟩:∃V,V=wr.drew:=⟨_,rfl⟩;rw[←hV0]at HS1 LD ⊢;clear hV0;refine Tk 0 rfl ?_ HS1.out ?_ ⟨?_,rfl⟩
   ·intro wz hwz;go_simp;try with_reducible rfl
   try simp only[nm]
   refine Tk 1 rfl ?_ HS1.out ?_ ⟨?_,rfl⟩
   ·intro wz hwz;go_simp;try with_reducible rfl
   try simp only[nm]
   refine Tk 2 rfl ?_ HS1.out ?_ ⟨?_,rfl⟩
   ·intro wz hwz;go_simp;try with_reducible rfl
   try simp only[nm]
   refine Tk 3 rfl ?_ HS1.out ?_ ⟨?_,rfl⟩
   ·intro wz hwz;go_simp;try with_reducible rfl
   try simp only[nm]
   refine Tk 4 rfl ?_ HS1.out ?_ ⟨?_,rfl⟩
   ·intro wz hwz;go_simp;try with_reducible rfl
   try simp only[nm]
   refine Tl 5 (v:=.agg X.toArray) rfl (Or.inl ⟨by rfl,fun wz hwz=>Xa8 wz 78 (.tmp 20) rfl (a.add (k*33)) X _ Tryz.underlying78 rfl HSX.out (HCK.out wz hwz).1 (by go_simp)⟩) HS1.out ?_;try simp only[nm]
   refine Tk 6 rfl ?_ HS1.out ?_ ⟨?_,rfl⟩
   ·intro wz hwz;go_simp;try with_reducible rfl
   try simp only[nm]
   refine Tk 7 rfl ?_ HS1.out ?_ ⟨?_,rfl⟩
   ·intro wz hwz;go_simp;try with_reducible rfl
   try simp only[nm]
   refine Tk 8 rfl ?_ HS1.out ?_ ⟨?_,rfl⟩
   ·intro wz hwz;go_simp;try with_reducible rfl
   try simp only[nm]
   refine Tk 9 rfl ?_ HS1.out ?_ ⟨?_,rfl⟩
   ·intro wz hwz;go_simp;try with_reducible rfl
   try simp only[nm]
   refine Tk 10 rfl ?_ HS1.out ?_ ⟨?_,rfl⟩
   ·intro wz hwz;have q32:=(HCK.out wz hwz).2;go_simp;try with_reducible rfl
   try simp only[nm]
   refine Rl 11 rfl fun K hK=>?_
   go_simp;obtain⟨nn,hnn,hrg⟩:=LD.out.r;rw[HXE.out];refine(putReg rb mb V0.heap.size nn _ t.key KA kn kc B t.keys V0 hrg HKO.out (HKI.out V0 HS1.out) (Lq HBW.out HS1.out.size) (by omega) (Lq HKN.out.1 HKN.out.2)).mono ?_;rintro e w2 hd;have hmid:=LD.out.mid hnn hrg hd;obtain⟨rfl,_⟩:=hd;have MM:=Hd hmid;rw[←HXE.out];clear hmid hrg hnn;refine hK.out _ _ MM.out.b ?_;clear hK K;try simp only[nm]
   refine wpAnyH_done (by kernel_rfl) ?_ _;clear HS1 LD LK;go_wp2_with fail;have HS2:=Hd MM.out.b.drew;refine wp_region_held_drew (S:=(fun V=>Below w.heap.size w V)) (by kernel_rfl) HS2.out (fun _=>?_);have MD:=Hd (MM.out.below (Br _ _).drew);obtain⟨V2,hV2⟩:∃V,V=w2.drew:=⟨_,rfl⟩;rw[←hV2]at HS2 MD ⊢;clear hV2 MM;refine Tk 0 rfl ?_ HS2.out ?_ ⟨?_,rfl⟩
   ·intro wz hwz;go_simp;try with_reducible rfl
   try simp only[nm]
   refine Tk 1 rfl ?_ HS2.out ?_ ⟨?_,rfl⟩
   ·intro wz hwz;go_simp;try with_reducible rfl
   try simp only[nm]
   refine Tk 2 rfl ?_ HS2.out ?_ ⟨?_,rfl⟩
   ·intro wz hwz;go_simp;try with_reducible rfl
   try simp only[nm]
   refine Tk 3 rfl ?_ HS2.out ?_ ⟨?_,rfl⟩
   ·intro wz hwz;go_simp;try with_reducible rfl
   try simp only[nm]
   refine Tk 4 rfl ?_ HS2.out ?_ ⟨?_,rfl⟩
   ·intro wz hwz;go_simp;try with_reducible rfl
   try simp only[nm]
   refine Tl 5 (v:=.agg X.toArray) rfl (Or.inl ⟨by rfl,fun wz hwz=>Xa8 wz 78 (.tmp 32) rfl (a.add (k*33)) X _ Tryz.underlying78 rfl HSX.out (HCK.out wz hwz).1 (by go_simp)⟩) HS2.out ?_;try simp only[nm]
   refine Tk 6 rfl ?_ HS2.out ?_ ⟨?_,rfl⟩
   ·intro wz hwz;go_simp;try with_reducible rfl
   try simp only[nm]
   refine Tk 7 rfl ?_ HS2.out ?_ ⟨?_,rfl⟩
   ·intro wz hwz;go_simp;try with_reducible rfl
   try simp only[nm]
   refine Tk 8 rfl ?_ HS2.out ?_ ⟨?_,rfl⟩
   ·intro wz hwz;go_simp;try with_reducible rfl
   try simp only[nm]
   refine Tk 9 rfl ?_ HS2.out ?_ ⟨?_,rfl⟩
   ·intro wz hwz;go_simp;try with_reducible rfl
   try simp only[nm]
   refine Tk 10 rfl ?_ HS2.out ?_ ⟨?_,rfl⟩
   ·intro wz hwz;have q32:=(HCK.out wz hwz).2;go_simp;try with_reducible rfl
   try simp only[nm]
   refine Rl 11 rfl fun K hK=>?_
   go_simp;rw[HXE.out];refine(refPut w1.heap.size w.heap.size v _ _ t.key KA kn kc B t.keys V2 MD.out.m HKO.out (HKI.out V2 HS2.out) (Lq HBW.out HS2.out.size) (by have:=MD.out.len;omega) (Lq HKN.out.1 HKN.out.2) HS2.out.size).mono ?_;rintro e w3 hd;have hend:=MD.out.end_ hd;obtain⟨rfl,_⟩:=hd;obtain⟨v',hst⟩:=hend;have LE:=Hd hst;clear hst;refine hK.out _ _ LE.out.b ?_;clear hK K;try simp only[nm]
   refine wpAnyH_done (by kernel_rfl) ?_ _;go_wp2_with fail;go_roundw
   case rel=>exact⟨k+1,v',by omega,by go_num,by rw[HTK.out];exact LE.out⟩
   case measure=>simp[intOf];omega
  ·obtain rfl:k=n:=by omega
   go_wp2_with fail;go_ret2
   refine⟨rb,mb,w1.heap.size,v,rfl,?_⟩;have:=LK.out;rw[List.take_of_length_le (by rw[HN.out];exact Lr _)]at this;rw[HN.out];exact this
theorem Xx7{l:List Value}(hl:l.length=39):∃f:Fin 39→Value,l=List.ofFn f:=⟨fun i=>l.getD i undef,by
 refine List.ext_getElem (by simpa using hl) fun i h1 h2=>?_
 rw[List.getElem_ofFn,List.getD_eq_getElem?_getD,List.getElem?_eq_getElem h1];rfl⟩
theorem Xnz(m:List Value)(h:m.length=39)(A:Option Addr)(n c:Nat):Tryz.prog.built 42 [(0,.slice A n c),(1,.agg m.toArray)]=some (.slice A n c::m).toArray:=by
 obtain⟨f,rfl⟩:=Xx7 h;kernel_rfl
theorem Xri(w:World):Calls Tryz.prog 32 #[] w fun e w' =>
 ∃A c,e=.returned (.slice A (encTx xEx).length c)∧Sees w' w'.heap.size A (encTx xEx).length (bv (encTx xEx))∧(encTx xEx).length≤c∧c≤maxLen∧Below w.heap.size w w':=by
 have HLE:=Hd Xsb;have HFT:=Hd Xmt;go_enter Tryz.func32,Tryz.ntmps32
 obtain⟨i0,hi,hz0,hz1,hz2⟩:=info_parts Xh5;go_wp2_with (first
  | (at_make;go_must(refine wpList_make_full _ rfl (.const (.int .i64 1)) (.const (.int .i64 1)) 31 rfl w.heap.size 104 i0 _ 64 Tryz.underlying31 hi hz0 hz1 .i64 .i64 1 1 1 rfl rfl rfl rfl (by rw[hz2];omega) (by unfold maxLen;omega) (Lr _) ?_;intro w1 hown hgrow;have hrow:=Row.of_ownN hown;have hb1:=(Br w.heap.size w).grown hgrow (Lr _) (fun k hk=>by cases hk)))
  | ((with_reducible show wpList _ _ _ (⟨some 6,_,_,_,_,_⟩::_) _ _);go_must(refine wpList_plain rfl fun K hK=>Xav _ _ _ rfl (by simp only[List.map_toArray,List.map_cons,List.map_nil];exact Xmq _) (hK _ _ ?_)))
  | ((with_reducible show wpList _ _ _ (⟨some 7,_,_,_,_,_⟩::_) _ _);go_must(refine wpList_plain rfl fun K hK=>Xav _ _ _ rfl (by simp only[List.map_toArray,List.map_cons,List.map_nil];exact Xmq _) (hK _ _ ?_)))
  | ((with_reducible show wpList _ _ _ (⟨some 8,_,_,_,_,_⟩::_) _ _);go_must(refine Xhf rfl 34 78 (.tmp 6) (.tmp 7) rfl (bv (xk 1)) (bv (xk 2)) _ 32 32 Tryz.underlying34 Xaj (by kernel_rfl) (by omega) (by omega) (by rfl) (by rfl) ?_ ?_ ?_;go_simp;go_simp))
  | ((with_reducible show wpList _ _ _ (⟨some 12,_,_,_,_,_⟩::_) _ _);go_must(refine wpList_plain rfl fun K hK=>Xav _ _ _ rfl (by simp only[List.map_toArray,List.map_cons,List.map_nil];exact Xua _ _) (hK _ _ ?_)))
  | ((with_reducible show wpList _ _ _ (⟨some 13,_,_,_,_,_⟩::_) _ _);go_must(refine wpList_plain rfl fun K hK=>Xav _ _ _ rfl (by simp only[List.map_toArray,List.map_cons,List.map_nil];exact Xnz (Raw.cells (xRaw 0 w1.heap.size (w1.heap.size+1+1) 2 2).q (xTx xks 1 0).m) (Xaq rfl) _ _ _) (hK _ _ ?_))))
 have hs1:Row w1 w.heap.size 104 (bv xSig):=by rw[Xx4 1]at hrow;exact hrow
 have hz:=hrow.lt;have hk2:=Row.new w1 78 (bv (xk 1)++bv (xk 2));have ha2:=Row.new' (w1.alloc (.cells (bv (xk 1)++bv (xk 2)).toArray 78)) 5 (bv [0]) (g:=w1.heap.size+1) (by simp);have hi2:=Row.new' ((w1.alloc (.cells (bv (xk 1)++bv (xk 2)).toArray 78)).alloc (.cells (bv [0]).toArray 5)) 131 (xIn (w1.heap.size+1) 1) (g:=w1.heap.size+1+1) (by simp);have hbb:=(((hb1.alloc (by omega) (.cells (bv (xk 1)++bv (xk 2)).toArray 78)).alloc (by simp;omega) (.cells (bv [0]).toArray 5)).alloc (by simp;omega) (.cells (xIn (w1.heap.size+1) 1).toArray 131));have hin:=x_in (ks:=xks) (p:=1) (a:=0) (rest:=[]) (kn:=2) (kc:=2) (((hs1.alloc _).alloc _).alloc _) (by rw[List.append_nil];exact(hk2.alloc _).alloc _) (ha2.alloc _) hi2 (fun k hk=>(Xvh k hk).1) rfl (by unfold maxLen;omega);refine(putTx (xRaw w.heap.size w1.heap.size (w1.heap.size+1+1) 2 2) (xTx xks 1 0) _ _ hin (Lr _) (by decide) (by decide +kernel)).mono ?_;rintro e w2 (⟨hnf,_⟩ | ⟨_,hgt,_⟩ | ⟨_,_,⟨v,rfl,hv⟩,hb2⟩)
 ·exact absurd HFT.out.2 hnf
 ·have:=HLE.out;exact absurd hgt (by show ¬1232<(encTx xEx).length;omega)
 ·have hv':w2.ownsRow _ 5 1 v (encTx xEx).length (bv (encTx xEx)):=hv;have HB:=Hd (hbb.trans (hb2.mono hbb.size));clear hv hb2 hbb hin hi2 ha2 hk2 hs1 hz hrow hb1 hown hgrow;obtain⟨A,c,rfl,h1,h2,h3,_⟩:=Xbs hv';rw[Nat.mul_one]at h1;have H1:=Hd (And.intro h1 (And.intro h2 h3));clear hv' h1 h2 h3;go_wp2_with fail;go_ret;exact⟨A,c,rfl,H1.out.1,H1.out.2.1,H1.out.2.2,HB.out⟩
theorem Xv3:Tryz.prog.stoodInHeld 46=false:=by kernel_rfl
theorem Xrr:Tryz.prog.underlying 46=some (.struct (Tryz.prog.fieldsOf 46)):=by kernel_rfl
theorem Xwk(a b:Int)(w:World):(Op.equalIn 9999 44 (.int .u64 a) (.int .u64 b)).run Tryz.prog w=.ok (a==b) w:=by
 have:=run_equalIn_int (P:=Tryz.prog) w 9998 44 .u64 .u64 a b Tryz.underlying44;rwa [show(9998+1:Nat)=9999 from rfl]at this
theorem Xwm(a b:Int)(w:World):(Op.equalIn 9999 3 (.int .i64 a) (.int .i64 b)).run Tryz.prog w=.ok (a==b) w:=by
 have:=run_equalIn_int (P:=Tryz.prog) w 9998 3 .i64 .i64 a b Tryz.underlying3;rwa [show(9998+1:Nat)=9999 from rfl]at this
theorem Xos(X Y:Array Value)(w:World){a b c a' b' c':Int}(pa:(part 44 X 0).run Tryz.prog w=.ok (.int .u64 a) w)(pa':(part 44 Y 0).run Tryz.prog w=.ok (.int .u64 a') w)
 (pb:(part 44 X 1).run Tryz.prog w=.ok (.int .u64 b) w) (pb':(part 44 Y 1).run Tryz.prog w=.ok (.int .u64 b') w) (pc:(part 3 X 2).run Tryz.prog w=.ok (.int .i64 c) w) (pc':(part 3 Y 2).run Tryz.prog w=.ok (.int .i64 c') w) :
 (Op.eqFields 9999 X Y (Tryz.prog.fieldsOf 46).toList).run Tryz.prog w=.ok ((a==a')&&(b==b')&&(c==c')) w:=by
 simp only[Program.fieldsOf,Tryz.underlying46];have h1:=Xwk;have h2:=Xwm;simp only[Op.eqFields,ne_eq,String.reduceEq,not_false_eq_true,if_true,Sem.run_bind,pa,pa',Result.andThen_ok,h1];cases (a==a')
 ·simp
 ·simp only[Bool.not_true,Bool.false_eq_true,if_false,pb,pb',Sem.run_bind,Result.andThen_ok,h1];cases (b==b')
  ·simp
  ·simp only[Bool.not_true,Bool.false_eq_true,if_false,pc,pc',Sem.run_bind,Result.andThen_ok,h2];cases (c==c') <;> simp
theorem Xug(x y z x' y' z':Int)(w:World):(Op.equalIn 10000 46 (.agg ([.int .u64 x,.int .u64 y,.int .i64 z]:List Value).toArray) (.agg ([.int .u64 x',.int .u64 y',.int .i64 z']:List Value).toArray)).run Tryz.prog w=.ok ((x==x')&&(y==y')&&(z==z')) w:=by
 rw[show(10000:Nat)=9999+1 from rfl,run_equalIn_struct w 9999 46 _ _ Xrr Xv3];exact Xos _ _ w (run_part_plain (P:=Tryz.prog) w (by kernel_rfl) rfl) (run_part_plain (P:=Tryz.prog) w (by kernel_rfl) rfl) (run_part_plain (P:=Tryz.prog) w (by kernel_rfl) rfl) (run_part_plain (P:=Tryz.prog) w (by kernel_rfl) rfl) (run_part_plain (P:=Tryz.prog) w (by kernel_rfl) rfl) (run_part_plain (P:=Tryz.prog) w (by kernel_rfl) rfl)
theorem Xt6(x y z:Int)(w:World):(binOp .eql 46 (.agg ([.int .u64 x,.int .u64 y,.int .i64 z]:List Value).toArray) (.agg ([.int .u64 x,.int .u64 y,.int .i64 z]:List Value).toArray)).run Tryz.prog w=.ok (.bool true) w:=by
 rw[run_eql_struct,Xug];simp
theorem Xs9:AllBytes (encTx xEx):=by
 have h:∀z ∈ encTx xEx,0≤z∧z<256:=by decide +kernel
 exact h
theorem Xmj:TsB11 []:=fun t ht=>by cases ht
theorem Xvw:rdErr [] [0]=5:=by rw[Xf1 (by rw[Xro];decide),Xro]
theorem Xtq:rdX [] [0]=zReady:=Xqj (by rw[Xvw];decide)
theorem Xr1(w:World)(hl:LenAt w):Calls Tryz.prog 9 #[] w fun e w'=>e=.returned (.bool true)∧Below w.heap.size w w':=by
 have HLE:=Hd (fun(V:World) (hb:Below w.heap.size w V)=>hl.below hb hl.pos);clear hl;have HT:=Hd Xv9;have HR2:=Hd Xrn;have HBY:=Hd Xs9;have HRD:=Hd Xrx;have HN1:=Hd Xvw;have HN2:=Hd Xtq;go_enter Tryz.func9,Tryz.ntmps9
 go_wp2_with fail;refine(Xri w).mono ?_;rintro e w1 ⟨A,c,rfl,hs,hnc,hc,hb1⟩;have HS:=Hd hs;have HC:=Hd (And.intro hnc hc);have B1:=Hd hb1;clear hs hnc hc hb1;obtain⟨zs,hzs⟩:∃zs,zs=encTx xEx:=⟨_,rfl⟩;rw[←hzs]at HS HC HT HR2 HBY HRD ⊢;clear hzs;go_wp2_with fail;refine(Xq3 w1).mono ?_;rintro e w2 ⟨rfl,hreg,hb2⟩;have B2:=Hd (B1.out.trans (hb2.mono B1.out.size));have HRG:=Hd hreg;have HS2:=Hd (HS.out.below hb2);have HZ2:=Hd hb2.size;clear hreg hb2 HS B1;go_wp2_with fail;refine(of11 (w1.heap.size+1) w1.heap.size w2.heap.size 0 [] A zs.length c w1.heap.size zs w2 HRG.out Xmj HS2.out HZ2.out HC.out.1 HC.out.2 HBY.out (HLE.out w2 B2.out)).mono ?_;rintro e w3 ⟨q,rfl,hv,hb3⟩;rw[HRD.out];have hrn:=hv.is.rs.len;have hre:=hv.is.tx.m.recent;have HXL:=Hd (Xbe (q:=q) hre);have HX1:=Hd (Xbk (q:=q) (x:=rdX [] zs));have HXS:=Hd (show(Tryz.prog.info? 48).map (·.size)=some (q.cells (rdX [] zs)).length by rw[HXL.out];exact Xb6);have HTL:Hid (∀j,(q.cells (rdX [] zs))[41+j]?=(.slice q.RA q.rn q.rc::(rdX [] zs).last)[j]?):=Hd (Xea hre);have B3:=Hd (B2.out.trans (hb3.mono B2.out.size));have C41:Hid ((q.cells (rdX [] zs))[41]?=some (.slice q.RA 2 q.rc)):=Hd (by
  rw[show 41=41+0 from rfl,HTL.out];have:q.rn=2:=by rw[←hrn,HT.out];exact HR2.out
  rw[this];rfl)
 have C42:Hid (∀j v,([.int .u64 200000,.int .u64 0,.int .i64 (-1)]:List Value)[j]?=some v→(q.cells (rdX [] zs))[42+j]?=some v):=Hd fun j v hv=>by
  rw[show 42+j=41+(j+1) by omega,HTL.out,HT.out];have hj:=(List.getElem?_eq_some_iff.1 hv).1;rcases(show j=0∨j=1∨j=2 by simp at hj;omega)with rfl | rfl | rfl <;> exact hv
 have C45:Hid ((q.cells (rdX [] zs))[45]?=some (.int .u64 5000)):=Hd (by rw[show 45=41+4 from rfl,HTL.out,HT.out];rfl);have C46:Hid ((q.cells (rdX [] zs))[46]?=some (.int .u64 201320)):=Hd (by rw[show 46=41+5 from rfl,HTL.out,HT.out];rfl);have C47:Hid ((q.cells (rdX [] zs))[47]?=some (.int .u64 12417)):=Hd (by rw[show 47=41+6 from rfl,HTL.out,HT.out];rfl);clear hv hrn hre hb3 HRG HS2 HTL HT;generalize q.cells (rdX [] zs)=cs at *;go_upto_region 2 with((with_reducible show wpList _ _ _ (⟨none,Op.store 48 _ _,_,_,_,_⟩::_) _ _);go_must(refine Xa1 rfl 48 (.tmp 1) (.tmp 9) rfl cs HXS.out HX1.out (by rw[HXL.out];rfl) ?_ ?_ ?_;go_simp;go_simp;intro w4 hr4 hb4 hz4))
 have R4:=Hd hr4;have B4:=Hd (B3.out.trans (hb4.mono B3.out.size));clear hr4 hb4 hz4 B3;go_wp2_with fail;have RB:=Hd (Row.new w4 5 (bv [0]));have hba:=(Br w4.heap.size w4).alloc (Lr _) (.cells (bv [0]).toArray 5);have R5:=Hd (R4.out.below hba R4.out.lt);have B5:=Hd (B4.out.trans (hba.mono B4.out.size));clear hba R4 B4;have hX:∀z,z=(bv [0]).toArray→w4.alloc (.cells z 5)=w4.alloc (.cells (bv [0]).toArray 5):=fun z h=>by rw[h]
 rw[hX];rotate_left
 ·kernel_rfl
 clear hX;generalize w4.alloc (.cells (bv [0]).toArray 5)=w5 at *;refine(Xq3 w5).mono ?_;rintro e w6 ⟨rfl,hreg,hb6⟩;have R6:=Hd (R5.out.below hb6 R5.out.lt);have RB6:=Hd (RB.out.below hb6 RB.out.lt);have B6:=Hd (B5.out.trans (hb6.mono B5.out.size));have HRG:=Hd hreg;clear hreg hb6 R5 RB B5;go_wp2_with fail;refine(of11 (w5.heap.size+1) w5.heap.size w6.heap.size 0 [] (some ⟨w4.heap.size,0,none⟩) 1 1 w6.heap.size [0] w6 HRG.out Xmj (RB6.out.sees0) (Lr _) (Lr _) (by unfold maxLen;omega) (fun z hz=>by obtain rfl:=List.mem_singleton.1 hz;exact⟨by decide,by decide⟩) (HLE.out w6 B6.out)).mono ?_;rintro e w7 ⟨q2,rfl,hv,hb7⟩;rw[HN1.out];have HXL2:=Hd (Xbe (q:=q2) hv.is.tx.m.recent);have HX12:=Hd (Xbk (q:=q2) (x:=rdX [] [0]));have HXS2:=Hd (show(Tryz.prog.info? 48).map (·.size)=some (q2.cells (rdX [] [0])).length by rw[HXL2.out];exact Xb6);have R7:=Hd (R6.out.below hb7 R6.out.lt);have B7:=Hd (B6.out.trans (hb7.mono B6.out.size));clear hv hb7 R6 B6 RB6 HRG;generalize q2.cells (rdX [] [0])=cs2 at *;have hbe:=Xt6 200000 0 (-1);have HBS:=Hd (Xaz 200000 0 (-1));go_upto_region 3 with((with_reducible show wpList _ _ _ (⟨none,Op.store 48 _ _,_,_,_,_⟩::_) _ _);go_must(refine Xa1 rfl 48 (.tmp 3) (.tmp 15) rfl cs2 HXS2.out HX12.out (by rw[HXL2.out];rfl) ?_ ?_ ?_;go_simp;go_simp;intro w8 hr8 hb8 hz8))
 have R8:=Hd (R7.out.below hb8 R7.out.lt);have B8:=Hd (B7.out.trans (hb8.mono B7.out.size));clear hr8 hb8 hz8 R7 B7;have a41:w8.cell? ⟨w3.heap.size,41,none⟩=some (.slice q.RA 2 q.rc):=(R8.out.cell 41).trans C41.out;have a45:w8.cell? ⟨w3.heap.size,45,none⟩=some (.int .u64 5000):=(R8.out.cell 45).trans C45.out;have a46:w8.cell? ⟨w3.heap.size,46,none⟩=some (.int .u64 201320):=(R8.out.cell 46).trans C46.out;have a47:w8.cell? ⟨w3.heap.size,47,none⟩=some (.int .u64 12417):=(R8.out.cell 47).trans C47.out;go_wp2_with ((with_reducible show wpList _ _ _ (⟨some 31,_,_,_,_,_⟩::_) _ _);go_must(refine Xai (by kernel_rfl) 46 (.tmp 30) rfl ⟨w3.heap.size,42,none⟩ [.int .u64 200000,.int .u64 0,.int .i64 (-1)] _ Tryz.underlying46 rfl HBS.out (fun j v hv=>by rw[Xa5];exact(R8.out.cell (42+j)).trans (C42.out j v hv)) ?_ ?_;go_simp))
 go_ret;exact⟨rfl,B8.out⟩
theorem Xpc(q q':YRaw)(x:LReady)(B B':Nat)(w:World)(h:ReadyIn w B q x)(hB:B≤w.heap.size)(h':ReadyIn w B' q' x)(hB':B'≤w.heap.size) :
 Calls Tryz.prog 16 #[.agg (q.cells x).toArray,.agg (q'.cells x).toArray] w fun e w'=>e=.returned (.bool true)∧Below w.heap.size w w':=by
 have hre:=h.tx.m.recent;obtain⟨BA,bn,bc,t,RA,rn,rc⟩:=q;obtain⟨BB,bn',bd,t',RB,rn',rd⟩:=q';obtain rfl:bn'=bn:=by have h1:=h.bs.len;have h2:=h'.bs.len;dsimp only at h1 h2;omega
 obtain rfl:rn'=rn:=h'.rs.len.symm.trans h.rs.len;have hr0:=(Row.new w 48 (YRaw.cells ⟨BA,bn',bc,t,RA,rn',rc⟩ x)).alloc (.cells (YRaw.cells ⟨BB,bn',bd,t',RB,rn',rd⟩ x).toArray 48);have hr1:Row ((w.alloc (.cells (YRaw.cells ⟨BA,bn',bc,t,RA,rn',rc⟩ x).toArray 48)).alloc (.cells (YRaw.cells ⟨BB,bn',bd,t',RB,rn',rd⟩ x).toArray 48)) (w.heap.size+1) 48 (YRaw.cells ⟨BB,bn',bd,t',RB,rn',rd⟩ x):=Row.new' _ _ _ (by simp);have hbw:=(((Br w.heap.size w).alloc (Lr _) (.cells (YRaw.cells ⟨BA,bn',bc,t,RA,rn',rc⟩ x).toArray 48)).alloc (by simp) (.cells (YRaw.cells ⟨BB,bn',bd,t',RB,rn',rd⟩ x).toArray 48));have HIN:=Hd (fun(V:World) (hb:Below w.heap.size w V)=>h.below (hb.mono hB));have HIN':=Hd (fun(V:World) (hb:Below w.heap.size w V)=>h'.below (hb.mono hB'));have HST:=Hd (show(Tryz.prog.info? 42).map (·.size)=some (t.cells x.tx).length by rw[Xba,Xac hre]);have HST':=Hd (show(Tryz.prog.info? 42).map (·.size)=some (t'.cells x.tx).length by rw[Xba,Xac hre]);have HCT:Hid (∀j u,(t.cells x.tx)[j]?=some u→(YRaw.cells ⟨BA,bn',bc,t,RA,rn',rc⟩ x)[1+j]?=some u):=Hd fun j u hu=>Xeh hu
 have HCT':Hid (∀j u,(t'.cells x.tx)[j]?=some u→(YRaw.cells ⟨BB,bn',bd,t',RB,rn',rd⟩ x)[1+j]?=some u):=Hd fun j u hu=>Xeh hu
 have HL:Hid (∀i,(YRaw.cells ⟨BA,bn',bc,t,RA,rn',rc⟩ x)[41+i]?=(.slice RA rn' rc::x.last)[i]?):=Hd (Xea hre);have HL':Hid (∀i,(YRaw.cells ⟨BB,bn',bd,t',RB,rn',rd⟩ x)[41+i]?=(.slice RB rn' rd::x.last)[i]?):=Hd (Xea hre);have HC0:Hid ((YRaw.cells ⟨BA,bn',bc,t,RA,rn',rc⟩ x)[0]?=some (.slice BA bn' bc)):=Hd rfl;have HC0':Hid ((YRaw.cells ⟨BB,bn',bd,t',RB,rn',rd⟩ x)[0]?=some (.slice BB bn' bd)):=Hd rfl;have HBN:=Hd (And.intro h.bn h.rn);have HRO:=Hd h.rs.ok;have HBE:=Hd (fun w=>Xt6 x.u x.p x.bad w);generalize YRaw.cells ⟨BA,bn',bc,t,RA,rn',rc⟩ x=ca at *;generalize YRaw.cells ⟨BB,bn',bd,t',RB,rn',rd⟩ x=cb at *;have HR0:=Hd hr0;have HR1:=Hd hr1;have HB0:=Hd hbw;have a0:=(hr0.cell 0).trans HC0.out;have b0:=(hr1.cell 0).trans HC0'.out;clear hr0 hr1 hbw h h' hre;go_enter Tryz.func16,Tryz.ntmps16
 go_wp2_with fail;refine(Xi2 BA BB bn' bn' bc bd x.bytes x.bytes _ B B' (HIN.out _ HB0.out).bs (HIN'.out _ HB0.out).bs (by have:=HBN.out.1;omega) (by have:=HBN.out.1;omega)).mono ?_;rintro e w1 ⟨rfl,k,hw1⟩;simp only[decide_true];have B1:Hid (Below w.heap.size w w1):=Hd (by rw[hw1];exact below_drewN HB0.out k);have R0:Hid (Row w1 w.heap.size 48 ca):=Hd (by rw[hw1];exact HR0.out.drewN k);have R1:Hid (Row w1 (w.heap.size+1) 48 cb):=Hd (by rw[hw1];exact HR1.out.drewN k);clear hw1 a0 b0 HR0 HR1 HB0;go_wp2_with (first
  | ((with_reducible show wpList _ _ _ (⟨some 12,_,_,_,_,_⟩::_) _ _);go_must(refine Xai (by kernel_rfl) 42 (.tmp 11) rfl ⟨w.heap.size,1,none⟩ (t.cells x.tx) _ Tryz.underlying42 rfl HST.out (fun j u hu=>by rw[Xa5,R0.out.cell];exact HCT.out j u hu) ?_ ?_;go_simp))
  | ((with_reducible show wpList _ _ _ (⟨some 14,_,_,_,_,_⟩::_) _ _);go_must(refine Xai (by kernel_rfl) 42 (.tmp 13) rfl ⟨w.heap.size+1,1,none⟩ (t'.cells x.tx) _ Tryz.underlying42 rfl HST'.out (fun j u hu=>by rw[Xa5,R1.out.cell];exact HCT'.out j u hu) ?_ ?_;go_simp)))
 refine(Xrw t t' x.tx B B' w1 (HIN.out _ B1.out).tx (Lq hB B1.out.size) (HIN'.out _ B1.out).tx (Lq hB' B1.out.size)).mono ?_;rintro e w2 ⟨rfl,hb⟩;have R02:=Hd (R0.out.below hb R0.out.lt);have R12:=Hd (R1.out.below hb R1.out.lt);have B2:=Hd (B1.out.trans (hb.mono B1.out.size));clear hb R0 R1 B1;have a41:w2.cell? ⟨w.heap.size,41,none⟩=some (.slice RA rn' rc):=(R02.out.cell 41).trans (HL.out 0);have b41:w2.cell? ⟨w.heap.size+1,41,none⟩=some (.slice RB rn' rd):=(R12.out.cell 41).trans (HL'.out 0);go_wp2_with fail;refine(sameR RA RB rn' rc rd _ w2 B B' (HIN.out _ B2.out).rs.cs (HIN'.out _ B2.out).rs.cs (Xtg HRO.out) (by have:=HBN.out.2;omega)).mono ?_;rintro e w3 ⟨rfl,k3,hw3⟩;have B3:Hid (Below w.heap.size w w3):=Hd (by rw[hw3];exact below_drewN B2.out k3);have R03:Hid (Row w3 w.heap.size 48 ca):=Hd (by rw[hw3];exact R02.out.drewN k3);have R13:Hid (Row w3 (w.heap.size+1) 48 cb):=Hd (by rw[hw3];exact R12.out.drewN k3);clear hw3 a41 b41 R02 R12 B2;have a45:w3.cell? ⟨w.heap.size,45,none⟩=some (.int .u64 x.fee):=(R03.out.cell 45).trans (HL.out 4);have b45:w3.cell? ⟨w.heap.size+1,45,none⟩=some (.int .u64 x.fee):=(R13.out.cell 45).trans (HL'.out 4);have a46:w3.cell? ⟨w.heap.size,46,none⟩=some (.int .u64 x.cost):=(R03.out.cell 46).trans (HL.out 5);have b46:w3.cell? ⟨w.heap.size+1,46,none⟩=some (.int .u64 x.cost):=(R13.out.cell 46).trans (HL'.out 5);have a47:w3.cell? ⟨w.heap.size,47,none⟩=some (.int .u64 x.pri):=(R03.out.cell 47).trans (HL.out 6);have b47:w3.cell? ⟨w.heap.size+1,47,none⟩=some (.int .u64 x.pri):=(R13.out.cell 47).trans (HL'.out 6);have HBS:=Hd (Xaz x.u x.p x.bad);have A42:Hid (∀j v,([.int .u64 x.u,.int .u64 x.p,.int .i64 x.bad]:List Value)[j]?=some v→w3.cell? ((⟨w.heap.size,42,none⟩:Addr).add j)=some v):=Hd fun j v hv=>by
  rw[Xa5,R03.out.cell,show 42+j=41+(j+1) by omega,HL.out];have hj:=(List.getElem?_eq_some_iff.1 hv).1;rcases(show j=0∨j=1∨j=2 by simp at hj;omega)with rfl | rfl | rfl <;> exact hv
 have B42:Hid (∀j v,([.int .u64 x.u,.int .u64 x.p,.int .i64 x.bad]:List Value)[j]?=some v→w3.cell? ((⟨w.heap.size+1,42,none⟩:Addr).add j)=some v):=Hd fun j v hv=>by
  rw[Xa5,R13.out.cell,show 42+j=41+(j+1) by omega,HL'.out];have hj:=(List.getElem?_eq_some_iff.1 hv).1;rcases(show j=0∨j=1∨j=2 by simp at hj;omega)with rfl | rfl | rfl <;> exact hv
 have hbe:=HBE.out;go_wp2_with (first
  | ((with_reducible show wpList _ _ _ (⟨some 26,_,_,_,_,_⟩::_) _ _);go_must(refine Xai (by kernel_rfl) 46 (.tmp 25) rfl ⟨w.heap.size,42,none⟩ [.int .u64 x.u,.int .u64 x.p,.int .i64 x.bad] _ Tryz.underlying46 rfl HBS.out A42.out ?_ ?_;go_simp))
  | ((with_reducible show wpList _ _ _ (⟨some 28,_,_,_,_,_⟩::_) _ _);go_must(refine Xai (by kernel_rfl) 46 (.tmp 27) rfl ⟨w.heap.size+1,42,none⟩ [.int .u64 x.u,.int .u64 x.p,.int .i64 x.bad] _ Tryz.underlying46 rfl HBS.out B42.out ?_ ?_;go_simp)))
 go_ret;exact⟨rfl,B3.out⟩
theorem RdV.book{w:World}{lo hi:Nat}{q:YRaw}{x:LReady}(h:RdV w lo hi q x):∃ps:List (Sl × Kd),(∀y ∈ ps,SlFit w y)∧(blocks ps).Pairwise (·≠·)∧(∀g ∈ blocks ps,lo≤g∧g<hi)∧ps.length≤262150 ∧
 ∀(p base:Nat) (ks:List (Sl × Kd)) (w0 w1:World),Below hi w w1→Bk w0 p base ks w1→hi≤base→hi≤p→ks.length≤500000 →
  Calls Tryz.prog 20 #[.pointer (some ⟨p,0,none⟩),.agg (q.cells x).toArray] w1 fun e w'=>e=.returned (.tuple #[])∧Bk w0 p base (ks++ps) w':=by
 obtain⟨Bs,Rs,S,K,I,L,iv,lv,hy⟩:=h.pg;obtain⟨lo',hi',hl1,hl2,ht⟩:=hy.t;have hsh:=h.few;have hre:=h.is.tx.m.recent;refine⟨yPages Bs Rs S K iv I.n lv L.n,fun y hyy=>?_,hy.ne,hy.low,?_,fun p base ks w0 w1 hb hk h4 h5 h6=>?_⟩
 ·unfold yPages at hyy;rcases List.mem_append.1 hyy with hyy | hyy
  ·rw[List.mem_singleton.1 hyy];exact hy.fb
  ·rcases List.mem_append.1 hyy with hyy | hyy
   ·exact ht.fits y hyy
   ·rw[List.mem_singleton.1 hyy];exact hy.fr
 ·unfold yPages;rw[List.length_append,List.length_append,Xia,ht.n.1,ht.n.2];simp only[List.length_cons,List.length_nil];omega
 ·have HW:=Hd hk;have hplt:=hk.plt;have H1:=Hd ((hk.alloc (.cells (q.cells x).toArray 48)).start);have RM:=Hd (Row.new w1 48 (q.cells x));have HBW:Hid (Below hi w (w1.alloc (.cells (q.cells x).toArray 48))):=Hd (hb.alloc (by omega) _);have HC0:Hid ((q.cells x)[0]?=some Bs.val):=Hd (by rw[←hy.b];rfl);have HC41:Hid ((q.cells x)[41]?=some Rs.val):=Hd (by rw[←hy.r];exact(Xea hre 0).trans rfl);have HCT:Hid (∀j u,(q.t.cells x.tx)[j]?=some u→(q.cells x)[1+j]?=some u):=Hd fun j u hu=>Xeh hu
  have HST:=Hd (show(Tryz.prog.info? 42).map (·.size)=some (q.t.cells x.tx).length by rw[Xba,Xac hre]);have HBT:=Hd (fun(V W:World) ks' (hV:Below hi w V) (hkk:Bk W p base ks' V) (hn:ks'.length≤600000)=>Xr4 p base lo' hi' ks' q.t x.tx S K I L iv lv W V hkk hre (ht.below (hV.mono hl2)) (by omega) (by omega) (by have:=hsh.1;have:=hsh.2;omega));have HTR:Hid (∀ks' w',Bk (w1.alloc (.cells (q.cells x).toArray 48)) p base ks' w'→Bk w0 p base ks' w'):=Hd fun ks' w' h'=>(HW.out.alloc _).trans h'
  have c0:(w1.alloc (.cells (q.cells x).toArray 48)).cell? ⟨w1.heap.size,0,none⟩=some Bs.val:=by rw[RM.out.cell];exact HC0.out
  have HL4:=Hd (And.intro h4 h5);have HTL:Hid ((txPages S K iv I.n lv L.n).length≤262142):=Hd (by rw[Xia,ht.n.1,ht.n.2];have:=hsh.1;have:=hsh.2;omega);clear hk hb hsh hre h hy ht;generalize q.cells x=C at *;unfold Sl.val at c0;go_enter Tryz.func20,Tryz.ntmps20
  go_wp2_with fail;refine(Xgp p base ks Bs _ _ H1.out (by omega)).mono ?_;rintro e w2 ⟨rfl,hb1⟩;have HB1:=Hd hb1;clear hb1 c0 H1;generalize w1.alloc (.cells C.toArray 48)=W at *;obtain⟨mb,hmb⟩:∃mb,w1.heap.size=mb:=⟨_,rfl⟩;rw[hmb]at RM ⊢;have hne:mb≠p:=by omega
  have R2:=Hd (HB1.out.row RM.out hne (by decide));clear hplt hmb;go_wp2_with ((with_reducible show wpList _ _ _ (⟨some 10,_,_,_,_,_⟩::_) _ _);go_must(refine Xa3 rfl 42 (.tmp 9) rfl ⟨mb,1,none⟩ (q.t.cells x.tx) _ Tryz.underlying42 rfl HST.out (fun j u hu=>by rw[Xa5,R2.out.cell];exact HCT.out j u hu) ?_ ?_;go_simp))
  refine(HBT.out w2 W _ (HBW.out.trans (HB1.out.one.below HL4.out.1 HL4.out.2)) HB1.out (by rw[List.length_append];simp;omega)).mono ?_;rintro e w3 ⟨rfl,hb2⟩;have HB2:=Hd hb2;have R3:=Hd (HB2.out.row RM.out hne (by decide));clear hb2 HB1 R2;have c41:w3.cell? ⟨mb,41,none⟩=some Rs.val:=(R3.out.cell 41).trans HC41.out;unfold Sl.val at c41;go_wp2_with fail;refine(Xw7 p base _ Rs W w3 HB2.out (by rw[List.length_append,List.length_append];have:=HTL.out;simp;omega)).mono ?_;rintro e w4 ⟨rfl,hb3⟩;have HB3:=Hd hb3;clear hb3 c41;go_wp2_with fail;go_end0
  refine⟨rfl,HTR.out _ _ ?_⟩;have:=HB3.out;unfold yPages;rw[List.append_assoc,List.append_assoc]at this;exact this
end Go.Proofs.YtdgbodljmdcagaaGreatDoor
