import Derived.Test.YtdgbodljmdcagaaGreatDoorQ20
set_option maxRecDepth 100000
set_option maxHeartbeats 16000000
set_option linter.unusedSimpArgs false
set_option linter.unusedVariables false
namespace Go.Proofs.YtdgbodljmdcagaaGreatDoor
open Go.RowKit
theorem Xux:Tryz.prog.built 46 [(2,.int .i64 (-1))]=some ([.int .u64 0,.int .u64 0,.int .i64 (-1)]:List Value).toArray:=by kernel_rfl
def rcells8(s:BS):List Value:=[.int .u64 (s.u.getD 0),.int .u64 (s.p.getD 0),.int .i64 s.bad]
theorem Xn4(l:List Int):(bv l).drop 1=bv (l.drop 1):=by simp[bv,cv]
theorem tell_5{d:List Int}{s:BS}(h:d.length=5)(hz:d.getD 0 0=2)(hu:s.u=none):tell d s=some ⟨some (num (d.drop 1) 4),s.p,s.o,s.bad⟩:=by unfold tell;rw[if_pos ⟨h,hz,hu⟩]
theorem tell_9{d:List Int}{s:BS}(h:d.length=9)(hz:d.getD 0 0=3)(hu:s.p=none):tell d s=some ⟨s.u,some (num (d.drop 1) 8),s.o,s.bad⟩:=by unfold tell;rw[if_neg (fun h'=>by have:=h'.1;omega),if_pos ⟨h,hz,hu⟩]
theorem Xim{d:List Int}{s:BS}(h5:¬(d.length=5∧d.getD 0 0=2∧s.u=none))(h9:¬(d.length=9∧d.getD 0 0=3∧s.p=none)):tell d s=none:=by unfold tell;rw[if_neg h5,if_neg h9]
theorem refOf_(q:Raw)(m:LMsg)(B:Nat)(w:World)(hm:MsgIn w B q m)(hB:B≤w.heap.size)(hi:∀i ∈ m.ins,IsByte i.p∧AllBytes i.dat)(hn:q.n≤4000) :
 Calls Tryz.prog 46 #[.agg (q.cells m).toArray] w fun e w'=>e=.returned (.agg (bud8 (all8 m.keys m.ins)).toArray)∧Below w.heap.size w w':=by
 obtain⟨W,HX,hb0,hrm,hrb,hws⟩:∃W,Hid (∀c1,c1=([.int .u64 0,.int .u64 0,.int .i64 0]:List Value).toArray→(w.alloc (.cells (q.cells m).toArray 40)).alloc (.cells c1 46)=W) ∧
  Below w.heap.size w W∧Row W w.heap.size 40 (q.cells m)∧Row W (w.heap.size+1) 46 [.int .u64 0,.int .u64 0,.int .i64 0]∧W.heap.size=w.heap.size+2:=by
  refine⟨_,Hd fun c1 h1=>by rw[h1],((Br w.heap.size w).alloc (Lr _) _).alloc (by simp) _,(Row.new w 40 (q.cells m)).alloc _,Row.new' (w.alloc (.cells (q.cells m).toArray 40)) 46 _ (by simp),by simp⟩
 have hmr:=hm.recent;have hsm:(Tryz.prog.info? 40).map (·.size)=some (q.cells m).length:=by rw[Xat,Xaq hmr]
 have HRM:=Hd (fun(V:World) (h:Row V w.heap.size 40 (q.cells m))=>(MsgRow.of h hmr).c37);have HRW:=Hd (fun(r:Value) (p:Int) (va vd:Value) (V:World) (h:MsgIn V B q m) (hb:B≤V.heap.size) (hp:IsByte p)=>Xu7 q m va vd p B V h hb hp);have HOK:=Hd (fun k hk=>Xk0 (keys:=m.keys) (Xle hi) k hk);have HI:=Hd hi;have hil:=hm.ins.len;have HM:=Hd (hm.below (hb0.mono hB));obtain⟨KA,kn,kc,IA,n,ic,LA,ln,lc⟩:=q;dsimp only at *
 have HMI:Hid (InsIn W B IA n m.ins):=Hd HM.out.ins;have HBB:=Hd hB;have HB0:=Hd hb0;have HRB:=Hd hrb;have HROW:=Hd hrm;have HWS:=Hd hws;have HSM:=Hd hsm;generalize hQ:(⟨KA,kn,kc,IA,n,ic,LA,ln,lc⟩:Raw)=Q at *;generalize Q.cells m=MC at *;have HIL:=Hd hil;clear hm hB hi hb0 hrm hrb hmr hil hsm hws hQ;unfold all8;have HKEY:Hid (∀p,isW m.keys p=isW m.keys p):=Hd fun _=>rfl
 generalize hkeys:m.keys=keys at *;generalize hl:m.ins=l at *;clear hkeys hl HKEY;go_enter Tryz.func46,Tryz.ntmps46
 go_upto_region 1 with fail
 rw[HX.out _ (by kernel_rfl)];clear HX;go_wp2_with (first
  | ((with_reducible show wpList _ _ _ (⟨some 9,_,_,_,_,_⟩::_) _ _);go_must(refine wpList_plain rfl fun K hK=>Xav _ _ _ rfl (by simp only[List.map_toArray,List.map_cons,List.map_nil];exact Xux) (hK _ _ ?_)))
  | ((with_reducible show wpList _ _ _ (⟨none,Op.store 46 _ _,_,_,_,_⟩::_) _ _);go_must(refine Xa1 rfl 46 (.tmp 3) (.tmp 9) rfl [.int .u64 0,.int .u64 0,.int .i64 (-1)] (Xaz _ _ _) (Xfi _ _ _) rfl ?_ ?_ ?_;go_simp;go_simp;intro w1 hr1 hb1 hz1;have R1:=Hd hr1;have B1:=Hd hb1;clear hr1 hb1 hz1)))
 rw[HWS.out];have HR1:Hid (Row w1 (w.heap.size+2) 46 (rcells8 BS.zero)):=Hd (by rw[←HWS.out];exact R1.out);have HB1:Hid (Below (w.heap.size+2) W w1):=Hd (by rw[←HWS.out];exact B1.out);clear R1 B1;go_loopw [7,4,5,6] (fun i u p o wr=>∃(k:Nat) (s:BS),k≤n∧i=.int .i64 k∧run8 keys l k=s∧u=.bool s.u.isSome∧p=.bool s.p.isSome∧o=.int .i64 s.o∧Row wr (w.heap.size+2) 46 (rcells8 s)∧Below (w.heap.size+2) W wr) (fun i _ _ _ _=>n - (intOf i).toNat)
 case atStart=>exact⟨0,BS.zero,Nat.zero_le _,rfl,rfl,rfl,rfl,rfl,HR1.out,HB1.out⟩
 case round =>
  obtain⟨k,s,hk,rfl,hs,rfl,rfl,rfl,hrow,hbel⟩:=hrel;have HS:=Hd hs;have hok:=HOK.out k (by rw[HIL.out];exact hk);rw[hs]at hok;have HO:=Hd hok;have HR:=Hd hrow;have HB:=Hd hbel;have hmrow:=HROW.out.below hbel (by omega);have HMR:=Hd hmrow;have c37:=HRM.out _ hmrow;clear hs hok hrow hbel hmrow;by_cases hlt:k<n
  ·obtain⟨a,x,va,vd,rfl,hab,hx,hat⟩:=HMI.out.get hlt;have hat:=hat.keep hab fun p hp=>HB.out.cell (p:=p) (by have:=HBB.out;omega)
   have HX:=Hd hx;have HP:=Hd (HI.out x (List.mem_of_getElem? hx));have HAC:=Hd hat.cells;obtain⟨DA,dc,hvd,hds,hdn,hdm⟩:=hat.dat.is;have HSI:=Hd (Xbj x.p va vd);have HI1:=Hd (Xcg (p:=x.p) hat.acc hat.dat);have HI3:Hid ((inCells x.p va vd).length=3):=Hd rfl;have HOB:Hid (∀V:World,Below (w.heap.size+2) W V→Calls Tryz.prog 88 #[.agg MC.toArray,.agg (inCells x.p va vd).toArray] V fun e w'=>e=.returned (.bool (isW keys x.p))∧Below V.heap.size V w'):=Hd fun V hV=>HRW.out va x.p va vd V (HM.out.below (hV.mono (by have:=HBB.out;omega))) (by have:=HBB.out;have:=hV.size;have:=HWS.out;omega) HP.out.1
   have HSB:=Hd (HB.out.size);have HV2:Hid ((inCells x.p va vd)[2]?=some vd):=Hd rfl;obtain⟨dn,hdl⟩:∃z,x.dat.length=z:=⟨_,rfl⟩;rw[hdl]at hvd hds hdn;have HDL:=Hd hdl;have HD:=Hd hds;have HDC:=Hd (And.intro hdn hdm);have HI2:Hid ((inCells x.p va vd)[2]?=some (.slice DA dn dc)):=Hd (by rw[HV2.out,hvd]);clear hat hab hx hds hdn hdm hdl hvd;generalize inCells x.p va vd=IC at *;by_cases hw:isW keys x.p=true
   ·have HW:=Hd hw;by_cases hb:0≤s.bad
    ·have HST:Hid (run8 keys l (k+1)=s):=Hd ((Xbi (keys:=keys) HX.out).trans (by rw[HS.out];exact Xlr (k:=k) HW.out hb));clear hw;go_wp2_with (first
      | ((with_reducible show wpList _ _ _ (⟨some 21,_,_,_,_,_⟩::_) _ _);go_must(refine Xa3 rfl 131 (.tmp 20) rfl (a.add (k*3)) IC _ Tryz.underlying131 rfl HSI.out HAC.out ?_ ?_;go_simp))
      | ((with_reducible show wpList _ _ _ (⟨none,Op.store 131 _ _,_,_,_,_⟩::_) _ _);go_must(refine Xa1 rfl 131 (.tmp 8) (.tmp 21) rfl IC HSI.out HI1.out (by rw[HI3.out];rfl) ?_ ?_ ?_;go_simp;go_simp;intro w2 hr2 hb2 hz2;have R2:=Hd hr2;have B2:=Hd hb2;clear hr2 hb2 hz2;have RM2:=Hd (HMR.out.below B2.out HMR.out.lt)))
      | ((with_reducible show wpList _ _ _ (⟨some 22,_,_,_,_,_⟩::_) _ _);go_must(refine Xa0 rfl 40 (.tmp 1) rfl w.heap.size 40 MC _ Tryz.underlying40 rfl HSM.out RM2.out ?_ ?_;go_simp))
      | ((with_reducible show wpList _ _ _ (⟨some 23,_,_,_,_,_⟩::_) _ _);go_must(refine Xa0 rfl 131 (.tmp 8) rfl wr.heap.size 131 IC _ Tryz.underlying131 rfl HSI.out R2.out ?_ ?_;go_simp)))
     have HB2:Hid (Below (w.heap.size+2) wr w2):=Hd (B2.out.mono (by have:=HSB.out;have:=HWS.out;omega));refine(HOB.out w2 (HB.out.trans HB2.out)).mono ?_;rintro e w3 ⟨rfl,hb3⟩;rw[HW.out];have HLT2:Hid (wr.heap.size<w2.heap.size):=Hd R2.out.lt;have HLR:Hid (w.heap.size+2<wr.heap.size):=Hd HR.out.lt;have HB3:Hid (Below (w.heap.size+2) wr w3):=Hd (HB2.out.trans (hb3.mono (by have:=HLT2.out;have:=HLR.out;omega)));have HR3:Hid (Row w3 (w.heap.size+2) 46 (rcells8 s)):=Hd ((HR.out.below B2.out HLR.out).below hb3 (by have:=HLT2.out;have:=HLR.out;omega));clear c37;have d2:=((R2.out.below hb3 R2.out.lt).cell 2).trans HI2.out;have e2:w3.cell? ⟨w.heap.size+2,2,none⟩=some (.int .i64 s.bad):=HR3.out.cell 2;clear hb3 HOB;go_wp2_with fail;go_roundw
     case rel=>exact⟨k+1,s,by omega,by go_num,HST.out,rfl,rfl,rfl,HR3.out,HB.out.trans HB3.out⟩
     case measure=>simp[intOf];omega
    ·have hbd:s.bad<0:=by omega
     obtain⟨da,hda⟩:∃da:Addr,0<dn→DA=some da∧(∀V:World,Below (w.heap.size+2) wr V→V.cell? da=some (.int .u8 (x.dat.getD 0 0))):=by
      rcases Nat.eq_zero_or_pos dn with h | h
      ·exact⟨⟨0,0,none⟩,fun h'=>by omega⟩
      ·obtain⟨da,e1,e2,e3⟩:=HD.out.byte (k:=0) h;refine⟨da,fun _=>⟨e1,fun V hV=>?_⟩⟩;rw[show da.add 0=da by simp[Addr.add]]at e3;exact(hV.cell (p:=da) (by have:=HBB.out;omega)).trans e3
     have HDA:=Hd hda;obtain⟨r,hrr⟩:∃r,x.dat.drop 1=r:=⟨_,rfl⟩;have HRR:=Hd hrr;have HDB:Hid (Bytes r):=Hd (by rw[←hrr];exact Xfk fun z hz=>HP.out.2 z (List.mem_of_mem_drop hz));clear hrr;have HDD:Hid (x.dat.length=dn):=HDL;obtain⟨hz0,hz1⟩:0≤x.dat.getD 0 0∧x.dat.getD 0 0<256:=Xfk HP.out.2 0;generalize hzz:x.dat.getD 0 0=z at *;have HZ:=Hd hzz;clear hda hw hzz;by_cases h5:dn=5
     ·subst h5;obtain⟨rfl,_⟩:=HDA.out (by omega);by_cases hz:z=2
      ·subst hz;cases hu:s.u with
       | some v =>
        have HST:Hid (run8 keys l (k+1)=⟨s.u,s.p,s.o,k⟩):=Hd ((Xbi (keys:=keys) HX.out).trans (by rw[HS.out];exact Xf5 (k:=k) HW.out hb (Xim (fun h=>by rw[hu]at h;exact absurd h.2.2 (by simp)) (fun h=>by have:=h.1;rw[HDD.out]at this;omega))));clear hb;have HSOM:Hid (s.u.isSome=true):=Hd (by rw[hu];rfl);clear hu;go_wp2_with (first
         | ((with_reducible show wpList _ _ _ (⟨some 21,_,_,_,_,_⟩::_) _ _);go_must(refine Xa3 rfl 131 (.tmp 20) rfl (a.add (k*3)) IC _ Tryz.underlying131 rfl HSI.out HAC.out ?_ ?_;go_simp))
         | ((with_reducible show wpList _ _ _ (⟨none,Op.store 131 _ _,_,_,_,_⟩::_) _ _);go_must(refine Xa1 rfl 131 (.tmp 8) (.tmp 21) rfl IC HSI.out HI1.out (by rw[HI3.out];rfl) ?_ ?_ ?_;go_simp;go_simp;intro w2 hr2 hb2 hz2;have R2:=Hd hr2;have B2:=Hd hb2;clear hr2 hb2 hz2;have RM2:=Hd (HMR.out.below B2.out HMR.out.lt)))
         | ((with_reducible show wpList _ _ _ (⟨some 22,_,_,_,_,_⟩::_) _ _);go_must(refine Xa0 rfl 40 (.tmp 1) rfl w.heap.size 40 MC _ Tryz.underlying40 rfl HSM.out RM2.out ?_ ?_;go_simp))
         | ((with_reducible show wpList _ _ _ (⟨some 23,_,_,_,_,_⟩::_) _ _);go_must(refine Xa0 rfl 131 (.tmp 8) rfl wr.heap.size 131 IC _ Tryz.underlying131 rfl HSI.out R2.out ?_ ?_;go_simp)))
        have HB2:Hid (Below (w.heap.size+2) wr w2):=Hd (B2.out.mono (by have:=HSB.out;have:=HWS.out;omega));refine(HOB.out w2 (HB.out.trans HB2.out)).mono ?_;rintro e w3 ⟨rfl,hb3⟩;rw[HW.out];have HLT2:Hid (wr.heap.size<w2.heap.size):=Hd R2.out.lt;have HLR:Hid (w.heap.size+2<wr.heap.size):=Hd HR.out.lt;have HB3:Hid (Below (w.heap.size+2) wr w3):=Hd (HB2.out.trans (hb3.mono (by have:=HLT2.out;have:=HLR.out;omega)));have HR3:Hid (Row w3 (w.heap.size+2) 46 (rcells8 s)):=Hd ((HR.out.below B2.out HLR.out).below hb3 (by have:=HLT2.out;have:=HLR.out;omega));clear c37;have d2:=((R2.out.below hb3 R2.out.lt).cell 2).trans HI2.out;have e2:w3.cell? ⟨w.heap.size+2,2,none⟩=some (.int .i64 s.bad):=HR3.out.cell 2;clear hb3 HOB;have f2:=HR3.out.frozen 2;have db:=(HDA.out (by omega)).2 w3 HB3.out;go_wp2_with fail;go_roundw
        case rel=>exact⟨k+1,⟨s.u,s.p,s.o,k⟩,by omega,by go_num,HST.out,by show Value.bool true=.bool s.u.isSome;rw[HSOM.out],rfl,rfl,HR3.out.set_ 2 _,(HB.out.trans HB3.out).setCell (by show w.heap.size+2≤w.heap.size+2;omega) _⟩
        case measure=>simp[intOf];omega
       | none =>
        have HST:Hid (run8 keys l (k+1)=⟨some (num r 4),s.p,s.o,s.bad⟩):=Hd ((Xbi (keys:=keys) HX.out).trans (by rw[HS.out];exact Xih (k:=k) HW.out hb ((tell_5 HDD.out HZ.out hu).trans (by rw[HRR.out]))));have HG:Hid (∀V:World,Below (w.heap.size+2) wr V→Calls Tryz.prog 89 #[.slice (tailAt (some da) dc 1) 4 (dc - 1),.int .i64 4] V fun e w'=>e=.returned (.tuple #[.int .u64 (num r 4),.int .i64 0])∧V=w'):=Hd fun V hV=>by
         have h:=Xvi (tailAt (some da) dc 1) 4 (dc - 1) r 4 V B (by
          have h1:=(HD.out.below (hV.mono (by have:=HBB.out;omega))).tail (k:=1) (by omega) HDC.out.1;rw[Xn4,HRR.out]at h1;exact h1) (Lq (show 4≤5 by omega) (Lq HDC.out.1 HDC.out.2)) HDB.out
         have e:getN r 4=(num r 4,0):=by unfold getN;rw[if_neg (by omega),if_neg (by rw[←HRR.out,List.length_drop,HDD.out];omega)];rfl
         rw[e]at h;exact h
        have HSOM:Hid (s.u.isSome=false):=Hd (by rw[hu];rfl);clear hb hu;go_wp2_with (first
         | ((with_reducible show wpList _ _ _ (⟨some 21,_,_,_,_,_⟩::_) _ _);go_must(refine Xa3 rfl 131 (.tmp 20) rfl (a.add (k*3)) IC _ Tryz.underlying131 rfl HSI.out HAC.out ?_ ?_;go_simp))
         | ((with_reducible show wpList _ _ _ (⟨none,Op.store 131 _ _,_,_,_,_⟩::_) _ _);go_must(refine Xa1 rfl 131 (.tmp 8) (.tmp 21) rfl IC HSI.out HI1.out (by rw[HI3.out];rfl) ?_ ?_ ?_;go_simp;go_simp;intro w2 hr2 hb2 hz2;have R2:=Hd hr2;have B2:=Hd hb2;clear hr2 hb2 hz2;have RM2:=Hd (HMR.out.below B2.out HMR.out.lt)))
         | ((with_reducible show wpList _ _ _ (⟨some 22,_,_,_,_,_⟩::_) _ _);go_must(refine Xa0 rfl 40 (.tmp 1) rfl w.heap.size 40 MC _ Tryz.underlying40 rfl HSM.out RM2.out ?_ ?_;go_simp))
         | ((with_reducible show wpList _ _ _ (⟨some 23,_,_,_,_,_⟩::_) _ _);go_must(refine Xa0 rfl 131 (.tmp 8) rfl wr.heap.size 131 IC _ Tryz.underlying131 rfl HSI.out R2.out ?_ ?_;go_simp)))
        have HB2:Hid (Below (w.heap.size+2) wr w2):=Hd (B2.out.mono (by have:=HSB.out;have:=HWS.out;omega));refine(HOB.out w2 (HB.out.trans HB2.out)).mono ?_;rintro e w3 ⟨rfl,hb3⟩;rw[HW.out];have HLT2:Hid (wr.heap.size<w2.heap.size):=Hd R2.out.lt;have HLR:Hid (w.heap.size+2<wr.heap.size):=Hd HR.out.lt;have HB3:Hid (Below (w.heap.size+2) wr w3):=Hd (HB2.out.trans (hb3.mono (by have:=HLT2.out;have:=HLR.out;omega)));have HR3:Hid (Row w3 (w.heap.size+2) 46 (rcells8 s)):=Hd ((HR.out.below B2.out HLR.out).below hb3 (by have:=HLT2.out;have:=HLR.out;omega));clear c37;have d2:=((R2.out.below hb3 R2.out.lt).cell 2).trans HI2.out;have e2:w3.cell? ⟨w.heap.size+2,2,none⟩=some (.int .i64 s.bad):=HR3.out.cell 2;clear hb3 HOB;have db:=(HDA.out (by omega)).2 w3 HB3.out;have e0:w3.cell? ⟨w.heap.size+2,0,none⟩=some (.int .u64 (s.u.getD 0)):=HR3.out.cell 0;have e1:w3.cell? ⟨w.heap.size+2,1,none⟩=some (.int .u64 (s.p.getD 0)):=HR3.out.cell 1;have f0:=HR3.out.frozen 0;have f1:=HR3.out.frozen 1;go_wp2_with ((with_reducible show wpList _ _ _ (⟨some 52,_,_,_,_,_⟩::_) _ _);go_must(refine Xef rfl 22 5 (.tmp 51) (.const (.int .i64 1)) rfl Tryz.underlying22 Xd1 (some da) 5 dc 1 ?_ ?_ (by omega) HDC.out.1 HDC.out.2 ?_;go_simp;go_simp))
        refine(HG.out w3 HB3.out).mono ?_;rintro e w4 ⟨rfl,rfl⟩;go_wp2_with fail;go_roundw
        case rel=>exact⟨k+1,⟨some (num r 4),s.p,s.o,s.bad⟩,by omega,by go_num,HST.out,rfl,rfl,rfl,HR3.out.set_ 0 _,(HB.out.trans HB3.out).setCell (by show w.heap.size+2≤w.heap.size+2;omega) _⟩
        case measure=>simp[intOf];omega
      ·have HST:Hid (run8 keys l (k+1)=⟨s.u,s.p,s.o,k⟩):=Hd ((Xbi (keys:=keys) HX.out).trans (by rw[HS.out];exact Xf5 (k:=k) HW.out hb (Xim (fun h=>by have:=h.2.1;rw[HZ.out]at this;omega) (fun h=>by have:=h.1;rw[HDD.out]at this;omega))));clear hb;go_wp2_with (first
        | ((with_reducible show wpList _ _ _ (⟨some 21,_,_,_,_,_⟩::_) _ _);go_must(refine Xa3 rfl 131 (.tmp 20) rfl (a.add (k*3)) IC _ Tryz.underlying131 rfl HSI.out HAC.out ?_ ?_;go_simp))
        | ((with_reducible show wpList _ _ _ (⟨none,Op.store 131 _ _,_,_,_,_⟩::_) _ _);go_must(refine Xa1 rfl 131 (.tmp 8) (.tmp 21) rfl IC HSI.out HI1.out (by rw[HI3.out];rfl) ?_ ?_ ?_;go_simp;go_simp;intro w2 hr2 hb2 hz2;have R2:=Hd hr2;have B2:=Hd hb2;clear hr2 hb2 hz2;have RM2:=Hd (HMR.out.below B2.out HMR.out.lt)))
        | ((with_reducible show wpList _ _ _ (⟨some 22,_,_,_,_,_⟩::_) _ _);go_must(refine Xa0 rfl 40 (.tmp 1) rfl w.heap.size 40 MC _ Tryz.underlying40 rfl HSM.out RM2.out ?_ ?_;go_simp))
        | ((with_reducible show wpList _ _ _ (⟨some 23,_,_,_,_,_⟩::_) _ _);go_must(refine Xa0 rfl 131 (.tmp 8) rfl wr.heap.size 131 IC _ Tryz.underlying131 rfl HSI.out R2.out ?_ ?_;go_simp)))
       have HB2:Hid (Below (w.heap.size+2) wr w2):=Hd (B2.out.mono (by have:=HSB.out;have:=HWS.out;omega));refine(HOB.out w2 (HB.out.trans HB2.out)).mono ?_;rintro e w3 ⟨rfl,hb3⟩;rw[HW.out];have HLT2:Hid (wr.heap.size<w2.heap.size):=Hd R2.out.lt;have HLR:Hid (w.heap.size+2<wr.heap.size):=Hd HR.out.lt;have HB3:Hid (Below (w.heap.size+2) wr w3):=Hd (HB2.out.trans (hb3.mono (by have:=HLT2.out;have:=HLR.out;omega)));have HR3:Hid (Row w3 (w.heap.size+2) 46 (rcells8 s)):=Hd ((HR.out.below B2.out HLR.out).below hb3 (by have:=HLT2.out;have:=HLR.out;omega));clear c37;have d2:=((R2.out.below hb3 R2.out.lt).cell 2).trans HI2.out;have e2:w3.cell? ⟨w.heap.size+2,2,none⟩=some (.int .i64 s.bad):=HR3.out.cell 2;clear hb3 HOB;have f2:=HR3.out.frozen 2;have db:=(HDA.out (by omega)).2 w3 HB3.out;go_wp2_with fail;go_roundw
       case rel=>exact⟨k+1,⟨s.u,s.p,s.o,k⟩,by omega,by go_num,HST.out,rfl,rfl,rfl,HR3.out.set_ 2 _,(HB.out.trans HB3.out).setCell (by show w.heap.size+2≤w.heap.size+2;omega) _⟩
       case measure=>simp[intOf];omega
     by_cases h9:dn=9
     ·subst h9;obtain⟨rfl,_⟩:=HDA.out (by omega);by_cases hz:z=3
      ·subst hz;cases hu:s.p with
       | some v =>
        have HST:Hid (run8 keys l (k+1)=⟨s.u,s.p,s.o,k⟩):=Hd ((Xbi (keys:=keys) HX.out).trans (by rw[HS.out];exact Xf5 (k:=k) HW.out hb (Xim (fun h=>by have:=h.1;rw[HDD.out]at this;omega) (fun h=>by rw[hu]at h;exact absurd h.2.2 (by simp)))));clear hb;have HSOM:Hid (s.p.isSome=true):=Hd (by rw[hu];rfl);clear hu;go_wp2_with (first
         | ((with_reducible show wpList _ _ _ (⟨some 21,_,_,_,_,_⟩::_) _ _);go_must(refine Xa3 rfl 131 (.tmp 20) rfl (a.add (k*3)) IC _ Tryz.underlying131 rfl HSI.out HAC.out ?_ ?_;go_simp))
         | ((with_reducible show wpList _ _ _ (⟨none,Op.store 131 _ _,_,_,_,_⟩::_) _ _);go_must(refine Xa1 rfl 131 (.tmp 8) (.tmp 21) rfl IC HSI.out HI1.out (by rw[HI3.out];rfl) ?_ ?_ ?_;go_simp;go_simp;intro w2 hr2 hb2 hz2;have R2:=Hd hr2;have B2:=Hd hb2;clear hr2 hb2 hz2;have RM2:=Hd (HMR.out.below B2.out HMR.out.lt)))
         | ((with_reducible show wpList _ _ _ (⟨some 22,_,_,_,_,_⟩::_) _ _);go_must(refine Xa0 rfl 40 (.tmp 1) rfl w.heap.size 40 MC _ Tryz.underlying40 rfl HSM.out RM2.out ?_ ?_;go_simp))
         | ((with_reducible show wpList _ _ _ (⟨some 23,_,_,_,_,_⟩::_) _ _);go_must(refine Xa0 rfl 131 (.tmp 8) rfl wr.heap.size 131 IC _ Tryz.underlying131 rfl HSI.out R2.out ?_ ?_;go_simp)))
        have HB2:Hid (Below (w.heap.size+2) wr w2):=Hd (B2.out.mono (by have:=HSB.out;have:=HWS.out;omega));refine(HOB.out w2 (HB.out.trans HB2.out)).mono ?_;rintro e w3 ⟨rfl,hb3⟩;rw[HW.out];have HLT2:Hid (wr.heap.size<w2.heap.size):=Hd R2.out.lt;have HLR:Hid (w.heap.size+2<wr.heap.size):=Hd HR.out.lt;have HB3:Hid (Below (w.heap.size+2) wr w3):=Hd (HB2.out.trans (hb3.mono (by have:=HLT2.out;have:=HLR.out;omega)));have HR3:Hid (Row w3 (w.heap.size+2) 46 (rcells8 s)):=Hd ((HR.out.below B2.out HLR.out).below hb3 (by have:=HLT2.out;have:=HLR.out;omega));clear c37;have d2:=((R2.out.below hb3 R2.out.lt).cell 2).trans HI2.out;have e2:w3.cell? ⟨w.heap.size+2,2,none⟩=some (.int .i64 s.bad):=HR3.out.cell 2;clear hb3 HOB;have f2:=HR3.out.frozen 2;have db:=(HDA.out (by omega)).2 w3 HB3.out;go_wp2_with fail;go_roundw
        case rel=>exact⟨k+1,⟨s.u,s.p,s.o,k⟩,by omega,by go_num,HST.out,rfl,by show Value.bool true=.bool s.p.isSome;rw[HSOM.out],rfl,HR3.out.set_ 2 _,(HB.out.trans HB3.out).setCell (by show w.heap.size+2≤w.heap.size+2;omega) _⟩
        case measure=>simp[intOf];omega
       | none =>
        have HST:Hid (run8 keys l (k+1)=⟨s.u,some (num r 8),s.o,s.bad⟩):=Hd ((Xbi (keys:=keys) HX.out).trans (by rw[HS.out];exact Xih (k:=k) HW.out hb ((tell_9 HDD.out HZ.out hu).trans (by rw[HRR.out]))));have HG:Hid (∀V:World,Below (w.heap.size+2) wr V→Calls Tryz.prog 89 #[.slice (tailAt (some da) dc 1) 8 (dc - 1),.int .i64 8] V fun e w'=>e=.returned (.tuple #[.int .u64 (num r 8),.int .i64 0])∧V=w'):=Hd fun V hV=>by
         have h:=Xvi (tailAt (some da) dc 1) 8 (dc - 1) r 8 V B (by
          have h1:=(HD.out.below (hV.mono (by have:=HBB.out;omega))).tail (k:=1) (by omega) HDC.out.1;rw[Xn4,HRR.out]at h1;exact h1) (Lq (show 8≤9 by omega) (Lq HDC.out.1 HDC.out.2)) HDB.out
         have e:getN r 8=(num r 8,0):=by unfold getN;rw[if_neg (by omega),if_neg (by rw[←HRR.out,List.length_drop,HDD.out];omega)];rfl
         rw[e]at h;exact h
        have HSOM:Hid (s.p.isSome=false):=Hd (by rw[hu];rfl);clear hb hu;go_wp2_with (first
         | ((with_reducible show wpList _ _ _ (⟨some 21,_,_,_,_,_⟩::_) _ _);go_must(refine Xa3 rfl 131 (.tmp 20) rfl (a.add (k*3)) IC _ Tryz.underlying131 rfl HSI.out HAC.out ?_ ?_;go_simp))
         | ((with_reducible show wpList _ _ _ (⟨none,Op.store 131 _ _,_,_,_,_⟩::_) _ _);go_must(refine Xa1 rfl 131 (.tmp 8) (.tmp 21) rfl IC HSI.out HI1.out (by rw[HI3.out];rfl) ?_ ?_ ?_;go_simp;go_simp;intro w2 hr2 hb2 hz2;have R2:=Hd hr2;have B2:=Hd hb2;clear hr2 hb2 hz2;have RM2:=Hd (HMR.out.below B2.out HMR.out.lt)))
         | ((with_reducible show wpList _ _ _ (⟨some 22,_,_,_,_,_⟩::_) _ _);go_must(refine Xa0 rfl 40 (.tmp 1) rfl w.heap.size 40 MC _ Tryz.underlying40 rfl HSM.out RM2.out ?_ ?_;go_simp))
         | ((with_reducible show wpList _ _ _ (⟨some 23,_,_,_,_,_⟩::_) _ _);go_must(refine Xa0 rfl 131 (.tmp 8) rfl wr.heap.size 131 IC _ Tryz.underlying131 rfl HSI.out R2.out ?_ ?_;go_simp)))
        have HB2:Hid (Below (w.heap.size+2) wr w2):=Hd (B2.out.mono (by have:=HSB.out;have:=HWS.out;omega));refine(HOB.out w2 (HB.out.trans HB2.out)).mono ?_;rintro e w3 ⟨rfl,hb3⟩;rw[HW.out];have HLT2:Hid (wr.heap.size<w2.heap.size):=Hd R2.out.lt;have HLR:Hid (w.heap.size+2<wr.heap.size):=Hd HR.out.lt;have HB3:Hid (Below (w.heap.size+2) wr w3):=Hd (HB2.out.trans (hb3.mono (by have:=HLT2.out;have:=HLR.out;omega)));have HR3:Hid (Row w3 (w.heap.size+2) 46 (rcells8 s)):=Hd ((HR.out.below B2.out HLR.out).below hb3 (by have:=HLT2.out;have:=HLR.out;omega));clear c37;have d2:=((R2.out.below hb3 R2.out.lt).cell 2).trans HI2.out;have e2:w3.cell? ⟨w.heap.size+2,2,none⟩=some (.int .i64 s.bad):=HR3.out.cell 2;clear hb3 HOB;have db:=(HDA.out (by omega)).2 w3 HB3.out;have e0:w3.cell? ⟨w.heap.size+2,0,none⟩=some (.int .u64 (s.u.getD 0)):=HR3.out.cell 0;have e1:w3.cell? ⟨w.heap.size+2,1,none⟩=some (.int .u64 (s.p.getD 0)):=HR3.out.cell 1;have f0:=HR3.out.frozen 0;have f1:=HR3.out.frozen 1;go_wp2_with ((with_reducible show wpList _ _ _ (⟨some 76,_,_,_,_,_⟩::_) _ _);go_must(refine Xef rfl 22 5 (.tmp 75) (.const (.int .i64 1)) rfl Tryz.underlying22 Xd1 (some da) 9 dc 1 ?_ ?_ (by omega) HDC.out.1 HDC.out.2 ?_;go_simp;go_simp))
        refine(HG.out w3 HB3.out).mono ?_;rintro e w4 ⟨rfl,rfl⟩;go_wp2_with fail;go_roundw
        case rel=>exact⟨k+1,⟨s.u,some (num r 8),s.o,s.bad⟩,by omega,by go_num,HST.out,rfl,rfl,rfl,HR3.out.set_ 1 _,(HB.out.trans HB3.out).setCell (by show w.heap.size+2≤w.heap.size+2;omega) _⟩
        case measure=>simp[intOf];omega
      ·have HST:Hid (run8 keys l (k+1)=⟨s.u,s.p,s.o,k⟩):=Hd ((Xbi (keys:=keys) HX.out).trans (by rw[HS.out];exact Xf5 (k:=k) HW.out hb (Xim (fun h=>by have:=h.1;rw[HDD.out]at this;omega) (fun h=>by have:=h.2.1;rw[HZ.out]at this;omega))));clear hb;go_wp2_with (first
        | ((with_reducible show wpList _ _ _ (⟨some 21,_,_,_,_,_⟩::_) _ _);go_must(refine Xa3 rfl 131 (.tmp 20) rfl (a.add (k*3)) IC _ Tryz.underlying131 rfl HSI.out HAC.out ?_ ?_;go_simp))
        | ((with_reducible show wpList _ _ _ (⟨none,Op.store 131 _ _,_,_,_,_⟩::_) _ _);go_must(refine Xa1 rfl 131 (.tmp 8) (.tmp 21) rfl IC HSI.out HI1.out (by rw[HI3.out];rfl) ?_ ?_ ?_;go_simp;go_simp;intro w2 hr2 hb2 hz2;have R2:=Hd hr2;have B2:=Hd hb2;clear hr2 hb2 hz2;have RM2:=Hd (HMR.out.below B2.out HMR.out.lt)))
        | ((with_reducible show wpList _ _ _ (⟨some 22,_,_,_,_,_⟩::_) _ _);go_must(refine Xa0 rfl 40 (.tmp 1) rfl w.heap.size 40 MC _ Tryz.underlying40 rfl HSM.out RM2.out ?_ ?_;go_simp))
        | ((with_reducible show wpList _ _ _ (⟨some 23,_,_,_,_,_⟩::_) _ _);go_must(refine Xa0 rfl 131 (.tmp 8) rfl wr.heap.size 131 IC _ Tryz.underlying131 rfl HSI.out R2.out ?_ ?_;go_simp)))
       have HB2:Hid (Below (w.heap.size+2) wr w2):=Hd (B2.out.mono (by have:=HSB.out;have:=HWS.out;omega));refine(HOB.out w2 (HB.out.trans HB2.out)).mono ?_;rintro e w3 ⟨rfl,hb3⟩;rw[HW.out];have HLT2:Hid (wr.heap.size<w2.heap.size):=Hd R2.out.lt;have HLR:Hid (w.heap.size+2<wr.heap.size):=Hd HR.out.lt;have HB3:Hid (Below (w.heap.size+2) wr w3):=Hd (HB2.out.trans (hb3.mono (by have:=HLT2.out;have:=HLR.out;omega)));have HR3:Hid (Row w3 (w.heap.size+2) 46 (rcells8 s)):=Hd ((HR.out.below B2.out HLR.out).below hb3 (by have:=HLT2.out;have:=HLR.out;omega));clear c37;have d2:=((R2.out.below hb3 R2.out.lt).cell 2).trans HI2.out;have e2:w3.cell? ⟨w.heap.size+2,2,none⟩=some (.int .i64 s.bad):=HR3.out.cell 2;clear hb3 HOB;have f2:=HR3.out.frozen 2;have db:=(HDA.out (by omega)).2 w3 HB3.out;go_wp2_with fail;go_roundw
       case rel=>exact⟨k+1,⟨s.u,s.p,s.o,k⟩,by omega,by go_num,HST.out,rfl,rfl,rfl,HR3.out.set_ 2 _,(HB.out.trans HB3.out).setCell (by show w.heap.size+2≤w.heap.size+2;omega) _⟩
       case measure=>simp[intOf];omega
     ·have hq5:¬(dn:Int)=5:=by omega
      have hq9:¬(dn:Int)=9:=by omega
      have HST:Hid (run8 keys l (k+1)=⟨s.u,s.p,s.o,k⟩):=Hd ((Xbi (keys:=keys) HX.out).trans (by rw[HS.out];exact Xf5 (k:=k) HW.out hb (Xim (fun h=>by have:=h.1;rw[HDD.out]at this;omega) (fun h=>by have:=h.1;rw[HDD.out]at this;omega))));clear hb;go_wp2_with (first
       | ((with_reducible show wpList _ _ _ (⟨some 21,_,_,_,_,_⟩::_) _ _);go_must(refine Xa3 rfl 131 (.tmp 20) rfl (a.add (k*3)) IC _ Tryz.underlying131 rfl HSI.out HAC.out ?_ ?_;go_simp))
       | ((with_reducible show wpList _ _ _ (⟨none,Op.store 131 _ _,_,_,_,_⟩::_) _ _);go_must(refine Xa1 rfl 131 (.tmp 8) (.tmp 21) rfl IC HSI.out HI1.out (by rw[HI3.out];rfl) ?_ ?_ ?_;go_simp;go_simp;intro w2 hr2 hb2 hz2;have R2:=Hd hr2;have B2:=Hd hb2;clear hr2 hb2 hz2;have RM2:=Hd (HMR.out.below B2.out HMR.out.lt)))
       | ((with_reducible show wpList _ _ _ (⟨some 22,_,_,_,_,_⟩::_) _ _);go_must(refine Xa0 rfl 40 (.tmp 1) rfl w.heap.size 40 MC _ Tryz.underlying40 rfl HSM.out RM2.out ?_ ?_;go_simp))
       | ((with_reducible show wpList _ _ _ (⟨some 23,_,_,_,_,_⟩::_) _ _);go_must(refine Xa0 rfl 131 (.tmp 8) rfl wr.heap.size 131 IC _ Tryz.underlying131 rfl HSI.out R2.out ?_ ?_;go_simp)))
      have HB2:Hid (Below (w.heap.size+2) wr w2):=Hd (B2.out.mono (by have:=HSB.out;have:=HWS.out;omega));refine(HOB.out w2 (HB.out.trans HB2.out)).mono ?_;rintro e w3 ⟨rfl,hb3⟩;rw[HW.out];have HLT2:Hid (wr.heap.size<w2.heap.size):=Hd R2.out.lt;have HLR:Hid (w.heap.size+2<wr.heap.size):=Hd HR.out.lt;have HB3:Hid (Below (w.heap.size+2) wr w3):=Hd (HB2.out.trans (hb3.mono (by have:=HLT2.out;have:=HLR.out;omega)));have HR3:Hid (Row w3 (w.heap.size+2) 46 (rcells8 s)):=Hd ((HR.out.below B2.out HLR.out).below hb3 (by have:=HLT2.out;have:=HLR.out;omega));clear c37;have d2:=((R2.out.below hb3 R2.out.lt).cell 2).trans HI2.out;have e2:w3.cell? ⟨w.heap.size+2,2,none⟩=some (.int .i64 s.bad):=HR3.out.cell 2;clear hb3 HOB;have f2:=HR3.out.frozen 2;go_wp2_with fail;go_roundw
      case rel=>exact⟨k+1,⟨s.u,s.p,s.o,k⟩,by omega,by go_num,HST.out,rfl,rfl,rfl,HR3.out.set_ 2 _,(HB.out.trans HB3.out).setCell (by show w.heap.size+2≤w.heap.size+2;omega) _⟩
      case measure=>simp[intOf];omega
   ·have hw:isW keys x.p=false:=by simpa using hw
    have HW:=Hd hw;have HST:Hid (run8 keys l (k+1)=⟨s.u,s.p,s.o+1,s.bad⟩):=Hd ((Xbi (keys:=keys) HX.out).trans (by rw[HS.out];exact Xrm (k:=k) HW.out));have hso:s.o≤k:=HO.out.o;clear hw;go_wp2_with (first
     | ((with_reducible show wpList _ _ _ (⟨some 21,_,_,_,_,_⟩::_) _ _);go_must(refine Xa3 rfl 131 (.tmp 20) rfl (a.add (k*3)) IC _ Tryz.underlying131 rfl HSI.out HAC.out ?_ ?_;go_simp))
     | ((with_reducible show wpList _ _ _ (⟨none,Op.store 131 _ _,_,_,_,_⟩::_) _ _);go_must(refine Xa1 rfl 131 (.tmp 8) (.tmp 21) rfl IC HSI.out HI1.out (by rw[HI3.out];rfl) ?_ ?_ ?_;go_simp;go_simp;intro w2 hr2 hb2 hz2;have R2:=Hd hr2;have B2:=Hd hb2;clear hr2 hb2 hz2;have RM2:=Hd (HMR.out.below B2.out HMR.out.lt)))
     | ((with_reducible show wpList _ _ _ (⟨some 22,_,_,_,_,_⟩::_) _ _);go_must(refine Xa0 rfl 40 (.tmp 1) rfl w.heap.size 40 MC _ Tryz.underlying40 rfl HSM.out RM2.out ?_ ?_;go_simp))
     | ((with_reducible show wpList _ _ _ (⟨some 23,_,_,_,_,_⟩::_) _ _);go_must(refine Xa0 rfl 131 (.tmp 8) rfl wr.heap.size 131 IC _ Tryz.underlying131 rfl HSI.out R2.out ?_ ?_;go_simp)))
    have HB2:Hid (Below (w.heap.size+2) wr w2):=Hd (B2.out.mono (by have:=HSB.out;have:=HWS.out;omega));refine(HOB.out w2 (HB.out.trans HB2.out)).mono ?_;rintro e w3 ⟨rfl,hb3⟩;rw[HW.out];have HLT2:Hid (wr.heap.size<w2.heap.size):=Hd R2.out.lt;have HLR:Hid (w.heap.size+2<wr.heap.size):=Hd HR.out.lt;have HB3:Hid (Below (w.heap.size+2) wr w3):=Hd (HB2.out.trans (hb3.mono (by have:=HLT2.out;have:=HLR.out;omega)));have HR3:Hid (Row w3 (w.heap.size+2) 46 (rcells8 s)):=Hd ((HR.out.below B2.out HLR.out).below hb3 (by have:=HLT2.out;have:=HLR.out;omega));clear c37;clear hb3 HOB;go_wp2_with fail;go_roundw
    case rel=>exact⟨k+1,_,by omega,by go_num,HST.out,rfl,rfl,by go_num,HR3.out,HB.out.trans HB3.out⟩
    case measure=>simp[intOf];omega
  ·obtain rfl:k=n:=by omega
   have HBU:Hid (bud8 s=[.int .u64 (units8 s),.int .u64 (s.p.getD 0),.int .i64 s.bad]):=Hd rfl;have HRB2:Hid (Row wr (w.heap.size+1) 46 [.int .u64 0,.int .u64 0,.int .i64 0]):=Hd (HRB.out.below HB.out (by omega));have HBD:Hid (Below w.heap.size w wr):=Hd (HB0.out.trans (HB.out.mono (by omega)));have hso:=HO.out.o;have e0:wr.cell? ⟨w.heap.size+2,0,none⟩=some (.int .u64 (s.u.getD 0)):=HR.out.cell 0;have f0:=HR.out.frozen 0;obtain⟨u,p,o,bad⟩:=s;dsimp only at *
   have hwr:IntKind.u64.wrap ((o:Int)*200000)=(o:Int)*200000:=u64_in _ (by omega) (by omega);have hwo:IntKind.u64.wrap (o:Int)=(o:Int):=u64_in _ (by omega) (by omega);cases u with
   | none =>
    simp only[Option.getD_none,Option.isSome_none]at *;rcases(show 1400000<(o:Int)*200000∨(o:Int)*200000≤1400000 by omega)with h | h
    ·have HU:Hid (units8 ⟨none,p,o,bad⟩=1400000):=Hd (by unfold units8;show(if (1400000:Int)<(o:Int)*200000 then(1400000:Int)else(o:Int)*200000)=1400000;rw[if_pos h]);go_upto_region 23 with fail
     have HRF:Hid (Row _ (w.heap.size+2) 46 [.int .u64 (1400000),.int .u64 (p.getD 0),.int .i64 bad]):=Hd (((HR.out).set_ 0 (.int .u64 ((o:Int)*200000))).set_ 0 (.int .u64 1400000));have HFA:=Hd (((HRB2.out).far (p:=⟨w.heap.size+2,0,none⟩) (by show w.heap.size+1≠w.heap.size+2;omega) (.int .u64 ((o:Int)*200000))).far (p:=⟨w.heap.size+2,0,none⟩) (by show w.heap.size+1≠w.heap.size+2;omega) (.int .u64 1400000));have HBL:=Hd (((HBD.out).setCell (p:=⟨w.heap.size+2,0,none⟩) (by show w.heap.size≤w.heap.size+2;omega) (.int .u64 ((o:Int)*200000))).setCell (p:=⟨w.heap.size+2,0,none⟩) (by show w.heap.size≤w.heap.size+2;omega) (.int .u64 1400000));go_wp2_with (first
      | ((with_reducible show wpList _ _ _ (⟨some 91,_,_,_,_,_⟩::_) _ _);go_must(refine Xa0 rfl 46 (.tmp 3) rfl (w.heap.size+2) 46 [.int .u64 (1400000),.int .u64 (p.getD 0),.int .i64 bad] _ Tryz.underlying46 rfl (Xaz _ _ _) HRF.out ?_ ?_;go_simp))
      | ((with_reducible show wpList _ _ _ (⟨none,Op.store 46 _ _,_,_,_,_⟩::_) _ _);go_must(refine Xa4 rfl 46 (.tmp 2) (.tmp 91) rfl (w.heap.size+1) _ [.int .u64 (1400000),.int .u64 (p.getD 0),.int .i64 bad] HFA.out (Xaz _ _ _) rfl (Xfi _ _ _) ?_ ?_ ?_;go_simp;go_simp;intro w5 hr5 ht5;have R5:=Hd hr5;have B5:=Hd (HBL.out.trans (ht5.below (by omega)));clear hr5 ht5)))
     refine bodyPost_ret (results_cell_row (h:=rfl) _ w5 (w.heap.size+1) 46 _ (0,0) _ (by rfl) R5.out.is Tryz.underlying46 rfl (Xaz _ _ _)) rfl ?_;exact⟨by rw[HIL.out,HS.out,HBU.out,HU.out],B5.out⟩
    ·have HU:Hid (units8 ⟨none,p,o,bad⟩=(o:Int)*200000):=Hd (by unfold units8;show(if (1400000:Int)<(o:Int)*200000 then(1400000:Int)else(o:Int)*200000)=(o:Int)*200000;rw[if_neg (by omega)]);go_upto_region 23 with fail
     have HRF:Hid (Row _ (w.heap.size+2) 46 [.int .u64 ((o:Int)*200000),.int .u64 (p.getD 0),.int .i64 bad]):=Hd ((HR.out).set_ 0 (.int .u64 ((o:Int)*200000)));have HFA:=Hd ((HRB2.out).far (p:=⟨w.heap.size+2,0,none⟩) (by show w.heap.size+1≠w.heap.size+2;omega) (.int .u64 ((o:Int)*200000)));have HBL:=Hd ((HBD.out).setCell (p:=⟨w.heap.size+2,0,none⟩) (by show w.heap.size≤w.heap.size+2;omega) (.int .u64 ((o:Int)*200000)));go_wp2_with (first
      | ((with_reducible show wpList _ _ _ (⟨some 91,_,_,_,_,_⟩::_) _ _);go_must(refine Xa0 rfl 46 (.tmp 3) rfl (w.heap.size+2) 46 [.int .u64 ((o:Int)*200000),.int .u64 (p.getD 0),.int .i64 bad] _ Tryz.underlying46 rfl (Xaz _ _ _) HRF.out ?_ ?_;go_simp))
      | ((with_reducible show wpList _ _ _ (⟨none,Op.store 46 _ _,_,_,_,_⟩::_) _ _);go_must(refine Xa4 rfl 46 (.tmp 2) (.tmp 91) rfl (w.heap.size+1) _ [.int .u64 ((o:Int)*200000),.int .u64 (p.getD 0),.int .i64 bad] HFA.out (Xaz _ _ _) rfl (Xfi _ _ _) ?_ ?_ ?_;go_simp;go_simp;intro w5 hr5 ht5;have R5:=Hd hr5;have B5:=Hd (HBL.out.trans (ht5.below (by omega)));clear hr5 ht5)))
     refine bodyPost_ret (results_cell_row (h:=rfl) _ w5 (w.heap.size+1) 46 _ (0,0) _ (by rfl) R5.out.is Tryz.underlying46 rfl (Xaz _ _ _)) rfl ?_;exact⟨by rw[HIL.out,HS.out,HBU.out,HU.out],B5.out⟩
   | some v =>
    simp only[Option.getD_some,Option.isSome_some]at *;rcases(show 1400000<v∨v≤1400000 by omega)with h | h
    ·have HU:Hid (units8 ⟨some v,p,o,bad⟩=1400000):=Hd (by unfold units8;show(if (1400000:Int)<v then(1400000:Int)else v)=1400000;rw[if_pos h]);go_upto_region 23 with fail
     have HRF:Hid (Row _ (w.heap.size+2) 46 [.int .u64 (1400000),.int .u64 (p.getD 0),.int .i64 bad]):=Hd ((HR.out).set_ 0 (.int .u64 1400000));have HFA:=Hd ((HRB2.out).far (p:=⟨w.heap.size+2,0,none⟩) (by show w.heap.size+1≠w.heap.size+2;omega) (.int .u64 1400000));have HBL:=Hd ((HBD.out).setCell (p:=⟨w.heap.size+2,0,none⟩) (by show w.heap.size≤w.heap.size+2;omega) (.int .u64 1400000));go_wp2_with (first
      | ((with_reducible show wpList _ _ _ (⟨some 91,_,_,_,_,_⟩::_) _ _);go_must(refine Xa0 rfl 46 (.tmp 3) rfl (w.heap.size+2) 46 [.int .u64 (1400000),.int .u64 (p.getD 0),.int .i64 bad] _ Tryz.underlying46 rfl (Xaz _ _ _) HRF.out ?_ ?_;go_simp))
      | ((with_reducible show wpList _ _ _ (⟨none,Op.store 46 _ _,_,_,_,_⟩::_) _ _);go_must(refine Xa4 rfl 46 (.tmp 2) (.tmp 91) rfl (w.heap.size+1) _ [.int .u64 (1400000),.int .u64 (p.getD 0),.int .i64 bad] HFA.out (Xaz _ _ _) rfl (Xfi _ _ _) ?_ ?_ ?_;go_simp;go_simp;intro w5 hr5 ht5;have R5:=Hd hr5;have B5:=Hd (HBL.out.trans (ht5.below (by omega)));clear hr5 ht5)))
     refine bodyPost_ret (results_cell_row (h:=rfl) _ w5 (w.heap.size+1) 46 _ (0,0) _ (by rfl) R5.out.is Tryz.underlying46 rfl (Xaz _ _ _)) rfl ?_;exact⟨by rw[HIL.out,HS.out,HBU.out,HU.out],B5.out⟩
    ·have HU:Hid (units8 ⟨some v,p,o,bad⟩=v):=Hd (by unfold units8;show(if (1400000:Int)<v then(1400000:Int)else v)=v;rw[if_neg (by omega)]);go_upto_region 23 with fail
     have HRF:Hid (Row _ (w.heap.size+2) 46 [.int .u64 (v),.int .u64 (p.getD 0),.int .i64 bad]):=Hd (HR.out);have HFA:=Hd (HRB2.out);have HBL:=Hd (HBD.out);go_wp2_with (first
      | ((with_reducible show wpList _ _ _ (⟨some 91,_,_,_,_,_⟩::_) _ _);go_must(refine Xa0 rfl 46 (.tmp 3) rfl (w.heap.size+2) 46 [.int .u64 (v),.int .u64 (p.getD 0),.int .i64 bad] _ Tryz.underlying46 rfl (Xaz _ _ _) HRF.out ?_ ?_;go_simp))
      | ((with_reducible show wpList _ _ _ (⟨none,Op.store 46 _ _,_,_,_,_⟩::_) _ _);go_must(refine Xa4 rfl 46 (.tmp 2) (.tmp 91) rfl (w.heap.size+1) _ [.int .u64 (v),.int .u64 (p.getD 0),.int .i64 bad] HFA.out (Xaz _ _ _) rfl (Xfi _ _ _) ?_ ?_ ?_;go_simp;go_simp;intro w5 hr5 ht5;have R5:=Hd hr5;have B5:=Hd (HBL.out.trans (ht5.below (by omega)));clear hr5 ht5)))
     refine bodyPost_ret (results_cell_row (h:=rfl) _ w5 (w.heap.size+1) 46 _ (0,0) _ (by rfl) R5.out.is Tryz.underlying46 rfl (Xaz _ _ _)) rfl ?_;exact⟨by rw[HIL.out,HS.out,HBU.out,HU.out],B5.out⟩
theorem Xoi(A:Option Addr)(n c B:Nat)(l:List LRole)(w:World)(hl:RolesIn w B A n l)(hB:B≤w.heap.size)(hn:n≤100000) :
 Calls Tryz.prog 49 #[.slice A n c] w fun e w'=>Below w.heap.size w w'∧∃A c,e=.returned (.slice A (wrK l).length c)∧w'.ownsRow w.heap.size 78 32 (.slice A (wrK l).length c) (wrK l).length (bv (wrK l).flatten):=by
 have HLN:=Hd hl.len;have HL:=Hd hl;clear hl;go_enter Tryz.func49,Tryz.ntmps49
 go_wp2_with fail;go_loopw [4,3] (fun i v wr=>∃k:Nat,k≤n∧i=.int .i64 k∧wr.ownsRow w.heap.size 78 32 v (wrK (l.take k)).length (bv (wrK (l.take k)).flatten)∧Below w.heap.size w wr) (fun i _ _=>n - (intOf i).toNat)
 case atStart=>exact⟨0,Nat.zero_le _,rfl,by simpa [wrK,bv,cv]using World.ownsRow_nil _ _ _ _,Br _ _⟩
 case round =>
  obtain⟨k,hk,rfl,ho,hb⟩:=hrel;have HO:=Hd ho;have HB:=Hd hb;clear ho hb;by_cases hlt:k<n
  ·obtain⟨a,r,rfl,hab,hr,hro,hcr⟩:=(HL.out.below (HB.out.mono hB)).get hlt;have HSU:=Hd (Xfm hr);have HCK:Hid (∀j u,(bv r.key)[j]?=some u→wr.cell? ((a.add (k*34)).add j)=some u):=Hd fun j u hu=>hcr j u (Xju hu)
   have d33:wr.cell? ⟨(a.add (k*34)).block,(a.add (k*34)).off+33,none⟩=some (.bool r.wr):=hcr 33 _ (Xjy hro.1);have HSZ:=Hd (show(Tryz.prog.info? 78).map (·.size)=some (bv r.key).length by rw[bL,hro.1];exact Xab);have HKL:Hid ((bv r.key).length=32):=Hd (by rw[bL,hro.1]);have H1:=Hd (Xae r.key);have hwl:(wrK (l.take k)).length≤100000:=by
    have:=Xq8 (l.take k);rw[List.length_take]at this;omega
   obtain⟨wn,hwn⟩:∃wn,wn=(wrK (l.take k)).length:=⟨_,rfl⟩;rw[←hwn]at HO hwl;have HWN:=Hd hwn;clear hwn hr hcr hro;by_cases hw:r.wr=true
   ·rw[hw]at d33 HSU;have HSU2:Hid (wrK (l.take (k+1))=wrK (l.take k)++[r.key]):=Hd HSU.out;have HXX:Hid (bv [r.key].flatten=bv r.key):=Hd (by simp);generalize bv r.key=X at *;clear hw HSU;go_wp2_with (first
     | ((with_reducible show wpList _ _ _ (⟨some 21,_,_,_,_,_⟩::_) _ _);go_must(refine Xa3 rfl 78 (.tmp 20) rfl (a.add (k*34)) X _ Tryz.underlying78 rfl HSZ.out HCK.out ?_ ?_;go_simp))
     | ((with_reducible show wpList _ _ _ (⟨some 22,_,_,_,_,_⟩::_) _ _);go_must(refine Xaa rfl 34 78 (.tmp 21) rfl X _ 32 32 Tryz.underlying34 Xg5 (by kernel_rfl) (by omega) (by omega) HKL.out ?_ ?_;go_simp))
     | (at_builtin;go_must(refine Xag rfl (.tmp 16) (.tmp 22) 34 rfl w.heap.size 78 _ 32 32 Tryz.underlying34 Xg5 (by kernel_rfl) (by omega) _ wn _ X 1 HKL.out H1.out rfl ?_ HO.out ?_ HB.out.size (by unfold maxLen;omega) (by omega) ?_;go_simp;go_simp;intro v4 w4 ho4 hg4;have O4:=Hd ho4;have G4:=Hd hg4;clear ho4 hg4)))
    go_roundw
    case rel =>
     refine⟨k+1,by omega,by go_num,?_,HB.out.grown G4.out.grown HB.out.size fun j hj=>(HO.out.lt j hj).1⟩;rw[HSU2.out,List.length_append,List.flatten_append,Xbt,HXX.out,←HWN.out];exact O4.out
    case measure=>simp[intOf];omega
   ·have hw:r.wr=false:=by simpa using hw
    rw[hw]at d33 HSU;have HSU2:Hid (wrK (l.take (k+1))=wrK (l.take k)):=Hd (by rw[HSU.out];simp);clear hw HSU;go_wp2_with fail;go_roundw
    case rel=>exact⟨k+1,by omega,by go_num,by rw[HSU2.out,←HWN.out];exact HO.out,HB.out⟩
    case measure=>simp[intOf];omega
  ·obtain rfl:k=n:=by omega
   have HO2:Hid (wr.ownsRow w.heap.size 78 32 u3 (wrK l).length (bv (wrK l).flatten)):=Hd (by
    have:=HO.out;rwa [List.take_of_length_le (by rw[HLN.out];exact Lr _)]at this)
   clear HO;obtain⟨A2,c2,he⟩:=Xao HO2.out;subst he;go_wp2_with fail;go_ret;exact⟨HB.out,A2,c2,rfl,HO2.out⟩
def RefRdDone(w:World)(ts:List LTab)(zs:List Int)(e:Ending)(w':World):Prop:=
 ∃q,e=.returned (.tuple #[.agg (YRaw.cells q (rdX ts zs)).toArray,.int .i64 (rdErr ts zs)])∧ReadyIn w' w'.heap.size q (rdX ts zs)∧Below w.heap.size w w'
theorem RefRdDone.no{w w':World}{ts:List LTab}{zs:List Int}{c:Int}(hc:rdErr ts zs=c)(h0:c≠0)(hb:Below w.heap.size w w'):RefRdDone w ts zs (.returned (.tuple #[.agg yzero.toArray,.int .i64 c])) w':=by
 have e:rdX ts zs=zReady:=Xqj (by rw[hc];exact h0);exact⟨zYRaw,by rw[hc,e];rfl,by rw[e];exact Xlo _ _,hb⟩
theorem Xwu{l:List Value}(hl:l.length=40):∃f:Fin 40→Value,l=List.ofFn f:=⟨fun i=>l.getD i undef,by
 refine List.ext_getElem (by simpa using hl) fun i h1 h2=>?_
 rw[List.getElem_ofFn,List.getD_eq_getElem?_getD,List.getElem?_eq_getElem h1];rfl⟩
theorem Xmd{l:List Value}(hl:l.length=40)(A A2:Option Addr)(n c n2 c2:Nat)(u p b:Int) :
 Tryz.prog.built 48 [(0,.slice A n c),(1,.agg l.toArray),(2,.slice A2 n2 c2),(3,.agg #[.int .u64 u,.int .u64 p,.int .i64 b])]=some (.slice A n c::(l++[.slice A2 n2 c2,.int .u64 u,.int .u64 p,.int .i64 b,.int .u64 0,.int .u64 0,.int .u64 0])).toArray:=by
 obtain⟨f,rfl⟩:=Xwu hl;kernel_rfl
def bud11(zs:List Int)(x:LTx)(l:List LRole):LReady:=⟨zs,x,l,xU x,xP x,xBad x,0,0,0⟩
structure Lit11(W wx:World)(g2:Nat)(bA:Option Addr)(bc n:Nat)(zs:List Int)(C:List Value):Prop where
 r:Row wx g2 48 C
 o:wx.ownsRow W.heap.size 5 1 (.slice bA n bc) n (bv zs)
 g:W.heap.size≤g2
 b:Below W.heap.size W wx
section
variable{W V V':World}{g2 n bc:Nat}{bA:Option Addr}{zs:List Int}{C C':List Value}
theorem Lit11.below(h:Lit11 W V g2 bA bc n zs C)(hb:Below V.heap.size V V'):Lit11 W V' g2 bA bc n zs C:=⟨h.r.below hb h.r.lt,Xal h.o hb,h.g,h.b.trans (hb.mono h.b.size)⟩
theorem Lit11.drew(h:Lit11 W V g2 bA bc n zs C):Lit11 W V.drew g2 bA bc n zs C:=h.below (Br _ _).drew
theorem Lit11.set_(h:Lit11 W V g2 bA bc n zs C)(i:Nat)(u:Value):Lit11 W (V.setCell ⟨g2,i,none⟩ u) g2 bA bc n zs (C.set i u):=
 ⟨h.r.set_ i u,Xcv h.o h.r (by decide) (Xa2 V ⟨g2,i,none⟩ u),h.g,h.b.trans ((Xa2 V ⟨g2,i,none⟩ u).below h.g)⟩
end
theorem Xwz(pb base:Nat)(v:Value)(ts:List LTab)(S:Nat→Prop)(A:Option Addr)(n c B:Nat)(zs:List Int)(w:World)(hr:RReg w pb base v ts S)(hg:TsB11 ts)(hts:ts.length≤1000)
 (hs:Sees w B A n (bv zs)) (hB:B≤w.heap.size) (hnc:n≤c) (hA:A=none→c=0) (hc:c≤maxLen) (hz:AllBytes zs) :
 Calls Tryz.prog 13 #[.slice A n c,.pointer (some ⟨pb,0,none⟩)] w (RefRdDone w ts zs):=by
 obtain⟨W,HX,hb0,hr0,hz0⟩:∃W,Hid (∀z,z=yzero.toArray→w.alloc (.cells z 48)=W)∧Below w.heap.size w W∧Row W w.heap.size 48 yzero∧W.heap.size=w.heap.size+1:=by
  refine⟨_,Hd fun z h=>by rw[h],(Br w.heap.size w).alloc (Lr _) _,Row.new w 48 yzero,by simp⟩
 have hnz:zs.length=n:=by have:=hs.len;rwa [bL]at this
 have HWI:=Hd (Xns A n c B zs W (hs.below (hb0.mono hB)) (Lq hB hb0.size) hnc hA hc hz);have HRS:=Hd (fun(V:World) (hb:Below w.heap.size w V) LA m lc B' ls hl hB' hok hm hs=>Xp5 pb base v ts S LA m lc B' ls V (hr.below hb) hl hB' hok hm hs hts);have HSEE:=Hd (fun(V:World) (hb:Below w.heap.size w V)=>hs.below (hb.mono hB));have HZ:=Hd hz;have HG:=Hd hg;have HNZ:=Hd hnz;have HNM:=Hd (show n≤maxLen by omega);have HBW:=Hd hB;have B0:=Hd hb0;have R0:=Hd hr0;have Z0:=Hd hz0;have HSY:=Hd (show(Tryz.prog.info? 48).map (·.size)=some yzero.length by rw[Xbz];exact Xb6);clear hb0 hr0 hz0 hr hg hs hB hnc hA hc hz hnz hts;go_enter Tryz.func13,Tryz.ntmps13
 go_upto_region 1 with fail
 rw[HX.out];rotate_left
 ·kernel_rfl
 clear HX;go_wp2_with fail;refine HWI.out.mono ?_;clear HWI;rintro e w1 (⟨x,s,lo,hp,hk,rfl,hlo,hv,hb⟩ | ⟨hn,rfl,hb⟩)
 ·have hg11:=got11 HZ.out hp;have h0w:wErr zs=0:=by rw[Xeo hp];exact hk
  have hwx:wireX zs=x:=by unfold wireX wx;rw[if_pos h0w,hp]
  have HRD:Hid (rdErr ts zs=castErr ts x.m):=Hd (by rw[Xjg h0w,hwx]);have HRR:Hid (castErr ts x.m=0→rdX ts zs=xReady zs x (castRoles ts x.m)):=Hd fun h=>by
   rw[Xlp (by rw[HRD.out];exact h),hwx];have:rdRoles ts zs=castRoles ts x.m:=by unfold rdRoles castRoles;rw[hwx]
   rw[this]
  have HOK:=Hd (Xgu (ts:=ts) HG.out hg11.wf.m);have hi:=hv.in_;have HSZ:=Hd (show(Tryz.prog.info? 42).map (·.size)=some (TRaw.cells s x).length by rw[Xba,Xac hi.m.recent]);have HTL:=Hd (show(TRaw.cells s x).length=40 from Xac hi.m.recent);have HCO:=Hd (Xbm (s:=s) (x:=x));have HRC:=Hd hi.m.recent;have HLK:=Hd hi.m.looks.len;have HKE:=Hd hi.m.keys.len;have HR1:=Hd (R0.out.below hb R0.out.lt);have HB1:=Hd (B0.out.trans (hb.mono B0.out.size));have HLT:=Hd HR1.out.lt;have HLO:Hid (w.heap.size<lo):=Hd (by have:=Z0.out;omega);have HV:=Hd hv;have HG11:=Hd hg11;have FEW:=Hd (few11 hg11);have HKO:=Hd (Xh0 HG.out hg11.wf.m.looks);have HKL:=Hd (Xkl ts x.m.looks);have HC39:Hid ((TRaw.cells s x)[39]?=some (.slice s.q.LA s.q.ln s.q.lc)):=Hd ((Xc1 38).trans (Xdo hi.m.recent));have HC0:Hid ((TRaw.cells s x)[0]?=some (.slice s.SA x.sigs.length s.sc)):=Hd (by rw[hi.sigs.len];rfl);have HMM:Hid (∀j u,(s.q.cells x.m)[j]?=some u→(TRaw.cells s x)[1+j]?=some u):=Hd fun j u hu=>(Xc1 j).trans hu
  have HMS:=Hd (show(Tryz.prog.info? 40).map (·.size)=some (s.q.cells x.m).length by rw[Xat,Xaq hi.m.recent]);clear hg11 h0w hwx hi hb hlo hv hp hk R0 B0;obtain⟨cs,hcs⟩:∃cs,cs=TRaw.cells s x:=⟨_,rfl⟩;have CS:=Hd hcs;rw[←hcs]at HSZ HTL HCO HC39 HC0 HMM ⊢;clear hcs;go_upto_region 4 with((with_reducible show wpList _ _ _ (⟨none,Op.store 42 (.tmp 6) _,_,_,_,_⟩::_) _ _);go_must(refine Xa1 rfl 42 (.tmp 6) (.tmp 15) rfl cs HSZ.out HCO.out (by rw[HTL.out];rfl) ?_ ?_ ?_;go_simp;go_simp;intro w3 hr3 hb3 hz3;have R3:=Hd hr3;have B3:=Hd hb3;have Z3:=Hd hz3;have HR3:=Hd (HR1.out.below hb3 HLT.out);clear hr3 hb3 hz3))
  have c39:w3.cell? ⟨w1.heap.size,39,none⟩=some (.slice s.q.LA s.q.ln s.q.lc):=(R3.out.cell 39).trans HC39.out;have BW3:=Hd (HB1.out.trans (B3.out.mono HB1.out.size));have V3:=Hd (HV.out.stay (w':=w3) B3.out.size fun k a b=>B3.out.block k b);go_wp2_with fail;refine(HRS.out w3 BW3.out s.q.LA s.q.ln s.q.lc w1.heap.size x.m.looks (V3.out.in_).m.looks B3.out.size HG11.out.wf.m.looks (by have:=HG11.out.small.looks;have:=HLK.out;omega) HG11.out.small.sum).mono ?_;rintro e w4 ⟨A1,n1,c1,A2,n2,c2,rfl,hk1,hk2,hb⟩;have R4:=Hd (R3.out.below hb R3.out.lt);have HR4:=Hd (HR3.out.below hb (Nat.lt_of_lt_of_le HLT.out B3.out.size));have B4:=Hd (B3.out.trans (hb.mono B3.out.size));have BW4:=Hd (HB1.out.trans (B4.out.mono HB1.out.size));have V4:=Hd (HV.out.stay (w':=w4) B4.out.size fun k a b=>B4.out.block k b);have KX:Hid (KL7.In w4 w4.heap.size ⟨A1,n1,c1,resW ts x.m.looks⟩):=Hd ⟨hk1,HKO.out.1,by have:=hk1.len;have:=HKL.out.1;have:=HG11.out.small.sum;show n1≤4000;omega⟩;have KY:Hid (KL7.In w4 w4.heap.size ⟨A2,n2,c2,resR ts x.m.looks⟩):=Hd ⟨hk2,HKO.out.2,by have:=hk2.len;have:=HKL.out.2;have:=HG11.out.small.sum;show n2≤4000;omega⟩;have HCE:Hid (castErr ts x.m=if resErr ts x.m.looks≠0 then resErr ts x.m.looks else if (x.m.keys++(resW ts x.m.looks++resR ts x.m.looks)).Nodup then 0 else 9):=Hd rfl;clear c39 hk1 hk2 hb R3 HR3 B3 V3 BW3 HRS HKO HKL;by_cases h0:resErr ts x.m.looks=0
  ·rw[h0];have HM4:Hid (∀j u,(s.q.cells x.m)[j]?=some u→w4.cell? ((⟨w1.heap.size,1,none⟩:Addr).add j)=some u):=Hd fun j u hu=>by rw[Xa5];exact(R4.out.cell (1+j)).trans (HMM.out j u hu)
   go_wp2_with ((with_reducible show wpList _ _ _ (⟨some 36,_,_,_,_,_⟩::_) _ _);go_must(refine Xa3 rfl 40 (.tmp 35) rfl ⟨w1.heap.size,1,none⟩ (s.q.cells x.m) _ Tryz.underlying40 rfl HMS.out HM4.out ?_ ?_;go_simp))
   have HO7:=Hd (refOf7 s.q x.m _ _ w4.heap.size w4 (((V4.out.in_).m.keys).more B4.out.size) HG11.out.wf.m.keys HRC.out (Lr _) HG11.out.wf.m.s HG11.out.wf.m.r HG11.out.wf.m.o (by have:=HG11.out.small.keys;have:=HKE.out;omega) KX.out KY.out);unfold KL7.val at HO7;refine HO7.out.mono ?_;rintro e w6 ⟨hb,hq⟩;have R6:=Hd (R4.out.below hb R4.out.lt);have HR6:=Hd (HR4.out.below hb (Nat.lt_of_lt_of_le HLT.out B4.out.size));have B6:=Hd (B4.out.trans (hb.mono B4.out.size));have BW6:=Hd (HB1.out.trans (B6.out.mono HB1.out.size));have HLE:=Hd B4.out.size;clear hb HO7 HM4 R4 HR4 BW4 V4 KX KY;by_cases hnd:(x.m.keys++(resW ts x.m.looks++resR ts x.m.looks)).Nodup
   ·rw[if_pos hnd]at hq;obtain⟨RA,rc,rfl,ho⟩:=hq;have hce:castErr ts x.m=0:=by rw[HCE.out,if_neg (by simp[h0]),if_pos hnd]
    have HER:Hid (rdErr ts zs=0):=Hd (by rw[HRD.out,hce]);have HXX:Hid (rdX ts zs=xReady zs x (castRoles ts x.m)):=Hd (HRR.out hce);obtain⟨l,hl⟩:∃l,l=castRoles ts x.m:=⟨_,rfl⟩;have hmost:l.length≤64:=by
     have h1:=Xgs (ts:=ts) HZ.out HER.out;have h2:=HXX.out;rw[Xlp HER.out]at h2;have h3:rdRoles ts zs=castRoles ts x.m:=congrArg LReady.roles h2;rw[h3,←hl]at h1;exact h1
    have ho':w6.ownsRow w4.heap.size 101 34 (.slice RA l.length rc) l.length (cellsR l):=by rw[hl];exact ho
    have HO:=Hd ho';have HLM:=Hd hmost;have hl2:(rolesL x.m (resW ts x.m.looks) (resR ts x.m.looks)).length=l.length:=by rw[hl];rfl
    rw[hl2];rw[←hl]at HXX HOK;clear ho ho' hce hl hl2 hmost hnd h0 HCE HRD HRR;have HRI:Hid (∀V,Below w6.heap.size w6 V→RolesIn V V.heap.size RA l.length l):=Hd fun V hb=>(Xfy (Xal HO.out hb) rfl HOK.out).elim fun _ h=>h.is
    have HVS:Hid (∀V,Below w6.heap.size w6 V→TxV V lo w1.heap.size s x):=Hd fun V hb=>HV.out.stay (Lq B6.out.size hb.size) fun k a b=>(hb.block k (Nat.lt_of_lt_of_le b B6.out.size)).trans (B6.out.block k b)
    have hu:=FEW.out.uw;have hp:=FEW.out.p;have HBU:=Hd (fun(V:World) (hb:Below w6.heap.size w6 V)=>refOf_ s.q x.m w1.heap.size V (HVS.out V hb).in_.m (Lq B6.out.size hb.size) (fun i hi=>⟨(HG11.out.wf.m.ins i hi).1,(HG11.out.wf.m.ins i hi).2.2⟩) (by have:=FEW.out.ins;have:=(HVS.out V hb).in_.m.ins.len;omega));have HWR:=Hd (fun(V:World) (hb:Below w6.heap.size w6 V)=>Xoi RA l.length rc V.heap.size l V (HRI.out V hb) (Lr _) (by have:=HLM.out;omega));have HFE:=Hd (fun(V:World)=>Xve (x.sigs.length:Int) (xU x) (xP x) (xBad x) V (by have:=FEW.out.sigs;omega) (by have:=FEW.out.sigs;omega) hu hp);have HCT:=Hd (fun(V:World) (hb:Below w6.heap.size w6 V)=>Xtv (s.cells x) x.sigs.length s.q.n s.SA s.q.IA s.sc s.q.ic w1.heap.size x.m.ins ((wrK l).length:Int) (xU x) V (Xac HRC.out) (by rw[←CS.out];exact HC0.out) ((Xc1 37).trans (Xds HRC.out)) (HVS.out V hb).in_.m.ins (Lq B6.out.size hb.size) (by have:=FEW.out.sigs;omega) (by have:=FEW.out.ins;have:=(HVS.out V hb).in_.m.ins.len;omega) (by have:=FEW.out.dat;omega) (by omega) (by have:=Xkx l;have:=HLM.out;omega) hu);have HPR:=Hd (fun(V:World)=>Xv0 (x.sigs.length:Int) (xU x) (xP x) (xBad x) (xCost x l) V (by have:=FEW.out.sigs;omega) (by have:=FEW.out.sigs;omega) hu hp (FEW.out.cost _ (by have:=HLM.out;omega)));have E1:Hid (bud8 (all8 x.m.keys x.m.ins)=[.int .u64 (xU x),.int .u64 (xP x),.int .i64 (xBad x)]):=Hd rfl;have E2:Hid (cost9 x.sigs.length (dat9 x.m.ins) ((wrK l).length:Int) (xU x)=xCost x l):=Hd rfl;have E3:Hid (fee10 (x.sigs.length:Int) (xP x) (xU x)=xFee x):=Hd rfl;have E4:Hid (pri10 (x.sigs.length:Int) (xP x) (xU x) (xCost x l)=xPri x l):=Hd rfl;rw[E1.out]at HBU;rw[E2.out,←CS.out]at HCT;rw[E3.out]at HFE;rw[E4.out]at HPR;clear E1 E2 E3 E4 hu hp;have WN:Hid ((wrK l).length≤64):=Hd (by have:=Xkx l;have:=HLM.out;omega);have SN:Hid (x.sigs.length≤1232):=Hd FEW.out.sigs;have HSE6:=Hd (fun(V:World) (hb:Below w6.heap.size w6 V)=>HSEE.out V (BW6.out.trans (hb.mono BW6.out.size)));have HNN:Hid (n≤1232):=Hd (by have:=HG11.out.len;have:=HNZ.out;omega);have H1:=Hd (Xae zs);have HBL:=Hd (show(bv zs).length=n by rw[bL];exact HNZ.out);have HYC:Hid (∀bA bc,(Value.slice bA n bc::(cs++[.slice RA l.length rc,.int .u64 (xU x),.int .u64 (xP x),.int .i64 (xBad x),.int .u64 0,.int .u64 0,.int .u64 0]))=YRaw.cells ⟨bA,n,bc,s,RA,l.length,rc⟩ (bud11 zs x l)):=Hd fun bA bc=>by rw[CS.out];rfl
    have HBUI:=Hd (fun bA bc=>Xmd HTL.out bA RA n bc l.length rc (xU x) (xP x) (xBad x));have HYS:=Hd (fun bA bc=>show(Tryz.prog.info? 48).map (·.size)=some (YRaw.cells ⟨bA,n,bc,s,RA,l.length,rc⟩ (bud11 zs x l)).length by rw[Xbe HRC.out];exact Xb6);have HYL:=Hd (fun bA bc=>show yzero.length=(YRaw.cells ⟨bA,n,bc,s,RA,l.length,rc⟩ (bud11 zs x l)).length by rw[Xbe HRC.out,Xbz]);clear HSEE;go_upto_region 10 with fail
    go_cut [11] (fun s11 wx=>∃(g2:Nat) (bA:Option Addr) (bc:Nat),s11=.pointer (some ⟨g2,0,none⟩)∧Lit11 w6 wx g2 bA bc n zs (YRaw.cells ⟨bA,n,bc,s,RA,l.length,rc⟩ (bud11 zs x l)))
    case first =>
     refine wp_region_held_drew (S:=(fun V=>Row V w1.heap.size 42 cs)) (by kernel_rfl) R6.out.drew (fun _=>?_);have HS:=Hd R6.out.drew;have N0:Hid (Below w6.heap.size w6 w6.drew):=Hd (Br _ _).drew;obtain⟨U0,hU0⟩:∃U,U=w6.drew:=⟨_,rfl⟩;rw[←hU0]at HS N0 ⊢;clear hU0;refine Tk 0 rfl ?_ HS.out ?_ ⟨?_,rfl⟩
     ·intro wz hwz;go_simp;try with_reducible rfl
     try simp only[nm]
     refine Tl 2 (v:=.agg cs.toArray) rfl (Or.inl ⟨by rfl,fun wz hwz=>Xa8 wz 42 (.tmp 6) rfl ⟨w1.heap.size,0,none⟩ cs _ Tryz.underlying42 rfl HSZ.out (fun j u hu=>by rw[Xa5,Nat.zero_add];exact(hwz.cell j).trans hu) (by go_simp)⟩) HS.out ?_;try simp only[nm]
     refine Tk 3 rfl ?_ HS.out ?_ ⟨?_,rfl⟩
     ·intro wz hwz;go_simp;try with_reducible rfl
     try simp only[nm]
     refine Tk 4 rfl ?_ HS.out ?_ ⟨?_,rfl⟩
     ·intro wz hwz;go_simp;try with_reducible rfl
     try simp only[nm]
     refine Tl 5 (v:=.agg (s.q.cells x.m).toArray) rfl (Or.inl ⟨by rfl,fun wz hwz=>Xa8 wz 40 (.tmp 50) rfl ⟨w1.heap.size,1,none⟩ (s.q.cells x.m) _ Tryz.underlying40 rfl HMS.out (fun j u hu=>by rw[Xa5];exact(hwz.cell (1+j)).trans (HMM.out j u hu)) (by go_simp)⟩) HS.out ?_;try simp only[nm]
     obtain⟨i0,hi1,hz1,hz2,hz3⟩:=info_parts Xb3;refine Xc8 (i:=1) (j:=8) rfl rfl (by kernel_rfl) (by kernel_rfl) (by kernel_rfl) (fun K hK=>?_) (fun K hK=>?_)
     ·refine Xam (P:=Tryz.prog) (w:=U0) (.const (.slice none 0 0)) (.tmp 46) (t:=22) (e:=5) (v:=.slice none 0 0) (n:=0) (xs:=[]) (base:=w6.heap.size) (B:=U0.heap.size) (A:=A) (m:=n) (c:=c) (news:=bv zs) rfl Tryz.underlying22 hi1 hz1 hz2 hz3 (by rfl) rfl (World.ownsRow_nil _ _ _ _) (by go_simp) ((HSE6.out U0 N0.out).more (Lq HBW.out (BW6.out.trans (N0.out.mono BW6.out.size)).size)) H1.out (by have:=HNM.out;omega) (by have:=HNN.out;omega) N0.out.size ?_;intro vb U1 hob hgb _;rw[Nat.zero_add,List.nil_append]at hob;have OB:=Hd hob;have HGB:=Hd hgb;have N1:=Hd (N0.out.trans (((Br U0.heap.size U0).grown hgb (Lr _) (fun k hk=>by cases hk)).mono N0.out.size));have HS1:=Hd (HS.out.below ((Br U0.heap.size U0).grown hgb (Lr _) (fun k hk=>by cases hk)) HS.out.lt);clear hob hgb;refine hK.out _ _ HS1.out ?_;clear hK K;try simp only[nm]
      refine Xc8 (i:=6) (j:=8) rfl rfl (by kernel_rfl) (by kernel_rfl) (by kernel_rfl) (fun K hK=>?_) (fun K hK=>?_)
      ·go_simp;refine(HBU.out U1 N1.out).mono ?_;rintro e U2 ⟨rfl,hb⟩;have N2:=Hd (N1.out.trans (hb.mono N1.out.size));have HS2:=Hd (HS1.out.below hb HS1.out.lt);have OB2:=Hd (Xal OB.out hb);clear hb;refine hK.out _ _ HS2.out ?_;clear hK K;try simp only[nm]
       obtain⟨bA,bc,hbv⟩:=Xao OB2.out;subst hbv;refine Tl 7 (v:=.agg (YRaw.cells ⟨bA,n,bc,s,RA,l.length,rc⟩ (bud11 zs x l)).toArray) rfl (Or.inl ⟨by rfl,fun wz hwz=>Xak wz _ _ _ rfl (by simp only[List.map_toArray,List.map_cons,List.map_nil];exact(HBUI.out bA bc).trans (by rw[HYC.out]))⟩) HS2.out ?_;try simp only[nm]
       refine Rl 8 rfl fun K hK=>?_
       go_simp;obtain⟨U3,HXA,hra,hba⟩:∃V,Hid (∀z,z=yzero.toArray→U2.alloc (.cells z 48)=V)∧Row V U2.heap.size 48 yzero∧Below U2.heap.size U2 V:=⟨_,Hd fun z h=>by rw[h],Row.new U2 48 yzero,(Br U2.heap.size U2).alloc (Lr _) _⟩;rw[HXA.out];rotate_left
       ·kernel_rfl
       have HS3:=Hd (HS2.out.below hba HS2.out.lt);refine hK.out _ _ HS3.out ?_;clear hK K HXA;try simp only[nm]
       refine Rl 9 rfl fun K hK=>?_
       refine Xah (P:=Tryz.prog) 48 (.tmp 11) (.tmp 53) rfl U2.heap.size yzero (YRaw.cells ⟨bA,n,bc,s,RA,l.length,rc⟩ (bud11 zs x l)) hra (HYS.out bA bc) (HYL.out bA bc) Xbk ?_ ?_ ?_
       ·go_simp
       ·go_simp
       intro U4 hr4 ht4;have HS4:=Hd (ht4.row HS3.out (Nat.ne_of_lt HS2.out.lt));refine hK.out _ _ HS4.out ?_;clear hK K;try simp only[nm]
       refine wpAnyH_done (by kernel_rfl) ?_ _;go_wp2_with fail;go_meet
       exact⟨U2.heap.size,bA,bc,rfl,⟨hr4,Xcv (Xal OB2.out hba) hra (by decide) ht4,N2.out.size,(N2.out.trans (hba.mono N2.out.size)).trans (ht4.below N2.out.size)⟩⟩
      ·go_simp;obtain⟨U2,HXA,hra,hba⟩:∃V,Hid (∀z,z=yzero.toArray→U1.alloc (.cells z 48)=V)∧Row V U1.heap.size 48 yzero∧Below U1.heap.size U1 V:=⟨_,Hd fun z h=>by rw[h],Row.new U1 48 yzero,(Br U1.heap.size U1).alloc (Lr _) _⟩;rw[HXA.out];rotate_left
       ·kernel_rfl
       have HS2:=Hd (HS1.out.below hba HS1.out.lt);have N2:=Hd (N1.out.trans (hba.mono N1.out.size));have OB2:=Hd (Xal OB.out hba);have HGA:=Hd N1.out.size;have HNE:=Hd (Nat.ne_of_lt HS1.out.lt);refine hK.out _ _ HS2.out ?_;clear hK K HXA hba;try simp only[nm]
       refine Rl 6 rfl fun K hK=>?_
       go_simp;refine(HBU.out U2 N2.out).mono ?_;rintro e U3 ⟨rfl,hb⟩;have N3:=Hd (N2.out.trans (hb.mono N2.out.size));have HS3:=Hd (HS2.out.below hb HS2.out.lt);have OB3:=Hd (Xal OB2.out hb);have RA3:=Hd (hra.below hb hra.lt);clear hb hra;refine hK.out _ _ HS3.out ?_;clear hK K;try simp only[nm]
       obtain⟨bA,bc,hbv⟩:=Xao OB3.out;subst hbv;refine Tl 7 (v:=.agg (YRaw.cells ⟨bA,n,bc,s,RA,l.length,rc⟩ (bud11 zs x l)).toArray) rfl (Or.inl ⟨by rfl,fun wz hwz=>Xak wz _ _ _ rfl (by simp only[List.map_toArray,List.map_cons,List.map_nil];exact(HBUI.out bA bc).trans (by rw[HYC.out]))⟩) HS3.out ?_;try simp only[nm]
       refine Rl 9 rfl fun K hK=>?_
       refine Xah (P:=Tryz.prog) 48 (.tmp 11) (.tmp 53) rfl U1.heap.size yzero (YRaw.cells ⟨bA,n,bc,s,RA,l.length,rc⟩ (bud11 zs x l)) RA3.out (HYS.out bA bc) (HYL.out bA bc) Xbk ?_ ?_ ?_
       ·go_simp
       ·go_simp
       intro U4 hr4 ht4;have HS4:=Hd (ht4.row HS3.out HNE.out);refine hK.out _ _ HS4.out ?_;clear hK K;try simp only[nm]
       refine wpAnyH_done (by kernel_rfl) ?_ _;go_wp2_with fail;go_meet
       exact⟨U1.heap.size,bA,bc,rfl,⟨hr4,Xcv OB3.out RA3.out (by decide) ht4,HGA.out,N3.out.trans (ht4.below HGA.out)⟩⟩
     ·go_simp;obtain⟨U1,HXA,hra,hba⟩:∃V,Hid (∀z,z=yzero.toArray→U0.alloc (.cells z 48)=V)∧Row V U0.heap.size 48 yzero∧Below U0.heap.size U0 V:=⟨_,Hd fun z h=>by rw[h],Row.new U0 48 yzero,(Br U0.heap.size U0).alloc (Lr _) _⟩;rw[HXA.out];rotate_left
      ·kernel_rfl
      have HS1:=Hd (HS.out.below hba HS.out.lt);have N1:=Hd (N0.out.trans (hba.mono N0.out.size));have HGA:=Hd N0.out.size;have HNE:=Hd (Nat.ne_of_lt HS.out.lt);refine hK.out _ _ HS1.out ?_;clear hK K HXA hba;try simp only[nm]
      refine Rl 1 rfl fun K hK=>?_
      refine Xam (P:=Tryz.prog) (w:=U1) (.const (.slice none 0 0)) (.tmp 46) (t:=22) (e:=5) (v:=.slice none 0 0) (n:=0) (xs:=[]) (base:=w6.heap.size) (B:=U1.heap.size) (A:=A) (m:=n) (c:=c) (news:=bv zs) rfl Tryz.underlying22 hi1 hz1 hz2 hz3 (by rfl) rfl (World.ownsRow_nil _ _ _ _) (by go_simp) ((HSE6.out U1 N1.out).more (Lq HBW.out (BW6.out.trans (N1.out.mono BW6.out.size)).size)) H1.out (by have:=HNM.out;omega) (by have:=HNN.out;omega) N1.out.size ?_;intro vb U2 hob hgb _;rw[Nat.zero_add,List.nil_append]at hob;have OB:=Hd hob;have HGB:=Hd hgb;have N2:=Hd (N1.out.trans (((Br U1.heap.size U1).grown hgb (Lr _) (fun k hk=>by cases hk)).mono N1.out.size));have HS2:=Hd (HS1.out.below ((Br U1.heap.size U1).grown hgb (Lr _) (fun k hk=>by cases hk)) HS1.out.lt);clear hob hgb;have RA2:=Hd (show Row U2 U0.heap.size 48 yzero from⟨((Br U1.heap.size U1).grown HGB.out (Lr _) (fun k hk=>by cases hk)).block _ hra.lt |>.trans hra.is⟩);refine hK.out _ _ HS2.out ?_;clear hK K;try simp only[nm]
      refine Rl 6 rfl fun K hK=>?_
      go_simp;refine(HBU.out U2 N2.out).mono ?_;rintro e U3 ⟨rfl,hb⟩;have N3:=Hd (N2.out.trans (hb.mono N2.out.size));have HS3:=Hd (HS2.out.below hb HS2.out.lt);have OB3:=Hd (Xal OB.out hb);have RA3:=Hd (RA2.out.below hb RA2.out.lt);clear hb;refine hK.out _ _ HS3.out ?_;clear hK K;try simp only[nm]
      obtain⟨bA,bc,hbv⟩:=Xao OB3.out;subst hbv;refine Tl 7 (v:=.agg (YRaw.cells ⟨bA,n,bc,s,RA,l.length,rc⟩ (bud11 zs x l)).toArray) rfl (Or.inl ⟨by rfl,fun wz hwz=>Xak wz _ _ _ rfl (by simp only[List.map_toArray,List.map_cons,List.map_nil];exact(HBUI.out bA bc).trans (by rw[HYC.out]))⟩) HS3.out ?_;try simp only[nm]
      refine Rl 9 rfl fun K hK=>?_
      refine Xah (P:=Tryz.prog) 48 (.tmp 11) (.tmp 53) rfl U0.heap.size yzero (YRaw.cells ⟨bA,n,bc,s,RA,l.length,rc⟩ (bud11 zs x l)) RA3.out (HYS.out bA bc) (HYL.out bA bc) Xbk ?_ ?_ ?_
      ·go_simp
      ·go_simp
      intro U4 hr4 ht4;have HS4:=Hd (ht4.row HS3.out HNE.out);refine hK.out _ _ HS4.out ?_;clear hK K;try simp only[nm]
      refine wpAnyH_done (by kernel_rfl) ?_ _;go_wp2_with fail;go_meet
      exact⟨U0.heap.size,bA,bc,rfl,⟨hr4,Xcv OB3.out RA3.out (by decide) ht4,HGA.out,N3.out.trans (ht4.below HGA.out)⟩⟩
    case rest =>
     obtain⟨g2,bA,bc,rfl,hlit⟩:=hcut;have L1:=Hd hlit;clear hlit;obtain⟨q,hq⟩:∃q:YRaw,q=⟨bA,n,bc,s,RA,l.length,rc⟩:=⟨_,rfl⟩;obtain⟨x1,hx1⟩:∃x1:LReady,x1=bud11 zs x l:=⟨_,rfl⟩;have HQ:=Hd hq;obtain⟨x2,hx2⟩:∃x2:LReady,x2={ x1 with fee:=xFee x }:=⟨_,rfl⟩;obtain⟨x3,hx3⟩:∃x3:LReady,x3={ x2 with cost:=xCost x l }:=⟨_,rfl⟩;have h4:{ x3 with pri:=xPri x l }=xReady zs x l:=by rw[hx3,hx2,hx1];rfl
     rw[←hq,←hx1]at L1;have r1:x1.tx.m.recent.length=32:=by rw[hx1];exact HRC.out
     have r2:x2.tx.m.recent.length=32:=by rw[hx2];exact r1
     have r3:x3.tx.m.recent.length=32:=by rw[hx3];exact r2
     have Y2:Hid ((q.cells x1).set 45 (.int .u64 (xFee x))=q.cells x2):=Hd (by
      rw[show 45=42+3 from rfl,Xdb r1,Xb5 q x2,hx2,hx1];rfl)
     have Y3:Hid ((q.cells x2).set 46 (.int .u64 (xCost x l))=q.cells x3):=Hd (by
      rw[show 46=42+4 from rfl,Xdb r2,Xb5 q x3,hx3,hx2,hx1];rfl)
     have Y4:Hid ((q.cells x3).set 47 (.int .u64 (xPri x l))=q.cells (xReady zs x l)):=Hd (by
      rw[show 47=42+5 from rfl,Xdb r3,Xb5 q (xReady zs x l),←h4,hx3,hx2,hx1];rfl)
     have G1:Hid (∀j v,j<3→([.int .u64 (xU x),.int .u64 (xP x),.int .i64 (xBad x)]:List Value)[j]?=some v→(q.cells x1)[42+j]?=some v∧(q.cells x3)[42+j]?=some v):=Hd fun j v hj hv=>by
      rw[Xb1 r1,Xb1 r3,hx3,hx2,hx1];rcases(show j=0∨j=1∨j=2 by omega)with rfl | rfl | rfl <;> exact⟨hv,hv⟩
     have C42:Hid ((q.cells x2)[42]?=some (.int .u64 (xU x))):=Hd (by rw[show 42=42+0 from rfl,Xb1 r2,hx2,hx1];rfl);have G3:Hid ((q.cells x3)[46]?=some (.int .u64 (xCost x l))):=Hd (by rw[show 46=42+4 from rfl,Xb1 r3,hx3];rfl);have F1:Hid (∃v,(q.cells x1)[45]?=some v):=Hd ⟨_,by rw[show 45=42+3 from rfl,Xb1 r1];rfl⟩;have F2:Hid (∃v,(q.cells x2)[46]?=some v):=Hd ⟨_,by rw[show 46=42+4 from rfl,Xb1 r2];rfl⟩;have F3:Hid (∃v,(q.cells x3)[47]?=some v):=Hd ⟨_,by rw[show 47=42+5 from rfl,Xb1 r3];rfl⟩;have HBS:=Hd (Xaz (xU x) (xP x) (xBad x));have HYS2:=Hd (show(Tryz.prog.info? 48).map (·.size)=some (q.cells (xReady zs x l)).length by rw[Xbe HRC.out];exact Xb6);have HYL2:=Hd (show yzero.length=(q.cells (xReady zs x l)).length by rw[Xbe HRC.out,Xbz]);have HY1:=Hd (Xbk (q:=q) (x:=xReady zs x l));have HFIN:Hid (∀V V',Lit11 w6 V g2 bA bc n zs (q.cells (xReady zs x l))→Row V w.heap.size 48 yzero→Turned V V' w.heap.size→RefRdDone w ts zs (.returned (.tuple #[.agg (q.cells (xReady zs x l)).toArray,.int .i64 0])) V'):=Hd fun V V' h hr ht=>by
      have hb6:=BW6.out.trans (h.b.mono BW6.out.size);have hv1:TxV V' lo w1.heap.size s x:=(HVS.out V h.b).stay (by rw[ht.size];exact Lr _) fun k a b=>ht.block k (by have:=HLO.out;omega)
      have ho1:V'.ownsRow w6.heap.size 5 1 (.slice bA n bc) n (bv zs):=Xcv h.o hr (by decide) ht;have ho2:V'.ownsRow w4.heap.size 101 34 (.slice RA l.length rc) l.length (cellsR l):=Xcv (Xal HO.out h.b) hr (by decide) ht;refine⟨q,by rw[HXX.out,HER.out],?_,hb6.trans (ht.below (Lr _))⟩;rw[HXX.out,HQ.out];obtain⟨A',c',hv',hs',hc1,hc2,_⟩:=Xbs ho1;injection hv' with ea _ ec
      subst ea ec;obtain⟨A2',c2',hv2',_,hd1,hd2,_⟩:=Xbs ho2;injection hv2' with eb _ ed
      subst eb ed;rw[Nat.mul_one]at hs';refine⟨hs',⟨hc1,hc2⟩,(hv1.in_).more (by rw[ht.size];exact Lq B6.out.size h.b.size),(Xfy ho2 rfl HOK.out).elim fun _ h=>h.is,⟨hd1,hd2⟩⟩
     have HRR6:Hid (∀V,Below w6.heap.size w6 V→Row V w.heap.size 48 yzero∧Row V w1.heap.size 42 cs):=Hd fun V hb=>⟨HR6.out.below hb (Nat.lt_of_lt_of_le HLT.out B6.out.size),R6.out.below hb R6.out.lt⟩
     clear h4 hx1 hx2 hx3 hq r1 r2 r3 HQ HBU HSE6 HBUI HYC HYS HYL HV HVS HRI HO HOK HXX HER R6 HR6;generalize q.cells (xReady zs x l)=CT at *;generalize q.cells x1=CX1 at *;generalize q.cells x2=CX2 at *;generalize q.cells x3=CX3 at *;generalize xPri x l=vr at *;generalize xCost x l=vc at *;generalize xFee x=vf at *;generalize xBad x=vb at *;generalize xP x=vp at *;generalize xU x=vu at *;generalize x.sigs.length=sn at *;obtain⟨v45,hv45⟩:=F1.out;have c0:wc.cell? ⟨w1.heap.size,0,none⟩=some (.slice s.SA sn s.sc):=((HRR6.out wc L1.out.b).2.cell 0).trans HC0.out;go_wp2_with ((with_reducible show wpList _ _ _ (⟨some 58,_,_,_,_,_⟩::_) _ _);go_must(refine Xa3 rfl 46 (.tmp 57) rfl ⟨g2,42,none⟩ [.int .u64 vu,.int .u64 vp,.int .i64 vb] _ Tryz.underlying46 rfl HBS.out (fun j u hu=>by rw[Xa5];exact(L1.out.r.cell (42+j)).trans (G1.out j u (by have:=(List.getElem?_eq_some_iff.1 hu).1;simpa using this) hu).1) ?_ ?_;go_simp))
     refine(HFE.out _).mono ?_;rintro e u2 ⟨rfl,hb⟩;have L2:=Hd (L1.out.below hb);clear hb L1 c0;have c45:u2.cell? ⟨g2,45,none⟩=some v45:=(L2.out.r.cell 45).trans hv45;have f45:u2.frozen? ⟨g2,45,none⟩=false:=L2.out.r.frozen 45;go_upto_region 12 with fail
     have l3:=L2.out.set_ 45 (.int .u64 vf);rw[Y2.out]at l3;generalize u2.setCell ⟨g2,45,none⟩ (.int .u64 vf)=u3 at *;have L3:=Hd l3.drew;have L3o:=Hd l3;clear l3 L2 c45 f45 hv45;have HSB:Hid (Row u3.drew w1.heap.size 42 cs∧Low11 g2 46 CX2 u3.drew):=Hd ⟨(HRR6.out _ L3.out.b).2,Low11.row L3.out.r⟩;refine wp_region_held_drew (S:=(fun V=>Row V w1.heap.size 42 cs∧Low11 g2 46 CX2 V)) (by kernel_rfl) HSB.out (fun _=>?_);refine Tl 0 (v:=.agg cs.toArray) rfl (Or.inl ⟨by rfl,fun wz hwz=>Xa8 wz 42 (.tmp 6) rfl ⟨w1.heap.size,0,none⟩ cs _ Tryz.underlying42 rfl HSZ.out (fun j u hu=>by rw[Xa5,Nat.zero_add];exact(hwz.1.cell j).trans hu) (by go_simp)⟩) HSB.out ?_;try simp only[nm]
     refine Tk 1 rfl ?_ HSB.out ?_ ⟨?_,rfl⟩
     ·intro wz hwz;go_simp;try with_reducible rfl
     try simp only[nm]
     refine Tk 4 rfl ?_ HSB.out ?_ ⟨?_,rfl⟩
     ·intro wz hwz;go_simp;try with_reducible rfl
     try simp only[nm]
     refine Tk 5 rfl ?_ HSB.out ?_ ⟨?_,rfl⟩
     ·intro wz hwz;go_simp;try with_reducible rfl
     try simp only[nm]
     refine Tk 6 rfl ?_ HSB.out ?_ ⟨?_,rfl⟩
     ·intro wz hwz;have q42:wz.cell? ⟨g2,42,none⟩=some (.int .u64 vu):=hwz.2 42 _ (by omega) (C42.out);go_simp;try with_reducible rfl
     try simp only[nm]
     refine Rl 2 rfl fun K hK=>?_
     go_simp;refine(HWR.out _ L3.out.b).mono ?_;rintro e u4 ⟨hb,wA,wc4,rfl,_⟩;have L4:=Hd (L3.out.below hb);have HS4:Hid (Row u4 w1.heap.size 42 cs∧Low11 g2 46 CX2 u4):=Hd ⟨(HRR6.out _ L4.out.b).2,Low11.row L4.out.r⟩;clear hb L3 HSB;refine hK.out _ _ HS4.out ?_;clear hK K;try simp only[nm]
     refine Tk 3 rfl ?_ HS4.out ?_ ⟨?_,rfl⟩
     ·intro wz hwz;go_simp;try with_reducible rfl
     try simp only[nm]
     refine Rl 7 rfl fun K hK=>?_
     go_simp;refine(HCT.out _ L4.out.b).mono ?_;rintro e u5 ⟨rfl,hb⟩;have L5:=Hd (L4.out.below hb);have HS5:Hid (Row u5 w1.heap.size 42 cs∧Low11 g2 46 CX2 u5):=Hd ⟨(HRR6.out _ L5.out.b).2,Low11.row L5.out.r⟩;clear hb L4 HS4;obtain⟨v46,hv46⟩:=F2.out;refine hK.out _ _ HS5.out ?_;clear hK K;try simp only[nm]
     refine Tk 8 rfl ?_ HS5.out ?_ ⟨?_,rfl⟩
     ·intro wz hwz;go_simp;try with_reducible rfl
     try simp only[nm]
     refine Rl 9 rfl fun K hK=>?_
     have c46:u5.cell? ⟨g2,46,none⟩=some v46:=(L5.out.r.cell 46).trans hv46;have f46:u5.frozen? ⟨g2,46,none⟩=false:=L5.out.r.frozen 46;go_simp;have l6:=L5.out.set_ 46 (.int .u64 vc);have HS6:Low11 g2 46 CX2 (u5.setCell ⟨g2,46,none⟩ (.int .u64 vc)):=fun j v hj hv=>by
      rw[l6.r.cell,List.getElem?_set_ne (by omega)];exact hv
     rw[Y3.out]at l6;refine hK.out _ _ ⟨(HRR6.out _ l6.b).2,HS6⟩ ?_;clear hK K HS6;try simp only[nm]
     generalize u5.setCell ⟨g2,46,none⟩ (.int .u64 vc)=u6 at *;have L6:=Hd l6;clear l6 L5 HS5 c46 f46 hv46;refine wpAnyH_done (by kernel_rfl) ?_ _;have c0:u6.cell? ⟨w1.heap.size,0,none⟩=some (.slice s.SA sn s.sc):=((HRR6.out u6 L6.out.b).2.cell 0).trans HC0.out;have c46:u6.cell? ⟨g2,46,none⟩=some (.int .u64 vc):=(L6.out.r.cell 46).trans G3.out;go_wp2_with ((with_reducible show wpList _ _ _ (⟨some 74,_,_,_,_,_⟩::_) _ _);go_must(refine Xa3 rfl 46 (.tmp 73) rfl ⟨g2,42,none⟩ [.int .u64 vu,.int .u64 vp,.int .i64 vb] _ Tryz.underlying46 rfl HBS.out (fun j u hu=>by rw[Xa5];exact(L6.out.r.cell (42+j)).trans (G1.out j u (by have:=(List.getElem?_eq_some_iff.1 hu).1;simpa using this) hu).2) ?_ ?_;go_simp))
     refine(HPR.out _).mono ?_;rintro e u7 ⟨rfl,hb⟩;have L7:=Hd (L6.out.below hb);clear hb L6 c0 c46;obtain⟨v47,hv47⟩:=F3.out;have c47:u7.cell? ⟨g2,47,none⟩=some v47:=(L7.out.r.cell 47).trans hv47;have f47:u7.frozen? ⟨g2,47,none⟩=false:=L7.out.r.frozen 47;go_upto_region 14 with fail
     have l8:=L7.out.set_ 47 (.int .u64 vr);rw[Y4.out]at l8;generalize u7.setCell ⟨g2,47,none⟩ (.int .u64 vr)=u8 at *;have L8:=Hd l8;have HR8:=Hd (HRR6.out u8 l8.b).1;clear l8 L7 c47 f47 hv47;go_wp2_with (first
      | ((with_reducible show wpList _ _ _ (⟨some 79,_,_,_,_,_⟩::_) _ _);go_must(refine Xa0 rfl 48 (.tmp 11) rfl g2 48 CT _ Tryz.underlying48 rfl HYS2.out L8.out.r ?_ ?_;go_simp))
      | ((with_reducible show wpList _ _ _ (⟨none,Op.store 48 (.tmp 4) _,_,_,_,_⟩::_) _ _);go_must(refine Xa4 rfl 48 (.tmp 4) (.tmp 79) rfl w.heap.size yzero CT HR8.out HYS2.out HYL2.out HY1.out ?_ ?_ ?_;go_simp;go_simp;intro w5 hr5 ht5;have R5:=Hd hr5;have T5:=Hd ht5;clear hr5 ht5)))
     refine bodyPost_ret (Xaf (h:=rfl) _ w5 ⟨w.heap.size,0,none⟩ _ _ (by rfl) (by rfl) (run_loadVar_row w5 w.heap.size 48 48 CT.toArray (0,0) _ R5.out.is Tryz.underlying48 rfl (by rw[List.size_toArray];exact HYS2.out))) rfl ?_;exact HFIN.out u8 w5 L8.out HR8.out T5.out
   ·rw[if_neg hnd]at hq;subst hq;have HER:Hid (rdErr ts zs=9):=Hd (by rw[HRD.out,HCE.out,if_neg (by simp[h0]),if_neg hnd]);clear hnd h0 HCE;go_wp2_with ((with_reducible show wpList _ _ _ (⟨none,Op.store 48 (.tmp 4) _,_,_,_,_⟩::_) _ _);go_must(refine Xa4 rfl 48 (.tmp 4) (.tmp 44) rfl w.heap.size yzero yzero HR6.out HSY.out rfl Xe1 ?_ ?_ ?_;go_simp;(go_simp;try kernel_rfl);intro w5 hr5 ht5;have R5:=Hd hr5;have T5:=Hd ht5;clear hr5 ht5))
    refine bodyPost_ret (Xaf (h:=rfl) _ w5 ⟨w.heap.size,0,none⟩ _ _ (by rfl) (by rfl) (run_loadVar_row w5 w.heap.size 48 48 yzero.toArray (0,0) _ R5.out.is Tryz.underlying48 rfl (by rw[List.size_toArray];exact HSY.out))) rfl ?_;exact RefRdDone.no HER.out (by decide) (BW6.out.trans (T5.out.below (Lr _)))
  ·have HER:Hid (rdErr ts zs=resErr ts x.m.looks):=Hd (by rw[HRD.out,HCE.out,if_pos h0]);have H0:=Hd h0;generalize resErr ts x.m.looks=re at *;go_wp2_with ((with_reducible show wpList _ _ _ (⟨none,Op.store 48 (.tmp 4) _,_,_,_,_⟩::_) _ _);go_must(refine Xa4 rfl 48 (.tmp 4) (.tmp 32) rfl w.heap.size yzero yzero HR4.out HSY.out rfl Xe1 ?_ ?_ ?_;go_simp;(go_simp;try kernel_rfl);intro w5 hr5 ht5;have R5:=Hd hr5;have T5:=Hd ht5;clear hr5 ht5))
   refine bodyPost_ret (Xaf (h:=rfl) _ w5 ⟨w.heap.size,0,none⟩ _ _ (by rfl) (by rfl) (run_loadVar_row w5 w.heap.size 48 48 yzero.toArray (0,0) _ R5.out.is Tryz.underlying48 rfl (by rw[List.size_toArray];exact HSY.out))) rfl ?_;exact RefRdDone.no HER.out H0.out (BW4.out.trans (T5.out.below (Lr _)))
 ·have HN:=Hd hn;have HR1:=Hd (R0.out.below hb R0.out.lt);have HB1:=Hd (B0.out.trans (hb.mono B0.out.size));have HLT:=Hd HR1.out.lt;clear hn hb R0 B0;have HER:Hid (rdErr ts zs=wErr zs):=Hd (Xf1 HN.out);have hn0:=HN.out;generalize wErr zs=we at *;go_wp2_with (first
   | ((with_reducible show wpList _ _ _ (⟨none,Op.store 42 (.tmp 6) _,_,_,_,_⟩::_) _ _);go_must(refine Xa1 rfl 42 (.tmp 6) (.tmp 15) rfl tzero Xan Xap rfl ?_ ?_ ?_;go_simp;go_simp;intro w3 hr3 hb3 hz3;have R3:=Hd hr3;have B3:=Hd hb3;have Z3:=Hd hz3;have HR3:=Hd (HR1.out.below hb3 HLT.out);clear hr3 hb3 hz3))
   | ((with_reducible show wpList _ _ _ (⟨none,Op.store 48 (.tmp 4) _,_,_,_,_⟩::_) _ _);go_must(refine Xa4 rfl 48 (.tmp 4) (.tmp 19) rfl w.heap.size yzero yzero HR3.out HSY.out rfl Xe1 ?_ ?_ ?_;go_simp;(go_simp;try kernel_rfl);intro w5 hr5 ht5;have R5:=Hd hr5;have T5:=Hd ht5;clear hr5 ht5)))
  refine bodyPost_ret (Xaf (h:=rfl) _ w5 ⟨w.heap.size,0,none⟩ _ _ (by rfl) (by rfl) (run_loadVar_row w5 w.heap.size 48 48 yzero.toArray (0,0) _ R5.out.is Tryz.underlying48 rfl (by rw[List.size_toArray];exact HSY.out))) rfl ?_;exact RefRdDone.no HER.out HN.out ((HB1.out.trans (B3.out.mono HB1.out.size)).trans (T5.out.below (Lr _)))
end Go.Proofs.YtdgbodljmdcagaaGreatDoor
