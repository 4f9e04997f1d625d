import Derived.Test.YtdgbodljmdcagaaGreatDoorQ14
import Derived.Deep.RegionWith
set_option maxRecDepth 100000
set_option maxHeartbeats 16000000
set_option linter.unusedSimpArgs false
set_option linter.unusedVariables false
namespace Go.Proofs.YtdgbodljmdcagaaGreatDoor
open Go.RowKit
theorem Xrm{keys:List (List Int)}{k:Nat}{x:LIn}{s:BS}(h:isW keys x.p=false):step8 keys k x s=⟨s.u,s.p,s.o+1,s.bad⟩:=by unfold step8;rw[if_pos h]
theorem Xlr{keys:List (List Int)}{k:Nat}{x:LIn}{s:BS}(h:isW keys x.p=true)(hb:0≤s.bad):step8 keys k x s=s:=by unfold step8;rw[if_neg (by rw[h];decide),if_pos hb]
theorem Xih{keys:List (List Int)}{k:Nat}{x:LIn}{s s':BS}(h:isW keys x.p=true)(hb:¬0≤s.bad)(ht:tell x.dat s=some s'):step8 keys k x s=s':=by unfold step8;rw[if_neg (by rw[h];decide),if_neg hb,ht];rfl
theorem Xf5{keys:List (List Int)}{k:Nat}{x:LIn}{s:BS}(h:isW keys x.p=true)(hb:¬0≤s.bad)(ht:tell x.dat s=none):step8 keys k x s=⟨s.u,s.p,s.o,k⟩:=by unfold step8;rw[if_neg (by rw[h];decide),if_neg hb,ht];rfl
theorem Xry(x y z:Int):Tryz.prog.built 46 [(0,.int .u64 x),(1,.int .u64 y),(2,.int .i64 z)]=some ([.int .u64 x,.int .u64 y,.int .i64 z]:List Value).toArray:=by kernel_rfl
theorem Xaz(x y z:Int):(Tryz.prog.info? 46).map (·.size)=some ([.int .u64 x,.int .u64 y,.int .i64 z]:List Value).length:=by kernel_rfl
theorem Xfi(x y z:Int):∀u ∈ ([.int .u64 x,.int .u64 y,.int .i64 z]:List Value),u.oneCell'=true:=by
 intro u hu;simp only[List.mem_cons,List.not_mem_nil,or_false]at hu;rcases hu with rfl | rfl | rfl <;> rfl
theorem Xle{l:List LIn}(h:∀i ∈ l,IsByte i.p∧AllBytes i.dat):∀i ∈ l,Bytes (i.dat.drop 1):=fun i hi=>Xfk (fun z hz=>(h i hi).2 z (List.mem_of_mem_drop hz))
theorem ofB_(q:Raw)(m:LMsg)(B:Nat)(w:World)(hm:MsgIn w B q m)(hB:B≤w.heap.size)(hi:∀i ∈ m.ins,IsByte i.p∧AllBytes i.dat)(hn:q.n≤4000)(hl:LenAt w) :
 Calls Tryz.prog 27 #[.agg (q.cells m).toArray] w fun e w'=>e=.returned (.agg (bud8 (all8 m.keys m.ins)).toArray)∧Below w.heap.size w w':=by
 obtain⟨W,HX,hb0,hrm,hrb,hrw⟩:∃W,Hid (∀c1 c2,c1=([.int .u64 0,.int .u64 0,.int .i64 0]:List Value).toArray→c2=(wcells BS.zero).toArray→((w.alloc (.cells (q.cells m).toArray 40)).alloc (.cells c1 46)).alloc (.cells c2 129)=W) ∧
  Below w.heap.size w W∧Row W w.heap.size 40 (q.cells m)∧Row W (w.heap.size+1) 46 [.int .u64 0,.int .u64 0,.int .i64 0]∧Row W (w.heap.size+2) 129 (wcells BS.zero):=by
  refine⟨_,Hd fun c1 c2 h1 h2=>by rw[h1,h2],(((Br w.heap.size w).alloc (Lr _) _).alloc (by simp) _).alloc (by simp;omega) _,((Row.new w 40 (q.cells m)).alloc _).alloc _,(Row.new' (w.alloc (.cells (q.cells m).toArray 40)) 46 _ (by simp)).alloc _,Row.new' _ 129 _ (by simp)⟩
 have hmr:=hm.recent;have c4:W.cell? ⟨w.heap.size,4,none⟩=some (.slice q.KA q.kn q.kc):=(MsgRow.of hrm hmr).c4;have c37:W.cell? ⟨w.heap.size,37,none⟩=some (.slice q.IA q.n q.ic):=(MsgRow.of hrm hmr).c37;have HOK:=Hd (fun k hk=>Xk0 (keys:=m.keys) (Xle hi) k hk);have HI:=Hd hi;obtain⟨KA,kn,kc,IA,n,ic,LA,ln,lc⟩:=q;dsimp only at *
 have hil:=hm.ins.len;have HIN:=Hd (hm.ins.below (hb0.mono hB));have HKN:=Hd (hm.keys.below (hb0.mono hB));have HKC:=Hd hm.kn;have HL:=Hd (hl.below hb0 (Nat.lt_of_lt_of_le hl.pos (Lr _)));have HLP:=Hd hl.pos;have HBB:=Hd hB;have HB0:=Hd hb0;have HRB:=Hd hrb;have HRW:=Hd hrw;have HWS:Hid (w.heap.size+3≤W.heap.size):=Hd (by have:=hrw.lt;omega);have hMC:∀(MC:List Value),MC=MC:=fun _=>rfl
 generalize Raw.cells ⟨KA,kn,kc,IA,n,ic,LA,ln,lc⟩ m=MC at *;have HIL:=Hd hil;have HC4:=Hd c4;clear hm hB hi hl hb0 hrm hrb hrw hmr hil hMC c4;unfold all8;generalize m.keys=keys at *;generalize m.ins=l at *;go_enter Tryz.func27,Tryz.ntmps27
 go_upto_region 2 with fail
 rw[HX.out _ _ (by kernel_rfl) (by kernel_rfl)];clear HX;go_wp2_with fail;go_loopw [11,4,5] (fun i o b wr=>∃(k:Nat) (s:BS),k≤n∧i=.int .i64 k∧run8 keys l k=s∧o=.int .u64 s.o∧b=.int .i64 s.bad∧Row wr (w.heap.size+2) 129 (wcells s)∧Below (w.heap.size+2) W wr) (fun i _ _ _=>n - (intOf i).toNat)
 case atStart=>exact⟨0,BS.zero,Nat.zero_le _,rfl,rfl,rfl,rfl,HRW.out,Br _ _⟩
 case round =>
  obtain⟨k,s,hk,rfl,hs,rfl,rfl,hrow,hbel⟩:=hrel;have HS:=Hd hs;have hok:=HOK.out k (by rw[HIL.out];exact hk);rw[hs]at hok;have HO:=Hd hok;have HR:=Hd hrow;have HB:=Hd hbel;have HC:=Hd ((hbel.cell (p:=⟨w.heap.size,4,none⟩) (by show w.heap.size<w.heap.size+2;omega)).trans HC4.out);clear hs hok hrow hbel;by_cases hlt:k<n
  ·obtain⟨a,x,va,vd,rfl,hab,hx,hat⟩:=HIN.out.get hlt;have hat:=hat.keep hab fun p hp=>HB.out.cell (p:=p) (by have:=HBB.out;omega)
   have HX:=Hd hx;have HP:=Hd (HI.out x (List.mem_of_getElem? hx));have HAC:=Hd hat.cells;obtain⟨DA,dc,hvd,hds,hdn,hdm⟩:=hat.dat.is;subst hvd;have HD:=Hd hds;have HDC:=Hd (And.intro hdn hdm);have HSI:=Hd (Xbj x.p va (.slice DA x.dat.length dc));have HI1:=Hd (Xcg (p:=x.p) hat.acc hat.dat);have HI3:Hid ((inCells x.p va (.slice DA x.dat.length dc)).length=3):=Hd rfl;have HI2:Hid ((inCells x.p va (.slice DA x.dat.length dc))[2]?=some (.slice DA x.dat.length dc)):=Hd rfl;have HOB:Hid (∀V:World,Below (w.heap.size+2) W V→Calls Tryz.prog 69 #[.slice KA kn kc,.agg (inCells x.p va (.slice DA x.dat.length dc)).toArray] V fun e w'=>e=.returned (.bool (isW keys x.p))∧Below V.heap.size V w'):=Hd fun V hV=>Xs5 KA kn kc keys va _ x.p B V (HKN.out.below (hV.mono (by have:=HBB.out;omega))) HKC.out (by have:=HBB.out;have:=hV.size;have:=HWS.out;omega) HP.out.1
   have HSB:=Hd (HB.out.size);clear hat hab hx hds hdn hdm;generalize inCells x.p va (.slice DA x.dat.length dc)=IC at *;have HTK:Hid (∀V:World,Row V (w.heap.size+2) 129 (wcells s)→Below (w.heap.size+2) wr V→Calls Tryz.prog 70 #[.pointer (some ⟨w.heap.size+2,0,none⟩),.slice DA x.dat.length dc] V (TakeDone V (w.heap.size+2) x.dat s)):=Hd fun V hV hb=>take_ s x.dat DA x.dat.length dc B _ V hV (HD.out.below (hb.mono (by have:=HBB.out;omega))) HP.out.2 HDC.out (HL.out.below (HB.out.trans hb) (by omega))
   by_cases hw:isW keys x.p=true
   ·have HW:=Hd hw;by_cases hb:0≤s.bad
    ·have HST:Hid (run8 keys l (k+1)=s):=Hd ((Xbi (keys:=keys) HX.out).trans (by rw[HS.out];exact Xlr (k:=k) HW.out hb));have hbd:¬s.bad<0:=by omega
     clear hw HTK;go_wp2_with (first
      | ((with_reducible show wpList _ _ _ (⟨some 15,_,_,_,_,_⟩::_) _ _);go_must(refine Xa3 rfl 131 (.tmp 14) rfl (a.add (k*3)) IC _ Tryz.underlying131 rfl HSI.out HAC.out ?_ ?_;go_simp))
      | ((with_reducible show wpList _ _ _ (⟨none,Op.store 131 _ _,_,_,_,_⟩::_) _ _);go_must(refine Xa1 rfl 131 (.tmp 7) (.tmp 15) rfl IC HSI.out HI1.out (by rw[HI3.out];rfl) ?_ ?_ ?_;go_simp;go_simp;intro w2 hr2 hb2 hz2;have R2:=Hd hr2;have B2:=Hd hb2;clear hr2 hb2 hz2;have d4:=(B2.out.cell (p:=⟨w.heap.size,4,none⟩) (by show w.heap.size<wr.heap.size;have:=HSB.out;have:=HWS.out;omega)).trans HC.out))
      | ((with_reducible show wpList _ _ _ (⟨some 19,_,_,_,_,_⟩::_) _ _);go_must(refine Xa0 rfl 131 (.tmp 7) rfl wr.heap.size 131 IC _ Tryz.underlying131 rfl HSI.out R2.out ?_ ?_;go_simp)))
     have HB2:Hid (Below (w.heap.size+2) wr w2):=Hd (B2.out.mono (by have:=HSB.out;have:=HWS.out;omega));refine(HOB.out w2 (HB.out.trans HB2.out)).mono ?_;rintro e w3 ⟨rfl,hb3⟩;rw[HW.out];have HB3:Hid (Below (w.heap.size+2) wr w3):=Hd (HB2.out.trans (hb3.mono (by have:=B2.out.size;have:=HSB.out;have:=HWS.out;omega)));have HR3:Hid (Row w3 (w.heap.size+2) 129 (wcells s)):=Hd ((HR.out.below B2.out (by have:=HSB.out;have:=HWS.out;omega)).below hb3 (by have:=B2.out.size;have:=HSB.out;have:=HWS.out;omega));have d2:=((R2.out.below hb3 R2.out.lt).cell 2).trans HI2.out;clear hb3 HOB d4;go_wp2_with fail;go_roundw
     case rel=>exact⟨k+1,s,by omega,by go_num,HST.out,rfl,rfl,HR3.out,HB.out.trans HB3.out⟩
     case measure=>simp[intOf];omega
    ·have hbd:s.bad<0:=by omega
     cases ht:tell x.dat s with
     | none =>
      have HST:Hid (run8 keys l (k+1)=⟨s.u,s.p,s.o,k⟩):=Hd ((Xbi (keys:=keys) HX.out).trans (by rw[HS.out];exact Xf5 (k:=k) HW.out hb ht));have HT:=Hd ht;clear hw hb ht;go_wp2_with (first
       | ((with_reducible show wpList _ _ _ (⟨some 15,_,_,_,_,_⟩::_) _ _);go_must(refine Xa3 rfl 131 (.tmp 14) rfl (a.add (k*3)) IC _ Tryz.underlying131 rfl HSI.out HAC.out ?_ ?_;go_simp))
       | ((with_reducible show wpList _ _ _ (⟨none,Op.store 131 _ _,_,_,_,_⟩::_) _ _);go_must(refine Xa1 rfl 131 (.tmp 7) (.tmp 15) rfl IC HSI.out HI1.out (by rw[HI3.out];rfl) ?_ ?_ ?_;go_simp;go_simp;intro w2 hr2 hb2 hz2;have R2:=Hd hr2;have B2:=Hd hb2;clear hr2 hb2 hz2;have d4:=(B2.out.cell (p:=⟨w.heap.size,4,none⟩) (by show w.heap.size<wr.heap.size;have:=HSB.out;have:=HWS.out;omega)).trans HC.out))
       | ((with_reducible show wpList _ _ _ (⟨some 19,_,_,_,_,_⟩::_) _ _);go_must(refine Xa0 rfl 131 (.tmp 7) rfl wr.heap.size 131 IC _ Tryz.underlying131 rfl HSI.out R2.out ?_ ?_;go_simp)))
      have HB2:Hid (Below (w.heap.size+2) wr w2):=Hd (B2.out.mono (by have:=HSB.out;have:=HWS.out;omega));refine(HOB.out w2 (HB.out.trans HB2.out)).mono ?_;rintro e w3 ⟨rfl,hb3⟩;rw[HW.out];have HB3:Hid (Below (w.heap.size+2) wr w3):=Hd (HB2.out.trans (hb3.mono (by have:=B2.out.size;have:=HSB.out;have:=HWS.out;omega)));have HR3:Hid (Row w3 (w.heap.size+2) 129 (wcells s)):=Hd ((HR.out.below B2.out (by have:=HSB.out;have:=HWS.out;omega)).below hb3 (by have:=B2.out.size;have:=HSB.out;have:=HWS.out;omega));have d2:=((R2.out.below hb3 R2.out.lt).cell 2).trans HI2.out;clear hb3 HOB d4;go_wp2_with fail;refine(HTK.out w3 HR3.out HB3.out).mono ?_;rintro e w4 ⟨rfl,hr4,hb4⟩;rw[HT.out]at hr4 ⊢;simp only[Option.isSome_none,Option.getD_none]at hr4 ⊢;have HR4:=Hd hr4;have HB4:=Hd hb4;clear hr4 hb4;go_wp2_with fail;go_roundw
      case rel=>exact⟨k+1,_,by omega,by go_num,HST.out,rfl,rfl,HR4.out,(HB.out.trans HB3.out).trans HB4.out⟩
      case measure=>simp[intOf];omega
     | some s' =>
      have HST:Hid (run8 keys l (k+1)=s'):=Hd ((Xbi (keys:=keys) HX.out).trans (by rw[HS.out];exact Xih (k:=k) HW.out hb ht));have HT:=Hd ht;have HK2:=Hd (Xqv ht);clear hw hb ht;go_wp2_with (first
       | ((with_reducible show wpList _ _ _ (⟨some 15,_,_,_,_,_⟩::_) _ _);go_must(refine Xa3 rfl 131 (.tmp 14) rfl (a.add (k*3)) IC _ Tryz.underlying131 rfl HSI.out HAC.out ?_ ?_;go_simp))
       | ((with_reducible show wpList _ _ _ (⟨none,Op.store 131 _ _,_,_,_,_⟩::_) _ _);go_must(refine Xa1 rfl 131 (.tmp 7) (.tmp 15) rfl IC HSI.out HI1.out (by rw[HI3.out];rfl) ?_ ?_ ?_;go_simp;go_simp;intro w2 hr2 hb2 hz2;have R2:=Hd hr2;have B2:=Hd hb2;clear hr2 hb2 hz2;have d4:=(B2.out.cell (p:=⟨w.heap.size,4,none⟩) (by show w.heap.size<wr.heap.size;have:=HSB.out;have:=HWS.out;omega)).trans HC.out))
       | ((with_reducible show wpList _ _ _ (⟨some 19,_,_,_,_,_⟩::_) _ _);go_must(refine Xa0 rfl 131 (.tmp 7) rfl wr.heap.size 131 IC _ Tryz.underlying131 rfl HSI.out R2.out ?_ ?_;go_simp)))
      have HB2:Hid (Below (w.heap.size+2) wr w2):=Hd (B2.out.mono (by have:=HSB.out;have:=HWS.out;omega));refine(HOB.out w2 (HB.out.trans HB2.out)).mono ?_;rintro e w3 ⟨rfl,hb3⟩;rw[HW.out];have HB3:Hid (Below (w.heap.size+2) wr w3):=Hd (HB2.out.trans (hb3.mono (by have:=B2.out.size;have:=HSB.out;have:=HWS.out;omega)));have HR3:Hid (Row w3 (w.heap.size+2) 129 (wcells s)):=Hd ((HR.out.below B2.out (by have:=HSB.out;have:=HWS.out;omega)).below hb3 (by have:=B2.out.size;have:=HSB.out;have:=HWS.out;omega));have d2:=((R2.out.below hb3 R2.out.lt).cell 2).trans HI2.out;clear hb3 HOB d4;go_wp2_with fail;refine(HTK.out w3 HR3.out HB3.out).mono ?_;rintro e w4 ⟨rfl,hr4,hb4⟩;rw[HT.out]at hr4 ⊢;simp only[Option.isSome_some,Option.getD_some]at hr4 ⊢;have HR4:=Hd hr4;have HB4:=Hd hb4;clear hr4 hb4;go_wp2_with fail;go_roundw
      case rel=>exact⟨k+1,s',by omega,by go_num,HST.out,by rw[HK2.out.1],by rw[HK2.out.2],HR4.out,(HB.out.trans HB3.out).trans HB4.out⟩
      case measure=>simp[intOf];omega
   ·have hw:isW keys x.p=false:=by simpa using hw
    have HW:=Hd hw;have HST:Hid (run8 keys l (k+1)=⟨s.u,s.p,s.o+1,s.bad⟩):=Hd ((Xbi (keys:=keys) HX.out).trans (by rw[HS.out];exact Xrm (k:=k) HW.out));have hso:s.o≤k:=HO.out.o;clear hw HTK;go_wp2_with (first
     | ((with_reducible show wpList _ _ _ (⟨some 15,_,_,_,_,_⟩::_) _ _);go_must(refine Xa3 rfl 131 (.tmp 14) rfl (a.add (k*3)) IC _ Tryz.underlying131 rfl HSI.out HAC.out ?_ ?_;go_simp))
     | ((with_reducible show wpList _ _ _ (⟨none,Op.store 131 _ _,_,_,_,_⟩::_) _ _);go_must(refine Xa1 rfl 131 (.tmp 7) (.tmp 15) rfl IC HSI.out HI1.out (by rw[HI3.out];rfl) ?_ ?_ ?_;go_simp;go_simp;intro w2 hr2 hb2 hz2;have R2:=Hd hr2;have B2:=Hd hb2;clear hr2 hb2 hz2;have d4:=(B2.out.cell (p:=⟨w.heap.size,4,none⟩) (by show w.heap.size<wr.heap.size;have:=HSB.out;have:=HWS.out;omega)).trans HC.out))
     | ((with_reducible show wpList _ _ _ (⟨some 19,_,_,_,_,_⟩::_) _ _);go_must(refine Xa0 rfl 131 (.tmp 7) rfl wr.heap.size 131 IC _ Tryz.underlying131 rfl HSI.out R2.out ?_ ?_;go_simp)))
    have HB2:Hid (Below (w.heap.size+2) wr w2):=Hd (B2.out.mono (by have:=HSB.out;have:=HWS.out;omega));refine(HOB.out w2 (HB.out.trans HB2.out)).mono ?_;rintro e w3 ⟨rfl,hb3⟩;rw[HW.out];have HB3:Hid (Below (w.heap.size+2) wr w3):=Hd (HB2.out.trans (hb3.mono (by have:=B2.out.size;have:=HSB.out;have:=HWS.out;omega)));have HR3:Hid (Row w3 (w.heap.size+2) 129 (wcells s)):=Hd ((HR.out.below B2.out (by have:=HSB.out;have:=HWS.out;omega)).below hb3 (by have:=B2.out.size;have:=HSB.out;have:=HWS.out;omega));have d2:=((R2.out.below hb3 R2.out.lt).cell 2).trans HI2.out;clear hb3 HOB d4;go_wp2_with fail;go_roundw
    case rel=>exact⟨k+1,_,by omega,by go_num,HST.out,by go_num,rfl,HR3.out,HB.out.trans HB3.out⟩
    case measure=>simp[intOf];omega
  ·obtain rfl:k=n:=by omega
   have HP:Hid (wr.drew.cell? ⟨w.heap.size+2,6,none⟩=some (.int .u64 (s.p.getD 0))):=Hd (HR.out.drew.cell 6);have HRB2:Hid (Row wr.drew (w.heap.size+1) 46 [.int .u64 0,.int .u64 0,.int .i64 0]):=Hd (HRB.out.below HB.out (by omega)).drew;have HRU:=Hd HR.out.drew;have HUN:=Hd (units_ s (w.heap.size+2) wr.drew HR.out.drew (by have:=HO.out.o;omega));have HBD:Hid (Below w.heap.size w wr.drew):=Hd (HB0.out.trans (HB.out.drew.mono (by omega)));have HBU:Hid (bud8 s=[.int .u64 (units8 s),.int .u64 (s.p.getD 0),.int .i64 s.bad]):=Hd rfl;clear HO HOK HIN HKN HRW HR;go_upto_region 12 with fail
   refine wp_region_held_drew (S:=(fun V=>V.cell? ⟨w.heap.size+2,6,none⟩=some (.int .u64 (s.p.getD 0)))) (by kernel_rfl) HP.out (fun _=>?_);refine Tk 0 rfl ?_ HP.out ?_ ⟨?_,rfl⟩
   ·intro w hw;(try dsimp only at hw);go_simp;try with_reducible rfl
   try simp only[nm]
   refine Tk 2 rfl ?_ HP.out ?_ ⟨?_,rfl⟩
   ·intro w hw;(try dsimp only at hw);go_simp;try with_reducible rfl
   try simp only[nm]
   refine Tk 3 rfl ?_ HP.out ?_ ⟨?_,rfl⟩
   ·intro w hw;(try dsimp only at hw);go_simp;try with_reducible rfl
   try simp only[nm]
   refine Tk 4 rfl ?_ HP.out ?_ ⟨?_,rfl⟩
   ·intro w hw;(try dsimp only at hw);go_simp;try with_reducible rfl
   try simp only[nm]
   refine Tk 5 rfl ?_ HP.out ?_ ⟨?_,rfl⟩
   ·intro w hw;(try dsimp only at hw);go_simp;try with_reducible rfl
   try simp only[nm]
   refine Rl 1 rfl fun K hK=>?_
   go_simp;refine HUN.out.mono ?_;rintro e w1 ⟨rfl,rfl⟩;refine hK.out _ _ HP.out ?_;clear hK K;try simp only[nm]
   refine Tl 6 (v:=.agg ([.int .u64 (units8 s),.int .u64 (s.p.getD 0),.int .i64 s.bad]:List Value).toArray) rfl (Or.inl ⟨by rfl,fun wz hwz=>Xak wz _ _ _ rfl (by simp only[List.map_toArray,List.map_cons,List.map_nil];exact Xry _ _ _)⟩) HP.out ?_;try simp only[nm]
   refine Rl 7 rfl fun K hK=>?_
   refine Xah 46 (.tmp 2) (.tmp 41) rfl (w.heap.size+1) _ [.int .u64 (units8 s),.int .u64 (s.p.getD 0),.int .i64 s.bad] HRB2.out (Xaz _ _ _) rfl (Xfi _ _ _) (by go_simp) (by go_simp) ?_;intro w5 hr5 ht5;have R5:=Hd hr5;have B5:=Hd (HBD.out.trans (ht5.below (by omega)));have C5:Hid (w5.cell? ⟨w.heap.size+2,6,none⟩=some (.int .u64 (s.p.getD 0))):=Hd ((ht5.row HRU.out (by omega)).cell 6);clear hr5 ht5;refine hK.out _ _ C5.out ?_;clear hK K;try simp only[Act.put]
   refine wpAnyH_done (by kernel_rfl) ?_ _;go_wp2_with fail;refine bodyPost_ret (results_cell_row (h:=rfl) _ w5 (w.heap.size+1) 46 _ (0,0) _ (by rfl) R5.out.is Tryz.underlying46 rfl (Xaz _ _ _)) rfl ?_;exact⟨by rw[HIL.out,HS.out,HBU.out],B5.out⟩
section
variable{B lo:Nat}{w w':World}{gk gm:Nat}{A:Option Addr}{n c:Nat}{ins:List LIn}
end
def val:List Int→Int
 | []=>0
 | a::t=>a+65536*val t
def Digs(l:List Int):Prop:=∀i,0≤l.getD i 0∧l.getD i 0<65536
def dgs(x:Int)(k:Nat):List Int:=(List.range k).map fun i=>x / 65536 ^ i % 65536
theorem Xmc(x:Int)(k:Nat):(dgs x k).length=k:=by simp[dgs]
theorem Xu6(x:Int)(k:Nat):dgs x (k+1)=dgs x k++[x / 65536 ^ k % 65536]:=by simp[dgs,List.range_succ]
theorem Xnj(x:Int)(k:Nat):Digs (dgs x k):=by
 intro i;rw[List.getD_eq_getElem?_getD];by_cases h:i<k
 ·simp[dgs,h];omega
 ·rw[List.getElem?_eq_none (by rw[Xmc];omega)];simp
theorem Xmv(x:Int)(h:Word x):val (dgs x 4)=x:=by
 have h1:=h.1;have h2:=h.2;simp[dgs,List.range,List.range.loop,val];omega
theorem Xlu:∀(l:List Int) (j:Nat) (v:Int),j<l.length→val (l.set j v)=val l+(v - l.getD j 0)*65536 ^ j
 | [],_,_,h=>by simp at h
 | a::t,0,v,_=>by simp[val];omega
 | a::t,j+1,v,h=>by
  have ih:=Xlu t j v (by simpa using h);simp only[List.set_cons_succ,val,List.getD_cons_succ,ih];rw[Int.mul_add,Int.pow_succ,Int.mul_comm ((65536:Int) ^ j) 65536,Int.mul_left_comm];omega
theorem Xkb:∀(l:List Int) (k:Nat),k<l.length→val (l.take (k+1))=val (l.take k)+l.getD k 0*65536 ^ k
 | [],_,h=>by simp at h
 | a::t,0,_=>by simp[val]
 | a::t,k+1,h=>by
  have ih:=Xkb t k (by simpa using h);simp only[List.take_succ_cons,val,List.getD_cons_succ]at ih ⊢;rw[ih,Int.mul_add,Int.pow_succ,Int.mul_comm ((65536:Int) ^ k) 65536,Int.mul_left_comm];omega
theorem Xkq:∀(l:List Int) (k:Nat),k≤l.length→val l=val (l.take k)+65536 ^ k*val (l.drop k)
 | l,0,_=>by simp[val]
 | [],k+1,h=>by simp at h
 | a::t,k+1,h=>by
  have ih:=Xkq t k (by simpa using h);simp only[List.take_succ_cons,List.drop_succ_cons,val,ih];rw[Int.mul_add,Int.pow_succ,Int.mul_comm ((65536:Int) ^ k) 65536,Int.mul_assoc];omega
theorem Xq4{a:Int}{t:List Int}(h:Digs (a::t)):Digs t:=fun i=>by simpa using h (i+1)
theorem Xmy:∀(l:List Int),Digs l→0≤val l∧val l<65536 ^ l.length
 | [],_=>by simp[val]
 | a::t,h=>by
  have ih:=Xmy t (Xq4 h);have h0:=h 0;simp at h0;simp only[val,List.length_cons,Int.pow_succ];omega
theorem Xne{l:List Int}(h:Digs l)(j:Nat){v:Int}(h0:0≤v)(h1:v<65536):Digs (l.set j v):=by
 intro i;have:=h i;rw[List.getD_eq_getElem?_getD]at this ⊢;rw[List.getElem?_set];split
 ·split
  ·simp;omega
  ·simp
 ·exact this
theorem Xlm{l:List Int}(h:Digs l)(k:Nat):Digs (l.take k):=by
 intro i;have:=h i;rw[List.getD_eq_getElem?_getD]at this ⊢;rw[List.getElem?_take];split
 ·exact this
 ·simp
theorem Xig{l:List Int}(h:Digs l)(k:Nat):Digs (l.drop k):=by
 intro i;have:=h (k+i);rw[List.getD_eq_getElem?_getD]at this ⊢;rw[List.getElem?_drop];exact this
structure School(x y o:List Int)(i k:Nat)(c:Int):Prop where
 len:o.length=8
 digs:Digs o
 c0:0≤c
 c1:c<65536
 zero:∀j,i+4≤j→o.getD j 0=0
 eq:val o+c*65536 ^ (i+k)=val (x.take i)*val y+x.getD i 0*val (y.take k)*65536 ^ i
def round(x y o:List Int)(i k:Nat)(c:Int):Int:=o.getD (i+k) 0+x.getD i 0*y.getD k 0+c
theorem Xnk{x y o:List Int}{i k:Nat}{c:Int}(hx:Digs x)(hy:Digs y)(s:School x y o i k c):0≤round x y o i k c∧round x y o i k c<4294967296∧0≤x.getD i 0*y.getD k 0∧x.getD i 0*y.getD k 0<4294967296∧0≤o.getD (i+k) 0+x.getD i 0*y.getD k 0∧o.getD (i+k) 0+x.getD i 0*y.getD k 0<4294967296:=by
 have a:=hx i;have b:=hy k;have d:=s.digs (i+k);have c0:=s.c0;have c1:=s.c1;have m0:0≤x.getD i 0*y.getD k 0:=Int.mul_nonneg a.1 b.1;have m1:x.getD i 0*y.getD k 0≤65535*65535:=Int.mul_le_mul (by omega) (by omega) b.1 (by omega);unfold round;omega
theorem School.next{x y o:List Int}{i k:Nat}{c:Int}(hx:Digs x)(hy:Digs y)(ly:y.length=4)(hi:i<4)(hk:k<4)(s:School x y o i k c) :
 School x y (o.set (i+k) (round x y o i k c % 65536)) i (k+1) (round x y o i k c / 65536):=by
 have b:=Xnk hx hy s;refine⟨by simp[s.len],Xne s.digs _ (by omega) (by omega),by omega,by omega,?_,?_⟩
 ·intro j hj;have:=s.zero j hj;rw[List.getD_eq_getElem?_getD]at this ⊢;rw[List.getElem?_set_ne (by omega)];exact this
 ·have e:=s.eq;rw[Xlu o _ _ (by have:=s.len;omega),Xkb y k (by omega)];have r:round x y o i k c=o.getD (i+k) 0+x.getD i 0*y.getD k 0+c:=rfl;generalize round x y o i k c=R at *;have t:R % 65536+65536*(R / 65536)=R:=by omega
  generalize R % 65536=lo at *;generalize R / 65536=hi at *;have p1:hi*(65536:Int) ^ (i+(k+1))=(65536*hi)*65536 ^ (i+k):=by
   rw[←Nat.add_assoc,Int.pow_succ,←Int.mul_assoc,Int.mul_right_comm,Int.mul_comm hi 65536]
  have p2:x.getD i 0*(val (y.take k)+y.getD k 0*65536 ^ k)*65536 ^ i=x.getD i 0*val (y.take k)*65536 ^ i+x.getD i 0*y.getD k 0*65536 ^ (i+k):=by
   rw[Int.mul_add,Int.add_mul,Nat.add_comm i k,Int.pow_add,←Int.mul_assoc,←Int.mul_assoc]
  rw[p1,p2];have p3:65536*hi=R - lo:=by omega
  rw[p3];generalize x.getD i 0*y.getD k 0=m at *;generalize o.getD (i+k) 0=d at *;generalize (65536:Int) ^ (i+k)=P at *;generalize val (y.take k)=Y at *;generalize x.getD i 0*Y*65536 ^ i=Q at *;rw[r,Int.sub_mul,Int.sub_mul,Int.add_mul,Int.add_mul];omega
theorem School.over{x y o:List Int}{i:Nat}{c:Int}(hx:Digs x)(lx:x.length=4)(ly:y.length=4)(hi:i<4)(s:School x y o i 4 c):School x y (o.set (i+4) c) (i+1) 0 0:=by
 refine⟨by simp[s.len],Xne s.digs _ s.c0 s.c1,by omega,by omega,?_,?_⟩
 ·intro j hj;have:=s.zero j (by omega);rw[List.getD_eq_getElem?_getD]at this ⊢;rw[List.getElem?_set_ne (by omega)];exact this
 ·have e:=s.eq;rw[Xlu o _ _ (by have:=s.len;omega),s.zero (i+4) (by omega),Xkb x i (by omega)];rw[List.take_of_length_le (show y.length≤4 by omega)]at e;simp only[List.take_zero,val,Int.mul_zero,Int.zero_mul,Int.add_zero,Int.sub_zero];rw[e,Int.add_mul,Int.mul_right_comm]
theorem Xnb:(Tryz.prog.info? 44).map (fun i=>(i.zero,i.size,i.bytes))=some (some (.int .u64 0),1,8):=by kernel_rfl
theorem cv_one(k:IntKind)(zs:List Int):∀u ∈ cv k zs,u.oneCell'=true:=by
 intro u hu;simp only[cv,List.mem_map]at hu;obtain⟨z,_,rfl⟩:=hu;rfl
theorem Xtd(k:IntKind)(xs ys:List Int):cv k (xs++ys)=cv k xs++cv k ys:=by simp[cv]
theorem Xpb{w w':World}{base:Nat}{e:TypeId}{v:Value}{n:Nat}{xs:List Value}(h:w.ownsRow base e 1 v n xs){B:Nat}(hB:w.heap.size≤B)(hb:Below B w w'):w'.ownsRow base e 1 v n xs:=by
 refine⟨h.1,?_⟩;rcases h.2 with h2 | ⟨g,cap,cur,hv,hg,hh,r⟩
 ·exact .inl h2
 ·have:g<w.heap.size:=(Array.getElem?_eq_some_iff.1 hh).1;exact .inr ⟨g,cap,cur,hv,hg,(hb.block g (by omega)).trans hh,r⟩
theorem Sees.take{w:World}{B n:Nat}{A:Option Addr}{xs:List Value}(h:Sees w B A n xs)(k:Nat)(hk:k≤n):Sees w B A k (xs.take k):=
 ⟨by have:=h.len;simp;omega,fun i u hu=>by
  rw[List.getElem?_take]at hu;split at hu
  ·exact h.cell i u hu
  ·cases hu⟩
theorem Xwv(xs ys:List Int):(xs++ys).sum=xs.sum+ys.sum:=by simp
theorem Xvg(x:Int)(h:Word x)(j:Nat):IntKind.u64.wrap ((x / 65536 ^ j).tdiv 65536)=x / 65536 ^ (j+1):=by
 have p:(0:Int)<65536 ^ j:=Int.pow_pos (by omega);have a:=Int.ediv_nonneg h.1 (Int.le_of_lt p);have b:x / 65536 ^ j≤x:=Int.ediv_le_self _ h.1;have e:x / 65536 ^ (j+1)=x / 65536 ^ j / 65536:=by rw[Int.pow_succ,←Int.ediv_ediv_of_nonneg (Int.le_of_lt p)]
 have:=h.2;rw[e,Int.tdiv_eq_ediv_of_nonneg a,IntKind.wrap_u64];omega
theorem Xs7(x:Int)(h:Word x)(w:World) :
 Calls Tryz.prog 160 #[.int .u64 x] w fun e w'=>∃A c,e=.returned (.slice A 4 c)∧Sees w' w'.heap.size A 4 (cv .u64 (dgs x 4))∧Below w.heap.size w w':=by
 obtain⟨i0,hi,hz0,hz1,hz2⟩:=info_parts Xnb;have o0:=World.ownsRow_nil w w.heap.size 44 1;have b0:=Br w.heap.size w;generalize hB:w.heap.size=B at *;go_enter Tryz.func160,Tryz.ntmps160
 go_wp2;go_loopw [0,3,4] (fun a v i wr=>∃j:Nat,j≤4∧i=.int .i64 j∧a=.int .u64 (x / 65536 ^ j)∧wr.ownsRow B 44 1 v j (cv .u64 (dgs x j))∧Below B w wr) (fun _ _ i _=>4 - (intOf i).toNat)
 case atStart=>exact⟨0,Nat.zero_le _,rfl,by simp,o0,b0⟩
 case round =>
  obtain⟨j,hj,rfl,rfl,ho,hb⟩:=hrel;by_cases hlt:j<4
  ·have Q:=Hd (Xvg x h j);have Q2:=Q.out;have D:=Hd (Xu6 x j);have R0:(x / 65536 ^ j).tmod 65536=x / 65536 ^ j % 65536:=Int.tmod_eq_emod_of_nonneg (Int.ediv_nonneg h.1 (Int.le_of_lt (Int.pow_pos (by omega))));generalize hy:x / 65536 ^ j=y at *;generalize hy2:x / 65536 ^ (j+1)=y2 at *;have H2:=Hd hy2;clear hy hy2;have O:=Hd (Xpb ho (Lr _) ((Br wr.heap.size wr).alloc (Lr _) (.cells #[.int .u64 (y % 65536)] 44)));have hsz:B≤wr.heap.size:=by have:=hb.size;omega
   have R1:Row (wr.alloc (.cells #[.int .u64 (y % 65536)] 44)) wr.heap.size 44 (cv .u64 [y % 65536]):=Row.new' _ _ _ rfl;have S1:=Hd R1.sees0;have hbA:=hb.alloc hsz (.cells #[.int .u64 (y % 65536)] 44);clear ho R1;go_wp2_with (at_builtin;go_must(refine Xbw rfl (.tmp 9) (.tmp 12) 156 rfl B 44 i0 _ 8 Tryz.underlying156 hi hz0 hz1 hz2 rfl _ j _ rfl O.out _ (some ⟨wr.heap.size,0,none⟩) 1 1 _ rfl S1.out (cv_one _ _) (by unfold maxLen;omega) (by omega) (by have:=hbA.size;omega) ?_);intro v7 w7 ho7 hg7 _;have hb7:=Xkn hbA O.out (Lr _) (by have:=hbA.size;omega) hg7;rw[←Xtd]at ho7)
   go_roundw
   case rel=>exact⟨j+1,by omega,by go_num,by rw[H2.out],by rw[D.out];exact ho7,hb7⟩
   case measure=>simp[intOf];omega
  ·have hj4:j=4:=by omega
   subst hj4;obtain⟨A,c,rfl⟩:=Xcd ho;have O:=Hd ho;clear ho;go_wp2;go_ret;exact⟨A,c,rfl,Sees.of_own O.out,hb⟩
theorem Xu2(l:List Int)(k:Nat)(h:k<l.length):val (l.drop k)=l.getD k 0+65536*val (l.drop (k+1)):=by
 rw[List.drop_eq_getElem_cons h,List.getD_eq_getElem?_getD,List.getElem?_eq_getElem h];rfl
theorem Xo8(l:List Int)(hd:Digs l)(hl:l.length=4)(k:Nat)(hk:k<4):IntKind.u64.wrap (IntKind.u64.wrap (65536*val (l.drop (k+1)))+l.getD k 0)=val (l.drop k):=by
 have a:=Xmy _ (Xig hd k);have b:=Xmy _ (Xig hd (k+1));have p:(65536:Int) ^ (l.drop k).length≤18446744073709551616:=by
  have h1:(65536:Nat) ^ (l.drop k).length≤65536 ^ 4:=Nat.pow_le_pow_right (by omega) (by simp;omega);have h2:((65536 ^ (l.drop k).length:Nat):Int)=(65536:Int) ^ (l.drop k).length:=by simp
  omega
 have d:=hd k;rw[Xu2 l k (by omega)]at a ⊢;generalize val (l.drop (k+1))=v at *;simp only[IntKind.wrap_u64];omega
theorem Xgr(A:Option Addr)(c:Nat)(l:List Int)(w:World)(S:Nat)(hx:Sees w S A 4 (cv .u64 l))(hd:Digs l) :
 Calls Tryz.prog 151 #[.slice A 4 c] w fun e w'=>e=.returned (.int .u64 (val l))∧w=w':=by
 have hl:l.length=4:=by have:=hx.len;rwa [Xdj]at this
 have lx:=Hd hl;clear hl;go_enter Tryz.func151,Tryz.ntmps151
 go_wp2;go_loop [3,4] (fun v i=>∃(k:Nat),k≤4∧i=.int .i64 ((k:Int) - 1)∧v=.int .u64 (val (l.drop k))) (fun _ i=>(intOf i+1).toNat)
 case atStart=>exact⟨4,Lr _,rfl,by rw[List.drop_eq_nil_of_le (by have:=lx.out;omega)];rfl⟩
 case round =>
  obtain⟨k,hk,rfl,rfl⟩:=hrel;by_cases hlt:0<k
  ·obtain⟨k,rfl⟩:∃j,k=j+1:=⟨k - 1,by omega⟩;obtain⟨a,rfl,ha,hca⟩:=hx.num (i:=k) (by omega);have HS:=Hd (Xo8 l hd lx.out k (by omega));generalize l.getD k 0=z at *;generalize val (l.drop (k+1))=p at *;have hc1:(((k+1:Nat):Int) - 1)=(k:Int):=by omega
   rw[hc1];clear hc1;go_wp2;go_round
   case rel=>exact⟨k,by omega,by go_num,by rw[HS.out]⟩
   case measure=>simp[intOf]
  ·have hk0:k=0:=by omega
   subst hk0;have hc1:(((0:Nat):Int) - 1) = -1:=by omega
   rw[hc1];clear hc1;go_wp2;go_ret;exact⟨rfl,rfl⟩
theorem Xoc(n:Nat):(madeCells (Value.int .u64 0).cells (n*1)).toList=cv .u64 (List.replicate n 0):=by
 apply List.ext_getElem?
 intro i;simp[madeCells,cv,Value.cells];by_cases h:i<n <;> simp[h,Nat.mod_one]
theorem Xvv(k:IntKind)(l:List Int)(j:Nat)(z:Int):(cv k l).set j (.int k z)=cv k (l.set j z):=by simp[cv,List.map_set]
theorem Xma{x y o:List Int}{i k:Nat}{c:Int}(hx:Digs x)(hy:Digs y)(s:School x y o i k c) :
 ∃m t R lo hi,IntKind.u64.wrap (x.getD i 0*y.getD k 0)=m∧IntKind.u64.wrap (o.getD (i+k) 0+m)=t∧IntKind.u64.wrap (t+c)=R∧R.tmod 65536=lo∧IntKind.u64.wrap (R.tdiv 65536)=hi ∧
  lo=round x y o i k c % 65536∧hi=round x y o i k c / 65536:=by
 obtain⟨a,b,d,e,f,g⟩:=Xnk hx hy s;have r:round x y o i k c=o.getD (i+k) 0+x.getD i 0*y.getD k 0+c:=rfl;refine⟨x.getD i 0*y.getD k 0,o.getD (i+k) 0+x.getD i 0*y.getD k 0,round x y o i k c,_,_,?_,?_,?_,Int.tmod_eq_emod_of_nonneg a,?_,rfl,rfl⟩
 ·rw[IntKind.wrap_u64];omega
 ·rw[IntKind.wrap_u64];omega
 ·rw[IntKind.wrap_u64,←r];omega
 ·rw[Int.tdiv_eq_ediv_of_nonneg a,IntKind.wrap_u64];omega
theorem Xuv(a b:Int)(ha:Word a)(hb:Word b)(w:World) :
 Calls Tryz.prog 150 #[.int .u64 a,.int .u64 b] w fun e w'=>∃g o,e=.returned (.slice (some ⟨g,0,none⟩) 8 8)∧Row w' g 44 (cv .u64 o)∧o.length=8∧Digs o∧val o=a*b∧Below w.heap.size w w':=by
 obtain⟨i0,hi,hz0,hz1,hz2⟩:=info_parts Xnb;have D1:=fun w=>Xs7 a ha w
 have D2:=fun w=>Xs7 b hb w
 have vx:=Hd (Xmv a ha);have vy:=Hd (Xmv b hb);have dx:=Xnj a 4;have dy:=Xnj b 4;have lx:=Hd (Xmc a 4);have ly:=Hd (Xmc b 4);generalize dgs a 4=x at *;generalize dgs b 4=y at *;go_enter Tryz.func150,Tryz.ntmps150
 go_wp2_with fail;refine(D1 _).mono ?_;rintro e w1 ⟨A1,c1,rfl,hs1,hb1⟩;go_wp2_with fail;refine(D2 _).mono ?_;rintro e w2 ⟨A2,c2,rfl,hs2,hb2⟩;have hb3:=hb1.trans (hb2.mono hb1.size);have hs1':=(hs1.below hb2).more (B':=w2.heap.size) hb2.size;have hsz:=hb3.size;clear hs1 hb1 hb2;go_wp2_with (at_make;go_must(refine wpList_make_full _ rfl (.const (.int .i64 8)) (.const (.int .i64 8)) 156 rfl w2.heap.size 44 i0 _ 1 Tryz.underlying156 hi hz0 hz1 .i64 .i64 _ _ 8 rfl rfl (by simp) (by simp) (by rw[hz2];omega) (by unfold maxLen;omega) (Lr _) ?_;intro w3 hown hgrow);rw[Xoc]at hown;have hrow:=Row.of_own hown;have hb4:=(Br w2.heap.size w2).grown hgrow (Lr _) (fun k hk=>by cases hk))
 have hb5:=hb3.trans (hb4.mono hsz);have S0:School x y (List.replicate 8 0) 0 0 0:=⟨by simp,fun i=>by
  rw[List.getD_eq_getElem?_getD,List.getElem?_replicate];split <;> simp,by omega,by omega,fun j _=>by
  rw[List.getD_eq_getElem?_getD,List.getElem?_replicate];split <;> simp,by simp[val,List.replicate]⟩
 have RR:=Hd hrow;clear hrow hown hgrow;have hs1'':=hs1'.below hb4;have hs2'':=hs2.below hb4;clear hs1' hs2;generalize hg:w2.heap.size=g at *;go_loopw [8] (fun i wr=>∃(j:Nat) (o:List Int),j≤4∧i=.int .i64 j∧Row wr g 44 (cv .u64 o)∧School x y o j 0 0∧Below w.heap.size w wr∧Below g w3 wr) (fun i _=>4 - (intOf i).toNat)
 case atStart=>exact⟨0,_,Nat.zero_le _,rfl,RR.out,S0,hb5,Br _ _⟩
 case round =>
  obtain⟨i,o,hi4,rfl,hr,hsc,hbr,hbg⟩:=hrel;by_cases hlt:i<4
  ·go_wp2;go_loopw [9,10] (fun cc kk wr=>∃(k:Nat) (o:List Int) (c:Int),k≤4∧kk=.int .i64 k∧cc=.int .u64 c∧Row wr g 44 (cv .u64 o)∧School x y o i k c∧Below w.heap.size w wr∧Below g w3 wr) (fun _ kk _=>4 - (intOf kk).toNat)
   case atStart=>exact⟨0,_,0,Nat.zero_le _,rfl,rfl,hr,hsc,hbr,hbg⟩
   case round =>
    clear hr hsc hbr hbg o;obtain⟨k,o,c,hk4,rfl,rfl,hr,hsc,hbr,hbg⟩:=hrel;by_cases hkt:k<4
    ·obtain⟨ax,rfl,hax,hcx⟩:=(hs1''.below hbg).num hlt;obtain⟨ay,rfl,hay,hcy⟩:=(hs2''.below hbg).num hkt;have co:=hr.cell (i+k);have fo:=hr.frozen (i+k);rw[cv_at (show i+k<o.length by rw[hsc.len];omega)]at co;obtain⟨m,t,R,lo,hi,E1,E2,E3,E4,E5,E6,E7⟩:=Xma dx dy hsc;have HR:=Hd hr;have N:=hsc.next dx dy ly.out hlt hkt;rw[←E6,←E7]at N;clear hr hsc E6 E7;generalize x.getD i 0=p at *;generalize y.getD k 0=q at *;generalize o.getD (i+k) 0=d at *;have i1:(0:Int)≤(i:Int)+k:=by omega
     have i2:(i:Int)+k<8:=by omega
     have i3:(i:Int)<4:=by omega
     have i4:(k:Int)<4:=by omega
     go_wp2;go_quiet (fail)
     go_wp2;go_roundw
     case rel =>
      refine⟨k+1,_,_,by omega,by go_num,rfl,?_,N,(below_drewN hbr nq).setCell hsz _,(below_drewN hbg nq).setCell (Lr _) _⟩;have h:=(HR.out.drewN nq).set_ (i+k) (.int .u64 lo);rw[Xvv]at h;exact h
     case measure=>simp[intOf];omega
    ·have hk4':k=4:=by omega
     subst hk4';have co:=hr.cell (i+4);have fo:=hr.frozen (i+4);rw[cv_at (show i+4<o.length by rw[hsc.len];omega)]at co;have HR:=Hd hr;have N:=hsc.over dx lx.out ly.out hlt;clear hr hsc;generalize o.getD (i+4) 0=d at *;have i1:(0:Int)≤(i:Int)+4:=by omega
     have i2:(i:Int)+4<8:=by omega
     go_wp2;go_roundw
     case rel =>
      refine⟨i+1,_,by omega,by go_num,?_,N,hbr.setCell hsz _,hbg.setCell (Lr _) _⟩;have h:=HR.out.set_ (i+4) (.int .u64 c);rw[Xvv]at h;exact h
     case measure=>simp[intOf];omega
  ·have hi4':i=4:=by omega
   subst hi4';have HR:=Hd hr;have l8:=hsc.len;have dg:=hsc.digs;have ev:=hsc.eq;rw[List.take_of_length_le (by have:=lx.out;omega),vx.out,vy.out]at ev;have ev2:val o=a*b:=by
    have h4:x.getD 4 0=0:=by rw[List.getD_eq_getElem?_getD,List.getElem?_eq_none (by have:=lx.out;omega)];rfl
    rw[h4]at ev;simpa using ev
   have EV:=Hd ev2;clear hr hsc ev ev2;go_wp2;go_ret;exact⟨g,o,rfl,HR.out,l8,dg,EV.out,hbr⟩
theorem Xmb(o:List Int)(hl:o.length=8)(hd:Digs o){N:Int}(h:val o=N)(h0:0≤N):val (o.drop 4)=N / 18446744073709551616∧val (o.take 4)=N % 18446744073709551616:=by
 have s:=Xkq o 4 (by omega);have a:=Xmy _ (Xlm hd 4);rw[show(o.take 4).length=4 by simp;omega]at a;rw[h]at s;have p:(65536:Int) ^ 4=18446744073709551616:=by decide
 rw[p]at a s;omega
theorem Xwd(a b:Int)(ha:Word a)(hb:Word b)(w:World) :
 Calls Tryz.prog 136 #[.int .u64 a,.int .u64 b] w fun e w'=>e=.returned (.tuple #[.int .u64 (a*b / 18446744073709551616),.int .u64 (a*b % 18446744073709551616)])∧Below w.heap.size w w':=by
 have P:=Xuv a b ha hb w;have pp:=Hd (Xcq ha hb).1;obtain⟨h,eh⟩:∃h,a*b / 18446744073709551616=h:=⟨_,rfl⟩;obtain⟨l,el⟩:∃l,a*b % 18446744073709551616=l:=⟨_,rfl⟩;rw[eh,el];have EH:=Hd eh;have EL:=Hd el;clear eh el;go_enter Tryz.func136,Tryz.ntmps136
 go_wp2_with fail;refine P.mono ?_;rintro e w1 ⟨g,o,rfl,hr,hl,hd,hv,hbel⟩;obtain⟨v1,v2⟩:=Xmb o hl hd hv pp.out;have s1:=hr.sees 4;have s2:=(hr.sees 0).take 4 (by rw[Xdj];omega);rw[Xdj,hl]at s1;have s1':Sees w1 w1.heap.size (some ⟨g,4,none⟩) 4 (cv .u64 (o.drop 4)):=by simpa [cv]using s1
 have s2':Sees w1 w1.heap.size (some ⟨g,0,none⟩) 4 (cv .u64 (o.take 4)):=by simpa [cv]using s2
 have C1:∀n,Calls Tryz.prog 151 #[.slice (some ⟨g,4,none⟩) 4 4] (w1.drewN n) fun e w'=>e=.returned (.int .u64 h)∧w'=w1.drewN n:=fun n=>by
  have:=Xgr _ 4 _ (w1.drewN n) _ (s1'.drewN n) (Xig hd 4);rw[v1,EH.out]at this;exact this.mono fun e w' ⟨h,h'⟩=>⟨h,h'.symm⟩
 have C2:∀n,Calls Tryz.prog 151 #[.slice (some ⟨g,0,none⟩) 4 8] (w1.drewN n) fun e w'=>e=.returned (.int .u64 l)∧w'=w1.drewN n:=fun n=>by
  have:=Xgr _ 8 _ (w1.drewN n) _ (s2'.drewN n) (Xlm hd 4);rw[v2,EL.out]at this;exact this.mono fun e w' ⟨h,h'⟩=>⟨h,h'.symm⟩
 have H1:=Hd C1;have H2:=Hd C2;clear C1 C2 s1 s2 s1' s2' v1 v2 hr;go_wp2;go_quiet (first | (go_at_call 151;with_reducible refine Calls.quiet_of_same (H1.out _)) | (go_at_call 151;with_reducible refine Calls.quiet_of_same (H2.out _)))
 go_wp2;go_ret2
 exact⟨rfl,below_drewN hbel nq⟩
theorem Xk7(A:Option Addr)(n c:Nat)(zs:List Int)(w:World)(S:Nat)(hx:Sees w S A n (cv .u64 zs))(hn:n≤maxLen)(hz:∀z ∈ zs,Word z) :
 Calls Tryz.prog 90 #[.slice A n c] w fun e w'=>e=.returned (.int .u64 (held zs))∧w=w':=by
 unfold maxLen at hn;have lx:=Hd (show zs.length=n by have:=hx.len;rwa [Xdj]at this);go_enter Tryz.func90,Tryz.ntmps90
 go_wp2;go_loop [3,4] (fun v i=>∃j:Nat,j≤n∧i=.int .i64 j∧v=.int .u64 (zs.take j).sum∧(zs.take j).sum≤18446744073709551615) (fun _ i=>n - (intOf i).toNat)
 case atStart=>exact⟨0,Nat.zero_le _,rfl,rfl,by simp⟩
 case round =>
  obtain⟨j,hj,rfl,rfl,hs⟩:=hrel;by_cases hlt:j<n
  ·obtain⟨a,rfl,ha,hca⟩:=hx.num hlt;have wz:=Xhq hz j;have s0:=Xf4 (Xic hz j);have E:=Xnh zs j (by have:=lx.out;omega);have s1:=Xf4 (Xic hz (j+1));have s2:(zs.take (j+1)).sum≤zs.sum:=by
    have h1:=Xwv (zs.take (j+1)) (zs.drop (j+1));rw[List.take_append_drop]at h1;have h2:=Xf4 (zs:=zs.drop (j+1)) (fun z hz'=>hz z (List.mem_of_mem_drop hz'));omega
   have F:IntKind.u64.wrap (18446744073709551615 - (zs.take j).sum)=18446744073709551615 - (zs.take j).sum:=by rw[IntKind.wrap_u64];omega
   by_cases hc:18446744073709551615 - (zs.take j).sum<zs.getD j 0
   ·have HH:=Hd (show held zs=18446744073709551615 by unfold held cap;rw[if_pos (by omega)]);clear s1 s2 E;generalize zs.getD j 0=z at *;generalize (zs.take j).sum=s at *;go_wp2;go_ret;rw[HH.out];exact⟨rfl,rfl⟩
   ·have G:IntKind.u64.wrap ((zs.take j).sum+zs.getD j 0)=(zs.take (j+1)).sum:=by rw[IntKind.wrap_u64,E];have:=wz.1;omega
    have hs':(zs.take (j+1)).sum≤18446744073709551615:=by omega
    clear s1 s2 E;generalize zs.getD j 0=z at *;generalize (zs.take j).sum=s at *;generalize hs2:(zs.take (j+1)).sum=s' at *;have H2:=Hd hs2;clear hs2;go_wp2;go_round
    case rel=>exact⟨j+1,by omega,by go_num,by rw[H2.out],by rw[H2.out];exact hs'⟩
    case measure=>simp[intOf];omega
  ·have hj':j=n:=by omega
   have hn':¬n<n:=by omega
   have HH:=Hd (show held zs=(zs.take j).sum by
    rw[List.take_of_length_le (by have:=lx.out;omega)]at hs ⊢;unfold held cap;rw[if_neg (by omega)])
   subst hj';generalize (zs.take j).sum=s at *;go_wp2;go_ret;rw[HH.out];exact⟨rfl,rfl⟩
theorem Xmu(x:Int)(h:Word x):bits .and .u64 x 1=x % 2:=by
 obtain⟨n,rfl,hn⟩:=h.nat;have e:=bits_and_u64_nat n 1 hn (by omega);rw[show n &&& 1=n % 2 from Nat.and_one_is_mod n]at e;rw[show((1:Nat):Int)=1 from rfl]at e;rw[e];omega
theorem Xj6{x:Int}(h:Word x)(k:Nat):Word (x / 2 ^ k):=by
 have p:(0:Int)<2 ^ k:=Int.pow_pos (by omega);have:x / 2 ^ k≤x:=Int.ediv_le_self _ h.1;exact⟨Int.ediv_nonneg h.1 (Int.le_of_lt p),by have:=h.2;omega⟩
theorem bit_hi{N:Int}(hN:0≤N)(hh:Word (N / 18446744073709551616))(k:Nat)(hk:63<k):bits .and .u64 (N / 18446744073709551616 / 2 ^ (k - 64)) 1=N / 2 ^ k % 2:=by
 have e:(2:Int) ^ k=18446744073709551616*2 ^ (k - 64):=by
  rw[show(18446744073709551616:Int)=2 ^ 64 from rfl,←Int.pow_add];congr 1;omega
 rw[Xmu _ (Xj6 hh _),e,←Int.ediv_ediv_of_nonneg (by omega)]
theorem bit_lo{N:Int}(k:Nat)(hk:k≤63):bits .and .u64 (N % 18446744073709551616 / 2 ^ k) 1=N / 2 ^ k % 2:=by
 rw[Xmu _ (Xj6 (Xjq N) _)];have p:(0:Int)<2 ^ k:=Int.pow_pos (by omega);have e:(18446744073709551616:Int)=2 ^ k*(2*2 ^ (63 - k)):=by
  rw[show(18446744073709551616:Int)=2 ^ 64 from rfl,←Int.pow_succ',←Int.pow_add];congr 1;omega
 have d:=Int.mul_ediv_add_emod N 18446744073709551616;have f:N=N % 18446744073709551616+2 ^ k*(2*2 ^ (63 - k)*(N / 18446744073709551616)):=by
  rw[←Int.mul_assoc,←e];omega
 have g:N / 2 ^ k=N % 18446744073709551616 / 2 ^ k+2*(2 ^ (63 - k)*(N / 18446744073709551616)):=by
  conv=>lhs;rw[f]
  rw[Int.add_mul_ediv_left _ _ (by omega),Int.mul_assoc]
 rw[g];omega
theorem Xuq{N d:Int}(hN:0≤N)(hd:0<d)(hd':d<18446744073709551616)(k:Nat) :
 ∃x y t X Y z:Int,N / 2 ^ (k+1) % d=x∧N / 2 ^ (k+1) / d=y∧N / 2 ^ k % 2=t∧N / 2 ^ k % d=X∧N / 2 ^ k / d=Y∧IntKind.u64.wrap (IntKind.u64.wrap (2*x)+t)=z∧0≤y ∧
  ((9223372036854775808≤x∧IntKind.u64.wrap (z - d)=X∧Y=2*y+1)∨(¬9223372036854775808≤x∧d≤z∧IntKind.u64.wrap (z - d)=X∧Y=2*y+1)∨(¬9223372036854775808≤x∧¬d≤z∧z=X∧Y=2*y)):=by
 have p:(0:Int)<2 ^ k:=Int.pow_pos (by omega);have e:N / 2 ^ (k+1)=N / 2 ^ k / 2:=by rw[Int.pow_succ,←Int.ediv_ediv_of_nonneg (Int.le_of_lt p)]
 rw[e];have hP:0≤N / 2 ^ k:=Int.ediv_nonneg hN (Int.le_of_lt p);generalize N / 2 ^ k=P at *;have q0:0≤P / 2:=by omega
 have q1:P=2*(P / 2)+P % 2:=by omega
 have r0:=Int.emod_nonneg (P / 2) (show d≠0 by omega);have r1:=Int.emod_lt_of_pos (P / 2) hd;have r2:=Int.mul_ediv_add_emod (P / 2) d;have y0:0≤P / 2 / d:=Int.ediv_nonneg q0 (by omega);have t0:0≤P % 2∧P % 2<2:=by omega
 have key:∀c Z:Int,0≤Z→Z<d→P=d*c+Z→P % d=Z∧P / d=c:=by
  intro c Z z0 z1 h;subst h;constructor
  ·rw[Int.add_comm,Int.add_mul_emod_self_left];exact Int.emod_eq_of_lt z0 z1
  ·rw[Int.add_comm,Int.add_mul_ediv_left _ _ (by omega),Int.ediv_eq_zero_of_lt z0 z1];omega
 refine⟨_,_,_,_,_,_,rfl,rfl,rfl,rfl,rfl,rfl,y0,?_⟩;generalize P / 2 % d=x at *;generalize P / 2 / d=y at *;generalize P % 2=t at *;simp only[IntKind.wrap_u64];have m:d*(2*y)=2*(d*y):=by rw[Int.mul_left_comm]
 have m':d*(2*y+1)=2*(d*y)+d:=by rw[Int.mul_add,m,Int.mul_one]
 generalize hdy:d*y=D at *;by_cases c:d≤2*x+t
 ·obtain⟨k1,k2⟩:=key (2*y+1) (2*x+t - d) (by omega) (by omega) (by rw[m'];omega);rw[k1,k2];by_cases c2:9223372036854775808≤x
  ·left;exact⟨c2,by omega,rfl⟩
  ·right;left;exact⟨c2,by omega,by omega,rfl⟩
 ·obtain⟨k1,k2⟩:=key (2*y) (2*x+t) (by omega) (by omega) (by rw[m];omega);rw[k1,k2];right;right
  exact⟨by omega,by omega,by omega,rfl⟩
theorem Xwc{a b d:Int}(ha:Word a)(hb:Word b)(hd:0<d)(up:Bool)(k:Nat)(h:9223372036854775808≤a*b / 2 ^ (k+1) / d):times a b d up=18446744073709551615:=by
 have p:=Xcq ha hb;unfold times;rw[if_pos];have e:(0:Int)<2 ^ k:=Int.pow_pos (by omega);have h1:9223372036854775808*d≤a*b / 2 ^ (k+1):=by
  have:=Int.mul_le_of_le_ediv hd h;exact this
 have h2:9223372036854775808*d*2 ^ (k+1)≤a*b:=Int.mul_le_of_le_ediv (Int.pow_pos (by omega)) h1;have h3:18446744073709551616*d≤9223372036854775808*d*2 ^ (k+1):=by
  rw[Int.pow_succ,Int.mul_comm ((2:Int) ^ k) 2,←Int.mul_assoc];have:9223372036854775808*d*2*1≤9223372036854775808*d*2*2 ^ k:=Int.mul_le_mul_of_nonneg_left (by omega) (by omega);omega
 exact Int.le_ediv_of_mul_le (by omega) (by omega)
theorem Xsg{a b d:Int}(ha:Word a)(hb:Word b)(hd:0<d):a*b / 2 ^ 128=0:=by
 have p:=Xcq ha hb;exact Int.ediv_eq_zero_of_lt p.1 (by omega)
theorem Xwq{a b d:Int}(ha:Word a)(hb:Word b)(hd:0<d)(up:Bool)(h:a*b / d≤18446744073709551615) :
 times a b d up=if up=true∧0<a*b % d then cap (a*b / d+1)else a*b / d:=by
 have p:=Xcq ha hb;unfold times;rw[if_neg];intro c;have h1:18446744073709551616*d≤a*b:=by
  have:=Int.mul_le_of_le_ediv (show(0:Int)<18446744073709551616 by omega) c;omega
 have:=Int.le_ediv_of_mul_le hd h1;omega
theorem Xeu(a b d:Int)(up:Bool)(w:World)(ha:Word a)(hb:Word b)(hd:Word d)(hd0:0<d) :
 Calls Tryz.prog 93 #[.int .u64 a,.int .u64 b,.int .u64 d,.bool up] w fun e w'=>e=.returned (.int .u64 (times a b d up))∧Below w.heap.size w w':=by
 have M:=Xwd a b ha hb w;have z0:(d==0)=false:=by simp;omega
 have hh:=Xtc ha hb;have pp:=Xcq ha hb;have BIG:=Hd (Xwc ha hb hd0 up);have START:=Hd (Xsg ha hb hd0);have END:=Hd (Xwq ha hb hd0 up);obtain⟨T,eT⟩:∃T,times a b d up=T:=⟨_,rfl⟩;rw[eT]at BIG END ⊢;clear eT;obtain⟨N,eN⟩:∃N,a*b=N:=⟨_,rfl⟩;rw[eN]at M hh pp BIG START END;clear eN;obtain⟨hi,eh⟩:∃h,N / 18446744073709551616=h:=⟨_,rfl⟩;obtain⟨lo,el⟩:∃l,N % 18446744073709551616=l:=⟨_,rfl⟩;rw[eh,el]at M;have EH:=Hd eh;have EL:=Hd el;clear eh el;go_enter Tryz.func93,Tryz.ntmps93
 go_wp2_with fail;refine M.mono ?_;rintro e w1 ⟨rfl,hbel⟩;go_wp2;go_loop [11,12,13] (fun r n i=>∃(k:Nat),k≤128∧i=.int .i64 ((k:Int) - 1)∧r=.int .u64 (N / 2 ^ k % d)∧n=.int .u64 (N / 2 ^ k / d)∧N / 2 ^ k / d≤18446744073709551615) (fun _ _ i=>(intOf i+1).toNat)
 case atStart=>exact⟨128,Lr _,rfl,by rw[START.out];simp,by rw[START.out];simp,by rw[START.out];simp⟩
 case round =>
  obtain⟨k,hk,rfl,rfl,rfl,hq⟩:=hrel;by_cases hlt:0<k
  ·obtain⟨k,rfl⟩:∃j,k=j+1:=⟨k - 1,by omega⟩;have hc1:(((k+1:Nat):Int) - 1)=(k:Int):=by omega
   rw[hc1];clear hc1;obtain⟨x,y,t,X,Y,z,hx,hy,ht,hX,hY,hz,y0,hw⟩:=Xuq pp.1 hd0 hd.2 k;have HB:=Hd (BIG.out k);have B1:63<k→bits .and .u64 (hi / 2 ^ (k - 64)) 1=t:=fun h=>by rw[←EH.out,←ht];exact bit_hi pp.1 hh k h
   have B2:k≤63→bits .and .u64 (lo / 2 ^ k) 1=t:=fun h=>by rw[←EL.out,←ht];exact bit_lo k h
   rw[hx,hy];rw[hy]at hq HB;have HX:=Hd hX;have HY:=Hd hY;clear hx hy ht hX hY;by_cases hbig:9223372036854775808≤y
   ·have HT:=Hd (HB.out hbig);clear HB;by_cases hk6:63<k
    ·replace B1:=B1 hk6
     clear B2;have hk7:63<(k:Int):=by omega
     rcases hw with⟨c1,c2,_⟩ | ⟨c1,c2,c3,_⟩ | ⟨c1,c2,rfl,_⟩
     ·go_wp2;go_ret;rw[HT.out];exact⟨rfl,hbel⟩
     ·go_wp2;go_ret;rw[HT.out];exact⟨rfl,hbel⟩
     ·go_wp2;go_ret;rw[HT.out];exact⟨rfl,hbel⟩
    ·replace B2:=B2 (by omega)
     clear B1;have hk7:¬63<(k:Int):=by omega
     have hk8:min k 64=k:=by omega
     rcases hw with⟨c1,c2,_⟩ | ⟨c1,c2,c3,_⟩ | ⟨c1,c2,rfl,_⟩
     ·go_wp2;go_ret;rw[HT.out];exact⟨rfl,hbel⟩
     ·go_wp2;go_ret;rw[HT.out];exact⟨rfl,hbel⟩
     ·go_wp2;go_ret;rw[HT.out];exact⟨rfl,hbel⟩
   ·clear HB;have E1:IntKind.u64.wrap (2*y)=2*y:=by rw[IntKind.wrap_u64];omega
    have E2:IntKind.u64.wrap (2*y+1)=2*y+1:=by rw[IntKind.wrap_u64];omega
    have y9:Y≤18446744073709551615:=by omega
    by_cases hk6:63<k
    ·replace B1:=B1 hk6
     clear B2;have hk7:63<(k:Int):=by omega
     rcases hw with⟨c1,c2,rfl⟩ | ⟨c1,c2,c3,rfl⟩ | ⟨c1,c2,rfl,rfl⟩
     ·go_wp2;go_round
      case rel=>exact⟨k,by omega,by go_num,by rw[HX.out],by rw[HY.out],by rw[HY.out];exact y9⟩
      case measure=>simp[intOf]
     ·go_wp2;go_round
      case rel=>exact⟨k,by omega,by go_num,by rw[HX.out],by rw[HY.out],by rw[HY.out];exact y9⟩
      case measure=>simp[intOf]
     ·go_wp2;go_round
      case rel=>exact⟨k,by omega,by go_num,by rw[HX.out],by rw[HY.out],by rw[HY.out];exact y9⟩
      case measure=>simp[intOf]
    ·replace B2:=B2 (by omega)
     clear B1;have hk7:¬63<(k:Int):=by omega
     have hk8:min k 64=k:=by omega
     rcases hw with⟨c1,c2,rfl⟩ | ⟨c1,c2,c3,rfl⟩ | ⟨c1,c2,rfl,rfl⟩
     ·go_wp2;go_round
      case rel=>exact⟨k,by omega,by go_num,by rw[HX.out],by rw[HY.out],by rw[HY.out];exact y9⟩
      case measure=>simp[intOf]
     ·go_wp2;go_round
      case rel=>exact⟨k,by omega,by go_num,by rw[HX.out],by rw[HY.out],by rw[HY.out];exact y9⟩
      case measure=>simp[intOf]
     ·go_wp2;go_round
      case rel=>exact⟨k,by omega,by go_num,by rw[HX.out],by rw[HY.out],by rw[HY.out];exact y9⟩
      case measure=>simp[intOf]
  ·have hk0:k=0:=by omega
   subst hk0;have hc1:(((0:Nat):Int) - 1) = -1:=by omega
   rw[hc1];clear hc1;have e1:N / 2 ^ 0=N:=by simp
   rw[e1]at hq ⊢;have END2:=Hd (END.out hq);have r0:=Int.emod_nonneg N (show d≠0 by omega);have q0:0≤N / d:=Int.ediv_nonneg pp.1 (by omega);clear BIG START END e1;generalize N / d=q at *;generalize N % d=r at *;cases up
   ·go_wp2;go_ret;rw[END2.out];exact⟨by simp,hbel⟩
   ·by_cases h1:0<r
    ·by_cases h2:q<18446744073709551615
     ·have E1:IntKind.u64.wrap (q+1)=cap (q+1):=by rw[IntKind.wrap_u64];unfold cap;rw[if_neg (by omega)];omega
      go_wp2;go_ret;rw[END2.out,if_pos (by simp[h1])];exact⟨rfl,hbel⟩
     ·have E3:=Hd (show cap (q+1)=q by unfold cap;rw[if_pos (by omega)];omega);go_wp2;go_ret;rw[END2.out,if_pos (by simp[h1]),E3.out];exact⟨rfl,hbel⟩
    ·go_wp2;go_ret;rw[END2.out,if_neg (by omega)];exact⟨rfl,hbel⟩
theorem Xtv(cs:List Value)(ns n:Nat)(SA A:Option Addr)(sc c B:Nat)(l:List LIn)(wr u:Int)(w:World)(hl:cs.length=40)(hc0:cs[0]?=some (.slice SA ns sc))(hc38:cs[38]?=some (.slice A n c))
 (hin:InsIn w B A n l) (hB:B≤w.heap.size) (h1:ns≤4000) (h2:n≤4000) (h3:dat9 l≤4000) (h4 : -9223372036854775808≤wr) (h5:wr<9223372036854775808) (h6:Word u) :
 Calls Tryz.prog 48 #[.agg cs.toArray,.int .i64 wr,.int .u64 u] w fun e w'=>e=.returned (.int .u64 (cost9 ns (dat9 l) wr u))∧Below w.heap.size w w':=by
 have HW:=Hd (Xie (ns:=ns) (d:=dat9 l) (wr:=wr) (u:=u) (by omega) (by omega) (by omega) h6);have T0:=Hd (fun w=>Xeu (ns:Int) 720 1 false w ⟨by omega,by omega⟩ ⟨by decide,by decide⟩ ⟨by decide,by decide⟩ (by decide));have T1:=Hd (fun w=>Xeu (max 0 wr) 300 1 false w ⟨by omega,by omega⟩ ⟨by decide,by decide⟩ ⟨by decide,by decide⟩ (by decide));have e0:max (ns:Int) 0=ns:=by omega
 have HP:Hid (cost9 ns (dat9 l) wr u=held [times (ns:Int) 720 1 false,times (max 0 wr) 300 1 false,(dat9 l:Int) / 4,u]):=Hd (by unfold cost9 parts9 each9;rw[e0,Int.max_comm wr 0]);have HWW:Hid (∀z ∈ [times (ns:Int) 720 1 false,times (max 0 wr) 300 1 false,(dat9 l:Int) / 4,u],Word z):=Hd (by have:=HW.out;unfold parts9 each9 at this;rw[e0,Int.max_comm wr 0]at this;exact this);have b0:=(Br w.heap.size w).alloc (Lr _) (.cells cs.toArray 42);have r0:=Row.new w 42 cs;have d0:=Hd ((r0.cell 0).trans hc0);have d38:=Hd ((r0.cell 38).trans hc38);have HIN:=Hd ((hin.below (b0.mono hB)));have s0:=Hd (show(w.alloc (.cells cs.toArray 42)).heap.size=w.heap.size+1 by simp);have HB:=Hd hB;have HL:=Hd hin.len;have HD:=Hd h3;have HB0:=Hd b0;rw[HP.out];have H4:=Hd h4;have H5:=Hd h5;clear hc0 hc38 hin hB hl h3 b0 r0 HW e0 HP h6 h4 h5;generalize times (ns:Int) 720 1 false=p0 at *;generalize times (max 0 wr) 300 1 false=p1 at *;go_enter Tryz.func48,Tryz.ntmps48
 go_wp2_with fail;generalize (w.alloc (Obj.cells cs.toArray 42))=W0 at *;have e38:=d38.out;go_loop [7,8] (fun s i=>∃k:Nat,k≤n∧i=.int .i64 k∧s=.int .u64 (dat9 (l.take k):Nat)) (fun _ i=>n - (intOf i).toNat)
 case atStart=>exact⟨0,Nat.zero_le _,rfl,rfl⟩
 case round =>
  obtain⟨k,hk,rfl,rfl⟩:=hrel;by_cases hlt:k<n
  ·obtain⟨a,x,va,vd,rfl,hab,hx,hat⟩:=HIN.out.get hlt;have HS:=Hd (Xl1 hx);have hs1:=Xi3 l (k+1);have hs3:=HD.out;obtain⟨DA,dc,hvd,hds,hdn,hdm⟩:=hat.dat.is;subst hvd;have hcd:W0.cell? ⟨(a.add (k*3)).block,(a.add (k*3)).off+2,none⟩=some (.slice DA x.dat.length dc):=hat.cells 2 _ rfl;have hs4:dat9 (l.take k)+x.dat.length≤4000:=by have:=HS.out;omega
   have e1:IntKind.u64.wrap (x.dat.length:Nat)=(x.dat.length:Nat):=by rw[IntKind.wrap_u64];omega
   have e2:IntKind.u64.wrap ((dat9 (l.take k):Nat)+(x.dat.length:Nat))=(dat9 (l.take k):Nat)+(x.dat.length:Nat):=by rw[IntKind.wrap_u64];omega
   have HC:Hid (((dat9 (l.take k):Nat):Int)+(x.dat.length:Nat)=(dat9 (l.take (k+1)):Nat)):=Hd (by rw[HS.out];omega);clear hat hab hx hds hdn hdm hs1 hs3;generalize x.dat.length=m at *;generalize dat9 (l.take k)=s at *;go_wp2;go_round
   case rel=>exact⟨k+1,by omega,by go_num,by rw[HC.out]⟩
   case measure=>simp[intOf];omega
  ·obtain rfl:k=n:=by omega
   have e:l.take k=l:=List.take_of_length_le (by have:=HL.out;omega);rw[e];have e0:=d0.out;have e3:IntKind.u64.wrap (ns:Nat)=(ns:Nat):=by rw[IntKind.wrap_u64];omega
   go_wp2_with fail;refine(T0.out _).mono ?_;rintro e w1 ⟨rfl,hb1⟩;have e5:IntKind.u64.wrap ((dat9 l:Int) / 4)=(dat9 l:Int) / 4:=by rw[IntKind.wrap_u64];have:=HD.out;omega
   have h4:=H4.out;have h5:=H5.out;go_wp2_with fail;refine(T1.out _).mono ?_;rintro e w2 ⟨rfl,hb2⟩;have HB2:=Hd (HB0.out.trans ((hb1.trans (hb2.mono hb1.size)).mono HB0.out.size));clear hb1 hb2;go_wp2_with fail;refine(Xk7 _ 4 _ [p0,p1,(dat9 l:Int) / 4,u] _ _ (Row.new' w2 44 [.int .u64 p0,.int .u64 p1,.int .u64 ((dat9 l:Int) / 4),.int .u64 u] rfl).sees0 (by simp[maxLen]) HWW.out).mono ?_;rintro e w3 ⟨rfl,rfl⟩;go_wp2;go_ret;exact⟨rfl,HB2.out.alloc HB2.out.size _⟩
theorem Xsf:∀(l:List LIn),dat9 l≤inSize l
 | []=>Lr _
 | x::r=>by
  have:=Xsf r;unfold dat9 inSize at *;simp only[List.map_cons,List.sum_cons];omega
def xU(x:LTx):Int:=units8 (all8 x.m.keys x.m.ins)
def xP(x:LTx):Int:=(all8 x.m.keys x.m.ins).p.getD 0
def xBad(x:LTx):Int:=(all8 x.m.keys x.m.ins).bad
def xFee(x:LTx):Int:=fee10 x.sigs.length (xP x) (xU x)
def xCost(x:LTx)(l:List LRole):Int:=cost9 x.sigs.length (dat9 x.m.ins) (wrK l).length (xU x)
def xPri(x:LTx)(l:List LRole):Int:=pri10 x.sigs.length (xP x) (xU x) (xCost x l)
def xReady(zs:List Int)(x:LTx)(l:List LRole):LReady:=⟨zs,x,l,xU x,xP x,xBad x,xFee x,xCost x l,xPri x l⟩
def rdX(ts:List LTab)(zs:List Int):LReady:=if rdErr ts zs=0 then xReady zs (wireX zs) (rdRoles ts zs)else zReady
theorem Xqj{ts:List LTab}{zs:List Int}(h:rdErr ts zs≠0):rdX ts zs=zReady:=by unfold rdX;rw[if_neg h]
theorem Xlp{ts:List LTab}{zs:List Int}(h:rdErr ts zs=0):rdX ts zs=xReady zs (wireX zs) (rdRoles ts zs):=by unfold rdX;rw[if_pos h]
theorem Xwh{l:List Int}(h:AllBytes l):Bytes l:=by
 intro i;rcases Nat.lt_or_ge i l.length with hi | hi
 ·rw[List.getD_eq_getElem?_getD,List.getElem?_eq_getElem hi];exact h _ (List.getElem_mem hi)
 ·rw[List.getD_eq_getElem?_getD,List.getElem?_eq_none hi];exact⟨Int.le_refl _,by decide⟩
structure Few11(x:LTx):Prop where
 sigs:x.sigs.length≤1232
 ins:x.m.ins.length≤1232
 dat:dat9 x.m.ins≤1232
 total:total x.m≤1232
 u:0≤xU x∧xU x≤1400000
 p:Word (xP x)
 fee:Word (xFee x)
theorem Few11.uw{x:LTx}(h:Few11 x):Word (xU x):=⟨h.u.1,by have:=h.u.2;omega⟩
theorem Few11.cost{x:LTx}(h:Few11 x)(l:List LRole)(hl:l.length≤70000):Word (xCost x l):=by
 unfold xCost;have h1:=h.sigs;have h2:=h.u.1;have h3:=Xkx l;rw[Xva (by omega) (by omega) (by omega)];exact Xel (by omega)
theorem few11{zs:List Int}{x:LTx}(h:Got11 zs x):Few11 x:=by
 have ht:=h.total;have hd:=Xsf x.m.ins;have hi:∀i ∈ x.m.ins,Bytes (i.dat.drop 1):=fun i hi=>Xwh fun z hz=>(h.wf.m.ins i hi).2.2 z (List.mem_of_mem_drop hz)
 have ok:=Xk0 (keys:=x.m.keys) hi x.m.ins.length (Lr _);have hu:0≤xU x∧xU x≤1400000:=⟨Xpv ok,Xsu _⟩;have hp:Word (xP x):=Xuc ok;have hs:=h.sigs;refine⟨hs,by unfold total at ht;omega,by unfold total at ht;omega,ht,hu,hp,Xny (by omega) hp ⟨hu.1,by have:=hu.2;omega⟩⟩
def xEx:LTx:=xTx xks 1 0
theorem Xmt:TFits xEx:=by
 refine⟨by decide,.inr ⟨rfl,by decide⟩,by decide,by decide,by decide,fun i hi=>?_,fun i hi=>by cases hi⟩;simp[xEx,xTx]at hi;subst hi;decide
theorem xEx_wf:xEx.Wf:=⟨fun s hs=>by
 simp[xEx,xTx]at hs;subst hs;exact⟨rfl,fun z hz=>by rw[List.eq_of_mem_replicate hz];unfold IsByte;omega⟩,
 x_wf xks Xvh 1 0 (by unfold IsByte;omega) (by unfold IsByte;omega)⟩
theorem Xsb:(encTx xEx).length≤1232:=by decide +kernel
theorem xEx_w:wTx (encTx xEx)=.ok xEx:=Xx6 Xmt xEx_wf Xsb
theorem Xs1:wErr (encTx xEx)=0:=by rw[Xeo xEx_w];exact chk_a
theorem Xh2:wireX (encTx xEx)=xEx:=by unfold wireX wx;rw[if_pos Xs1,xEx_w]
theorem Xrx:rdErr [] (encTx xEx)=0:=by
 unfold rdErr;rw[if_neg (by simp[Xs1]),Xh2];decide +kernel
theorem Xv9:rdX [] (encTx xEx)=⟨encTx xEx,xEx,rdRoles [] (encTx xEx),200000,0,-1,5000,200000+720+600,12417⟩:=by
 rw[Xlp Xrx,Xh2];have hr:rdRoles [] (encTx xEx)=rolesL xEx.m [] []:=by unfold rdRoles;rw[Xh2];rfl
 rw[hr];have e1:xU xEx=200000:=by decide +kernel
 have e2:xP xEx=0:=by decide +kernel
 have e3:xBad xEx = -1:=by decide +kernel
 have e4:xFee xEx=5000:=by unfold xFee;rw[e1,e2];decide +kernel
 have e5:xCost xEx (rolesL xEx.m [] [])=200000+720+600:=by decide +kernel
 have e6:xPri xEx (rolesL xEx.m [] [])=12417:=by unfold xPri;rw[e1,e2,e5];decide +kernel
 unfold xReady;rw[e1,e2,e3,e4,e5,e6]
theorem Xrn:(rdRoles [] (encTx xEx)).length=2:=by
 rw[Xi8 Xrx,Xh2];exact tot_a
theorem Xro:wErr [0]=5:=by decide +kernel
def pay10(n u p b:Int):Value:=.agg #[.int .i64 n,.int .u64 u,.int .u64 p,.int .i64 b]
theorem Xoo(n:Int)(w:World)(h1:n<9223372036854775808) :
 Calls Tryz.prog 78 #[.int .u64 (max n 0),.int .u64 5000,.int .u64 1,.bool false] w fun e w'=>e=.returned (.int .u64 (base10 n))∧Below w.heap.size w w':=
 Xna (max n 0) 5000 1 false w ⟨by omega,by omega⟩ ⟨by decide,by decide⟩ ⟨by decide,by decide⟩
theorem Xm8(u p:Int)(w:World)(hu:Word u)(hp:Word p) :
 Calls Tryz.prog 78 #[.int .u64 p,.int .u64 u,.int .u64 1000000,.bool true] w fun e w'=>e=.returned (.int .u64 (offer10 p u))∧Below w.heap.size w w':=
 Xna p u 1000000 true w hp hu ⟨by decide,by decide⟩
theorem base_(n u p b:Int)(w:World)(h0 : -9223372036854775808≤n)(h1:n<9223372036854775808) :
 Calls Tryz.prog 73 #[pay10 n u p b] w fun e w'=>e=.returned (.int .u64 (base10 n))∧Below w.heap.size w w':=by
 unfold pay10;have hb0:=(Br w.heap.size w).alloc (Lr _) (.cells #[.int .i64 n,.int .u64 u,.int .u64 p,.int .i64 b] 135);have T:=fun w=>Xoo n w h1
 have e64:IntKind.u64.wrap (max n 0)=max n 0:=IntWalk.u64_in _ (by omega);go_enter Tryz.func73,Tryz.ntmps73
 go_wp2_with fail;refine(T _).mono ?_;rintro e w1 ⟨rfl,hb⟩;have HB:=Hd (hb0.trans (hb.mono hb0.size));clear hb hb0;go_wp2;go_ret;exact⟨rfl,HB.out⟩
theorem Xvp(n u p b:Int)(w:World)(hu:Word u)(hp:Word p) :
 Calls Tryz.prog 74 #[pay10 n u p b] w fun e w'=>e=.returned (.int .u64 (offer10 p u))∧Below w.heap.size w w':=by
 unfold pay10;have hb0:=(Br w.heap.size w).alloc (Lr _) (.cells #[.int .i64 n,.int .u64 u,.int .u64 p,.int .i64 b] 135);have T:=fun w=>Xm8 u p w hu hp
 go_enter Tryz.func74,Tryz.ntmps74
 go_wp2_with fail;refine(T _).mono ?_;rintro e w1 ⟨rfl,hb⟩;have HB:=Hd (hb0.trans (hb.mono hb0.size));clear hb hb0;go_wp2;go_ret;exact⟨rfl,HB.out⟩
theorem half_(n u p b:Int)(w:World)(h0 : -9223372036854775808≤n)(h1:n<9223372036854775808) :
 Calls Tryz.prog 79 #[pay10 n u p b] w fun e w'=>e=.returned (.int .u64 (base10 n / 2))∧Below w.heap.size w w':=by
 have T:=fun w=>base_ n u p b w h0 h1
 have wb:=Xce (n:=n) (by omega);have wb0:=wb.1;have wb1:=wb.2;unfold pay10 at *;have hb0:=(Br w.heap.size w).alloc (Lr _) (.cells #[.int .i64 n,.int .u64 u,.int .u64 p,.int .i64 b] 135);generalize base10 n=q at *;go_enter Tryz.func79,Tryz.ntmps79
 go_wp2_with fail;refine(T _).mono ?_;rintro e w1 ⟨rfl,hb⟩;have HB:=Hd (hb0.trans (hb.mono hb0.size));clear hb hb0;go_wp2;go_ret;exact⟨rfl,HB.out⟩
def meth10(f:FuncId)(v:Value):Value:=.func (.func f) #[v] #[]
theorem Xlh(f f':FuncId)(v:Value)(x y:Int)(A:Option Addr)(c B:Nat)(w:World)(hx:Sees w B A 2 [meth10 f v,meth10 f' v])(hB:B≤w.heap.size)(wx:Word x)(wy:Word y)
 (en:∀w,(callFunc f #[v]).run Tryz.prog w=.ok (.enter f #[v]) w) (en':∀w,(callFunc f' #[v]).run Tryz.prog w=.ok (.enter f' #[v]) w)
 (hf:∀w,Calls Tryz.prog f #[v] w fun e w'=>e=.returned (.int .u64 x)∧Below w.heap.size w w')
 (hf':∀w,Calls Tryz.prog f' #[v] w fun e w'=>e=.returned (.int .u64 y)∧Below w.heap.size w w') :
 Calls Tryz.prog 72 #[.slice A 2 c] w fun e w'=>e=.returned (.int .u64 (cap (x+y)))∧Below w.heap.size w w':=by
 obtain⟨a,u0,rfl,hab,e0,c0⟩:=hx.at_ (k:=0) (by omega);cases e0
 obtain⟨a',u1,ea,_,e1,c1⟩:=hx.at_ (k:=1) (by omega);cases ea
 cases e1
 have C0:=Hd (fun w' (hb:Below w.heap.size w w')=>(hb.cell (p:=a.add 0) (by rw[Xa7];omega)).trans c0);have C1:=Hd (fun w' (hb:Below w.heap.size w w')=>(hb.cell (p:=a.add 1) (by rw[Xa7];omega)).trans c1);clear c0 c1 hx hB hab;have wc:=Xel (x:=x) wx.1;have e2:=Hd (show cap (cap x+y)=cap (x+y)from Xm4 wy.1);have e3:=Hd (show cap (0+x)=cap x by rw[Int.zero_add]);unfold meth10 at *;go_enter Tryz.func72,Tryz.ntmps72
 go_wp2_with fail;go_loopw [3,5,8] (fun s _ i wr=>∃j:Nat,j≤2∧i=.int .i64 j∧Below w.heap.size w wr∧(j=0→s=.int .u64 0)∧(j=1→s=.int .u64 (cap x))∧(j=2→s=.int .u64 (cap (x+y)))) (fun _ _ i _=>2 - (intOf i).toNat)
 case atStart=>exact⟨0,Nat.zero_le _,rfl,Br _ _,fun _=>rfl,fun h=>(by cases h),fun h=>(by cases h)⟩
 case round =>
  obtain⟨j,hj,rfl,hbr,s0,s1,s2⟩:=hrel;obtain rfl | rfl | rfl:j=0∨j=1∨j=2:=by omega
  ·obtain rfl:=s0 rfl;clear s0 s1 s2;have c0:wr.cell? a=some (Value.func (Fn.func f) #[v] #[]):=C0.out _ hbr;go_wp2_with fail;refine(hf _).mono ?_;rintro e w1 ⟨rfl,hb⟩;have B1:=Hd (hbr.trans (hb.mono hbr.size));clear hb c0;go_wp2_with fail;refine(Xgd 0 x _ _ ⟨by decide,by decide⟩ wx (Row.new' _ _ _ (by simp))).mono ?_;rintro e w2 ⟨rfl,hb⟩;have h4:=B1.out.alloc B1.out.size (.cells #[.int .u64 0,.int .u64 x] 44);have B2:=Hd (h4.trans (hb.mono h4.size));clear hb h4 B1;rw[e3.out];go_wp2;go_roundw
   case rel=>exact⟨1,by omega,by go_num,B2.out,fun h=>(by cases h),fun _=>rfl,fun h=>(by cases h)⟩
   case measure=>simp[intOf]
  ·obtain rfl:=s1 rfl;clear s0 s1 s2;have c0:wr.cell? ⟨a.block,a.off+1,none⟩=some (Value.func (Fn.func f') #[v] #[]):=C1.out _ hbr;go_wp2_with fail;refine(hf' _).mono ?_;rintro e w1 ⟨rfl,hb⟩;have B1:=Hd (hbr.trans (hb.mono hbr.size));clear hb c0;go_wp2_with fail;refine(Xgd (cap x) y _ _ wc wy (Row.new' _ _ _ (by simp))).mono ?_;rintro e w2 ⟨rfl,hb⟩;have h4:=B1.out.alloc B1.out.size (.cells #[.int .u64 (cap x),.int .u64 y] 44);have B2:=Hd (h4.trans (hb.mono h4.size));clear hb h4 B1;rw[e2.out];go_wp2;go_roundw
   case rel=>exact⟨2,by omega,by go_num,B2.out,fun h=>(by cases h),fun h=>(by cases h),fun _=>rfl⟩
   case measure=>simp[intOf]
  ·obtain rfl:=s2 rfl;clear s0 s1 s2;go_wp2;go_ret;exact⟨rfl,hbr⟩
def bud10(u p b:Int):Value:=.agg #[.int .u64 u,.int .u64 p,.int .i64 b]
theorem fee_(n u p b:Int)(w:World)(h0 : -9223372036854775808≤n)(h1:n<9223372036854775808)(hu:Word u)(hp:Word p) :
 Calls Tryz.prog 28 #[.int .i64 n,bud10 u p b] w fun e w'=>e=.returned (.int .u64 (fee10 n p u))∧Below w.heap.size w w':=by
 have T:=fun A c B w hx hB=>Xlh 73 74 (pay10 n u p b) (base10 n) (offer10 p u) A c B w hx hB (Xce (by omega)) (Xcl hp hu)
  (fun w=>by kernel_rfl) (fun w=>by kernel_rfl) (fun w=>base_ n u p b w h0 h1) (fun w=>Xvp n u p b w hu hp)
 have E:=Hd (show cap (base10 n+offer10 p u)=fee10 n p u from rfl);rw[E.out]at T;unfold bud10;unfold pay10 meth10 at T;have hb0:=(Br w.heap.size w).alloc (Lr _) (.cells #[.int .u64 u,.int .u64 p,.int .i64 b] 46);clear h0 h1 hu hp;go_enter Tryz.func28,Tryz.ntmps28
 go_wp2_with fail;refine(T _ _ _ _ (Row.new' _ _ _ (by simp)).sees0 (Lr _)).mono ?_;rintro e w1 ⟨rfl,hb⟩;have hb1:=(hb0.alloc hb0.size (.cells #[.int .i64 n,.int .u64 u,.int .u64 p,.int .i64 b] 135));have hb2:=(hb1.alloc hb1.size (.cells #[.func (.func 73) #[.agg #[.int .i64 n,.int .u64 u,.int .u64 p,.int .i64 b]] #[],.func (.func 74) #[.agg #[.int .i64 n,.int .u64 u,.int .u64 p,.int .i64 b]] #[]] 137));have HB:=Hd (hb2.trans (hb.mono hb2.size));clear hb hb0 hb1 hb2 T;go_wp2;go_ret;exact⟨rfl,HB.out⟩
theorem pri_(n u p b k:Int)(w:World)(h0 : -9223372036854775808≤n)(h1:n<9223372036854775808)(hu:Word u)(hp:Word p)(hk:Word k) :
 Calls Tryz.prog 31 #[.int .i64 n,bud10 u p b,.int .u64 k] w fun e w'=>e=.returned (.int .u64 (pri10 n p u k))∧Below w.heap.size w w':=by
 have T:=fun A c B w hx hB=>Xlh 79 74 (pay10 n u p b) (base10 n / 2) (offer10 p u) A c B w hx hB (Xi1 (Xce (by omega))) (Xcl hp hu)
  (fun w=>by kernel_rfl) (fun w=>by kernel_rfl) (fun w=>half_ n u p b w h0 h1) (fun w=>Xvp n u p b w hu hp)
 have E:=Hd (show times (cap (base10 n / 2+offer10 p u)) 1000000 (cap (k+1)) false=pri10 n p u k from rfl);have X:=fun w=>Xna (cap (base10 n / 2+offer10 p u)) 1000000 (cap (k+1)) false w (Xil (n:=n) (by omega) hp hu) ⟨by decide,by decide⟩ (Xik hk)
 rw[E.out]at X;have hk':=Hd hk;unfold bud10;unfold pay10 meth10 at T;have hb0:=(Br w.heap.size w).alloc (Lr _) (.cells #[.int .u64 u,.int .u64 p,.int .i64 b] 46);clear h0 h1 hu hp hk E;generalize cap (base10 n / 2+offer10 p u)=q at *;generalize pri10 n p u k=r at *;go_enter Tryz.func31,Tryz.ntmps31
 go_wp2_with fail;refine(T _ _ _ _ (Row.new' _ _ _ (by simp)).sees0 (Lr _)).mono ?_;rintro e w1 ⟨rfl,hb⟩;have hb1:=(hb0.alloc hb0.size (.cells #[.int .i64 n,.int .u64 u,.int .u64 p,.int .i64 b] 135));have hb2:=(hb1.alloc hb1.size (.cells #[.func (.func 79) #[.agg #[.int .i64 n,.int .u64 u,.int .u64 p,.int .i64 b]] #[],.func (.func 74) #[.agg #[.int .i64 n,.int .u64 u,.int .u64 p,.int .i64 b]] #[]] 137));have HB:=Hd (hb2.trans (hb.mono hb2.size));clear hb hb0 hb1 hb2 T;go_wp2_with fail;refine(Xgd k 1 _ _ hk'.out ⟨by decide,by decide⟩ (Row.new' _ _ _ (by simp))).mono ?_;rintro e w2 ⟨rfl,hb⟩;have hb1:=(HB.out.alloc HB.out.size (.cells #[.int .u64 k,.int .u64 1] 44));have HB2:=Hd (hb1.trans (hb.mono hb1.size));clear hb hb1 HB;generalize cap (k+1)=d at *;go_wp2_with fail;refine(X _).mono ?_;rintro e w3 ⟨rfl,hb⟩;have HB3:=Hd (HB2.out.trans (hb.mono HB2.out.size));clear hb HB2;go_wp2;go_ret;exact⟨rfl,HB3.out⟩
end Go.Proofs.YtdgbodljmdcagaaGreatDoor
