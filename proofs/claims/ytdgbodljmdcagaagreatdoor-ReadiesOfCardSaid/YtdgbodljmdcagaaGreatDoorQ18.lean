import Derived.Test.YtdgbodljmdcagaaGreatDoorQ17
set_option maxRecDepth 100000
set_option maxHeartbeats 16000000
set_option linter.unusedSimpArgs false
set_option linter.unusedVariables false
namespace Go.Proofs.YtdgbodljmdcagaaGreatDoor
open Go.RowKit
theorem Xom(A:Option Addr)(c:Nat)(zs:List Int)(w:World)(B:Nat)(hx:Sees w B A zs.length (bv zs))(hB:B≤w.heap.size)(hnc:zs.length≤c∧(A=none→c=0))(hc:c≤maxLen)(hz:AllBytes zs)(a:Int)(r:List Int)(hP:pOctet zs=.ok (a,r)∧a<128) :
 Calls Tryz.prog 140 #[.slice A zs.length c] w (RefGot w zs):=by
 have HX:=Hd hx;have HNC:=Hd (And.intro hnc hc);have HZ:=Hd hz;have HP:=Hd hP;clear hx hnc hc hP;go_enter Tryz.func140,Tryz.ntmps140
 go_wp2_with (((with_reducible show wpList _ _ _ (⟨none,Op.store 40 _ _,_,_,_,_⟩::_) _ _);go_must(refine Xa1 rfl 40 (.tmp 6) (.tmp 17) rfl mzero Xci Xbv rfl ?_ ?_ ?_;go_simp;go_simp;rfl;intro w1 hr1 hb1 hz1;have HR1:=Hd hr1;have HB1:=Hd hb1;clear hr1 hb1)))
 have ha1:RAt w w1 B zs mzero (.ok zs):=Xfq HX.out HNC.out.1 HNC.out.2 hB HR1.out HB1.out;have HA:=Hd ha1;clear HR1 HB1 ha1 hz1;generalize hzz:Value.agg #[Value.bool false,.int .u8 0,.int .u8 0,.int .u8 0,.slice none 0 0,.int .u8 0,.int .u8 0,.int .u8 0,.int .u8 0,.int .u8 0,.int .u8 0,.int .u8 0,.int .u8 0,.int .u8 0,.int .u8 0,.int .u8 0,.int .u8 0,.int .u8 0,.int .u8 0,.int .u8 0,.int .u8 0,.int .u8 0,.int .u8 0,.int .u8 0,.int .u8 0,.int .u8 0,.int .u8 0,.int .u8 0,.int .u8 0,.int .u8 0,.int .u8 0,.int .u8 0,.int .u8 0,.int .u8 0,.int .u8 0,.int .u8 0,.int .u8 0,.slice none 0 0,.slice none 0 0]=z17;clear hzz;refine(Xdq (w.heap.size+1) B zs (.ok zs) w1 HA.out.tk (by omega) HZ.out).mono ?_;rintro e w2 ⟨x,v,s1,rfl,⟨rfl,hx,hx0⟩,hs1,ht1,hb1⟩;have HA1:=Hd (HA.out.call hb1 ht1);have HS1:=Hd hs1;have c2:=ht1.ecell.1;have c1:w2.cell? ⟨w.heap.size+1+1,1,none⟩=some (.int .u8 0):=HA1.out.row.cell 1;have f1:=HA1.out.row.frozen 1;obtain⟨rfl,rfl⟩:x=a∧s1=.ok r:=Xgq HS1.out HP.out.1;have hx1:¬128<x:=by have:=HP.out.2;omega
 have hx2:(x==128)=false:=by simp;have:=HP.out.2;omega
 have HF:Hid (Step pFirst (.ok zs) (false,x) (.ok r)):=Hd (Step.first0 HS1.out hx1 (by have:=HP.out.2;omega));rw[show ecode (.ok r)=0 from rfl]at c2;generalize (.ok r:St)=s1 at *;clear ht1 hb1 hs1 HA hx hx0 HS1;go_wp2_with fail;have HA2:=Hd (HA1.out.set hB (mset1 HA1.out.row x));clear c1 f1 c2;generalize (w2.setCell ⟨w.heap.size+1+1,1,none⟩ (.int .u8 x))=w2' at *;refine(Xdq (w.heap.size+1) B zs s1 _ HA2.out.tk (by omega) HZ.out).mono ?_;rintro e w3 ⟨rs,v,s2,rfl,⟨rfl,-,-⟩,hs,ht,hb⟩;have HA3:=Hd (HA2.out.call hb ht);have HS2:=Hd hs;have c1:w3.cell? ⟨w.heap.size+1+1,2,none⟩=some (.int .u8 0):=HA3.out.row.cell 2;have f1:=HA3.out.row.frozen 2;clear hs ht hb HA1 HA2;go_wp2_with fail;have HA4:=Hd (HA3.out.set hB (mset2 HA3.out.row rs));clear c1 f1;generalize (w3.setCell ⟨w.heap.size+1+1,2,none⟩ (.int .u8 rs))=w3' at *;refine(Xdq (w.heap.size+1) B zs s2 _ HA4.out.tk (by omega) HZ.out).mono ?_;rintro e w4 ⟨ro,v,s3,rfl,⟨rfl,-,-⟩,hs,ht,hb⟩;have HA5:=Hd (HA4.out.call hb ht);have HS3:=Hd hs;have c1:w4.cell? ⟨w.heap.size+1+1,3,none⟩=some (.int .u8 0):=HA5.out.row.cell 3;have f1:=HA5.out.row.frozen 3;clear hs ht hb HA3 HA4;go_wp2_with fail;have HA6:=Hd (HA5.out.set hB (mset3 HA5.out.row ro));clear c1 f1;generalize (w4.setCell ⟨w.heap.size+1+1,3,none⟩ (.int .u8 ro))=w4' at *;refine(Xcj (w.heap.size+1) B zs s3 _ HA6.out.tk (by omega) HZ.out).mono ?_;rintro e w5 ⟨n,v,s4,rfl,⟨rfl,hn⟩,hs,ht,hb⟩;have HA7:=Hd (HA6.out.call hb ht);have HS4:=Hd hs;clear hs ht hb HA5 HA6;go_upto_block 0 with fail
 go_cut [9]from 48 to 66 (fun _ wc=>∃l s KA kc css L R,Step (pList (pTake 32)) s3 l s∧RAt w wc B zs (mcells false x rs ro (.slice KA l.length kc) zero32 (.slice none 0 0) (.slice none 0 0)) s∧LV KeyV 78 32 wc w5.heap.size (.slice KA l.length kc) l css L R∧l.length≤65535∧w5.heap.size≤wc.heap.size)
 case first =>
  have HG:Hid (w.heap.size+1+1<w5.heap.size):=Hd HA7.out.row.lt;go_wp2_with fail;go_loopw [9] (fun i wr=>∃(k:Nat) (s:St) (V:Value) (l:List (List Int)),k≤n∧i=.int .i64 k∧Loop3 KeyV 78 32 (pTake 32) w B zs (fun V=>mcells false x rs ro V zero32 (.slice none 0 0) (.slice none 0 0)) s4 w5.heap.size k s V wr l) (fun i _=>n - (intOf i).toNat)
  case atStart=>exact⟨0,s4,.slice none 0 0,[],Nat.zero_le _,rfl,rfl,Step.many0 _,HA7.out,⟨_,_,_,LV.none (L:=fun _=>0) (R:=fun _=>0) (World.ownsRow_nil _ _ _ _)⟩,Lr _⟩
  case round =>
   obtain⟨k,s,V,l,hk,rfl,hl3⟩:=hrel;have HL:=Hd hl3;obtain⟨css,L,R,hv⟩:=hl3.list;obtain⟨KA,kc,rfl⟩:=hv.form;have HV:=Hd hv;have c2:=hl3.at_.tk.ecell.1;have hcase:=hl3.at_.tk.ecell.2;have hlk:=hl3.len;clear hl3 hv;by_cases hlt:k<n
   ·rcases hcase with⟨h0,r',rfl⟩ | ⟨h0,cc,rfl⟩
    ·rw[h0]at c2;have c4:wr.cell? ⟨w.heap.size+1+1,4,none⟩=some (.slice KA l.length kc):=HL.out.at_.row.cell 4;have f4:=HL.out.at_.row.frozen 4;have HLK:=Hd hlk;clear h0 hlk;go_wp2_with fail;have hlk:=HLK.out;have d4:wr.drew.cell? ⟨w.heap.size+1+1,4,none⟩=some (.slice KA l.length kc):=c4;generalize (.ok r':St)=s at *;refine wp_region_held (S:=fun _=>True) (by kernel_rfl) ?_;try(change wpAnyH _ _ _ _ _ _ _ _ (World.drew _))
     refine Tk 0 rfl ?_ trivial ?_ ⟨?_,rfl⟩
     ·intro w _;go_simp;try with_reducible rfl
     try simp only[nm]
     refine Tk 2 rfl ?_ trivial ?_ ⟨?_,rfl⟩
     ·intro w _;go_simp;try with_reducible rfl
     try simp only[nm]
     refine Xc8 (i:=1) (j:=3) rfl rfl (by kernel_rfl) (by kernel_rfl) (by kernel_rfl) (fun K hK=>?_) (fun K hK=>?_)
     ·go_simp;refine hK _ _ trivial ?_;clear hK K;try simp only[nm]
      refine Rl 3 rfl fun K hK=>?_
      go_simp;refine(tkey_ (w.heap.size+1) B zs s wr.drew (HL.out.at_.tk.drewN 1) (by omega)).mono ?_;rintro e wk ⟨xk,v,s',rfl,⟨rfl,hx32⟩,hs1,ht1,hb1⟩;simp only[];refine hK _ _ trivial ?_;clear hK K;try simp only[nm]
      have hbk:But (w.heap.size+1) wr wk:=((But.refl _ wr).drewN 1).trans hb1;have hvk:=(HV.out.but Xaw hbk (by have:=HG.out;omega)).own;have hzk:=hbk.size;refine Rl 4 rfl fun K hK=>?_
      refine Xay 34 78 (.tmp 63) rfl (bv xk) _ 32 32 Tryz.underlying34 Xaj Xbn (by omega) (by omega) (by rw[bL,hx32]) ?_ ?_
      ·go_simp
      refine hK _ _ trivial ?_;clear hK K;try simp only[nm]
      refine Rl 5 rfl fun K hK=>?_
      refine Xca (.tmp 61) (.tmp 64) 34 rfl w5.heap.size 78 _ 32 32 Tryz.underlying34 Xaj Xbn (by omega) (.slice KA l.length kc) l.length css.flatten (bv xk) 1 (by rw[bL,hx32]) (Xae xk) rfl ?_ hvk ?_ (by have:=HL.out.lo;omega) (by unfold maxLen;omega) (by omega) ?_
      ·go_simp
      ·go_simp
      intro v4 w4 ho4 hg4;obtain⟨A4,c4',rfl⟩:=Xao ho4;refine hK _ _ trivial ?_;clear hK K;try simp only[nm]
      have ha4:=(HL.out.at_.call hbk ht1).grew hg4 hvk HG.out hB;have e4:w4.cell? ⟨w.heap.size+1+1,4,none⟩=some (.slice KA l.length kc):=ha4.row.cell 4;have g4:=ha4.row.frozen 4;clear hlk;refine Tk 6 rfl ?_ trivial ?_ ⟨?_,rfl⟩
      ·intro w _;go_simp;try with_reducible rfl
      try simp only[nm]
      refine Rl 7 rfl fun K hK=>?_
      go_simp;refine hK _ _ trivial ?_;clear hK K;refine wpAnyH_done (by kernel_rfl) ?_ _;have HN:=Hd (HL.out.snoc (c:=4) Xaw HG.out hB HV.out hbk ⟨rfl,hx32⟩ hs1 ht1 hg4 ho4 fun w V V' h=>mset4 h V');clear ha4 e4 g4 hg4 ho4 hvk hs1 ht1 hb1 hbk d4 c4 f4 c2;try simp only[nm]
      go_wp2_with fail;go_roundw
      case rel=>exact⟨k+1,s',_,l++[xk],by omega,by go_num,HN.out⟩
      case measure=>simp[intOf];omega
     ·go_simp;refine(tkey_ (w.heap.size+1) B zs s wr.drew (HL.out.at_.tk.drewN 1) (by omega)).mono ?_;rintro e wk ⟨xk,v,s',rfl,⟨rfl,hx32⟩,hs1,ht1,hb1⟩;simp only[];refine hK _ _ trivial ?_;clear hK K;try simp only[nm]
      have hbk:But (w.heap.size+1) wr wk:=((But.refl _ wr).drewN 1).trans hb1;have hvk:=(HV.out.but Xaw hbk (by have:=HG.out;omega)).own;have hzk:=hbk.size;refine Xc8 (i:=1) (j:=4) rfl rfl (by kernel_rfl) (by kernel_rfl) (by kernel_rfl) (fun K hK=>?_) (fun K hK=>?_)
      ·have e5:wk.cell? ⟨w.heap.size+1+1,4,none⟩=some (.slice KA l.length kc):=(hb1.row HL.out.at_.row.drew (by omega)).cell 4;go_simp;refine hK _ _ trivial ?_;clear hK K;try simp only[nm]
       clear e5;refine Rl 4 rfl fun K hK=>?_
       refine Xay 34 78 (.tmp 63) rfl (bv xk) _ 32 32 Tryz.underlying34 Xaj Xbn (by omega) (by omega) (by rw[bL,hx32]) ?_ ?_
       ·go_simp
       refine hK _ _ trivial ?_;clear hK K;try simp only[nm]
       refine Rl 5 rfl fun K hK=>?_
       refine Xca (.tmp 61) (.tmp 64) 34 rfl w5.heap.size 78 _ 32 32 Tryz.underlying34 Xaj Xbn (by omega) (.slice KA l.length kc) l.length css.flatten (bv xk) 1 (by rw[bL,hx32]) (Xae xk) rfl ?_ hvk ?_ (by have:=HL.out.lo;omega) (by unfold maxLen;omega) (by omega) ?_
       ·go_simp
       ·go_simp
       intro v4 w4 ho4 hg4;obtain⟨A4,c4',rfl⟩:=Xao ho4;refine hK _ _ trivial ?_;clear hK K;try simp only[nm]
       have ha4:=(HL.out.at_.call hbk ht1).grew hg4 hvk HG.out hB;have e4:w4.cell? ⟨w.heap.size+1+1,4,none⟩=some (.slice KA l.length kc):=ha4.row.cell 4;have g4:=ha4.row.frozen 4;clear hlk;refine Tk 6 rfl ?_ trivial ?_ ⟨?_,rfl⟩
       ·intro w _;go_simp;try with_reducible rfl
       try simp only[nm]
       refine Rl 7 rfl fun K hK=>?_
       go_simp;refine hK _ _ trivial ?_;clear hK K;refine wpAnyH_done (by kernel_rfl) ?_ _;have HN:=Hd (HL.out.snoc (c:=4) Xaw HG.out hB HV.out hbk ⟨rfl,hx32⟩ hs1 ht1 hg4 ho4 fun w V V' h=>mset4 h V');clear ha4 e4 g4 hg4 ho4 hvk hs1 ht1 hb1 hbk d4 c4 f4 c2;try simp only[nm]
       go_wp2_with fail;go_roundw
       case rel=>exact⟨k+1,s',_,l++[xk],by omega,by go_num,HN.out⟩
       case measure=>simp[intOf];omega
      ·refine Xay 34 78 (.tmp 63) rfl (bv xk) _ 32 32 Tryz.underlying34 Xaj Xbn (by omega) (by omega) (by rw[bL,hx32]) ?_ ?_
       ·go_simp
       refine hK _ _ trivial ?_;clear hK K;try simp only[nm]
       have e5:(wk.alloc (.cells (bv xk).toArray 78)).cell? ⟨w.heap.size+1+1,4,none⟩=some (.slice KA l.length kc):=((hb1.row HL.out.at_.row.drew (by omega)).alloc _).cell 4;refine Rl 1 rfl fun K hK=>?_
       go_simp;refine hK _ _ trivial ?_;clear hK K;try simp only[nm]
       clear e5;refine Rl 5 rfl fun K hK=>?_
       refine Xca (.tmp 61) (.tmp 64) 34 rfl w5.heap.size 78 _ 32 32 Tryz.underlying34 Xaj Xbn (by omega) (.slice KA l.length kc) l.length css.flatten (bv xk) 1 (by rw[bL,hx32]) (Xae xk) rfl ?_ hvk ?_ (by have:=HL.out.lo;omega) (by unfold maxLen;omega) (by omega) ?_
       ·go_simp
       ·go_simp
       intro v4 w4 ho4 hg4;obtain⟨A4,c4',rfl⟩:=Xao ho4;refine hK _ _ trivial ?_;clear hK K;try simp only[nm]
       have ha4:=(HL.out.at_.call hbk ht1).grew hg4 hvk HG.out hB;have e4:w4.cell? ⟨w.heap.size+1+1,4,none⟩=some (.slice KA l.length kc):=ha4.row.cell 4;have g4:=ha4.row.frozen 4;clear hlk;refine Tk 6 rfl ?_ trivial ?_ ⟨?_,rfl⟩
       ·intro w _;go_simp;try with_reducible rfl
       try simp only[nm]
       refine Rl 7 rfl fun K hK=>?_
       go_simp;refine hK _ _ trivial ?_;clear hK K;refine wpAnyH_done (by kernel_rfl) ?_ _;have HN:=Hd (HL.out.snoc (c:=4) Xaw HG.out hB HV.out hbk ⟨rfl,hx32⟩ hs1 ht1 hg4 ho4 fun w V V' h=>mset4 h V');clear ha4 e4 g4 hg4 ho4 hvk hs1 ht1 hb1 hbk d4 c4 f4 c2;try simp only[nm]
       go_wp2_with fail;go_roundw
       case rel=>exact⟨k+1,s',_,l++[xk],by omega,by go_num,HN.out⟩
       case measure=>simp[intOf];omega
    ·have h0':(ecode (.error cc)==0)=false:=by simpa using h0
     clear hlk h0;go_wp2_with fail;go_meet
     case rel=>exact⟨l,.error cc,KA,kc,css,L,R,Step.list HS4.out (HL.out.fail (Nat.le_of_lt hlt)),HL.out.at_,HV.out,by have:=HL.out.len;omega,HL.out.lo⟩
   ·obtain rfl:k=n:=by omega
    clear hlk hcase;go_wp2_with fail;go_meet
    case rel=>exact⟨l,s,KA,kc,css,L,R,Step.list HS4.out HL.out.step,HL.out.at_,HV.out,by have:=HL.out.len;omega,HL.out.lo⟩
 case rest =>
  obtain⟨ks,s5,KA,kc,css,L,R,hsp,hat,hv,hkl,hks⟩:=hcut;obtain⟨wk0,hwk0⟩:∃u:World,u=wc:=⟨_,rfl⟩;subst hwk0;have HK5:=Hd (LVR.of hv);have HS5:=Hd hsp;have HA8:=Hd hat;have HG5:=Hd (And.intro hkl hks);have HG:Hid (w.heap.size+1+1<w5.heap.size):=Hd HA7.out.row.lt;clear hsp hat hv hkl hks HA7 css L R;go_wp2_with fail;refine(tkey_ (w.heap.size+1) B zs s5 wk0 HA8.out.tk (by omega)).mono ?_;rintro e w6 ⟨hh,v,s6,rfl,⟨rfl,hh32⟩,hs,ht,hb⟩;have HA9:=Hd (HA8.out.call hb ht);have HS6:=Hd hs;have HK6:=Hd (HK5.out.but hb (by have:=HG.out;omega));have HZ6:=Hd hb.size;have HH:=Hd hh32;have hsz:(Tryz.prog.info? 36).map (·.size)=some (bv hh).length:=by rw[Xec,bL,hh32]
  have HSZ:=Hd hsz;clear hs ht hb hh32 hsz;go_wp2_with (((with_reducible show wpList _ _ _ (⟨none,Op.store 36 _ _,_,_,_,_⟩::_) _ _);go_must(refine Xa9 rfl 36 (.tmp 69) (.tmp 68) rfl (w.heap.size+1+1) 40 5 _ (bv hh) HA9.out.row HSZ.out (by rw[bL,HH.out,mlen Xbc];omega) (Xae hh) ?_ ?_ ?_;go_simp;go_simp;intro w6' hr6' ht6';have HA10:=Hd (HA9.out.turned hB (by rw[mpart Xbc HH.out]at hr6';exact hr6') ht6');have HK7:=Hd (HK6.out.turned ht6' HG.out);have HZ7:=Hd ht6'.size;clear hr6' ht6')))
  refine(Xcj (w.heap.size+1) B zs s6 _ HA10.out.tk (by omega) HZ.out).mono ?_;rintro e w7 ⟨n2,v,s7,rfl,⟨rfl,hn2⟩,hs,ht,hb⟩;have HA11:=Hd (HA10.out.call hb ht);have HS7:=Hd hs;have HK8:=Hd (HK7.out.but hb (by have:=HG.out;omega));have HZ8:Hid (wk0.heap.size≤w7.heap.size):=Hd (by have:=HZ6.out;have:=HZ7.out;have:=hb.size;omega);clear hs ht hb HA8 HA9 HA10 HK5 HK6 HK7 HZ6 HZ7;clear hn;go_upto_block 2 with fail
  go_cut [10]from 72 to 102 (fun _ wx=>∃l s IA ic css L R,Step (pList pIn) s6 l s∧RAt w wx B zs (mcells false x rs ro (.slice KA ks.length kc) hh (.slice IA l.length ic) (.slice none 0 0)) s∧LV InV 131 3 wx w7.heap.size (.slice IA l.length ic) l css L R∧l.length≤65535∧w7.heap.size≤wx.heap.size∧LVR KeyV 78 32 wx w5.heap.size wk0.heap.size (.slice KA ks.length kc) ks)
  case first =>
   have HG7:Hid (w.heap.size+1+1<w7.heap.size):=Hd HA11.out.row.lt;go_wp2_with fail;go_loopw [10] (fun i wr=>∃(k:Nat) (s:St) (V:Value) (l:List LIn),k≤n2∧i=.int .i64 k∧Loop3 InV 131 3 pIn w B zs (fun V=>mcells false x rs ro (.slice KA ks.length kc) hh V (.slice none 0 0)) s7 w7.heap.size k s V wr l∧LVR KeyV 78 32 wr w5.heap.size wk0.heap.size (.slice KA ks.length kc) ks) (fun i _=>n2 - (intOf i).toNat)
   case atStart=>exact⟨0,s7,.slice none 0 0,[],Nat.zero_le _,rfl,⟨rfl,Step.many0 _,HA11.out,⟨_,_,_,LV.none (L:=fun _=>0) (R:=fun _=>0) (World.ownsRow_nil _ _ _ _)⟩,Lr _⟩,HK8.out⟩
   case round =>
    clear HA11 HK8;obtain⟨k,s,V,l,hk,rfl,hl3,hkv⟩:=hrel;have HL:=Hd hl3;have HKV:=Hd hkv;obtain⟨css,L,R,hv⟩:=hl3.list;obtain⟨IA,ic,rfl⟩:=hv.form;have HV:=Hd hv;have c2:=hl3.at_.tk.ecell.1;have hcase:=hl3.at_.tk.ecell.2;have hlk:=hl3.len;clear hl3 hv hkv;by_cases hlt:k<n2
    ·rcases hcase with⟨h0,r',rfl⟩ | ⟨h0,cc,rfl⟩
     ·rw[h0]at c2;generalize (.ok r':St)=s at *;clear h0 hlk;have hq:=HL.out.at_.tk.lt;go_wp2_with fail;refine(Xdq (w.heap.size+1) B zs s wr HL.out.at_.tk (by omega) HZ.out).mono ?_;rintro e wa ⟨p0,v,sa,rfl,⟨rfl,-,-⟩,hsa,hta,hba⟩;have HSA:=Hd hsa;have HTA:=Hd hta;have HBA:=Hd hba;have HZA:=Hd hba.size;clear hsa hta hba c2 hq;have HON:Hid (∀u ∈ inCells p0 (.slice none 0 0) (.slice none 0 0),u.oneCell'=true):=Hd (by simp[inCells,Value.oneCell']);go_wp2_with (((with_reducible show wpList _ _ _ (⟨none,Op.store 131 _ _,_,_,_,_⟩::_) _ _);go_must(refine Xa1 rfl 131 (.tmp 11) (.tmp 86) rfl (inCells p0 (.slice none 0 0) (.slice none 0 0)) (Xbj _ _ _) HON.out rfl ?_ ?_ ?_;go_simp;go_simp;(try rfl);intro wb hrb hbb hzb;have HRB:=Hd hrb;have HBB:=Hd hbb;have HZB:=Hd hzb;clear hrb hbb hzb)))
      have HTB:=Hd (HTA.out.below HBB.out (by omega));have HBB2:=Hd (HBA.out.trans (But.of_below HBB.out (w.heap.size+1)));have HPQ:Hid (w.heap.size+1<wa.heap.size):=Hd HTA.out.lt;refine(Xcj (w.heap.size+1) B zs sa wb HTB.out (by omega) HZ.out).mono ?_;rintro e wc1 ⟨n1,v,sb,rfl,⟨rfl,hn1⟩,hsb,htb,hbc⟩;have HSB:=Hd hsb;have HTC:=Hd htb;have HRC:=Hd (hbc.row HRB.out (by have:=HPQ.out;omega));have HBC:=Hd (HBB2.out.trans hbc);have HZC:Hid (wa.heap.size<wc1.heap.size):=Hd (by have:=HZB.out;have:=hbc.size;omega);clear hsb htb hbc HBB HTB HBB2 HRB HTA HBA;go_wp2_with fail;refine(Xdx (w.heap.size+1) B n1 zs sb wc1 HTC.out (by omega) hn1).mono ?_;rintro e wd ⟨l1,v1,sc,rfl,⟨ho1,hl1,-⟩,hsc,htd,hbd⟩;have HSC:=Hd hsc;have HTD:=Hd htd;have hrd:=hbd.row HRC.out (by have:=HPQ.out;omega);have HRD:=Hd hrd;have HBD:=Hd (HBC.out.trans hbd);have HZD:=Hd hbd.size;have HO1:=Hd ho1;obtain⟨A1,c1',rfl⟩:=ho1.form;have e1:wd.cell? ⟨wa.heap.size,1,none⟩=some (.slice none 0 0):=hrd.cell 1;have g1:=hrd.frozen 1;clear hsc htd hbd ho1 hrd HTC HRC;go_wp2_with fail;have HT1:=Hd (Xa2 wd ⟨wa.heap.size,1,none⟩ (.slice A1 l1.length c1'));have HRE:Hid (Row (wd.setCell ⟨wa.heap.size,1,none⟩ (.slice A1 l1.length c1')) wa.heap.size 131 (inCells p0 (.slice A1 l1.length c1') (.slice none 0 0))):=Hd (HRD.out.set_ 1 _);clear e1 g1;generalize (wd.setCell ⟨wa.heap.size,1,none⟩ (.slice A1 l1.length c1'))=we at *;have HTE:=Hd (HTD.out.turned HT1.out (by have:=HPQ.out;simp;omega) (by have:=HPQ.out;simp;omega));have HBE:=Hd (HBD.out.turned HT1.out (by have:=HZA.out;simp;omega));refine(Xcj (w.heap.size+1) B zs sc we HTE.out (by omega) HZ.out).mono ?_;rintro e wf ⟨n3,v,sd,rfl,⟨rfl,hn3⟩,hsd,htf,hbf⟩;have HSD:=Hd hsd;have HTF:=Hd htf;have HRF:=Hd (hbf.row HRE.out (by have:=HPQ.out;omega));have HBF:=Hd (HBE.out.trans hbf);have HZF:Hid (wd.heap.size≤wf.heap.size):=Hd (by have:=HT1.out.size;have:=hbf.size;omega);have HO1F:=Hd (hbf.ownB (by have:=HPQ.out;have:=HZC.out;omega) (HO1.out.turned HT1.out (by have:=HZC.out;simpa using this)));clear hsd htf hbf HRE HTE HBE HRD HTD HBD;go_wp2_with fail;refine(Xdx (w.heap.size+1) B n3 zs sd wf HTF.out (by omega) hn3).mono ?_;rintro e wg ⟨l3,v3,se,rfl,⟨ho3,hl3,-⟩,hse,htg,hbg⟩;have HSE:=Hd hse;have HTG:=Hd htg;have hrg:=hbg.row HRF.out (by have:=HPQ.out;omega);have HRG:=Hd hrg;have HBG:=Hd (HBF.out.trans hbg);have HZG:=Hd hbg.size;have HO3:=Hd ho3;have HO1G:=Hd (hbg.ownB (by have:=HPQ.out;have:=HZC.out;omega) HO1F.out);obtain⟨A3,c3',rfl⟩:=ho3.form;have e1:wg.cell? ⟨wa.heap.size,2,none⟩=some (.slice none 0 0):=hrg.cell 2;have g1:=hrg.frozen 2;clear hse htg hbg ho3 hrg HTF HRF HBF;go_upto_region 25 with fail
      have HT2:=Hd (Xa2 wg ⟨wa.heap.size,2,none⟩ (.slice A3 l3.length c3'));have HRH:Hid (Row (wg.setCell ⟨wa.heap.size,2,none⟩ (.slice A3 l3.length c3')) wa.heap.size 131 (inCells p0 (.slice A1 l1.length c1') (.slice A3 l3.length c3'))):=Hd (HRG.out.set_ 2 _);clear e1 g1;generalize (wg.setCell ⟨wa.heap.size,2,none⟩ (.slice A3 l3.length c3'))=wh at *;have HZH:Hid (wh.heap.size=wg.heap.size):=Hd HT2.out.size;have hth:=HTG.out.turned HT2.out (by have:=HPQ.out;simp;omega) (by have:=HPQ.out;simp;omega);have hbh:=HBG.out.turned HT2.out (by have:=HZA.out;simp;omega);have hev:InV wh wr.heap.size wh.heap.size (inCells p0 (.slice A1 l1.length c1') (.slice A3 l3.length c3')) ⟨p0,l1,l3⟩:=by
       have z1:=HZA.out;have z2:=HZC.out;have z3:=HZD.out;have z4:=HZF.out;have z5:=HZG.out;have z6:=HZH.out;refine⟨_,_,wf.heap.size,rfl,by omega,by omega,⟨(HO1G.out.turned HT2.out (by simpa using z2)).more (by omega),fun q hq=>?_,hl1⟩,⟨HO3.out.turned HT2.out (by simp;omega),fun q hq=>?_,hl3⟩⟩
       ·have:=(HO1.out.lt q hq).2;omega
       ·have:=(HO3.out.lt q hq).2;omega
      have hst:=Step.in_ HSA.out (Step.bytes HSB.out HSC.out) (Step.bytes HSD.out HSE.out);have hah:=HL.out.at_.call hbh hth;have c37:=mc37 hah.row HH.out;have f37:=hah.row.frozen 37;have hvk:=(HV.out.but Xd7 hbh (by have:=HG7.out;omega)).own;have hkh:=HKV.out.but hbh (by have:=HG.out;omega);have HAH:=Hd hah;have HTH:=Hd hth;have HBH:=Hd hbh;have HEV:=Hd hev;have HST:=Hd hst;have HVK:=Hd hvk;have HKH:=Hd hkh;have HON:Hid (∀u ∈ inCells p0 (.slice A1 l1.length c1') (.slice A3 l3.length c3'),u.oneCell'=true):=Hd (by simp[inCells,Value.oneCell']);have HLW:Hid (w7.heap.size≤wh.heap.size∧l.length≤65535):=Hd ⟨by have:=HL.out.lo;have:=hbh.size;omega,by have:=HL.out.len;omega⟩;clear hah hth hbh hev hst hvk hkh HT2 HRG HTG HBG HO1G HO1F HO3 HO1 HSA HSB HSC HSD HSE hn1 hn3;go_wp2_with (first
       | ((with_reducible show wpList _ _ _ (⟨some 99,_,_,_,_,_⟩::_) _ _);go_must(refine Xa0 rfl 131 (.tmp 11) rfl wa.heap.size 131 (inCells p0 (.slice A1 l1.length c1') (.slice A3 l3.length c3')) _ Tryz.underlying131 rfl (Xbj _ _ _) HRH.out ?_ ?_;go_simp))
       | ((with_reducible show wpList _ _ _ (⟨some 100,_,_,_,_,_⟩::_) _ _);go_must(refine Xaa rfl 37 131 (.tmp 99) rfl (inCells p0 (.slice A1 l1.length c1') (.slice A3 l3.length c3')) _ 3 56 Tryz.underlying37 Xed Xgt (by omega) (by omega) rfl ?_ ?_;go_simp))
       | (at_builtin;go_must(refine Xag rfl (.tmp 98) (.tmp 100) 37 rfl w7.heap.size 131 _ 3 56 Tryz.underlying37 Xed Xgt (by omega) (.slice IA l.length ic) l.length css.flatten (inCells p0 (.slice A1 l1.length c1') (.slice A3 l3.length c3')) 1 rfl HON.out rfl ?_ HVK.out ?_ HLW.out.1 (by have:=HLW.out.2;unfold maxLen;omega) (by have:=HLW.out.2;omega) ?_;go_simp;go_simp;intro v4 w4 ho4 hg4;obtain⟨A4,c4',rfl⟩:=Xao ho4;have ha4:=HAH.out.grew hg4 HVK.out HG7.out hB;have e37:=mc37 ha4.row HH.out;have g37:=ha4.row.frozen 37;have HO4:=Hd ho4;have HG4:=Hd hg4;have HK4:=Hd (HKH.out.grew hg4 HVK.out (by have:=HZ8.out;omega));clear ho4 hg4 ha4)))
      have HN:=Hd (HL.out.snoc (c:=37) Xd7 HG7.out hB HV.out HBH.out HEV.out HST.out HTH.out HG4.out HO4.out fun w V V' h=>Xl4 h HH.out V');have HKN:=Hd (HK4.out.turned (Xa2 w4 ⟨w.heap.size+1+1,37,none⟩ (.slice A4 (l.length+1) c4')) (by have:=HG.out;simpa using this));go_roundw
      case rel=>exact⟨k+1,se,_,l++[⟨p0,l1,l3⟩],by omega,by go_num,HN.out,HKN.out⟩
      case measure=>simp[intOf];omega
     ·have h0':(ecode (.error cc)==0)=false:=by simpa using h0
      clear hlk h0;go_wp2_with fail;go_meet
      case rel=>exact⟨l,.error cc,IA,ic,css,L,R,Step.list HS7.out (HL.out.fail (Nat.le_of_lt hlt)),HL.out.at_,HV.out,by have:=HL.out.len;omega,HL.out.lo,HKV.out⟩
    ·obtain rfl:k=n2:=by omega
     clear hlk hcase;go_wp2_with fail;go_meet
     case rel=>exact⟨l,s,IA,ic,css,L,R,Step.list HS7.out HL.out.step,HL.out.at_,HV.out,by have:=HL.out.len;omega,HL.out.lo,HKV.out⟩
  case rest =>
   obtain⟨is,s8,IA,ic,css,L,R,hsp,hat,hv,hil,hiz,hkv⟩:=hcut;have HK9:=Hd hkv;have HI9:=Hd (LVR.of hv);have HS8:=Hd hsp;have HA12:=Hd hat;have HG8:=Hd (And.intro hil hiz);have HG7:Hid (w.heap.size+1+1<w7.heap.size):=Hd HA11.out.row.lt;have c0:wc.cell? ⟨w.heap.size+1+1,0,none⟩=some (.bool false):=hat.row.cell 0;clear hsp hat hv hil hiz hkv HA11 HK8 css L R hn2;have c2:=HA12.out.tk.ecell.1;have hcase:=HA12.out.tk.ecell.2;have hsz:(Tryz.prog.info? 40).map (·.size)=some (mcells false x rs ro (.slice KA ks.length kc) hh (.slice IA is.length ic) (.slice none 0 0)).length:=by rw[Xat,mlen HH.out]
   have HSM:=Hd hsz;clear hsz;have HMS:Hid (Step pMsg (.ok zs) ⟨false,x,rs,ro,ks,hh,is,[]⟩ s8):=Hd (Step.msg HF.out HS2.out HS3.out HS5.out HS6.out HS8.out (Step.looks0 _));rcases hcase with⟨h0,r',rfl⟩ | ⟨h0,cc,rfl⟩
   ·rw[h0]at c2;clear h0;go_wp2_with fail;have HLAST:Hid (Last3 (w.heap.size+1+1) ⟨w.heap.size+1,1,none⟩ (mcells false x rs ro (.slice KA ks.length kc) hh (.slice IA is.length ic) (.slice none 0 0)) (.int .i64 ((zs.length - r'.length:Nat):Int)) wc.drew):=Hd ⟨HA12.out.tk.acell,fun j u hu=>by rw[HA12.out.row.drew.cell,Nat.zero_add];exact hu⟩;clear c2;refine wp_region_held (S:=Last3 (w.heap.size+1+1) ⟨w.heap.size+1,1,none⟩ (mcells false x rs ro (.slice KA ks.length kc) hh (.slice IA is.length ic) (.slice none 0 0)) (.int .i64 ((zs.length - r'.length:Nat):Int))) (by kernel_rfl) ?_;try(change wpAnyH _ _ _ _ _ _ _ _ (World.drew _))
    refine Tl 0 (v:=.agg (mcells false x rs ro (.slice KA ks.length kc) hh (.slice IA is.length ic) (.slice none 0 0)).toArray) rfl (yieldsIf_load_mid (by rfl) 40 (.tmp 6) rfl (w.heap.size+1+1) 0 (by go_simp) (mcells false x rs ro (.slice KA ks.length kc) hh (.slice IA is.length ic) (.slice none 0 0)) _ (fun w hw=>hw.r) Tryz.underlying40 rfl HSM.out) HLAST.out ?_;try simp only[nm]
    refine Tk 1 rfl ?_ HLAST.out ?_ ⟨?_,rfl⟩
    ·intro w hw;go_simp;try with_reducible rfl
    try simp only[nm]
    refine Tk 2 rfl ?_ HLAST.out ?_ ⟨?_,rfl⟩
    ·intro w hw;go_simp;try with_reducible rfl
    try simp only[nm]
    refine Tk 3 rfl ?_ HLAST.out ?_ ⟨?_,rfl⟩
    ·intro w hw;go_simp;try with_reducible rfl
    try simp only[nm]
    refine Tk 4 rfl ?_ HLAST.out ?_ ⟨?_,rfl⟩
    ·intro w hw;have hc:=hw.c;go_simp;try with_reducible rfl
    try simp only[nm]
    refine Rl 5 rfl fun K hK=>?_
    have HKK:=Hd hK.out;clear hK;have HRS:=Hd HA12.out.res.drew;refine Xah (P:=Tryz.prog) (w:=wc.drew) (K:=K) 40 (.tmp 2) (.tmp 148) ?_ w.heap.size mzero (mcells false x rs ro (.slice KA ks.length kc) hh (.slice IA is.length ic) (.slice none 0 0)) HRS.out HSM.out ?_ ?_ ?_ ?_ ?_
    ·rfl
    ·rw[mlen HH.out];rfl
    ·exact mone rfl rfl rfl
    ·go_simp
    ·go_simp
    intro wl hrl htl;have HLAST2:Hid (Last3 (w.heap.size+1+1) ⟨w.heap.size+1,1,none⟩ (mcells false x rs ro (.slice KA ks.length kc) hh (.slice IA is.length ic) (.slice none 0 0)) (.int .i64 ((zs.length - r'.length:Nat):Int)) wl):=Hd ⟨(World.cell?_of_block (htl.block (w.heap.size+1) (by omega))).trans HLAST.out.c,fun j u hu=>by rw[(htl.row HA12.out.row.drew (by omega)).cell,Nat.zero_add];exact hu⟩;have HRL:=Hd hrl;have HTL:=Hd htl;refine HKK.out _ _ HLAST2.out ?_;clear HKK K hrl htl HLAST;have HLAST:=HLAST2;clear HLAST2;try simp only[nm]
    refine Tk 6 rfl ?_ HLAST.out ?_ ⟨?_,rfl⟩
    ·intro w hw;go_simp;try with_reducible rfl
    try simp only[nm]
    refine Tk 7 rfl ?_ HLAST.out ?_ ⟨?_,rfl⟩
    ·intro w hw;go_simp;try with_reducible rfl
    try simp only[nm]
    refine wpAnyH_done (by kernel_rfl) ?_ _;go_wp2_with fail;refine bodyPost_ret (Xb2 (h:=rfl) _ wl ⟨w.heap.size,0,none⟩ (.agg (mcells false x rs ro (.slice KA ks.length kc) hh (.slice IA is.length ic) (.slice none 0 0)).toArray) _ _ (by rfl) (run_loadVar_row wl w.heap.size 40 40 (mcells false x rs ro (.slice KA ks.length kc) hh (.slice IA is.length ic) (.slice none 0 0)).toArray (0,0) _ HRL.out.is Tryz.underlying40 rfl (by rw[List.size_toArray];exact HSM.out)) (by rfl) (by rfl)) rfl ?_;have hzl:wl.heap.size=wc.heap.size:=HTL.out.size;have z1:=HG.out;have z2:=HG5.out.2;have z3:=HG7.out;have z4:=HG8.out.2;have z5:=HZ8.out;have htl:Turned wc wl w.heap.size:=⟨HTL.out.os,HTL.out.tape,HTL.out.output,HTL.out.size,HTL.out.block⟩;refine⟨HA12.out.below.trans (htl.below (Lr _)),.inl ⟨⟨false,x,rs,ro,ks,hh,is,[]⟩,r',⟨KA,ks.length,kc,IA,is.length,ic,none,0,0⟩,HMS.out.done,rfl,HH.out,⟨HG5.out.1,HG8.out.1,by simp⟩,w5.heap.size,wk0.heap.size,w7.heap.size,wc.heap.size,wl.heap.size,wl.heap.size,?_,HK9.out.turned htl (by omega),HI9.out.turned htl (by omega),LVR.nil _ (Lr _)⟩⟩;omega
   ·have h0':(ecode (.error cc) != 0)=true:=by simpa using h0
    have ec:ecode (.error cc)=cc:=rfl;rw[ec]at c2 h0';clear h0 ec;go_wp2_with fail;have HLAST:Hid (Last3 (w.heap.size+1+1) ⟨w.heap.size+1,2,none⟩ (mcells false x rs ro (.slice KA ks.length kc) hh (.slice IA is.length ic) (.slice none 0 0)) (.int .i64 cc) wc.drew):=Hd ⟨HA12.out.tk.ecell.1,fun j u hu=>by rw[HA12.out.row.drew.cell,Nat.zero_add];exact hu⟩;clear c2;refine wp_region_held (S:=Last3 (w.heap.size+1+1) ⟨w.heap.size+1,2,none⟩ (mcells false x rs ro (.slice KA ks.length kc) hh (.slice IA is.length ic) (.slice none 0 0)) (.int .i64 cc)) (by kernel_rfl) ?_;try(change wpAnyH _ _ _ _ _ _ _ _ (World.drew _))
    refine Tk 0 rfl ?_ HLAST.out ?_ ⟨?_,rfl⟩
    ·intro w hw;go_simp;try with_reducible rfl
    try simp only[nm]
    refine Tk 1 rfl ?_ HLAST.out ?_ ⟨?_,rfl⟩
    ·intro w hw;go_simp;try with_reducible rfl
    try simp only[nm]
    refine Tk 2 rfl ?_ HLAST.out ?_ ⟨?_,rfl⟩
    ·intro w hw;go_simp;try with_reducible rfl
    try simp only[nm]
    refine Tk 3 rfl ?_ HLAST.out ?_ ⟨?_,rfl⟩
    ·intro w hw;go_simp;try with_reducible rfl
    try simp only[nm]
    refine Tk 4 rfl ?_ HLAST.out ?_ ⟨?_,rfl⟩
    ·intro w hw;have hc:=hw.c;go_simp;try with_reducible rfl
    try simp only[nm]
    refine Rl 5 rfl fun K hK=>?_
    have HKK:=Hd hK.out;clear hK;have HRS:=Hd HA12.out.res.drew;refine Xah (P:=Tryz.prog) (w:=wc.drew) (K:=K) 40 (.tmp 2) (.tmp 143) ?_ w.heap.size mzero mzero HRS.out Xci ?_ ?_ ?_ ?_ ?_
    ·rfl
    ·rfl
    ·exact Xbv
    ·go_simp
    ·go_simp;try rfl
    intro wl hrl htl;have HLAST2:Hid (Last3 (w.heap.size+1+1) ⟨w.heap.size+1,2,none⟩ (mcells false x rs ro (.slice KA ks.length kc) hh (.slice IA is.length ic) (.slice none 0 0)) (.int .i64 cc) wl):=Hd ⟨(World.cell?_of_block (htl.block (w.heap.size+1) (by omega))).trans HLAST.out.c,fun j u hu=>by rw[(htl.row HA12.out.row.drew (by omega)).cell,Nat.zero_add];exact hu⟩;have HRL:=Hd hrl;have HTL:=Hd htl;refine HKK.out _ _ HLAST2.out ?_;clear HKK K hrl htl HLAST;have HLAST:=HLAST2;clear HLAST2;try simp only[nm]
    refine Tk 6 rfl ?_ HLAST.out ?_ ⟨?_,rfl⟩
    ·intro w hw;go_simp;try with_reducible rfl
    try simp only[nm]
    refine Tk 7 rfl ?_ HLAST.out ?_ ⟨?_,rfl⟩
    ·intro w hw;go_simp;try with_reducible rfl
    try simp only[nm]
    refine wpAnyH_done (by kernel_rfl) ?_ _;go_wp2_with fail;refine bodyPost_ret (Xb2 (h:=rfl) _ wl ⟨w.heap.size,0,none⟩ (.agg mzero.toArray) _ _ (by rfl) (run_loadVar_row wl w.heap.size 40 40 mzero.toArray (0,0) _ HRL.out.is Tryz.underlying40 rfl (by rw[List.size_toArray];exact Xci)) (by rfl) (by rfl)) rfl ?_;have htl:Turned wc wl w.heap.size:=⟨HTL.out.os,HTL.out.tape,HTL.out.output,HTL.out.size,HTL.out.block⟩;exact⟨HA12.out.below.trans (htl.below (Lr _)),.inr ⟨cc,HMS.out.fell,rfl⟩⟩
theorem Xon(A:Option Addr)(c:Nat)(zs:List Int)(w:World)(B:Nat)(hx:Sees w B A zs.length (bv zs))(hB:B≤w.heap.size)(hnc:zs.length≤c∧(A=none→c=0))(hc:c≤maxLen)(hz:AllBytes zs)(r:List Int)(hP:pOctet zs=.ok (128,r)) :
 Calls Tryz.prog 140 #[.slice A zs.length c] w (RefGot w zs):=by
 have HX:=Hd hx;have HNC:=Hd (And.intro hnc hc);have HZ:=Hd hz;have HP:=Hd hP;clear hx hnc hc hP;go_enter Tryz.func140,Tryz.ntmps140
 go_wp2_with (((with_reducible show wpList _ _ _ (⟨none,Op.store 40 _ _,_,_,_,_⟩::_) _ _);go_must(refine Xa1 rfl 40 (.tmp 6) (.tmp 17) rfl mzero Xci Xbv rfl ?_ ?_ ?_;go_simp;go_simp;rfl;intro w1 hr1 hb1 hz1;have HR1:=Hd hr1;have HB1:=Hd hb1;clear hr1 hb1)))
 have ha1:RAt w w1 B zs mzero (.ok zs):=Xfq HX.out HNC.out.1 HNC.out.2 hB HR1.out HB1.out;have HA:=Hd ha1;clear HR1 HB1 ha1 hz1;generalize hzz:Value.agg #[Value.bool false,.int .u8 0,.int .u8 0,.int .u8 0,.slice none 0 0,.int .u8 0,.int .u8 0,.int .u8 0,.int .u8 0,.int .u8 0,.int .u8 0,.int .u8 0,.int .u8 0,.int .u8 0,.int .u8 0,.int .u8 0,.int .u8 0,.int .u8 0,.int .u8 0,.int .u8 0,.int .u8 0,.int .u8 0,.int .u8 0,.int .u8 0,.int .u8 0,.int .u8 0,.int .u8 0,.int .u8 0,.int .u8 0,.int .u8 0,.int .u8 0,.int .u8 0,.int .u8 0,.int .u8 0,.int .u8 0,.int .u8 0,.int .u8 0,.slice none 0 0,.slice none 0 0]=z17;clear hzz;refine(Xdq (w.heap.size+1) B zs (.ok zs) w1 HA.out.tk (by omega) HZ.out).mono ?_;rintro e w2 ⟨x,v,s1,rfl,⟨rfl,hx,hx0⟩,hs1,ht1,hb1⟩;have HA1:=Hd (HA.out.call hb1 ht1);have HS1:=Hd hs1;have c2:=ht1.ecell.1;have c1:w2.cell? ⟨w.heap.size+1+1,1,none⟩=some (.int .u8 0):=HA1.out.row.cell 1;have f1:=HA1.out.row.frozen 1;obtain⟨rfl,rfl⟩:x=128∧s1=.ok r:=Xgq HS1.out HP.out;rw[show ecode (.ok r)=0 from rfl]at c2;have c0:w2.cell? ⟨w.heap.size+1+1,0,none⟩=some (.bool false):=HA1.out.row.cell 0;have f0:=HA1.out.row.frozen 0;clear ht1 hb1 hs1 HA hx hx0 c1 f1;go_wp2_with fail;have HA1b:=Hd (HA1.out.set hB (mset0 HA1.out.row true));clear c0 f0 c2 HA1;generalize (w2.setCell ⟨w.heap.size+1+1,0,none⟩ (.bool true))=w2a at *;refine(Xdq (w.heap.size+1) B zs (.ok r) w2a HA1b.out.tk (by omega) HZ.out).mono ?_;rintro e w2 ⟨y,v,s1,rfl,⟨rfl,-,-⟩,hs,ht,hb⟩;have HA1:=Hd (HA1b.out.call hb ht);have HF:Hid (Step pFirst (.ok zs) (true,y) s1):=Hd (Step.first1 HS1.out hs);have c1:w2.cell? ⟨w.heap.size+1+1,1,none⟩=some (.int .u8 0):=HA1.out.row.cell 1;have f1:=HA1.out.row.frozen 1;have c2:=ht.ecell.1;clear hs ht hb HA1b HS1;go_wp2_with fail;have HA2:=Hd (HA1.out.set hB (mset1 HA1.out.row y));clear c1 f1 c2;generalize (w2.setCell ⟨w.heap.size+1+1,1,none⟩ (.int .u8 y))=w2' at *;refine(Xdq (w.heap.size+1) B zs s1 _ HA2.out.tk (by omega) HZ.out).mono ?_;rintro e w3 ⟨rs,v,s2,rfl,⟨rfl,-,-⟩,hs,ht,hb⟩;have HA3:=Hd (HA2.out.call hb ht);have HS2:=Hd hs;have c1:w3.cell? ⟨w.heap.size+1+1,2,none⟩=some (.int .u8 0):=HA3.out.row.cell 2;have f1:=HA3.out.row.frozen 2;clear hs ht hb HA1 HA2;go_wp2_with fail;have HA4:=Hd (HA3.out.set hB (mset2 HA3.out.row rs));clear c1 f1;generalize (w3.setCell ⟨w.heap.size+1+1,2,none⟩ (.int .u8 rs))=w3' at *;refine(Xdq (w.heap.size+1) B zs s2 _ HA4.out.tk (by omega) HZ.out).mono ?_;rintro e w4 ⟨ro,v,s3,rfl,⟨rfl,-,-⟩,hs,ht,hb⟩;have HA5:=Hd (HA4.out.call hb ht);have HS3:=Hd hs;have c1:w4.cell? ⟨w.heap.size+1+1,3,none⟩=some (.int .u8 0):=HA5.out.row.cell 3;have f1:=HA5.out.row.frozen 3;clear hs ht hb HA3 HA4;go_wp2_with fail;have HA6:=Hd (HA5.out.set hB (mset3 HA5.out.row ro));clear c1 f1;generalize (w4.setCell ⟨w.heap.size+1+1,3,none⟩ (.int .u8 ro))=w4' at *;refine(Xcj (w.heap.size+1) B zs s3 _ HA6.out.tk (by omega) HZ.out).mono ?_;rintro e w5 ⟨n,v,s4,rfl,⟨rfl,hn⟩,hs,ht,hb⟩;have HA7:=Hd (HA6.out.call hb ht);have HS4:=Hd hs;clear hs ht hb HA5 HA6;go_upto_block 0 with fail
 go_cut [9]from 48 to 66 (fun _ wc=>∃l s KA kc css L R,Step (pList (pTake 32)) s3 l s∧RAt w wc B zs (mcells true y rs ro (.slice KA l.length kc) zero32 (.slice none 0 0) (.slice none 0 0)) s∧LV KeyV 78 32 wc w5.heap.size (.slice KA l.length kc) l css L R∧l.length≤65535∧w5.heap.size≤wc.heap.size)
 case first =>
  have HG:Hid (w.heap.size+1+1<w5.heap.size):=Hd HA7.out.row.lt;go_wp2_with fail;go_loopw [9] (fun i wr=>∃(k:Nat) (s:St) (V:Value) (l:List (List Int)),k≤n∧i=.int .i64 k∧Loop3 KeyV 78 32 (pTake 32) w B zs (fun V=>mcells true y rs ro V zero32 (.slice none 0 0) (.slice none 0 0)) s4 w5.heap.size k s V wr l) (fun i _=>n - (intOf i).toNat)
  case atStart=>exact⟨0,s4,.slice none 0 0,[],Nat.zero_le _,rfl,rfl,Step.many0 _,HA7.out,⟨_,_,_,LV.none (L:=fun _=>0) (R:=fun _=>0) (World.ownsRow_nil _ _ _ _)⟩,Lr _⟩
  case round =>
   obtain⟨k,s,V,l,hk,rfl,hl3⟩:=hrel;have HL:=Hd hl3;obtain⟨css,L,R,hv⟩:=hl3.list;obtain⟨KA,kc,rfl⟩:=hv.form;have HV:=Hd hv;have c2:=hl3.at_.tk.ecell.1;have hcase:=hl3.at_.tk.ecell.2;have hlk:=hl3.len;clear hl3 hv;by_cases hlt:k<n
   ·rcases hcase with⟨h0,r',rfl⟩ | ⟨h0,cc,rfl⟩
    ·rw[h0]at c2;have c4:wr.cell? ⟨w.heap.size+1+1,4,none⟩=some (.slice KA l.length kc):=HL.out.at_.row.cell 4;have f4:=HL.out.at_.row.frozen 4;have HLK:=Hd hlk;clear h0 hlk;go_wp2_with fail;have hlk:=HLK.out;have d4:wr.drew.cell? ⟨w.heap.size+1+1,4,none⟩=some (.slice KA l.length kc):=c4;generalize (.ok r':St)=s at *;refine wp_region_held (S:=fun _=>True) (by kernel_rfl) ?_;try(change wpAnyH _ _ _ _ _ _ _ _ (World.drew _))
     refine Tk 0 rfl ?_ trivial ?_ ⟨?_,rfl⟩
     ·intro w _;go_simp;try with_reducible rfl
     try simp only[nm]
     refine Tk 2 rfl ?_ trivial ?_ ⟨?_,rfl⟩
     ·intro w _;go_simp;try with_reducible rfl
     try simp only[nm]
     refine Xc8 (i:=1) (j:=3) rfl rfl (by kernel_rfl) (by kernel_rfl) (by kernel_rfl) (fun K hK=>?_) (fun K hK=>?_)
     ·go_simp;refine hK _ _ trivial ?_;clear hK K;try simp only[nm]
      refine Rl 3 rfl fun K hK=>?_
      go_simp;refine(tkey_ (w.heap.size+1) B zs s wr.drew (HL.out.at_.tk.drewN 1) (by omega)).mono ?_;rintro e wk ⟨xk,v,s',rfl,⟨rfl,hx32⟩,hs1,ht1,hb1⟩;simp only[];refine hK _ _ trivial ?_;clear hK K;try simp only[nm]
      have hbk:But (w.heap.size+1) wr wk:=((But.refl _ wr).drewN 1).trans hb1;have hvk:=(HV.out.but Xaw hbk (by have:=HG.out;omega)).own;have hzk:=hbk.size;refine Rl 4 rfl fun K hK=>?_
      refine Xay 34 78 (.tmp 63) rfl (bv xk) _ 32 32 Tryz.underlying34 Xaj Xbn (by omega) (by omega) (by rw[bL,hx32]) ?_ ?_
      ·go_simp
      refine hK _ _ trivial ?_;clear hK K;try simp only[nm]
      refine Rl 5 rfl fun K hK=>?_
      refine Xca (.tmp 61) (.tmp 64) 34 rfl w5.heap.size 78 _ 32 32 Tryz.underlying34 Xaj Xbn (by omega) (.slice KA l.length kc) l.length css.flatten (bv xk) 1 (by rw[bL,hx32]) (Xae xk) rfl ?_ hvk ?_ (by have:=HL.out.lo;omega) (by unfold maxLen;omega) (by omega) ?_
      ·go_simp
      ·go_simp
      intro v4 w4 ho4 hg4;obtain⟨A4,c4',rfl⟩:=Xao ho4;refine hK _ _ trivial ?_;clear hK K;try simp only[nm]
      have ha4:=(HL.out.at_.call hbk ht1).grew hg4 hvk HG.out hB;have e4:w4.cell? ⟨w.heap.size+1+1,4,none⟩=some (.slice KA l.length kc):=ha4.row.cell 4;have g4:=ha4.row.frozen 4;clear hlk;refine Tk 6 rfl ?_ trivial ?_ ⟨?_,rfl⟩
      ·intro w _;go_simp;try with_reducible rfl
      try simp only[nm]
      refine Rl 7 rfl fun K hK=>?_
      go_simp;refine hK _ _ trivial ?_;clear hK K;refine wpAnyH_done (by kernel_rfl) ?_ _;have HN:=Hd (HL.out.snoc (c:=4) Xaw HG.out hB HV.out hbk ⟨rfl,hx32⟩ hs1 ht1 hg4 ho4 fun w V V' h=>mset4 h V');clear ha4 e4 g4 hg4 ho4 hvk hs1 ht1 hb1 hbk d4 c4 f4 c2;try simp only[nm]
      go_wp2_with fail;go_roundw
      case rel=>exact⟨k+1,s',_,l++[xk],by omega,by go_num,HN.out⟩
      case measure=>simp[intOf];omega
     ·go_simp;refine(tkey_ (w.heap.size+1) B zs s wr.drew (HL.out.at_.tk.drewN 1) (by omega)).mono ?_;rintro e wk ⟨xk,v,s',rfl,⟨rfl,hx32⟩,hs1,ht1,hb1⟩;simp only[];refine hK _ _ trivial ?_;clear hK K;try simp only[nm]
      have hbk:But (w.heap.size+1) wr wk:=((But.refl _ wr).drewN 1).trans hb1;have hvk:=(HV.out.but Xaw hbk (by have:=HG.out;omega)).own;have hzk:=hbk.size;refine Xc8 (i:=1) (j:=4) rfl rfl (by kernel_rfl) (by kernel_rfl) (by kernel_rfl) (fun K hK=>?_) (fun K hK=>?_)
      ·have e5:wk.cell? ⟨w.heap.size+1+1,4,none⟩=some (.slice KA l.length kc):=(hb1.row HL.out.at_.row.drew (by omega)).cell 4;go_simp;refine hK _ _ trivial ?_;clear hK K;try simp only[nm]
       clear e5;refine Rl 4 rfl fun K hK=>?_
       refine Xay 34 78 (.tmp 63) rfl (bv xk) _ 32 32 Tryz.underlying34 Xaj Xbn (by omega) (by omega) (by rw[bL,hx32]) ?_ ?_
       ·go_simp
       refine hK _ _ trivial ?_;clear hK K;try simp only[nm]
       refine Rl 5 rfl fun K hK=>?_
       refine Xca (.tmp 61) (.tmp 64) 34 rfl w5.heap.size 78 _ 32 32 Tryz.underlying34 Xaj Xbn (by omega) (.slice KA l.length kc) l.length css.flatten (bv xk) 1 (by rw[bL,hx32]) (Xae xk) rfl ?_ hvk ?_ (by have:=HL.out.lo;omega) (by unfold maxLen;omega) (by omega) ?_
       ·go_simp
       ·go_simp
       intro v4 w4 ho4 hg4;obtain⟨A4,c4',rfl⟩:=Xao ho4;refine hK _ _ trivial ?_;clear hK K;try simp only[nm]
       have ha4:=(HL.out.at_.call hbk ht1).grew hg4 hvk HG.out hB;have e4:w4.cell? ⟨w.heap.size+1+1,4,none⟩=some (.slice KA l.length kc):=ha4.row.cell 4;have g4:=ha4.row.frozen 4;clear hlk;refine Tk 6 rfl ?_ trivial ?_ ⟨?_,rfl⟩
       ·intro w _;go_simp;try with_reducible rfl
       try simp only[nm]
       refine Rl 7 rfl fun K hK=>?_
       go_simp;refine hK _ _ trivial ?_;clear hK K;refine wpAnyH_done (by kernel_rfl) ?_ _;have HN:=Hd (HL.out.snoc (c:=4) Xaw HG.out hB HV.out hbk ⟨rfl,hx32⟩ hs1 ht1 hg4 ho4 fun w V V' h=>mset4 h V');clear ha4 e4 g4 hg4 ho4 hvk hs1 ht1 hb1 hbk d4 c4 f4 c2;try simp only[nm]
       go_wp2_with fail;go_roundw
       case rel=>exact⟨k+1,s',_,l++[xk],by omega,by go_num,HN.out⟩
       case measure=>simp[intOf];omega
      ·refine Xay 34 78 (.tmp 63) rfl (bv xk) _ 32 32 Tryz.underlying34 Xaj Xbn (by omega) (by omega) (by rw[bL,hx32]) ?_ ?_
       ·go_simp
       refine hK _ _ trivial ?_;clear hK K;try simp only[nm]
       have e5:(wk.alloc (.cells (bv xk).toArray 78)).cell? ⟨w.heap.size+1+1,4,none⟩=some (.slice KA l.length kc):=((hb1.row HL.out.at_.row.drew (by omega)).alloc _).cell 4;refine Rl 1 rfl fun K hK=>?_
       go_simp;refine hK _ _ trivial ?_;clear hK K;try simp only[nm]
       clear e5;refine Rl 5 rfl fun K hK=>?_
       refine Xca (.tmp 61) (.tmp 64) 34 rfl w5.heap.size 78 _ 32 32 Tryz.underlying34 Xaj Xbn (by omega) (.slice KA l.length kc) l.length css.flatten (bv xk) 1 (by rw[bL,hx32]) (Xae xk) rfl ?_ hvk ?_ (by have:=HL.out.lo;omega) (by unfold maxLen;omega) (by omega) ?_
       ·go_simp
       ·go_simp
       intro v4 w4 ho4 hg4;obtain⟨A4,c4',rfl⟩:=Xao ho4;refine hK _ _ trivial ?_;clear hK K;try simp only[nm]
       have ha4:=(HL.out.at_.call hbk ht1).grew hg4 hvk HG.out hB;have e4:w4.cell? ⟨w.heap.size+1+1,4,none⟩=some (.slice KA l.length kc):=ha4.row.cell 4;have g4:=ha4.row.frozen 4;clear hlk;refine Tk 6 rfl ?_ trivial ?_ ⟨?_,rfl⟩
       ·intro w _;go_simp;try with_reducible rfl
       try simp only[nm]
       refine Rl 7 rfl fun K hK=>?_
       go_simp;refine hK _ _ trivial ?_;clear hK K;refine wpAnyH_done (by kernel_rfl) ?_ _;have HN:=Hd (HL.out.snoc (c:=4) Xaw HG.out hB HV.out hbk ⟨rfl,hx32⟩ hs1 ht1 hg4 ho4 fun w V V' h=>mset4 h V');clear ha4 e4 g4 hg4 ho4 hvk hs1 ht1 hb1 hbk d4 c4 f4 c2;try simp only[nm]
       go_wp2_with fail;go_roundw
       case rel=>exact⟨k+1,s',_,l++[xk],by omega,by go_num,HN.out⟩
       case measure=>simp[intOf];omega
    ·have h0':(ecode (.error cc)==0)=false:=by simpa using h0
     clear hlk h0;go_wp2_with fail;go_meet
     case rel=>exact⟨l,.error cc,KA,kc,css,L,R,Step.list HS4.out (HL.out.fail (Nat.le_of_lt hlt)),HL.out.at_,HV.out,by have:=HL.out.len;omega,HL.out.lo⟩
   ·obtain rfl:k=n:=by omega
    clear hlk hcase;go_wp2_with fail;go_meet
    case rel=>exact⟨l,s,KA,kc,css,L,R,Step.list HS4.out HL.out.step,HL.out.at_,HV.out,by have:=HL.out.len;omega,HL.out.lo⟩
 case rest =>
  obtain⟨ks,s5,KA,kc,css,L,R,hsp,hat,hv,hkl,hks⟩:=hcut;obtain⟨wk0,hwk0⟩:∃u:World,u=wc:=⟨_,rfl⟩;subst hwk0;have HK5:=Hd (LVR.of hv);have HS5:=Hd hsp;have HA8:=Hd hat;have HG5:=Hd (And.intro hkl hks);have HG:Hid (w.heap.size+1+1<w5.heap.size):=Hd HA7.out.row.lt;clear hsp hat hv hkl hks HA7 css L R;go_wp2_with fail;refine(tkey_ (w.heap.size+1) B zs s5 wk0 HA8.out.tk (by omega)).mono ?_;rintro e w6 ⟨hh,v,s6,rfl,⟨rfl,hh32⟩,hs,ht,hb⟩;have HA9:=Hd (HA8.out.call hb ht);have HS6:=Hd hs;have HK6:=Hd (HK5.out.but hb (by have:=HG.out;omega));have HZ6:=Hd hb.size;have HH:=Hd hh32;have hsz:(Tryz.prog.info? 36).map (·.size)=some (bv hh).length:=by rw[Xec,bL,hh32]
  have HSZ:=Hd hsz;clear hs ht hb hh32 hsz;go_wp2_with (((with_reducible show wpList _ _ _ (⟨none,Op.store 36 _ _,_,_,_,_⟩::_) _ _);go_must(refine Xa9 rfl 36 (.tmp 69) (.tmp 68) rfl (w.heap.size+1+1) 40 5 _ (bv hh) HA9.out.row HSZ.out (by rw[bL,HH.out,mlen Xbc];omega) (Xae hh) ?_ ?_ ?_;go_simp;go_simp;intro w6' hr6' ht6';have HA10:=Hd (HA9.out.turned hB (by rw[mpart Xbc HH.out]at hr6';exact hr6') ht6');have HK7:=Hd (HK6.out.turned ht6' HG.out);have HZ7:=Hd ht6'.size;clear hr6' ht6')))
  refine(Xcj (w.heap.size+1) B zs s6 _ HA10.out.tk (by omega) HZ.out).mono ?_;rintro e w7 ⟨n2,v,s7,rfl,⟨rfl,hn2⟩,hs,ht,hb⟩;have HA11:=Hd (HA10.out.call hb ht);have HS7:=Hd hs;have HK8:=Hd (HK7.out.but hb (by have:=HG.out;omega));have HZ8:Hid (wk0.heap.size≤w7.heap.size):=Hd (by have:=HZ6.out;have:=HZ7.out;have:=hb.size;omega);clear hs ht hb HA8 HA9 HA10 HK5 HK6 HK7 HZ6 HZ7;clear hn;go_upto_block 2 with fail
  go_cut [10]from 72 to 102 (fun _ wx=>∃l s IA ic css L R,Step (pList pIn) s6 l s∧RAt w wx B zs (mcells true y rs ro (.slice KA ks.length kc) hh (.slice IA l.length ic) (.slice none 0 0)) s∧LV InV 131 3 wx w7.heap.size (.slice IA l.length ic) l css L R∧l.length≤65535∧w7.heap.size≤wx.heap.size∧LVR KeyV 78 32 wx w5.heap.size wk0.heap.size (.slice KA ks.length kc) ks)
  case first =>
   have HG7:Hid (w.heap.size+1+1<w7.heap.size):=Hd HA11.out.row.lt;go_wp2_with fail;go_loopw [10] (fun i wr=>∃(k:Nat) (s:St) (V:Value) (l:List LIn),k≤n2∧i=.int .i64 k∧Loop3 InV 131 3 pIn w B zs (fun V=>mcells true y rs ro (.slice KA ks.length kc) hh V (.slice none 0 0)) s7 w7.heap.size k s V wr l∧LVR KeyV 78 32 wr w5.heap.size wk0.heap.size (.slice KA ks.length kc) ks) (fun i _=>n2 - (intOf i).toNat)
   case atStart=>exact⟨0,s7,.slice none 0 0,[],Nat.zero_le _,rfl,⟨rfl,Step.many0 _,HA11.out,⟨_,_,_,LV.none (L:=fun _=>0) (R:=fun _=>0) (World.ownsRow_nil _ _ _ _)⟩,Lr _⟩,HK8.out⟩
   case round =>
    clear HA11 HK8;obtain⟨k,s,V,l,hk,rfl,hl3,hkv⟩:=hrel;have HL:=Hd hl3;have HKV:=Hd hkv;obtain⟨css,L,R,hv⟩:=hl3.list;obtain⟨IA,ic,rfl⟩:=hv.form;have HV:=Hd hv;have c2:=hl3.at_.tk.ecell.1;have hcase:=hl3.at_.tk.ecell.2;have hlk:=hl3.len;clear hl3 hv hkv;by_cases hlt:k<n2
    ·rcases hcase with⟨h0,r',rfl⟩ | ⟨h0,cc,rfl⟩
     ·rw[h0]at c2;generalize (.ok r':St)=s at *;clear h0 hlk;have hq:=HL.out.at_.tk.lt;go_wp2_with fail;refine(Xdq (w.heap.size+1) B zs s wr HL.out.at_.tk (by omega) HZ.out).mono ?_;rintro e wa ⟨p0,v,sa,rfl,⟨rfl,-,-⟩,hsa,hta,hba⟩;have HSA:=Hd hsa;have HTA:=Hd hta;have HBA:=Hd hba;have HZA:=Hd hba.size;clear hsa hta hba c2 hq;have HON:Hid (∀u ∈ inCells p0 (.slice none 0 0) (.slice none 0 0),u.oneCell'=true):=Hd (by simp[inCells,Value.oneCell']);go_wp2_with (((with_reducible show wpList _ _ _ (⟨none,Op.store 131 _ _,_,_,_,_⟩::_) _ _);go_must(refine Xa1 rfl 131 (.tmp 11) (.tmp 86) rfl (inCells p0 (.slice none 0 0) (.slice none 0 0)) (Xbj _ _ _) HON.out rfl ?_ ?_ ?_;go_simp;go_simp;(try rfl);intro wb hrb hbb hzb;have HRB:=Hd hrb;have HBB:=Hd hbb;have HZB:=Hd hzb;clear hrb hbb hzb)))
      have HTB:=Hd (HTA.out.below HBB.out (by omega));have HBB2:=Hd (HBA.out.trans (But.of_below HBB.out (w.heap.size+1)));have HPQ:Hid (w.heap.size+1<wa.heap.size):=Hd HTA.out.lt;refine(Xcj (w.heap.size+1) B zs sa wb HTB.out (by omega) HZ.out).mono ?_;rintro e wc1 ⟨n1,v,sb,rfl,⟨rfl,hn1⟩,hsb,htb,hbc⟩;have HSB:=Hd hsb;have HTC:=Hd htb;have HRC:=Hd (hbc.row HRB.out (by have:=HPQ.out;omega));have HBC:=Hd (HBB2.out.trans hbc);have HZC:Hid (wa.heap.size<wc1.heap.size):=Hd (by have:=HZB.out;have:=hbc.size;omega);clear hsb htb hbc HBB HTB HBB2 HRB HTA HBA;go_wp2_with fail;refine(Xdx (w.heap.size+1) B n1 zs sb wc1 HTC.out (by omega) hn1).mono ?_;rintro e wd ⟨l1,v1,sc,rfl,⟨ho1,hl1,-⟩,hsc,htd,hbd⟩;have HSC:=Hd hsc;have HTD:=Hd htd;have hrd:=hbd.row HRC.out (by have:=HPQ.out;omega);have HRD:=Hd hrd;have HBD:=Hd (HBC.out.trans hbd);have HZD:=Hd hbd.size;have HO1:=Hd ho1;obtain⟨A1,c1',rfl⟩:=ho1.form;have e1:wd.cell? ⟨wa.heap.size,1,none⟩=some (.slice none 0 0):=hrd.cell 1;have g1:=hrd.frozen 1;clear hsc htd hbd ho1 hrd HTC HRC;go_wp2_with fail;have HT1:=Hd (Xa2 wd ⟨wa.heap.size,1,none⟩ (.slice A1 l1.length c1'));have HRE:Hid (Row (wd.setCell ⟨wa.heap.size,1,none⟩ (.slice A1 l1.length c1')) wa.heap.size 131 (inCells p0 (.slice A1 l1.length c1') (.slice none 0 0))):=Hd (HRD.out.set_ 1 _);clear e1 g1;generalize (wd.setCell ⟨wa.heap.size,1,none⟩ (.slice A1 l1.length c1'))=we at *;have HTE:=Hd (HTD.out.turned HT1.out (by have:=HPQ.out;simp;omega) (by have:=HPQ.out;simp;omega));have HBE:=Hd (HBD.out.turned HT1.out (by have:=HZA.out;simp;omega));refine(Xcj (w.heap.size+1) B zs sc we HTE.out (by omega) HZ.out).mono ?_;rintro e wf ⟨n3,v,sd,rfl,⟨rfl,hn3⟩,hsd,htf,hbf⟩;have HSD:=Hd hsd;have HTF:=Hd htf;have HRF:=Hd (hbf.row HRE.out (by have:=HPQ.out;omega));have HBF:=Hd (HBE.out.trans hbf);have HZF:Hid (wd.heap.size≤wf.heap.size):=Hd (by have:=HT1.out.size;have:=hbf.size;omega);have HO1F:=Hd (hbf.ownB (by have:=HPQ.out;have:=HZC.out;omega) (HO1.out.turned HT1.out (by have:=HZC.out;simpa using this)));clear hsd htf hbf HRE HTE HBE HRD HTD HBD;go_wp2_with fail;refine(Xdx (w.heap.size+1) B n3 zs sd wf HTF.out (by omega) hn3).mono ?_;rintro e wg ⟨l3,v3,se,rfl,⟨ho3,hl3,-⟩,hse,htg,hbg⟩;have HSE:=Hd hse;have HTG:=Hd htg;have hrg:=hbg.row HRF.out (by have:=HPQ.out;omega);have HRG:=Hd hrg;have HBG:=Hd (HBF.out.trans hbg);have HZG:=Hd hbg.size;have HO3:=Hd ho3;have HO1G:=Hd (hbg.ownB (by have:=HPQ.out;have:=HZC.out;omega) HO1F.out);obtain⟨A3,c3',rfl⟩:=ho3.form;have e1:wg.cell? ⟨wa.heap.size,2,none⟩=some (.slice none 0 0):=hrg.cell 2;have g1:=hrg.frozen 2;clear hse htg hbg ho3 hrg HTF HRF HBF;go_upto_region 25 with fail
      have HT2:=Hd (Xa2 wg ⟨wa.heap.size,2,none⟩ (.slice A3 l3.length c3'));have HRH:Hid (Row (wg.setCell ⟨wa.heap.size,2,none⟩ (.slice A3 l3.length c3')) wa.heap.size 131 (inCells p0 (.slice A1 l1.length c1') (.slice A3 l3.length c3'))):=Hd (HRG.out.set_ 2 _);clear e1 g1;generalize (wg.setCell ⟨wa.heap.size,2,none⟩ (.slice A3 l3.length c3'))=wh at *;have HZH:Hid (wh.heap.size=wg.heap.size):=Hd HT2.out.size;have hth:=HTG.out.turned HT2.out (by have:=HPQ.out;simp;omega) (by have:=HPQ.out;simp;omega);have hbh:=HBG.out.turned HT2.out (by have:=HZA.out;simp;omega);have hev:InV wh wr.heap.size wh.heap.size (inCells p0 (.slice A1 l1.length c1') (.slice A3 l3.length c3')) ⟨p0,l1,l3⟩:=by
       have z1:=HZA.out;have z2:=HZC.out;have z3:=HZD.out;have z4:=HZF.out;have z5:=HZG.out;have z6:=HZH.out;refine⟨_,_,wf.heap.size,rfl,by omega,by omega,⟨(HO1G.out.turned HT2.out (by simpa using z2)).more (by omega),fun q hq=>?_,hl1⟩,⟨HO3.out.turned HT2.out (by simp;omega),fun q hq=>?_,hl3⟩⟩
       ·have:=(HO1.out.lt q hq).2;omega
       ·have:=(HO3.out.lt q hq).2;omega
      have hst:=Step.in_ HSA.out (Step.bytes HSB.out HSC.out) (Step.bytes HSD.out HSE.out);have hah:=HL.out.at_.call hbh hth;have c37:=mc37 hah.row HH.out;have f37:=hah.row.frozen 37;have hvk:=(HV.out.but Xd7 hbh (by have:=HG7.out;omega)).own;have hkh:=HKV.out.but hbh (by have:=HG.out;omega);have HAH:=Hd hah;have HTH:=Hd hth;have HBH:=Hd hbh;have HEV:=Hd hev;have HST:=Hd hst;have HVK:=Hd hvk;have HKH:=Hd hkh;have HON:Hid (∀u ∈ inCells p0 (.slice A1 l1.length c1') (.slice A3 l3.length c3'),u.oneCell'=true):=Hd (by simp[inCells,Value.oneCell']);have HLW:Hid (w7.heap.size≤wh.heap.size∧l.length≤65535):=Hd ⟨by have:=HL.out.lo;have:=hbh.size;omega,by have:=HL.out.len;omega⟩;clear hah hth hbh hev hst hvk hkh HT2 HRG HTG HBG HO1G HO1F HO3 HO1 HSA HSB HSC HSD HSE hn1 hn3;go_wp2_with (first
       | ((with_reducible show wpList _ _ _ (⟨some 99,_,_,_,_,_⟩::_) _ _);go_must(refine Xa0 rfl 131 (.tmp 11) rfl wa.heap.size 131 (inCells p0 (.slice A1 l1.length c1') (.slice A3 l3.length c3')) _ Tryz.underlying131 rfl (Xbj _ _ _) HRH.out ?_ ?_;go_simp))
       | ((with_reducible show wpList _ _ _ (⟨some 100,_,_,_,_,_⟩::_) _ _);go_must(refine Xaa rfl 37 131 (.tmp 99) rfl (inCells p0 (.slice A1 l1.length c1') (.slice A3 l3.length c3')) _ 3 56 Tryz.underlying37 Xed Xgt (by omega) (by omega) rfl ?_ ?_;go_simp))
       | (at_builtin;go_must(refine Xag rfl (.tmp 98) (.tmp 100) 37 rfl w7.heap.size 131 _ 3 56 Tryz.underlying37 Xed Xgt (by omega) (.slice IA l.length ic) l.length css.flatten (inCells p0 (.slice A1 l1.length c1') (.slice A3 l3.length c3')) 1 rfl HON.out rfl ?_ HVK.out ?_ HLW.out.1 (by have:=HLW.out.2;unfold maxLen;omega) (by have:=HLW.out.2;omega) ?_;go_simp;go_simp;intro v4 w4 ho4 hg4;obtain⟨A4,c4',rfl⟩:=Xao ho4;have ha4:=HAH.out.grew hg4 HVK.out HG7.out hB;have e37:=mc37 ha4.row HH.out;have g37:=ha4.row.frozen 37;have HO4:=Hd ho4;have HG4:=Hd hg4;have HK4:=Hd (HKH.out.grew hg4 HVK.out (by have:=HZ8.out;omega));clear ho4 hg4 ha4)))
      have HN:=Hd (HL.out.snoc (c:=37) Xd7 HG7.out hB HV.out HBH.out HEV.out HST.out HTH.out HG4.out HO4.out fun w V V' h=>Xl4 h HH.out V');have HKN:=Hd (HK4.out.turned (Xa2 w4 ⟨w.heap.size+1+1,37,none⟩ (.slice A4 (l.length+1) c4')) (by have:=HG.out;simpa using this));go_roundw
      case rel=>exact⟨k+1,se,_,l++[⟨p0,l1,l3⟩],by omega,by go_num,HN.out,HKN.out⟩
      case measure=>simp[intOf];omega
     ·have h0':(ecode (.error cc)==0)=false:=by simpa using h0
      clear hlk h0;go_wp2_with fail;go_meet
      case rel=>exact⟨l,.error cc,IA,ic,css,L,R,Step.list HS7.out (HL.out.fail (Nat.le_of_lt hlt)),HL.out.at_,HV.out,by have:=HL.out.len;omega,HL.out.lo,HKV.out⟩
    ·obtain rfl:k=n2:=by omega
     clear hlk hcase;go_wp2_with fail;go_meet
     case rel=>exact⟨l,s,IA,ic,css,L,R,Step.list HS7.out HL.out.step,HL.out.at_,HV.out,by have:=HL.out.len;omega,HL.out.lo,HKV.out⟩
  case rest =>
   obtain⟨is,s8,IA,ic,css,L,R,hsp,hat,hv,hil,hiz,hkv⟩:=hcut;have HK9:=Hd hkv;have HI9:=Hd (LVR.of hv);have HS8:=Hd hsp;have HA12:=Hd hat;have HG8:=Hd (And.intro hil hiz);have HG7:Hid (w.heap.size+1+1<w7.heap.size):=Hd HA11.out.row.lt;have c0:wc.cell? ⟨w.heap.size+1+1,0,none⟩=some (.bool true):=hat.row.cell 0;clear hsp hat hv hil hiz hkv HA11 HK8 css L R hn2;go_wp2_with fail;refine(Xcj (w.heap.size+1) B zs s8 wc HA12.out.tk (by omega) HZ.out).mono ?_;rintro e w8 ⟨n4,v,s9,rfl,⟨rfl,hn4⟩,hs,ht,hb⟩;obtain⟨wk1,hwk1⟩:∃u:World,u=wc:=⟨_,rfl⟩;subst hwk1;have HA14:=Hd (HA12.out.call hb ht);have HS9:=Hd hs;have HK10:=Hd (HK9.out.but hb (by have:=HG.out;omega));have HI10:=Hd (HI9.out.but hb (by have:=HG7.out;omega));have HZ9:Hid (wk0.heap.size≤w8.heap.size∧wk1.heap.size≤w8.heap.size):=Hd (by have:=HZ8.out;have:=HG8.out.2;have:=hb.size;omega);clear hs ht hb HA12 HK9 HI9 c0;go_upto_block 4 with fail
   go_cut [12]from 107 to 137 (fun _ wy=>∃l s LA lc css L R,Step (pList pLook) s8 l s∧RAt w wy B zs (mcells true y rs ro (.slice KA ks.length kc) hh (.slice IA is.length ic) (.slice LA l.length lc)) s∧LV LookV 124 34 wy w8.heap.size (.slice LA l.length lc) l css L R∧l.length≤65535∧w8.heap.size≤wy.heap.size∧LVR KeyV 78 32 wy w5.heap.size wk0.heap.size (.slice KA ks.length kc) ks∧LVR InV 131 3 wy w7.heap.size wk1.heap.size (.slice IA is.length ic) is)
   case first =>
    have HG8c:Hid (w.heap.size+1+1<w8.heap.size):=Hd HA14.out.row.lt;go_wp2_with fail;go_loopw [12] (fun i wr=>∃(k:Nat) (s:St) (V:Value) (l:List LLook),k≤n4∧i=.int .i64 k∧Loop3 LookV 124 34 pLook w B zs (fun V=>mcells true y rs ro (.slice KA ks.length kc) hh (.slice IA is.length ic) V) s9 w8.heap.size k s V wr l∧LVR KeyV 78 32 wr w5.heap.size wk0.heap.size (.slice KA ks.length kc) ks∧LVR InV 131 3 wr w7.heap.size wk1.heap.size (.slice IA is.length ic) is) (fun i _=>n4 - (intOf i).toNat)
    case atStart=>exact⟨0,s9,.slice none 0 0,[],Nat.zero_le _,rfl,⟨rfl,Step.many0 _,HA14.out,⟨_,_,_,LV.none (L:=fun _=>0) (R:=fun _=>0) (World.ownsRow_nil _ _ _ _)⟩,Lr _⟩,HK10.out,HI10.out⟩
    case round =>
     clear HA14 HK10 HI10;obtain⟨k,s,V,l,hk,rfl,hl3,hkv,hiv⟩:=hrel;have HIV:=Hd hiv;clear hiv;have HL:=Hd hl3;have HKV:=Hd hkv;obtain⟨css,L,R,hv⟩:=hl3.list;obtain⟨LA,lc,rfl⟩:=hv.form;have HV:=Hd hv;have c2:=hl3.at_.tk.ecell.1;have hcase:=hl3.at_.tk.ecell.2;have hlk:=hl3.len;clear hl3 hv hkv;by_cases hlt:k<n4
     ·rcases hcase with⟨h0,r',rfl⟩ | ⟨h0,cc,rfl⟩
      ·rw[h0]at c2;generalize (.ok r':St)=s at *;clear h0 hlk;have hq:=HL.out.at_.tk.lt;go_wp2_with fail;refine(tkey_ (w.heap.size+1) B zs s wr HL.out.at_.tk (by omega)).mono ?_;rintro e wa ⟨p0,v,sa,rfl,⟨rfl,hp32⟩,hsa,hta,hba⟩;have HP32:=Hd hp32;clear hp32;have HSA:=Hd hsa;have HTA:=Hd hta;have HBA:=Hd hba;have HZA:=Hd hba.size;clear hsa hta hba c2 hq;have HON:Hid (∀u ∈ bv p0++[.slice none 0 0,.slice none 0 0],u.oneCell'=true):=Hd (Xnc p0 rfl rfl);go_wp2_with (first
        | ((with_reducible show wpList _ _ _ (⟨some 121,_,_,_,_,_⟩::_) _ _);go_must(refine Xgi rfl (.tmp 120) rfl (bv p0) (by rw[bL,HP32.out]) ?_ ?_;go_simp))
        | ((with_reducible show wpList _ _ _ (⟨none,Op.store 124 _ _,_,_,_,_⟩::_) _ _);go_must(refine Xa1 rfl 124 (.tmp 13) (.tmp 121) rfl (bv p0++[.slice none 0 0,.slice none 0 0]) (Xdm HP32.out _ _) HON.out (by simp[bL,HP32.out]) ?_ ?_ ?_;go_simp;go_simp;(try rfl);intro wb hrb hbb hzb;have HRB:=Hd hrb;have HBB:=Hd hbb;have HZB:=Hd hzb;clear hrb hbb hzb)))
       have HTB:=Hd (HTA.out.below HBB.out (by omega));have HBB2:=Hd (HBA.out.trans (But.of_below HBB.out (w.heap.size+1)));have HPQ:Hid (w.heap.size+1<wa.heap.size):=Hd HTA.out.lt;refine(Xcj (w.heap.size+1) B zs sa wb HTB.out (by omega) HZ.out).mono ?_;rintro e wc1 ⟨n1,v,sb,rfl,⟨rfl,hn1⟩,hsb,htb,hbc⟩;have HSB:=Hd hsb;have HTC:=Hd htb;have HRC:=Hd (hbc.row HRB.out (by have:=HPQ.out;omega));have HBC:=Hd (HBB2.out.trans hbc);have HZC:Hid (wa.heap.size<wc1.heap.size):=Hd (by have:=HZB.out;have:=hbc.size;omega);clear hsb htb hbc HBB HTB HBB2 HRB HTA HBA;go_wp2_with fail;refine(Xdx (w.heap.size+1) B n1 zs sb wc1 HTC.out (by omega) hn1).mono ?_;rintro e wd ⟨l1,v1,sc,rfl,⟨ho1,hl1,-⟩,hsc,htd,hbd⟩;have HSC:=Hd hsc;have HTD:=Hd htd;have hrd:=hbd.row HRC.out (by have:=HPQ.out;omega);have HRD:=Hd hrd;have HBD:=Hd (HBC.out.trans hbd);have HZD:=Hd hbd.size;have HO1:=Hd ho1;obtain⟨A1,c1',rfl⟩:=ho1.form;have e1:wd.cell? ⟨wa.heap.size,32,none⟩=some (.slice none 0 0):=(Xc5 hrd HP32.out).1;have g1:=hrd.frozen 32;clear hsc htd hbd ho1 hrd HTC HRC;go_wp2_with fail;have HT1:=Hd (Xa2 wd ⟨wa.heap.size,32,none⟩ (.slice A1 l1.length c1'));have HRE:Hid (Row (wd.setCell ⟨wa.heap.size,32,none⟩ (.slice A1 l1.length c1')) wa.heap.size 124 (bv p0++[.slice A1 l1.length c1',.slice none 0 0])):=Hd (lset32 HRD.out HP32.out _);clear e1 g1;generalize (wd.setCell ⟨wa.heap.size,32,none⟩ (.slice A1 l1.length c1'))=we at *;have HTE:=Hd (HTD.out.turned HT1.out (by have:=HPQ.out;simp;omega) (by have:=HPQ.out;simp;omega));have HBE:=Hd (HBD.out.turned HT1.out (by have:=HZA.out;simp;omega));refine(Xcj (w.heap.size+1) B zs sc we HTE.out (by omega) HZ.out).mono ?_;rintro e wf ⟨n3,v,sd,rfl,⟨rfl,hn3⟩,hsd,htf,hbf⟩;have HSD:=Hd hsd;have HTF:=Hd htf;have HRF:=Hd (hbf.row HRE.out (by have:=HPQ.out;omega));have HBF:=Hd (HBE.out.trans hbf);have HZF:Hid (wd.heap.size≤wf.heap.size):=Hd (by have:=HT1.out.size;have:=hbf.size;omega);have HO1F:=Hd (hbf.ownB (by have:=HPQ.out;have:=HZC.out;omega) (HO1.out.turned HT1.out (by have:=HZC.out;simpa using this)));clear hsd htf hbf HRE HTE HBE HRD HTD HBD;go_wp2_with fail;refine(Xdx (w.heap.size+1) B n3 zs sd wf HTF.out (by omega) hn3).mono ?_;rintro e wg ⟨l3,v3,se,rfl,⟨ho3,hl3,-⟩,hse,htg,hbg⟩;have HSE:=Hd hse;have HTG:=Hd htg;have hrg:=hbg.row HRF.out (by have:=HPQ.out;omega);have HRG:=Hd hrg;have HBG:=Hd (HBF.out.trans hbg);have HZG:=Hd hbg.size;have HO3:=Hd ho3;have HO1G:=Hd (hbg.ownB (by have:=HPQ.out;have:=HZC.out;omega) HO1F.out);obtain⟨A3,c3',rfl⟩:=ho3.form;have e1:wg.cell? ⟨wa.heap.size,33,none⟩=some (.slice none 0 0):=(Xc5 hrg HP32.out).2;have g1:=hrg.frozen 33;clear hse htg hbg ho3 hrg HTF HRF HBF;go_upto_region 34 with fail
       have HT2:=Hd (Xa2 wg ⟨wa.heap.size,33,none⟩ (.slice A3 l3.length c3'));have HRH:Hid (Row (wg.setCell ⟨wa.heap.size,33,none⟩ (.slice A3 l3.length c3')) wa.heap.size 124 (bv p0++[.slice A1 l1.length c1',.slice A3 l3.length c3'])):=Hd (lset33 HRG.out HP32.out _);clear e1 g1;generalize (wg.setCell ⟨wa.heap.size,33,none⟩ (.slice A3 l3.length c3'))=wh at *;have HZH:Hid (wh.heap.size=wg.heap.size):=Hd HT2.out.size;have hth:=HTG.out.turned HT2.out (by have:=HPQ.out;simp;omega) (by have:=HPQ.out;simp;omega);have hbh:=HBG.out.turned HT2.out (by have:=HZA.out;simp;omega);have hev:LookV wh wr.heap.size wh.heap.size (bv p0++[.slice A1 l1.length c1',.slice A3 l3.length c3']) ⟨p0,l1,l3⟩:=by
        have z1:=HZA.out;have z2:=HZC.out;have z3:=HZD.out;have z4:=HZF.out;have z5:=HZG.out;have z6:=HZH.out;refine⟨_,_,wf.heap.size,rfl,HP32.out,by omega,by omega,⟨(HO1G.out.turned HT2.out (by simpa using z2)).more (by omega),fun q hq=>?_,hl1⟩,⟨HO3.out.turned HT2.out (by simp;omega),fun q hq=>?_,hl3⟩⟩
        ·have:=(HO1.out.lt q hq).2;omega
        ·have:=(HO3.out.lt q hq).2;omega
       have hst:=Step.look HSA.out (Step.bytes HSB.out HSC.out) (Step.bytes HSD.out HSE.out);have hah:=HL.out.at_.call hbh hth;have c37:=mc38 hah.row HH.out;have f37:=hah.row.frozen 38;have hvk:=(HV.out.but Xe7 hbh (by have:=HG8c.out;omega)).own;have hkh:=HKV.out.but hbh (by have:=HG.out;omega);have HAH:=Hd hah;have HTH:=Hd hth;have HBH:=Hd hbh;have HEV:=Hd hev;have HST:=Hd hst;have HVK:=Hd hvk;have HKH:=Hd hkh;have HIH:=Hd (HIV.out.but HBH.out (by have:=HG7.out;omega));have HON:Hid (∀u ∈ bv p0++[.slice A1 l1.length c1',.slice A3 l3.length c3'],u.oneCell'=true):=Hd (Xnc p0 rfl rfl);have HLW:Hid (w8.heap.size≤wh.heap.size∧l.length≤65535):=Hd ⟨by have:=HL.out.lo;have:=hbh.size;omega,by have:=HL.out.len;omega⟩;clear hah hth hbh hev hst hvk hkh HT2 HRG HTG HBG HO1G HO1F HO3 HO1 HSA HSB HSC HSD HSE hn1 hn3;go_wp2_with (first
        | ((with_reducible show wpList _ _ _ (⟨some 134,_,_,_,_,_⟩::_) _ _);go_must(refine Xa0 rfl 124 (.tmp 13) rfl wa.heap.size 124 (bv p0++[.slice A1 l1.length c1',.slice A3 l3.length c3']) _ Tryz.underlying124 rfl (Xdm HP32.out _ _) HRH.out ?_ ?_;go_simp))
        | ((with_reducible show wpList _ _ _ (⟨some 135,_,_,_,_,_⟩::_) _ _);go_must(refine Xaa rfl 38 124 (.tmp 134) rfl (bv p0++[.slice A1 l1.length c1',.slice A3 l3.length c3']) _ 34 80 Tryz.underlying38 Xet Xh7 (by omega) (by omega) (by simp[bL,HP32.out]) ?_ ?_;go_simp))
        | (at_builtin;go_must(refine Xag rfl (.tmp 133) (.tmp 135) 38 rfl w8.heap.size 124 _ 34 80 Tryz.underlying38 Xet Xh7 (by omega) (.slice LA l.length lc) l.length css.flatten (bv p0++[.slice A1 l1.length c1',.slice A3 l3.length c3']) 1 (by simp[bL,HP32.out]) HON.out rfl ?_ HVK.out ?_ HLW.out.1 (by have:=HLW.out.2;unfold maxLen;omega) (by have:=HLW.out.2;omega) ?_;go_simp;go_simp;intro v4 w4 ho4 hg4;obtain⟨A4,c4',rfl⟩:=Xao ho4;have ha4:=HAH.out.grew hg4 HVK.out HG8c.out hB;have e37:=mc38 ha4.row HH.out;have g37:=ha4.row.frozen 38;have HO4:=Hd ho4;have HG4:=Hd hg4;have HK4:=Hd (HKH.out.grew hg4 HVK.out (by have:=HZ9.out;omega));have HI4:=Hd (HIH.out.grew hg4 HVK.out (by have:=HZ9.out;omega));clear ho4 hg4 ha4)))
       have HN:=Hd (HL.out.snoc (c:=38) Xe7 HG8c.out hB HV.out HBH.out HEV.out HST.out HTH.out HG4.out HO4.out fun w V V' h=>Xvk h HH.out V');have HKN:=Hd (HK4.out.turned (Xa2 w4 ⟨w.heap.size+1+1,38,none⟩ (.slice A4 (l.length+1) c4')) (by have:=HG.out;simpa using this));have HIN:=Hd (HI4.out.turned (Xa2 w4 ⟨w.heap.size+1+1,38,none⟩ (.slice A4 (l.length+1) c4')) (by have:=HG7.out;simpa using this));go_roundw
       case rel=>exact⟨k+1,se,_,l++[⟨p0,l1,l3⟩],by omega,by go_num,HN.out,HKN.out,HIN.out⟩
       case measure=>simp[intOf];omega
      ·have h0':(ecode (.error cc)==0)=false:=by simpa using h0
       clear hlk h0;go_wp2_with fail;go_meet
       case rel=>exact⟨l,.error cc,LA,lc,css,L,R,Step.list HS9.out (HL.out.fail (Nat.le_of_lt hlt)),HL.out.at_,HV.out,by have:=HL.out.len;omega,HL.out.lo,HKV.out,HIV.out⟩
     ·obtain rfl:k=n4:=by omega
      clear hlk hcase;go_wp2_with fail;go_meet
      case rel=>exact⟨l,s,LA,lc,css,L,R,Step.list HS9.out HL.out.step,HL.out.at_,HV.out,by have:=HL.out.len;omega,HL.out.lo,HKV.out,HIV.out⟩
   case rest =>
    obtain⟨ls,s10,LA,lc,css,L,R,hsp,hat,hv,hll,hlz,hkv,hiv⟩:=hcut;have HK11:=Hd hkv;have HI11:=Hd hiv;have HL11:=Hd (LVR.of hv);have HS10:=Hd hsp;have HA15:=Hd hat;have HG9:=Hd (And.intro hll hlz);have HG8b:Hid (w.heap.size+1+1<w8.heap.size):=Hd HA14.out.row.lt;clear hsp hat hv hll hlz hkv hiv HA14 HK10 HI10 css L R hn4;have c2:=HA15.out.tk.ecell.1;have hcase:=HA15.out.tk.ecell.2;have hsz:(Tryz.prog.info? 40).map (·.size)=some (mcells true y rs ro (.slice KA ks.length kc) hh (.slice IA is.length ic) (.slice LA ls.length lc)).length:=by rw[Xat,mlen HH.out]
    have HSM:=Hd hsz;clear hsz;have HMS:Hid (Step pMsg (.ok zs) ⟨true,y,rs,ro,ks,hh,is,ls⟩ s10):=Hd (Step.msg HF.out HS2.out HS3.out HS5.out HS6.out HS8.out (Step.looks1 HS10.out));rcases hcase with⟨h0,r',rfl⟩ | ⟨h0,cc,rfl⟩
    ·rw[h0]at c2;clear h0;go_wp2_with fail;have HLAST:Hid (Last3 (w.heap.size+1+1) ⟨w.heap.size+1,1,none⟩ (mcells true y rs ro (.slice KA ks.length kc) hh (.slice IA is.length ic) (.slice LA ls.length lc)) (.int .i64 ((zs.length - r'.length:Nat):Int)) wc.drew):=Hd ⟨HA15.out.tk.acell,fun j u hu=>by rw[HA15.out.row.drew.cell,Nat.zero_add];exact hu⟩;clear c2;refine wp_region_held (S:=Last3 (w.heap.size+1+1) ⟨w.heap.size+1,1,none⟩ (mcells true y rs ro (.slice KA ks.length kc) hh (.slice IA is.length ic) (.slice LA ls.length lc)) (.int .i64 ((zs.length - r'.length:Nat):Int))) (by kernel_rfl) ?_;try(change wpAnyH _ _ _ _ _ _ _ _ (World.drew _))
     refine Tl 0 (v:=.agg (mcells true y rs ro (.slice KA ks.length kc) hh (.slice IA is.length ic) (.slice LA ls.length lc)).toArray) rfl (yieldsIf_load_mid (by rfl) 40 (.tmp 6) rfl (w.heap.size+1+1) 0 (by go_simp) (mcells true y rs ro (.slice KA ks.length kc) hh (.slice IA is.length ic) (.slice LA ls.length lc)) _ (fun w hw=>hw.r) Tryz.underlying40 rfl HSM.out) HLAST.out ?_;try simp only[nm]
     refine Tk 1 rfl ?_ HLAST.out ?_ ⟨?_,rfl⟩
     ·intro w hw;go_simp;try with_reducible rfl
     try simp only[nm]
     refine Tk 2 rfl ?_ HLAST.out ?_ ⟨?_,rfl⟩
     ·intro w hw;go_simp;try with_reducible rfl
     try simp only[nm]
     refine Tk 3 rfl ?_ HLAST.out ?_ ⟨?_,rfl⟩
     ·intro w hw;go_simp;try with_reducible rfl
     try simp only[nm]
     refine Tk 4 rfl ?_ HLAST.out ?_ ⟨?_,rfl⟩
     ·intro w hw;have hc:=hw.c;go_simp;try with_reducible rfl
     try simp only[nm]
     refine Rl 5 rfl fun K hK=>?_
     have HKK:=Hd hK.out;clear hK;have HRS:=Hd HA15.out.res.drew;refine Xah (P:=Tryz.prog) (w:=wc.drew) (K:=K) 40 (.tmp 2) (.tmp 148) ?_ w.heap.size mzero (mcells true y rs ro (.slice KA ks.length kc) hh (.slice IA is.length ic) (.slice LA ls.length lc)) HRS.out HSM.out ?_ ?_ ?_ ?_ ?_
     ·rfl
     ·rw[mlen HH.out];rfl
     ·exact mone rfl rfl rfl
     ·go_simp
     ·go_simp
     intro wl hrl htl;have HLAST2:Hid (Last3 (w.heap.size+1+1) ⟨w.heap.size+1,1,none⟩ (mcells true y rs ro (.slice KA ks.length kc) hh (.slice IA is.length ic) (.slice LA ls.length lc)) (.int .i64 ((zs.length - r'.length:Nat):Int)) wl):=Hd ⟨(World.cell?_of_block (htl.block (w.heap.size+1) (by omega))).trans HLAST.out.c,fun j u hu=>by rw[(htl.row HA15.out.row.drew (by omega)).cell,Nat.zero_add];exact hu⟩;have HRL:=Hd hrl;have HTL:=Hd htl;refine HKK.out _ _ HLAST2.out ?_;clear HKK K hrl htl HLAST;have HLAST:=HLAST2;clear HLAST2;try simp only[nm]
     refine Tk 6 rfl ?_ HLAST.out ?_ ⟨?_,rfl⟩
     ·intro w hw;go_simp;try with_reducible rfl
     try simp only[nm]
     refine Tk 7 rfl ?_ HLAST.out ?_ ⟨?_,rfl⟩
     ·intro w hw;go_simp;try with_reducible rfl
     try simp only[nm]
     refine wpAnyH_done (by kernel_rfl) ?_ _;go_wp2_with fail;refine bodyPost_ret (Xb2 (h:=rfl) _ wl ⟨w.heap.size,0,none⟩ (.agg (mcells true y rs ro (.slice KA ks.length kc) hh (.slice IA is.length ic) (.slice LA ls.length lc)).toArray) _ _ (by rfl) (run_loadVar_row wl w.heap.size 40 40 (mcells true y rs ro (.slice KA ks.length kc) hh (.slice IA is.length ic) (.slice LA ls.length lc)).toArray (0,0) _ HRL.out.is Tryz.underlying40 rfl (by rw[List.size_toArray];exact HSM.out)) (by rfl) (by rfl)) rfl ?_;have hzl:wl.heap.size=wc.heap.size:=HTL.out.size;have z1:=HG.out;have z2:=HG5.out.2;have z3:=HG7.out;have z4:=HG8.out.2;have z5:=HZ8.out;have z6:=HZ9.out.2;have z7:=HG9.out.2;have htl:Turned wc wl w.heap.size:=⟨HTL.out.os,HTL.out.tape,HTL.out.output,HTL.out.size,HTL.out.block⟩;refine⟨HA15.out.below.trans (htl.below (Lr _)),.inl ⟨⟨true,y,rs,ro,ks,hh,is,ls⟩,r',⟨KA,ks.length,kc,IA,is.length,ic,LA,ls.length,lc⟩,HMS.out.done,rfl,HH.out,⟨HG5.out.1,HG8.out.1,HG9.out.1⟩,w5.heap.size,wk0.heap.size,w7.heap.size,wk1.heap.size,w8.heap.size,wl.heap.size,?_,HK11.out.turned htl (by omega),HI11.out.turned htl (by omega),by have h:=HL11.out.turned htl (by have:=HG8b.out;omega);rw[hzl];exact h⟩⟩;omega
    ·have h0':(ecode (.error cc) != 0)=true:=by simpa using h0
     have ec:ecode (.error cc)=cc:=rfl;rw[ec]at c2 h0';clear h0 ec;go_wp2_with fail;have HLAST:Hid (Last3 (w.heap.size+1+1) ⟨w.heap.size+1,2,none⟩ (mcells true y rs ro (.slice KA ks.length kc) hh (.slice IA is.length ic) (.slice LA ls.length lc)) (.int .i64 cc) wc.drew):=Hd ⟨HA15.out.tk.ecell.1,fun j u hu=>by rw[HA15.out.row.drew.cell,Nat.zero_add];exact hu⟩;clear c2;refine wp_region_held (S:=Last3 (w.heap.size+1+1) ⟨w.heap.size+1,2,none⟩ (mcells true y rs ro (.slice KA ks.length kc) hh (.slice IA is.length ic) (.slice LA ls.length lc)) (.int .i64 cc)) (by kernel_rfl) ?_;try(change wpAnyH _ _ _ _ _ _ _ _ (World.drew _))
     refine Tk 0 rfl ?_ HLAST.out ?_ ⟨?_,rfl⟩
     ·intro w hw;go_simp;try with_reducible rfl
     try simp only[nm]
     refine Tk 1 rfl ?_ HLAST.out ?_ ⟨?_,rfl⟩
     ·intro w hw;go_simp;try with_reducible rfl
     try simp only[nm]
     refine Tk 2 rfl ?_ HLAST.out ?_ ⟨?_,rfl⟩
     ·intro w hw;go_simp;try with_reducible rfl
     try simp only[nm]
     refine Tk 3 rfl ?_ HLAST.out ?_ ⟨?_,rfl⟩
     ·intro w hw;go_simp;try with_reducible rfl
     try simp only[nm]
     refine Tk 4 rfl ?_ HLAST.out ?_ ⟨?_,rfl⟩
     ·intro w hw;have hc:=hw.c;go_simp;try with_reducible rfl
     try simp only[nm]
     refine Rl 5 rfl fun K hK=>?_
     have HKK:=Hd hK.out;clear hK;have HRS:=Hd HA15.out.res.drew;refine Xah (P:=Tryz.prog) (w:=wc.drew) (K:=K) 40 (.tmp 2) (.tmp 143) ?_ w.heap.size mzero mzero HRS.out Xci ?_ ?_ ?_ ?_ ?_
     ·rfl
     ·rfl
     ·exact Xbv
     ·go_simp
     ·go_simp;try rfl
     intro wl hrl htl;have HLAST2:Hid (Last3 (w.heap.size+1+1) ⟨w.heap.size+1,2,none⟩ (mcells true y rs ro (.slice KA ks.length kc) hh (.slice IA is.length ic) (.slice LA ls.length lc)) (.int .i64 cc) wl):=Hd ⟨(World.cell?_of_block (htl.block (w.heap.size+1) (by omega))).trans HLAST.out.c,fun j u hu=>by rw[(htl.row HA15.out.row.drew (by omega)).cell,Nat.zero_add];exact hu⟩;have HRL:=Hd hrl;have HTL:=Hd htl;refine HKK.out _ _ HLAST2.out ?_;clear HKK K hrl htl HLAST;have HLAST:=HLAST2;clear HLAST2;try simp only[nm]
     refine Tk 6 rfl ?_ HLAST.out ?_ ⟨?_,rfl⟩
     ·intro w hw;go_simp;try with_reducible rfl
     try simp only[nm]
     refine Tk 7 rfl ?_ HLAST.out ?_ ⟨?_,rfl⟩
     ·intro w hw;go_simp;try with_reducible rfl
     try simp only[nm]
     refine wpAnyH_done (by kernel_rfl) ?_ _;go_wp2_with fail;refine bodyPost_ret (Xb2 (h:=rfl) _ wl ⟨w.heap.size,0,none⟩ (.agg mzero.toArray) _ _ (by rfl) (run_loadVar_row wl w.heap.size 40 40 mzero.toArray (0,0) _ HRL.out.is Tryz.underlying40 rfl (by rw[List.size_toArray];exact Xci)) (by rfl) (by rfl)) rfl ?_;have htl:Turned wc wl w.heap.size:=⟨HTL.out.os,HTL.out.tape,HTL.out.output,HTL.out.size,HTL.out.block⟩;exact⟨HA15.out.below.trans (htl.below (Lr _)),.inr ⟨cc,HMS.out.fell,rfl⟩⟩
end Go.Proofs.YtdgbodljmdcagaaGreatDoor
