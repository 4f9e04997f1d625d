import Derived.Test.YtdgbodljmdcagaaGreatDoorQ18
set_option maxRecDepth 100000
set_option maxHeartbeats 16000000
set_option linter.unusedSimpArgs false
set_option linter.unusedVariables false
namespace Go.Proofs.YtdgbodljmdcagaaGreatDoor
open Go.RowKit
theorem Xog(A:Option Addr)(c:Nat)(zs:List Int)(w:World)(B:Nat)(hx:Sees w B A zs.length (bv zs))(hB:B≤w.heap.size)(hnc:zs.length≤c∧(A=none→c=0))(hc:c≤maxLen)(hz:AllBytes zs)(k:Int)(hP:pOctet zs=.error k) :
 Calls Tryz.prog 140 #[.slice A zs.length c] w (RefGot w zs):=by
 have HX:=Hd hx;have HNC:=Hd (And.intro hnc hc);have HZ:=Hd hz;have HP:=Hd hP;clear hx hnc hc hP;go_enter Tryz.func140,Tryz.ntmps140
 go_wp2_with (((with_reducible show wpList _ _ _ (⟨none,Op.store 40 _ _,_,_,_,_⟩::_) _ _);go_must(refine Xa1 rfl 40 (.tmp 6) (.tmp 17) rfl mzero Xci Xbv rfl ?_ ?_ ?_;go_simp;go_simp;rfl;intro w1 hr1 hb1 hz1;have HR1:=Hd hr1;have HB1:=Hd hb1;clear hr1 hb1)))
 have ha1:RAt w w1 B zs mzero (.ok zs):=Xfq HX.out HNC.out.1 HNC.out.2 hB HR1.out HB1.out;have HA:=Hd ha1;clear HR1 HB1 ha1 hz1;generalize hzz:Value.agg #[Value.bool false,.int .u8 0,.int .u8 0,.int .u8 0,.slice none 0 0,.int .u8 0,.int .u8 0,.int .u8 0,.int .u8 0,.int .u8 0,.int .u8 0,.int .u8 0,.int .u8 0,.int .u8 0,.int .u8 0,.int .u8 0,.int .u8 0,.int .u8 0,.int .u8 0,.int .u8 0,.int .u8 0,.int .u8 0,.int .u8 0,.int .u8 0,.int .u8 0,.int .u8 0,.int .u8 0,.int .u8 0,.int .u8 0,.int .u8 0,.int .u8 0,.int .u8 0,.int .u8 0,.int .u8 0,.int .u8 0,.int .u8 0,.int .u8 0,.slice none 0 0,.slice none 0 0]=z17;clear hzz;refine(Xdq (w.heap.size+1) B zs (.ok zs) w1 HA.out.tk (by omega) HZ.out).mono ?_;rintro e w2 ⟨x,v,s1,rfl,⟨rfl,hx,hx0⟩,hs1,ht1,hb1⟩;have HA1:=Hd (HA.out.call hb1 ht1);have HS1:=Hd hs1;have c2:=ht1.ecell.1;have c1:w2.cell? ⟨w.heap.size+1+1,1,none⟩=some (.int .u8 0):=HA1.out.row.cell 1;have f1:=HA1.out.row.frozen 1;obtain rfl:s1=.error k:=Xkc HS1.out HP.out;obtain rfl:x=0:=hx0 k rfl;have he:(ecode (.error k)==0)=false:=by
  rcases ht1.ecell.2 with⟨_,r,h⟩ | ⟨h,_⟩
  ·cases h
  ·simpa using h
 have HF:Hid (Step pFirst (.ok zs) (false,0) (.error k)):=Hd (Step.first0 HS1.out (by omega) (by omega));generalize hek:ecode (.error k)=ek at *;clear hek;generalize (.error k:St)=s1 at *;clear ht1 hb1 hs1 HA hx hx0 HS1;go_wp2_with fail;have HA2:=Hd (HA1.out.set hB (mset1 HA1.out.row 0));clear c1 f1 c2;generalize (w2.setCell ⟨w.heap.size+1+1,1,none⟩ (.int .u8 0))=w2' at *;refine(Xdq (w.heap.size+1) B zs s1 _ HA2.out.tk (by omega) HZ.out).mono ?_;rintro e w3 ⟨rs,v,s2,rfl,⟨rfl,-,-⟩,hs,ht,hb⟩;have HA3:=Hd (HA2.out.call hb ht);have HS2:=Hd hs;have c1:w3.cell? ⟨w.heap.size+1+1,2,none⟩=some (.int .u8 0):=HA3.out.row.cell 2;have f1:=HA3.out.row.frozen 2;clear hs ht hb HA1 HA2;go_wp2_with fail;have HA4:=Hd (HA3.out.set hB (mset2 HA3.out.row rs));clear c1 f1;generalize (w3.setCell ⟨w.heap.size+1+1,2,none⟩ (.int .u8 rs))=w3' at *;refine(Xdq (w.heap.size+1) B zs s2 _ HA4.out.tk (by omega) HZ.out).mono ?_;rintro e w4 ⟨ro,v,s3,rfl,⟨rfl,-,-⟩,hs,ht,hb⟩;have HA5:=Hd (HA4.out.call hb ht);have HS3:=Hd hs;have c1:w4.cell? ⟨w.heap.size+1+1,3,none⟩=some (.int .u8 0):=HA5.out.row.cell 3;have f1:=HA5.out.row.frozen 3;clear hs ht hb HA3 HA4;go_wp2_with fail;have HA6:=Hd (HA5.out.set hB (mset3 HA5.out.row ro));clear c1 f1;generalize (w4.setCell ⟨w.heap.size+1+1,3,none⟩ (.int .u8 ro))=w4' at *;refine(Xcj (w.heap.size+1) B zs s3 _ HA6.out.tk (by omega) HZ.out).mono ?_;rintro e w5 ⟨n,v,s4,rfl,⟨rfl,hn⟩,hs,ht,hb⟩;have HA7:=Hd (HA6.out.call hb ht);have HS4:=Hd hs;clear hs ht hb HA5 HA6;go_upto_block 0 with fail
 go_cut [9]from 48 to 66 (fun _ wc=>∃l s KA kc css L R,Step (pList (pTake 32)) s3 l s∧RAt w wc B zs (mcells false 0 rs ro (.slice KA l.length kc) zero32 (.slice none 0 0) (.slice none 0 0)) s∧LV KeyV 78 32 wc w5.heap.size (.slice KA l.length kc) l css L R∧l.length≤65535∧w5.heap.size≤wc.heap.size)
 case first =>
  have HG:Hid (w.heap.size+1+1<w5.heap.size):=Hd HA7.out.row.lt;go_wp2_with fail;go_loopw [9] (fun i wr=>∃(k:Nat) (s:St) (V:Value) (l:List (List Int)),k≤n∧i=.int .i64 k∧Loop3 KeyV 78 32 (pTake 32) w B zs (fun V=>mcells false 0 rs ro V zero32 (.slice none 0 0) (.slice none 0 0)) s4 w5.heap.size k s V wr l) (fun i _=>n - (intOf i).toNat)
  case atStart=>exact⟨0,s4,.slice none 0 0,[],Nat.zero_le _,rfl,rfl,Step.many0 _,HA7.out,⟨_,_,_,LV.none (L:=fun _=>0) (R:=fun _=>0) (World.ownsRow_nil _ _ _ _)⟩,Lr _⟩
  case round =>
   obtain⟨k,s,V,l,hk,rfl,hl3⟩:=hrel;have HL:=Hd hl3;obtain⟨css,L,R,hv⟩:=hl3.list;obtain⟨KA,kc,rfl⟩:=hv.form;have HV:=Hd hv;have c2:=hl3.at_.tk.ecell.1;have hcase:=hl3.at_.tk.ecell.2;have hlk:=hl3.len;clear hl3 hv;by_cases hlt:k<n
   ·rcases hcase with⟨h0,r',rfl⟩ | ⟨h0,cc,rfl⟩
    ·rw[h0]at c2;have c4:wr.cell? ⟨w.heap.size+1+1,4,none⟩=some (.slice KA l.length kc):=HL.out.at_.row.cell 4;have f4:=HL.out.at_.row.frozen 4;have HLK:=Hd hlk;clear h0 hlk;go_wp2_with fail;have hlk:=HLK.out;have d4:wr.drew.cell? ⟨w.heap.size+1+1,4,none⟩=some (.slice KA l.length kc):=c4;generalize (.ok r':St)=s at *;refine wp_region_held (S:=fun _=>True) (by kernel_rfl) ?_;try(change wpAnyH _ _ _ _ _ _ _ _ (World.drew _))
     refine Tk 0 rfl ?_ trivial ?_ ⟨?_,rfl⟩
     ·intro w _;go_simp;try with_reducible rfl
     try simp only[nm]
     refine Tk 2 rfl ?_ trivial ?_ ⟨?_,rfl⟩
     ·intro w _;go_simp;try with_reducible rfl
     try simp only[nm]
     refine Xc8 (i:=1) (j:=3) rfl rfl (by kernel_rfl) (by kernel_rfl) (by kernel_rfl) (fun K hK=>?_) (fun K hK=>?_)
     ·go_simp;refine hK _ _ trivial ?_;clear hK K;try simp only[nm]
      refine Rl 3 rfl fun K hK=>?_
      go_simp;refine(tkey_ (w.heap.size+1) B zs s wr.drew (HL.out.at_.tk.drewN 1) (by omega)).mono ?_;rintro e wk ⟨xk,v,s',rfl,⟨rfl,hx32⟩,hs1,ht1,hb1⟩;simp only[];refine hK _ _ trivial ?_;clear hK K;try simp only[nm]
      have hbk:But (w.heap.size+1) wr wk:=((But.refl _ wr).drewN 1).trans hb1;have hvk:=(HV.out.but Xaw hbk (by have:=HG.out;omega)).own;have hzk:=hbk.size;refine Rl 4 rfl fun K hK=>?_
      refine Xay 34 78 (.tmp 63) rfl (bv xk) _ 32 32 Tryz.underlying34 Xaj Xbn (by omega) (by omega) (by rw[bL,hx32]) ?_ ?_
      ·go_simp
      refine hK _ _ trivial ?_;clear hK K;try simp only[nm]
      refine Rl 5 rfl fun K hK=>?_
      refine Xca (.tmp 61) (.tmp 64) 34 rfl w5.heap.size 78 _ 32 32 Tryz.underlying34 Xaj Xbn (by omega) (.slice KA l.length kc) l.length css.flatten (bv xk) 1 (by rw[bL,hx32]) (Xae xk) rfl ?_ hvk ?_ (by have:=HL.out.lo;omega) (by unfold maxLen;omega) (by omega) ?_
      ·go_simp
      ·go_simp
      intro v4 w4 ho4 hg4;obtain⟨A4,c4',rfl⟩:=Xao ho4;refine hK _ _ trivial ?_;clear hK K;try simp only[nm]
      have ha4:=(HL.out.at_.call hbk ht1).grew hg4 hvk HG.out hB;have e4:w4.cell? ⟨w.heap.size+1+1,4,none⟩=some (.slice KA l.length kc):=ha4.row.cell 4;have g4:=ha4.row.frozen 4;clear hlk;refine Tk 6 rfl ?_ trivial ?_ ⟨?_,rfl⟩
      ·intro w _;go_simp;try with_reducible rfl
      try simp only[nm]
      refine Rl 7 rfl fun K hK=>?_
      go_simp;refine hK _ _ trivial ?_;clear hK K;refine wpAnyH_done (by kernel_rfl) ?_ _;have HN:=Hd (HL.out.snoc (c:=4) Xaw HG.out hB HV.out hbk ⟨rfl,hx32⟩ hs1 ht1 hg4 ho4 fun w V V' h=>mset4 h V');clear ha4 e4 g4 hg4 ho4 hvk hs1 ht1 hb1 hbk d4 c4 f4 c2;try simp only[nm]
      go_wp2_with fail;go_roundw
      case rel=>exact⟨k+1,s',_,l++[xk],by omega,by go_num,HN.out⟩
      case measure=>simp[intOf];omega
     ·go_simp;refine(tkey_ (w.heap.size+1) B zs s wr.drew (HL.out.at_.tk.drewN 1) (by omega)).mono ?_;rintro e wk ⟨xk,v,s',rfl,⟨rfl,hx32⟩,hs1,ht1,hb1⟩;simp only[];refine hK _ _ trivial ?_;clear hK K;try simp only[nm]
      have hbk:But (w.heap.size+1) wr wk:=((But.refl _ wr).drewN 1).trans hb1;have hvk:=(HV.out.but Xaw hbk (by have:=HG.out;omega)).own;have hzk:=hbk.size;refine Xc8 (i:=1) (j:=4) rfl rfl (by kernel_rfl) (by kernel_rfl) (by kernel_rfl) (fun K hK=>?_) (fun K hK=>?_)
      ·have e5:wk.cell? ⟨w.heap.size+1+1,4,none⟩=some (.slice KA l.length kc):=(hb1.row HL.out.at_.row.drew (by omega)).cell 4;go_simp;refine hK _ _ trivial ?_;clear hK K;try simp only[nm]
       clear e5;refine Rl 4 rfl fun K hK=>?_
       refine Xay 34 78 (.tmp 63) rfl (bv xk) _ 32 32 Tryz.underlying34 Xaj Xbn (by omega) (by omega) (by rw[bL,hx32]) ?_ ?_
       ·go_simp
       refine hK _ _ trivial ?_;clear hK K;try simp only[nm]
       refine Rl 5 rfl fun K hK=>?_
       refine Xca (.tmp 61) (.tmp 64) 34 rfl w5.heap.size 78 _ 32 32 Tryz.underlying34 Xaj Xbn (by omega) (.slice KA l.length kc) l.length css.flatten (bv xk) 1 (by rw[bL,hx32]) (Xae xk) rfl ?_ hvk ?_ (by have:=HL.out.lo;omega) (by unfold maxLen;omega) (by omega) ?_
       ·go_simp
       ·go_simp
       intro v4 w4 ho4 hg4;obtain⟨A4,c4',rfl⟩:=Xao ho4;refine hK _ _ trivial ?_;clear hK K;try simp only[nm]
       have ha4:=(HL.out.at_.call hbk ht1).grew hg4 hvk HG.out hB;have e4:w4.cell? ⟨w.heap.size+1+1,4,none⟩=some (.slice KA l.length kc):=ha4.row.cell 4;have g4:=ha4.row.frozen 4;clear hlk;refine Tk 6 rfl ?_ trivial ?_ ⟨?_,rfl⟩
       ·intro w _;go_simp;try with_reducible rfl
       try simp only[nm]
       refine Rl 7 rfl fun K hK=>?_
       go_simp;refine hK _ _ trivial ?_;clear hK K;refine wpAnyH_done (by kernel_rfl) ?_ _;have HN:=Hd (HL.out.snoc (c:=4) Xaw HG.out hB HV.out hbk ⟨rfl,hx32⟩ hs1 ht1 hg4 ho4 fun w V V' h=>mset4 h V');clear ha4 e4 g4 hg4 ho4 hvk hs1 ht1 hb1 hbk d4 c4 f4 c2;try simp only[nm]
       go_wp2_with fail;go_roundw
       case rel=>exact⟨k+1,s',_,l++[xk],by omega,by go_num,HN.out⟩
       case measure=>simp[intOf];omega
      ·refine Xay 34 78 (.tmp 63) rfl (bv xk) _ 32 32 Tryz.underlying34 Xaj Xbn (by omega) (by omega) (by rw[bL,hx32]) ?_ ?_
       ·go_simp
       refine hK _ _ trivial ?_;clear hK K;try simp only[nm]
       have e5:(wk.alloc (.cells (bv xk).toArray 78)).cell? ⟨w.heap.size+1+1,4,none⟩=some (.slice KA l.length kc):=((hb1.row HL.out.at_.row.drew (by omega)).alloc _).cell 4;refine Rl 1 rfl fun K hK=>?_
       go_simp;refine hK _ _ trivial ?_;clear hK K;try simp only[nm]
       clear e5;refine Rl 5 rfl fun K hK=>?_
       refine Xca (.tmp 61) (.tmp 64) 34 rfl w5.heap.size 78 _ 32 32 Tryz.underlying34 Xaj Xbn (by omega) (.slice KA l.length kc) l.length css.flatten (bv xk) 1 (by rw[bL,hx32]) (Xae xk) rfl ?_ hvk ?_ (by have:=HL.out.lo;omega) (by unfold maxLen;omega) (by omega) ?_
       ·go_simp
       ·go_simp
       intro v4 w4 ho4 hg4;obtain⟨A4,c4',rfl⟩:=Xao ho4;refine hK _ _ trivial ?_;clear hK K;try simp only[nm]
       have ha4:=(HL.out.at_.call hbk ht1).grew hg4 hvk HG.out hB;have e4:w4.cell? ⟨w.heap.size+1+1,4,none⟩=some (.slice KA l.length kc):=ha4.row.cell 4;have g4:=ha4.row.frozen 4;clear hlk;refine Tk 6 rfl ?_ trivial ?_ ⟨?_,rfl⟩
       ·intro w _;go_simp;try with_reducible rfl
       try simp only[nm]
       refine Rl 7 rfl fun K hK=>?_
       go_simp;refine hK _ _ trivial ?_;clear hK K;refine wpAnyH_done (by kernel_rfl) ?_ _;have HN:=Hd (HL.out.snoc (c:=4) Xaw HG.out hB HV.out hbk ⟨rfl,hx32⟩ hs1 ht1 hg4 ho4 fun w V V' h=>mset4 h V');clear ha4 e4 g4 hg4 ho4 hvk hs1 ht1 hb1 hbk d4 c4 f4 c2;try simp only[nm]
       go_wp2_with fail;go_roundw
       case rel=>exact⟨k+1,s',_,l++[xk],by omega,by go_num,HN.out⟩
       case measure=>simp[intOf];omega
    ·have h0':(ecode (.error cc)==0)=false:=by simpa using h0
     clear hlk h0;go_wp2_with fail;go_meet
     case rel=>exact⟨l,.error cc,KA,kc,css,L,R,Step.list HS4.out (HL.out.fail (Nat.le_of_lt hlt)),HL.out.at_,HV.out,by have:=HL.out.len;omega,HL.out.lo⟩
   ·obtain rfl:k=n:=by omega
    clear hlk hcase;go_wp2_with fail;go_meet
    case rel=>exact⟨l,s,KA,kc,css,L,R,Step.list HS4.out HL.out.step,HL.out.at_,HV.out,by have:=HL.out.len;omega,HL.out.lo⟩
 case rest =>
  obtain⟨ks,s5,KA,kc,css,L,R,hsp,hat,hv,hkl,hks⟩:=hcut;obtain⟨wk0,hwk0⟩:∃u:World,u=wc:=⟨_,rfl⟩;subst hwk0;have HK5:=Hd (LVR.of hv);have HS5:=Hd hsp;have HA8:=Hd hat;have HG5:=Hd (And.intro hkl hks);have HG:Hid (w.heap.size+1+1<w5.heap.size):=Hd HA7.out.row.lt;clear hsp hat hv hkl hks HA7 css L R;go_wp2_with fail;refine(tkey_ (w.heap.size+1) B zs s5 wk0 HA8.out.tk (by omega)).mono ?_;rintro e w6 ⟨hh,v,s6,rfl,⟨rfl,hh32⟩,hs,ht,hb⟩;have HA9:=Hd (HA8.out.call hb ht);have HS6:=Hd hs;have HK6:=Hd (HK5.out.but hb (by have:=HG.out;omega));have HZ6:=Hd hb.size;have HH:=Hd hh32;have hsz:(Tryz.prog.info? 36).map (·.size)=some (bv hh).length:=by rw[Xec,bL,hh32]
  have HSZ:=Hd hsz;clear hs ht hb hh32 hsz;go_wp2_with (((with_reducible show wpList _ _ _ (⟨none,Op.store 36 _ _,_,_,_,_⟩::_) _ _);go_must(refine Xa9 rfl 36 (.tmp 69) (.tmp 68) rfl (w.heap.size+1+1) 40 5 _ (bv hh) HA9.out.row HSZ.out (by rw[bL,HH.out,mlen Xbc];omega) (Xae hh) ?_ ?_ ?_;go_simp;go_simp;intro w6' hr6' ht6';have HA10:=Hd (HA9.out.turned hB (by rw[mpart Xbc HH.out]at hr6';exact hr6') ht6');have HK7:=Hd (HK6.out.turned ht6' HG.out);have HZ7:=Hd ht6'.size;clear hr6' ht6')))
  refine(Xcj (w.heap.size+1) B zs s6 _ HA10.out.tk (by omega) HZ.out).mono ?_;rintro e w7 ⟨n2,v,s7,rfl,⟨rfl,hn2⟩,hs,ht,hb⟩;have HA11:=Hd (HA10.out.call hb ht);have HS7:=Hd hs;have HK8:=Hd (HK7.out.but hb (by have:=HG.out;omega));have HZ8:Hid (wk0.heap.size≤w7.heap.size):=Hd (by have:=HZ6.out;have:=HZ7.out;have:=hb.size;omega);clear hs ht hb HA8 HA9 HA10 HK5 HK6 HK7 HZ6 HZ7;clear hn;go_upto_block 2 with fail
  go_cut [10]from 72 to 102 (fun _ wx=>∃l s IA ic css L R,Step (pList pIn) s6 l s∧RAt w wx B zs (mcells false 0 rs ro (.slice KA ks.length kc) hh (.slice IA l.length ic) (.slice none 0 0)) s∧LV InV 131 3 wx w7.heap.size (.slice IA l.length ic) l css L R∧l.length≤65535∧w7.heap.size≤wx.heap.size∧LVR KeyV 78 32 wx w5.heap.size wk0.heap.size (.slice KA ks.length kc) ks)
  case first =>
   have HG7:Hid (w.heap.size+1+1<w7.heap.size):=Hd HA11.out.row.lt;go_wp2_with fail;go_loopw [10] (fun i wr=>∃(k:Nat) (s:St) (V:Value) (l:List LIn),k≤n2∧i=.int .i64 k∧Loop3 InV 131 3 pIn w B zs (fun V=>mcells false 0 rs ro (.slice KA ks.length kc) hh V (.slice none 0 0)) s7 w7.heap.size k s V wr l∧LVR KeyV 78 32 wr w5.heap.size wk0.heap.size (.slice KA ks.length kc) ks) (fun i _=>n2 - (intOf i).toNat)
   case atStart=>exact⟨0,s7,.slice none 0 0,[],Nat.zero_le _,rfl,⟨rfl,Step.many0 _,HA11.out,⟨_,_,_,LV.none (L:=fun _=>0) (R:=fun _=>0) (World.ownsRow_nil _ _ _ _)⟩,Lr _⟩,HK8.out⟩
   case round =>
    clear HA11 HK8;obtain⟨k,s,V,l,hk,rfl,hl3,hkv⟩:=hrel;have HL:=Hd hl3;have HKV:=Hd hkv;obtain⟨css,L,R,hv⟩:=hl3.list;obtain⟨IA,ic,rfl⟩:=hv.form;have HV:=Hd hv;have c2:=hl3.at_.tk.ecell.1;have hcase:=hl3.at_.tk.ecell.2;have hlk:=hl3.len;clear hl3 hv hkv;by_cases hlt:k<n2
    ·rcases hcase with⟨h0,r',rfl⟩ | ⟨h0,cc,rfl⟩
     ·rw[h0]at c2;generalize (.ok r':St)=s at *;clear h0 hlk;have hq:=HL.out.at_.tk.lt;go_wp2_with fail;refine(Xdq (w.heap.size+1) B zs s wr HL.out.at_.tk (by omega) HZ.out).mono ?_;rintro e wa ⟨p0,v,sa,rfl,⟨rfl,-,-⟩,hsa,hta,hba⟩;have HSA:=Hd hsa;have HTA:=Hd hta;have HBA:=Hd hba;have HZA:=Hd hba.size;clear hsa hta hba c2 hq;have HON:Hid (∀u ∈ inCells p0 (.slice none 0 0) (.slice none 0 0),u.oneCell'=true):=Hd (by simp[inCells,Value.oneCell']);go_wp2_with (((with_reducible show wpList _ _ _ (⟨none,Op.store 131 _ _,_,_,_,_⟩::_) _ _);go_must(refine Xa1 rfl 131 (.tmp 11) (.tmp 86) rfl (inCells p0 (.slice none 0 0) (.slice none 0 0)) (Xbj _ _ _) HON.out rfl ?_ ?_ ?_;go_simp;go_simp;(try rfl);intro wb hrb hbb hzb;have HRB:=Hd hrb;have HBB:=Hd hbb;have HZB:=Hd hzb;clear hrb hbb hzb)))
      have HTB:=Hd (HTA.out.below HBB.out (by omega));have HBB2:=Hd (HBA.out.trans (But.of_below HBB.out (w.heap.size+1)));have HPQ:Hid (w.heap.size+1<wa.heap.size):=Hd HTA.out.lt;refine(Xcj (w.heap.size+1) B zs sa wb HTB.out (by omega) HZ.out).mono ?_;rintro e wc1 ⟨n1,v,sb,rfl,⟨rfl,hn1⟩,hsb,htb,hbc⟩;have HSB:=Hd hsb;have HTC:=Hd htb;have HRC:=Hd (hbc.row HRB.out (by have:=HPQ.out;omega));have HBC:=Hd (HBB2.out.trans hbc);have HZC:Hid (wa.heap.size<wc1.heap.size):=Hd (by have:=HZB.out;have:=hbc.size;omega);clear hsb htb hbc HBB HTB HBB2 HRB HTA HBA;go_wp2_with fail;refine(Xdx (w.heap.size+1) B n1 zs sb wc1 HTC.out (by omega) hn1).mono ?_;rintro e wd ⟨l1,v1,sc,rfl,⟨ho1,hl1,-⟩,hsc,htd,hbd⟩;have HSC:=Hd hsc;have HTD:=Hd htd;have hrd:=hbd.row HRC.out (by have:=HPQ.out;omega);have HRD:=Hd hrd;have HBD:=Hd (HBC.out.trans hbd);have HZD:=Hd hbd.size;have HO1:=Hd ho1;obtain⟨A1,c1',rfl⟩:=ho1.form;have e1:wd.cell? ⟨wa.heap.size,1,none⟩=some (.slice none 0 0):=hrd.cell 1;have g1:=hrd.frozen 1;clear hsc htd hbd ho1 hrd HTC HRC;go_wp2_with fail;have HT1:=Hd (Xa2 wd ⟨wa.heap.size,1,none⟩ (.slice A1 l1.length c1'));have HRE:Hid (Row (wd.setCell ⟨wa.heap.size,1,none⟩ (.slice A1 l1.length c1')) wa.heap.size 131 (inCells p0 (.slice A1 l1.length c1') (.slice none 0 0))):=Hd (HRD.out.set_ 1 _);clear e1 g1;generalize (wd.setCell ⟨wa.heap.size,1,none⟩ (.slice A1 l1.length c1'))=we at *;have HTE:=Hd (HTD.out.turned HT1.out (by have:=HPQ.out;simp;omega) (by have:=HPQ.out;simp;omega));have HBE:=Hd (HBD.out.turned HT1.out (by have:=HZA.out;simp;omega));refine(Xcj (w.heap.size+1) B zs sc we HTE.out (by omega) HZ.out).mono ?_;rintro e wf ⟨n3,v,sd,rfl,⟨rfl,hn3⟩,hsd,htf,hbf⟩;have HSD:=Hd hsd;have HTF:=Hd htf;have HRF:=Hd (hbf.row HRE.out (by have:=HPQ.out;omega));have HBF:=Hd (HBE.out.trans hbf);have HZF:Hid (wd.heap.size≤wf.heap.size):=Hd (by have:=HT1.out.size;have:=hbf.size;omega);have HO1F:=Hd (hbf.ownB (by have:=HPQ.out;have:=HZC.out;omega) (HO1.out.turned HT1.out (by have:=HZC.out;simpa using this)));clear hsd htf hbf HRE HTE HBE HRD HTD HBD;go_wp2_with fail;refine(Xdx (w.heap.size+1) B n3 zs sd wf HTF.out (by omega) hn3).mono ?_;rintro e wg ⟨l3,v3,se,rfl,⟨ho3,hl3,-⟩,hse,htg,hbg⟩;have HSE:=Hd hse;have HTG:=Hd htg;have hrg:=hbg.row HRF.out (by have:=HPQ.out;omega);have HRG:=Hd hrg;have HBG:=Hd (HBF.out.trans hbg);have HZG:=Hd hbg.size;have HO3:=Hd ho3;have HO1G:=Hd (hbg.ownB (by have:=HPQ.out;have:=HZC.out;omega) HO1F.out);obtain⟨A3,c3',rfl⟩:=ho3.form;have e1:wg.cell? ⟨wa.heap.size,2,none⟩=some (.slice none 0 0):=hrg.cell 2;have g1:=hrg.frozen 2;clear hse htg hbg ho3 hrg HTF HRF HBF;go_upto_region 25 with fail
      have HT2:=Hd (Xa2 wg ⟨wa.heap.size,2,none⟩ (.slice A3 l3.length c3'));have HRH:Hid (Row (wg.setCell ⟨wa.heap.size,2,none⟩ (.slice A3 l3.length c3')) wa.heap.size 131 (inCells p0 (.slice A1 l1.length c1') (.slice A3 l3.length c3'))):=Hd (HRG.out.set_ 2 _);clear e1 g1;generalize (wg.setCell ⟨wa.heap.size,2,none⟩ (.slice A3 l3.length c3'))=wh at *;have HZH:Hid (wh.heap.size=wg.heap.size):=Hd HT2.out.size;have hth:=HTG.out.turned HT2.out (by have:=HPQ.out;simp;omega) (by have:=HPQ.out;simp;omega);have hbh:=HBG.out.turned HT2.out (by have:=HZA.out;simp;omega);have hev:InV wh wr.heap.size wh.heap.size (inCells p0 (.slice A1 l1.length c1') (.slice A3 l3.length c3')) ⟨p0,l1,l3⟩:=by
       have z1:=HZA.out;have z2:=HZC.out;have z3:=HZD.out;have z4:=HZF.out;have z5:=HZG.out;have z6:=HZH.out;refine⟨_,_,wf.heap.size,rfl,by omega,by omega,⟨(HO1G.out.turned HT2.out (by simpa using z2)).more (by omega),fun q hq=>?_,hl1⟩,⟨HO3.out.turned HT2.out (by simp;omega),fun q hq=>?_,hl3⟩⟩
       ·have:=(HO1.out.lt q hq).2;omega
       ·have:=(HO3.out.lt q hq).2;omega
      have hst:=Step.in_ HSA.out (Step.bytes HSB.out HSC.out) (Step.bytes HSD.out HSE.out);have hah:=HL.out.at_.call hbh hth;have c37:=mc37 hah.row HH.out;have f37:=hah.row.frozen 37;have hvk:=(HV.out.but Xd7 hbh (by have:=HG7.out;omega)).own;have hkh:=HKV.out.but hbh (by have:=HG.out;omega);have HAH:=Hd hah;have HTH:=Hd hth;have HBH:=Hd hbh;have HEV:=Hd hev;have HST:=Hd hst;have HVK:=Hd hvk;have HKH:=Hd hkh;have HON:Hid (∀u ∈ inCells p0 (.slice A1 l1.length c1') (.slice A3 l3.length c3'),u.oneCell'=true):=Hd (by simp[inCells,Value.oneCell']);have HLW:Hid (w7.heap.size≤wh.heap.size∧l.length≤65535):=Hd ⟨by have:=HL.out.lo;have:=hbh.size;omega,by have:=HL.out.len;omega⟩;clear hah hth hbh hev hst hvk hkh HT2 HRG HTG HBG HO1G HO1F HO3 HO1 HSA HSB HSC HSD HSE hn1 hn3;go_wp2_with (first
       | ((with_reducible show wpList _ _ _ (⟨some 99,_,_,_,_,_⟩::_) _ _);go_must(refine Xa0 rfl 131 (.tmp 11) rfl wa.heap.size 131 (inCells p0 (.slice A1 l1.length c1') (.slice A3 l3.length c3')) _ Tryz.underlying131 rfl (Xbj _ _ _) HRH.out ?_ ?_;go_simp))
       | ((with_reducible show wpList _ _ _ (⟨some 100,_,_,_,_,_⟩::_) _ _);go_must(refine Xaa rfl 37 131 (.tmp 99) rfl (inCells p0 (.slice A1 l1.length c1') (.slice A3 l3.length c3')) _ 3 56 Tryz.underlying37 Xed Xgt (by omega) (by omega) rfl ?_ ?_;go_simp))
       | (at_builtin;go_must(refine Xag rfl (.tmp 98) (.tmp 100) 37 rfl w7.heap.size 131 _ 3 56 Tryz.underlying37 Xed Xgt (by omega) (.slice IA l.length ic) l.length css.flatten (inCells p0 (.slice A1 l1.length c1') (.slice A3 l3.length c3')) 1 rfl HON.out rfl ?_ HVK.out ?_ HLW.out.1 (by have:=HLW.out.2;unfold maxLen;omega) (by have:=HLW.out.2;omega) ?_;go_simp;go_simp;intro v4 w4 ho4 hg4;obtain⟨A4,c4',rfl⟩:=Xao ho4;have ha4:=HAH.out.grew hg4 HVK.out HG7.out hB;have e37:=mc37 ha4.row HH.out;have g37:=ha4.row.frozen 37;have HO4:=Hd ho4;have HG4:=Hd hg4;have HK4:=Hd (HKH.out.grew hg4 HVK.out (by have:=HZ8.out;omega));clear ho4 hg4 ha4)))
      have HN:=Hd (HL.out.snoc (c:=37) Xd7 HG7.out hB HV.out HBH.out HEV.out HST.out HTH.out HG4.out HO4.out fun w V V' h=>Xl4 h HH.out V');have HKN:=Hd (HK4.out.turned (Xa2 w4 ⟨w.heap.size+1+1,37,none⟩ (.slice A4 (l.length+1) c4')) (by have:=HG.out;simpa using this));go_roundw
      case rel=>exact⟨k+1,se,_,l++[⟨p0,l1,l3⟩],by omega,by go_num,HN.out,HKN.out⟩
      case measure=>simp[intOf];omega
     ·have h0':(ecode (.error cc)==0)=false:=by simpa using h0
      clear hlk h0;go_wp2_with fail;go_meet
      case rel=>exact⟨l,.error cc,IA,ic,css,L,R,Step.list HS7.out (HL.out.fail (Nat.le_of_lt hlt)),HL.out.at_,HV.out,by have:=HL.out.len;omega,HL.out.lo,HKV.out⟩
    ·obtain rfl:k=n2:=by omega
     clear hlk hcase;go_wp2_with fail;go_meet
     case rel=>exact⟨l,s,IA,ic,css,L,R,Step.list HS7.out HL.out.step,HL.out.at_,HV.out,by have:=HL.out.len;omega,HL.out.lo,HKV.out⟩
  case rest =>
   obtain⟨is,s8,IA,ic,css,L,R,hsp,hat,hv,hil,hiz,hkv⟩:=hcut;have HK9:=Hd hkv;have HI9:=Hd (LVR.of hv);have HS8:=Hd hsp;have HA12:=Hd hat;have HG8:=Hd (And.intro hil hiz);have HG7:Hid (w.heap.size+1+1<w7.heap.size):=Hd HA11.out.row.lt;have c0:wc.cell? ⟨w.heap.size+1+1,0,none⟩=some (.bool false):=hat.row.cell 0;clear hsp hat hv hil hiz hkv HA11 HK8 css L R hn2;have c2:=HA12.out.tk.ecell.1;have hcase:=HA12.out.tk.ecell.2;have hsz:(Tryz.prog.info? 40).map (·.size)=some (mcells false 0 rs ro (.slice KA ks.length kc) hh (.slice IA is.length ic) (.slice none 0 0)).length:=by rw[Xat,mlen HH.out]
   have HSM:=Hd hsz;clear hsz;have HMS:Hid (Step pMsg (.ok zs) ⟨false,0,rs,ro,ks,hh,is,[]⟩ s8):=Hd (Step.msg HF.out HS2.out HS3.out HS5.out HS6.out HS8.out (Step.looks0 _));rcases hcase with⟨h0,r',rfl⟩ | ⟨h0,cc,rfl⟩
   ·rw[h0]at c2;clear h0;go_wp2_with fail;have HLAST:Hid (Last3 (w.heap.size+1+1) ⟨w.heap.size+1,1,none⟩ (mcells false 0 rs ro (.slice KA ks.length kc) hh (.slice IA is.length ic) (.slice none 0 0)) (.int .i64 ((zs.length - r'.length:Nat):Int)) wc.drew):=Hd ⟨HA12.out.tk.acell,fun j u hu=>by rw[HA12.out.row.drew.cell,Nat.zero_add];exact hu⟩;clear c2;refine wp_region_held (S:=Last3 (w.heap.size+1+1) ⟨w.heap.size+1,1,none⟩ (mcells false 0 rs ro (.slice KA ks.length kc) hh (.slice IA is.length ic) (.slice none 0 0)) (.int .i64 ((zs.length - r'.length:Nat):Int))) (by kernel_rfl) ?_;try(change wpAnyH _ _ _ _ _ _ _ _ (World.drew _))
    refine Tl 0 (v:=.agg (mcells false 0 rs ro (.slice KA ks.length kc) hh (.slice IA is.length ic) (.slice none 0 0)).toArray) rfl (yieldsIf_load_mid (by rfl) 40 (.tmp 6) rfl (w.heap.size+1+1) 0 (by go_simp) (mcells false 0 rs ro (.slice KA ks.length kc) hh (.slice IA is.length ic) (.slice none 0 0)) _ (fun w hw=>hw.r) Tryz.underlying40 rfl HSM.out) HLAST.out ?_;try simp only[nm]
    refine Tk 1 rfl ?_ HLAST.out ?_ ⟨?_,rfl⟩
    ·intro w hw;go_simp;try with_reducible rfl
    try simp only[nm]
    refine Tk 2 rfl ?_ HLAST.out ?_ ⟨?_,rfl⟩
    ·intro w hw;go_simp;try with_reducible rfl
    try simp only[nm]
    refine Tk 3 rfl ?_ HLAST.out ?_ ⟨?_,rfl⟩
    ·intro w hw;go_simp;try with_reducible rfl
    try simp only[nm]
    refine Tk 4 rfl ?_ HLAST.out ?_ ⟨?_,rfl⟩
    ·intro w hw;have hc:=hw.c;go_simp;try with_reducible rfl
    try simp only[nm]
    refine Rl 5 rfl fun K hK=>?_
    have HKK:=Hd hK.out;clear hK;have HRS:=Hd HA12.out.res.drew;refine Xah (P:=Tryz.prog) (w:=wc.drew) (K:=K) 40 (.tmp 2) (.tmp 148) ?_ w.heap.size mzero (mcells false 0 rs ro (.slice KA ks.length kc) hh (.slice IA is.length ic) (.slice none 0 0)) HRS.out HSM.out ?_ ?_ ?_ ?_ ?_
    ·rfl
    ·rw[mlen HH.out];rfl
    ·exact mone rfl rfl rfl
    ·go_simp
    ·go_simp
    intro wl hrl htl;have HLAST2:Hid (Last3 (w.heap.size+1+1) ⟨w.heap.size+1,1,none⟩ (mcells false 0 rs ro (.slice KA ks.length kc) hh (.slice IA is.length ic) (.slice none 0 0)) (.int .i64 ((zs.length - r'.length:Nat):Int)) wl):=Hd ⟨(World.cell?_of_block (htl.block (w.heap.size+1) (by omega))).trans HLAST.out.c,fun j u hu=>by rw[(htl.row HA12.out.row.drew (by omega)).cell,Nat.zero_add];exact hu⟩;have HRL:=Hd hrl;have HTL:=Hd htl;refine HKK.out _ _ HLAST2.out ?_;clear HKK K hrl htl HLAST;have HLAST:=HLAST2;clear HLAST2;try simp only[nm]
    refine Tk 6 rfl ?_ HLAST.out ?_ ⟨?_,rfl⟩
    ·intro w hw;go_simp;try with_reducible rfl
    try simp only[nm]
    refine Tk 7 rfl ?_ HLAST.out ?_ ⟨?_,rfl⟩
    ·intro w hw;go_simp;try with_reducible rfl
    try simp only[nm]
    refine wpAnyH_done (by kernel_rfl) ?_ _;go_wp2_with fail;refine bodyPost_ret (Xb2 (h:=rfl) _ wl ⟨w.heap.size,0,none⟩ (.agg (mcells false 0 rs ro (.slice KA ks.length kc) hh (.slice IA is.length ic) (.slice none 0 0)).toArray) _ _ (by rfl) (run_loadVar_row wl w.heap.size 40 40 (mcells false 0 rs ro (.slice KA ks.length kc) hh (.slice IA is.length ic) (.slice none 0 0)).toArray (0,0) _ HRL.out.is Tryz.underlying40 rfl (by rw[List.size_toArray];exact HSM.out)) (by rfl) (by rfl)) rfl ?_;have hzl:wl.heap.size=wc.heap.size:=HTL.out.size;have z1:=HG.out;have z2:=HG5.out.2;have z3:=HG7.out;have z4:=HG8.out.2;have z5:=HZ8.out;have htl:Turned wc wl w.heap.size:=⟨HTL.out.os,HTL.out.tape,HTL.out.output,HTL.out.size,HTL.out.block⟩;refine⟨HA12.out.below.trans (htl.below (Lr _)),.inl ⟨⟨false,0,rs,ro,ks,hh,is,[]⟩,r',⟨KA,ks.length,kc,IA,is.length,ic,none,0,0⟩,HMS.out.done,rfl,HH.out,⟨HG5.out.1,HG8.out.1,by simp⟩,w5.heap.size,wk0.heap.size,w7.heap.size,wc.heap.size,wl.heap.size,wl.heap.size,?_,HK9.out.turned htl (by omega),HI9.out.turned htl (by omega),LVR.nil _ (Lr _)⟩⟩;omega
   ·have h0':(ecode (.error cc) != 0)=true:=by simpa using h0
    have ec:ecode (.error cc)=cc:=rfl;rw[ec]at c2 h0';clear h0 ec;go_wp2_with fail;have HLAST:Hid (Last3 (w.heap.size+1+1) ⟨w.heap.size+1,2,none⟩ (mcells false 0 rs ro (.slice KA ks.length kc) hh (.slice IA is.length ic) (.slice none 0 0)) (.int .i64 cc) wc.drew):=Hd ⟨HA12.out.tk.ecell.1,fun j u hu=>by rw[HA12.out.row.drew.cell,Nat.zero_add];exact hu⟩;clear c2;refine wp_region_held (S:=Last3 (w.heap.size+1+1) ⟨w.heap.size+1,2,none⟩ (mcells false 0 rs ro (.slice KA ks.length kc) hh (.slice IA is.length ic) (.slice none 0 0)) (.int .i64 cc)) (by kernel_rfl) ?_;try(change wpAnyH _ _ _ _ _ _ _ _ (World.drew _))
    refine Tk 0 rfl ?_ HLAST.out ?_ ⟨?_,rfl⟩
    ·intro w hw;go_simp;try with_reducible rfl
    try simp only[nm]
    refine Tk 1 rfl ?_ HLAST.out ?_ ⟨?_,rfl⟩
    ·intro w hw;go_simp;try with_reducible rfl
    try simp only[nm]
    refine Tk 2 rfl ?_ HLAST.out ?_ ⟨?_,rfl⟩
    ·intro w hw;go_simp;try with_reducible rfl
    try simp only[nm]
    refine Tk 3 rfl ?_ HLAST.out ?_ ⟨?_,rfl⟩
    ·intro w hw;go_simp;try with_reducible rfl
    try simp only[nm]
    refine Tk 4 rfl ?_ HLAST.out ?_ ⟨?_,rfl⟩
    ·intro w hw;have hc:=hw.c;go_simp;try with_reducible rfl
    try simp only[nm]
    refine Rl 5 rfl fun K hK=>?_
    have HKK:=Hd hK.out;clear hK;have HRS:=Hd HA12.out.res.drew;refine Xah (P:=Tryz.prog) (w:=wc.drew) (K:=K) 40 (.tmp 2) (.tmp 143) ?_ w.heap.size mzero mzero HRS.out Xci ?_ ?_ ?_ ?_ ?_
    ·rfl
    ·rfl
    ·exact Xbv
    ·go_simp
    ·go_simp;try rfl
    intro wl hrl htl;have HLAST2:Hid (Last3 (w.heap.size+1+1) ⟨w.heap.size+1,2,none⟩ (mcells false 0 rs ro (.slice KA ks.length kc) hh (.slice IA is.length ic) (.slice none 0 0)) (.int .i64 cc) wl):=Hd ⟨(World.cell?_of_block (htl.block (w.heap.size+1) (by omega))).trans HLAST.out.c,fun j u hu=>by rw[(htl.row HA12.out.row.drew (by omega)).cell,Nat.zero_add];exact hu⟩;have HRL:=Hd hrl;have HTL:=Hd htl;refine HKK.out _ _ HLAST2.out ?_;clear HKK K hrl htl HLAST;have HLAST:=HLAST2;clear HLAST2;try simp only[nm]
    refine Tk 6 rfl ?_ HLAST.out ?_ ⟨?_,rfl⟩
    ·intro w hw;go_simp;try with_reducible rfl
    try simp only[nm]
    refine Tk 7 rfl ?_ HLAST.out ?_ ⟨?_,rfl⟩
    ·intro w hw;go_simp;try with_reducible rfl
    try simp only[nm]
    refine wpAnyH_done (by kernel_rfl) ?_ _;go_wp2_with fail;refine bodyPost_ret (Xb2 (h:=rfl) _ wl ⟨w.heap.size,0,none⟩ (.agg mzero.toArray) _ _ (by rfl) (run_loadVar_row wl w.heap.size 40 40 mzero.toArray (0,0) _ HRL.out.is Tryz.underlying40 rfl (by rw[List.size_toArray];exact Xci)) (by rfl) (by rfl)) rfl ?_;have htl:Turned wc wl w.heap.size:=⟨HTL.out.os,HTL.out.tape,HTL.out.output,HTL.out.size,HTL.out.block⟩;exact⟨HA12.out.below.trans (htl.below (Lr _)),.inr ⟨cc,HMS.out.fell,rfl⟩⟩
theorem Xnw(A:Option Addr)(c:Nat)(zs:List Int)(w:World)(B:Nat)(hx:Sees w B A zs.length (bv zs))(hB:B≤w.heap.size)(hnc:zs.length≤c∧(A=none→c=0))(hc:c≤maxLen)(hz:AllBytes zs)(a:Int)(r:List Int)(hP:pOctet zs=.ok (a,r)∧128<a) :
 Calls Tryz.prog 140 #[.slice A zs.length c] w (RefGot w zs):=by
 have HX:=Hd hx;have HNC:=Hd (And.intro hnc hc);have HZ:=Hd hz;have HP:=Hd hP;clear hx hnc hc hP;go_enter Tryz.func140,Tryz.ntmps140
 go_wp2_with (((with_reducible show wpList _ _ _ (⟨none,Op.store 40 _ _,_,_,_,_⟩::_) _ _);go_must(refine Xa1 rfl 40 (.tmp 6) (.tmp 17) rfl mzero Xci Xbv rfl ?_ ?_ ?_;go_simp;go_simp;rfl;intro w1 hr1 hb1 hz1;have HR1:=Hd hr1;have HB1:=Hd hb1;clear hr1 hb1)))
 have ha1:RAt w w1 B zs mzero (.ok zs):=Xfq HX.out HNC.out.1 HNC.out.2 hB HR1.out HB1.out;have HA:=Hd ha1;clear HR1 HB1 ha1 hz1;refine(Xdq (w.heap.size+1) B zs (.ok zs) w1 HA.out.tk (by omega) HZ.out).mono ?_;rintro e w2 ⟨x,v,s1,rfl,⟨rfl,hx,hx0⟩,hs1,ht1,hb1⟩;have HA1:=Hd (HA.out.call hb1 ht1);have c2:=ht1.ecell.1;obtain⟨rfl,rfl⟩:x=a∧s1=.ok r:=Xgq hs1 HP.out.1;have hx1:128<x:=HP.out.2;have HNO:=Hd (Step.first_no hs1 hx1);rw[show ecode (.ok r)=0 from rfl]at c2;clear ht1 hb1 hs1 HA hx hx0;have HRS:=Hd HA1.out.res;go_wp2_with (((with_reducible show wpList _ _ _ (⟨none,Op.store 40 (.tmp 2) _,_,_,_,_⟩::_) _ _);go_must(refine Xa4 rfl 40 (.tmp 2) (.tmp 29) rfl w.heap.size mzero mzero HRS.out Xci rfl Xbv ?_ ?_ ?_;go_simp;go_simp;(try rfl);intro wl hrl htl;have HRL:=Hd hrl;have HTL:=Hd htl;clear hrl htl)))
 refine bodyPost_ret (Xb2 (h:=rfl) _ wl ⟨w.heap.size,0,none⟩ (.agg mzero.toArray) _ _ (by rfl) (run_loadVar_row wl w.heap.size 40 40 mzero.toArray (0,0) _ HRL.out.is Tryz.underlying40 rfl (by rw[List.size_toArray];exact Xci)) (by rfl) (by rfl)) rfl ?_;exact⟨HA1.out.below.trans (HTL.out.below (Lr _)),.inr ⟨4,HNO.out,rfl⟩⟩
theorem Xs4(A:Option Addr)(c:Nat)(zs:List Int)(w:World)(B:Nat)(hx:Sees w B A zs.length (bv zs))(hB:B≤w.heap.size)(hnc:zs.length≤c∧(A=none→c=0))(hc:c≤maxLen)(hz:AllBytes zs) :
 Calls Tryz.prog 140 #[.slice A zs.length c] w (RefGot w zs):=by
 cases hP:pOctet zs with
 | error k=>exact Xog A c zs w B hx hB hnc hc hz k hP
 | ok a =>
  obtain⟨a,r⟩:=a;rcases Int.lt_trichotomy a 128 with h | h | h
  ·exact Xom A c zs w B hx hB hnc hc hz a r ⟨hP,h⟩
  ·subst h;exact Xon A c zs w B hx hB hnc hc hz r hP
  ·exact Xnw A c zs w B hx hB hnc hc hz a r ⟨hP,h⟩
theorem Xw4{P:Program}{w:World}{o:Oper}{a:Act}(t e:TypeId)(x i j:Operand)(ho:o.op=.slice t x (some i) (some j) none)(ht:P.underlying t=some (.slice e))(hsz:(P.info? e).map (·.size)=some 1)
 (A:Option Addr) (n c k l:Nat) (hx:a.eval x=.slice A n c) (hi:a.eval i=.int .i64 k) (hj:a.eval j=.int .i64 l) (hk:k≤l) (hl:l≤c) (hc:c≤maxLen) :
 (execOp a.eval o).run P w=.ok (.value (.slice (tailAt A c k) (l - k) (c - k))) w:=by
 unfold maxLen at hc;obtain⟨ie,hie,hs1⟩:∃i,P.info? e=some i∧i.size=1:=by
  cases h:P.info? e with
  | none=>rw[h]at hsz;cases hsz
  | some i=>rw[h]at hsz;exact⟨i,rfl,by simpa using hsz⟩
 have he:P.elem t=e:=by simp[Program.elem,ht]
 have ht':P.underlying t=some (.slice (P.elem t)):=by rw[he];exact ht
 have hso:(sizeOf e).run P w=.ok 1 w:=by simp[sizeOf,typeInfo,hie,hs1]
 have h0:(0:Int)≤k:=by omega
 have h1:(k:Int)≤l:=by omega
 have h2:(l:Int)≤c:=by omega
 unfold execOp;simp only[ho,hx,hi,hj,Option.map_some,Option.map_none];simp only[Sem.run_bind,run_sliceAt_slice w t _ _ _ _ ht',run_slice_lh w t A n c ht' .i64 .i64 k l h0 h1 h2,he,hso,Result.andThen_ok,sliced,tailAt,Int.toNat_natCast,Nat.mul_one,Sem.run_pure]
theorem Xm6{w w':World}{base g size n:Nat}{e:TypeId}{v:Value}{xs:List Value}(h:w.ownsRow base e size v n xs)(ht:Turned w w' g)(hg:g<base):w'.ownsRow base e size v n xs:=by
 refine⟨h.1,?_⟩;rcases h.2 with h2 | ⟨k,cap,cur,hv,hk,hh,r⟩
 ·exact .inl h2
 ·exact .inr ⟨k,cap,cur,hv,hk,(ht.block k (by omega)).trans hh,r⟩
theorem Xv5{w w':World}{base B size n:Nat}{e:TypeId}{v:Value}{xs:List Value}(h:w.ownsRow base e size v n xs)(hl:∀g,v.ownBlock=some g→g<B)(hb:Below B w w'):w'.ownsRow base e size v n xs:=by
 refine⟨h.1,?_⟩;rcases h.2 with h2 | ⟨k,cap,cur,hv,hk,hh,r⟩
 ·exact .inl h2
 ·exact .inr ⟨k,cap,cur,hv,hk,(hb.block k (hl k (by rw[hv];rfl))).trans hh,r⟩
theorem Xlf{v:Value}{ms ns:List Value}(hm:ms.length=39)(hn:ns.length=39):(v::ms).take 1++ns++(v::ms).drop (1+ns.length)=v::ns:=by
 rw[hn,show 1+39=39+1 by omega,List.drop_succ_cons,List.take_succ_cons,List.take_zero,List.drop_of_length_le (by omega)];simp
theorem Xr0:(Value.agg (zeros 64).toArray).cells.size=64:=by kernel_rfl
structure RTx(w0 w:World)(v:Value)(k:Nat)(xs:List Int):Prop where
 res:Row w w0.heap.size 42 tzero
 tx:Row w (w0.heap.size+1) 42 (v::mzero)
 own:w.ownsRow (w0.heap.size+2) 104 64 v k (bv xs)
 below:Below w0.heap.size w0 w
 size:w0.heap.size+2≤w.heap.size
theorem RTx.more{w0 w w':World}{v:Value}{k:Nat}{xs:List Int}(h:RTx w0 w v k xs)(hb:Below w.heap.size w w'):RTx w0 w' v k xs:=
 ⟨h.res.below hb h.res.lt,h.tx.below hb h.tx.lt,Xal h.own hb,h.below.trans (hb.mono h.below.size),Lq h.size hb.size⟩
theorem Xr9(A:Option Addr)(n c B:Nat)(zs:List Int)(w:World)(hs:Sees w B A n (bv zs))(hB:B≤w.heap.size)(hnc:n≤c)(hA:A=none→c=0)(hc:c≤maxLen)(hz:AllBytes zs) :
 Calls Tryz.prog 95 #[.slice A n c] w (GetTxDone w zs):=by
 have hn:zs.length=n:=by have:=hs.len;rwa [bL]at this
 subst hn;have hmx:=hc;unfold maxLen at hmx;have r0:=Row.new w 42 tzero;have b0:Below w.heap.size w (w.alloc (.cells tzero.toArray 42)):=(Br _ _).alloc (Lr _) _;have z0:(w.alloc (.cells tzero.toArray 42)).heap.size=w.heap.size+1:=by simp
 have HG:=Hd (Xfb A zs.length c zs (w.alloc (.cells tzero.toArray 42)) B (hs.below (b0.mono hB)) (by omega) hz.bytes);have HS:=Hd hs;have R0:=Hd r0;have B0:=Hd b0;have Z0:=Hd z0;have HC:=Hd (And.intro hnc (And.intro hA hc));have HZ:=Hd hz;clear hs r0 b0 z0 hz hA;obtain⟨W,hW⟩:∃W,W=w.alloc (.cells tzero.toArray 42):=⟨_,rfl⟩;go_enter Tryz.func95,Tryz.ntmps95
 go_upto_region 1 with fail
 have hX:∀c,c=tzero.toArray→w.alloc (.cells c 42)=W:=by rintro _ rfl;exact hW.symm
 rw[hX];rotate_left
 ·kernel_rfl
 rw[←hW]at HG R0 B0 Z0;clear hW hX;go_wp2_with fail;refine HG.out.mono ?_;rintro e w1 ⟨rfl,rfl⟩;clear HG;rcases Xdd zs HZ.out with(he | he) | ⟨n,k0,he,hn,hk1,hk2⟩
 iterate 2
  ·have HP:Hid (∃x,(x=4∨x=5)∧(getS zs).2.2=x∧pTx zs=.error x):=Hd ⟨(getS zs).2.2,by rw[he];simp,rfl,by unfold pTx pSigs pList pShort;rw[he];rfl⟩;rw[he];rw[he]at HP;clear he;go_wp2_with (((with_reducible show wpList _ _ _ (⟨none,Op.store 42 _ _,_,_,_,_⟩::_) _ _);go_must(refine Xa4 rfl 42 (.tmp 2) (.tmp 21) rfl w.heap.size tzero tzero R0.out Xan rfl Xap ?_ ?_ ?_;go_simp;(go_simp;kernel_rfl);intro w3 hr3 ht3;have R3:=Hd hr3;have T3:=Hd ht3;clear hr3 ht3)))
   refine bodyPost_ret (Xbq (h:=rfl) _ w3 ⟨w.heap.size,0,none⟩ _ _ _ (by rfl) (by rfl) (by rfl) (run_loadVar_row w3 w.heap.size 42 42 tzero.toArray (0,0) _ R3.out.is Tryz.underlying42 rfl (by rw[List.size_toArray];exact Xan))) rfl ?_;obtain⟨x,hx,hx2,hp⟩:=HP.out;refine .inr ⟨x,hp,?_,B0.out.trans (T3.out.below (Lr _))⟩;rw[←hx2];rfl
 have HP:Hid (pSigs zs=pMany (pTake 64) n (zs.drop k0)):=Hd (by unfold pSigs pList pShort;rw[he];simp);rw[he];obtain⟨r,hr⟩:∃r,r=zs.drop k0:=⟨_,rfl⟩;have hrl:r.length=zs.length - k0:=by rw[hr,List.length_drop]
 rw[←hr]at HP;have HR:=Hd hr;have HRL:=Hd hrl;have HRB:=Hd (show AllBytes r by rw[hr];exact HZ.out.drop k0);clear he hr hrl;go_upto_region 5 with(((with_reducible show wpList _ _ _ (⟨none,Op.store 42 _ _,_,_,_,_⟩::_) _ _);go_must(refine Xa1 rfl 42 (.tmp 8) (.tmp 23) rfl tzero Xan Xap rfl ?_ ?_ ?_;go_simp;(go_simp;kernel_rfl);intro w2 hr2 hb2 hz2)))
 have hW1:W.heap.size=w.heap.size+1:=Z0.out;rw[hW1]at hr2 hb2 hz2 ⊢;have HX2:Hid (RTx w w2 (.slice none 0 0) 0 []):=Hd ⟨R0.out.below hb2 (by omega),hr2,World.ownsRow_nil _ _ _ _,B0.out.trans (hb2.mono (by omega)),by omega⟩;clear hr2 hb2 hz2 R0 hW1;go_wp2_with fail;go_loopw [6,9] (fun p i wr=>∃(k:Nat) (v:Value),k≤n∧i=.int .i64 k∧p=.int .i64 ((k0+k*64:Nat):Int)∧k*64≤r.length∧RTx w wr v k (r.take (k*64))) (fun p i _=>n - (intOf i).toNat)
 case atStart=>exact⟨0,_,Nat.zero_le _,rfl,by simp,by omega,by simpa using HX2.out⟩
 case round =>
 clear HX2;obtain⟨k,v,hk,rfl,rfl,hkr,hx⟩:=hrel;have HX:=Hd hx;clear hx;by_cases hlt:k<n
 ·by_cases hsh:zs.length - (k0+k*64)<64
  ·-- too short
   have HE:Hid (pTx zs=.error 5):=Hd (by
    unfold pTx;rw[HP.out,Xgn n (by have:=HRL.out;omega)])
   have hsh':((zs.length:Int) - ((k0+k*64:Nat):Int))<64:=by have:=HRL.out;omega
   have hwr2:IntKind.i64.wrap ((zs.length:Int) - ((k0+k*64:Nat):Int))=zs.length - ((k0+k*64:Nat):Int):=by have:=HRL.out;rw[IntKind.wrap_i64];omega
   generalize k0+k*64=at0 at *;go_wp2_with (((with_reducible show wpList _ _ _ (⟨none,Op.store 42 _ _,_,_,_,_⟩::_) _ _);go_must(refine Xa4 rfl 42 (.tmp 2) (.tmp 34) rfl w.heap.size tzero tzero HX.out.res Xan rfl Xap ?_ ?_ ?_;go_simp;(go_simp;kernel_rfl);intro w3 hr3 ht3;have R3:=Hd hr3;have T3:=Hd ht3;clear hr3 ht3)))
   refine bodyPost_ret (Xbq (h:=rfl) _ w3 ⟨w.heap.size,0,none⟩ _ _ _ (by rfl) (by rfl) (by rfl) (run_loadVar_row w3 w.heap.size 42 42 tzero.toArray (0,0) _ R3.out.is Tryz.underlying42 rfl (by rw[List.size_toArray];exact Xan))) rfl ?_;exact .inr ⟨5,HE.out,rfl,HX.out.below.trans (T3.out.below (Lr _))⟩
  ·have hrl:=HRL.out;have hk64:(k+1)*64≤r.length:=by omega
   have hsh':¬((zs.length:Int) - ((k0+k*64:Nat):Int))<64:=by omega
   obtain⟨at0,hat⟩:∃at0,at0=k0+k*64:=⟨_,rfl⟩;have HAT:=Hd hat;have hat1:at0+64≤zs.length:=by omega
   rw[←hat]at hsh' ⊢;have HK:=Hd hk64;obtain⟨C,hC⟩:∃C,C=(r.drop (k*64)).take 64:=⟨_,rfl⟩;have hCl:C.length=64:=by rw[hC,List.length_take,List.length_drop];omega
   have HCZ:Hid (C=(zs.drop at0).take 64):=Hd (by rw[hC,HR.out,List.drop_drop,hat]);have HTK:Hid (r.take ((k+1)*64)=r.take (k*64)++C):=Hd (by rw[hC,show(k+1)*64=k*64+64 by omega,List.take_add]);have HCL:=Hd hCl;have hzsz:=HX.out.size;have hwr2:IntKind.i64.wrap ((zs.length:Int) - at0)=zs.length - at0:=by rw[IntKind.wrap_i64];omega
   have hwr:IntKind.i64.wrap ((at0:Int)+64)=at0+64:=by rw[IntKind.wrap_i64];omega
   clear hat hC hCl hsh hk64 hrl;go_upto_region 11 with fail
   have HX1:=Hd (HX.out.more ((Br wr.heap.size wr).alloc (Lr _) (.cells (zeros 64).toArray 104)));have RZ:=Hd (Row.new wr 104 (zeros 64));have HBA:=Hd ((Br wr.heap.size wr).alloc (Lr _) (.cells (zeros 64).toArray 104));obtain⟨W1,hW1⟩:∃W1,W1=wr.alloc (.cells (zeros 64).toArray 104):=⟨_,rfl⟩;have hZZ:∀c,c=(zeros 64).toArray→wr.alloc (.cells c 104)=W1:=by rintro _ rfl;exact hW1.symm
   rw[hZZ];rotate_left
   ·kernel_rfl
   rw[←hW1]at HX1 RZ HBA;clear hW1 hZZ;obtain⟨V,hV⟩:∃V,V=W1.drew:=⟨_,rfl⟩;have HXV:Hid (RTx w V v k (r.take (k*64))):=Hd (by rw[hV];exact⟨HX1.out.res.drew,HX1.out.tx.drew,HX1.out.own,HX1.out.below.drew,HX1.out.size⟩);have HRZ:Hid (Row V wr.heap.size 104 (zeros 64)):=Hd (by rw[hV];exact RZ.out.drew);have HSV:Hid (Sees V B A zs.length (bv zs)):=Hd (HS.out.below (HXV.out.below.mono hB));have HOV:Hid (∀V2,Below wr.heap.size V V2→V2.ownsRow (w.heap.size+2) 104 64 v k (bv (r.take (k*64)))):=Hd fun V2 hb=>Xv5 HXV.out.own (fun g hg=>(HX.out.own.lt g hg).2) hb
   refine wp_region_held_drew (S:=fun _=>True) (by kernel_rfl) trivial (fun _=>?_);rw[←hV];clear hV HX1 RZ HX;have HT:Hid (Sees V B (tailAt A c at0) (zs.length - at0) (bv (zs.drop at0))):=Hd (by
    have h1:=HSV.out.tail (k:=at0) (by omega) HC.out.1;have e1:(bv zs).drop at0=bv (zs.drop at0):=by simp[bv,cv]
    rwa [e1]at h1)
   refine Tk 0 rfl ?_ trivial ?_ ⟨?_,rfl⟩
   ·intro w hw;(try dsimp only at hw);go_simp;try with_reducible rfl
   try simp only[nm]
   refine Tk 1 rfl ?_ trivial ?_ ⟨?_,rfl⟩
   ·intro w hw;(try dsimp only at hw);go_simp;try with_reducible rfl
   try simp only[nm]
   refine Tk 2 rfl ?_ trivial ?_ ⟨?_,rfl⟩
   ·intro w hw;(try dsimp only at hw);go_simp;try with_reducible rfl
   try simp only[nm]
   refine Tk 3 rfl ?_ trivial ?_ ⟨?_,rfl⟩
   ·intro w hw;(try dsimp only at hw);go_simp;try with_reducible rfl
   try simp only[nm]
   refine Tk 4 rfl ?_ trivial ?_ ⟨?_,rfl⟩
   ·intro w hw;(try dsimp only at hw);go_simp;try with_reducible rfl
   try simp only[nm]
   refine Tl 5 (v:=.slice (tailAt A c at0) (at0+64 - at0) (c - at0)) rfl (Or.inl ⟨by rfl,fun w hw=>?_⟩) trivial ?_
   ·exact Xw4 22 5 (.tmp 36) (.tmp 37) (.tmp 39) rfl Tryz.underlying22 Xcp A zs.length c at0 (at0+64) (by go_simp) (by go_simp) (by go_simp) (by omega) (by have:=HC.out.1;omega) HC.out.2.2
   try simp only[nm]
   refine Rl 6 rfl fun K hK=>?_
   refine Xcy rfl (.tmp 35) (.tmp 40) 22 22 rfl 5 Tryz.underlying22 Xcp (some ⟨wr.heap.size,0,none⟩) (tailAt A c at0) 64 64 (at0+64 - at0) (c - at0) ?_ ?_ wr.heap.size 0 (zeros 64) 104 HRZ.out.is (bv C) ?_ ?_ ?_ (Xae _) wr.heap.size V (Br _ _) (Lr _) ?_
   ·go_simp
   ·go_simp
   ·rw[bL,HCL.out];show 64=min (at0+64 - at0) 64
    omega
   ·intro hpos;obtain⟨a,u,e,_,_,_⟩:=HT.out.at_ (k:=0) (by omega);refine⟨rfl,a,e,fun j v hv=>?_⟩;have hj:=(List.getElem?_eq_some_iff.1 hv).1;rw[bL,HCL.out]at hj;have hv':(bv (zs.drop at0))[j]?=some v:=by
     rw[HCZ.out]at hv;rw[bv_getElem?]at hv ⊢;rwa [List.getElem?_take_of_lt hj]at hv
    obtain⟨a',e',_,hc'⟩:=HT.out.cell j v hv';rw[e]at e';obtain rfl:=Option.some.inj e';exact hc'
   ·rw[bL,HCL.out];simp[zeros]
   intro V2 hg2 hb2;have HC2:Hid (Row V2 wr.heap.size 104 (bv C)):=Hd ⟨by
    rw[hg2.out];have:splice (zeros 64) 0 (bv C)=bv C:=by
     unfold splice;rw[bL,HCL.out];simp[zeros]
    rw[this]⟩
   have HX2:Hid (RTx w V2 v k (r.take (k*64))):=Hd (by
    have h:=HXV.out;refine⟨h.res.below hb2 (by omega),h.tx.below hb2 (by omega),?_,h.below.trans (hb2.mono (by omega)),Lq h.size hb2.size⟩;exact HOV.out V2 hb2)
   have HZ2:=Hd (show wr.heap.size<V2.heap.size from HC2.out.lt);clear hg2 hb2;refine hK.out _ _ trivial ?_;clear hK K;try simp only[nm]
   refine wpAnyH_done (by kernel_rfl) ?_ _;have c0:V2.cell? ⟨w.heap.size+1,0,none⟩=some v:=HX2.out.tx.cell 0;obtain⟨VA,vc,rfl⟩:=Xao HX2.out.own;have HCS:=Hd (show(Tryz.prog.info? 104).map (·.size)=some (bv C).length by rw[Xh1,bL,HCL.out]);go_wp2_with (first
    | ((with_reducible show wpList _ _ _ (⟨some 44,_,_,_,_,_⟩::_) _ _);go_must(refine Xa0 rfl 104 (.tmp 10) rfl wr.heap.size 104 (bv C) _ Tryz.underlying104 rfl HCS.out HC2.out ?_ ?_;go_simp))
    | ((with_reducible show wpList _ _ _ (⟨some 45,_,_,_,_,_⟩::_) _ _);go_must(refine Xaa rfl 31 104 (.tmp 44) rfl (bv C) _ 64 64 Tryz.underlying31 Xh5 Xr0 (by omega) (by omega) (by rw[bL,HCL.out]) ?_ ?_;go_simp))
    | (at_builtin;(with_reducible show wpList _ _ _ (⟨some 46,_,_,_,_,_⟩::_) _ _);go_must(refine Xag rfl (.tmp 43) (.tmp 45) 31 rfl (w.heap.size+2) 104 _ 64 64 Tryz.underlying31 Xh5 Xr0 (by omega) (.slice VA k vc) k (bv (r.take (k*64))) (bv C) 1 (by rw[bL,HCL.out]) (Xae C) rfl ?_ HX2.out.own ?_ HX2.out.size (by unfold maxLen;omega) (by omega) ?_;go_simp;go_simp;intro v4 w4 ho4 hg4;obtain⟨A4,c4,rfl⟩:=Xao ho4;have hne:some (w.heap.size+1)≠(Value.slice VA k vc).ownBlock:=(fun e=>by have:=HX2.out.own.lt _ e.symm;omega);have hne0:some w.heap.size≠(Value.slice VA k vc).ownBlock:=(fun e=>by have:=HX2.out.own.lt _ e.symm;omega);have hr4:=hg4.row HX2.out.tx hne;have hr40:=hg4.row HX2.out.res hne0;have d0:w4.cell? ⟨w.heap.size+1,0,none⟩=some (.slice VA k vc):=hr4.cell 0;have f0:=hr4.frozen 0;have HR4:=Hd hr4;have HR40:=Hd hr40;have HO4:=Hd ho4;have HB4:=Hd (hg4.below HX2.out.own HX2.out.size);have HZ4:=Hd hg4.size;clear hr4 hr40 ho4 hg4 hne hne0 c0)))
   go_roundw
   case rel =>
    have ht:=Xa2 w4 ⟨w.heap.size+1,0,none⟩ (.slice A4 (k+1) c4);refine⟨k+1,_,by omega,by go_num,?_,HK.out,⟨ht.row HR40.out (by simp),HR4.out.set_ 0 _,?_,?_,?_⟩⟩
    ·rw[HAT.out];go_num
    ·rw[HTK.out,Xbt];exact Xm6 HO4.out ht (by simp)
    ·exact(HX2.out.below.trans (HB4.out.mono (by omega))).trans (ht.below (by simp))
    ·have h1:=ht.size;have h2:=HX2.out.size;have h3:=HZ4.out;omega
   case measure=>simp[intOf];omega
 ·obtain rfl:k=n:=by omega
  obtain⟨l,hl1,hl2,hl3,hl4⟩:=Xhs k hkr;obtain⟨VA,vc,rfl⟩:=Xao HX.out.own;obtain⟨at0,hat⟩:∃at0,at0=k0+k*64:=⟨_,rfl⟩;rw[←hat];have hrl:=HRL.out;have hat1:at0≤zs.length:=by omega
  have hr2:r.drop (k*64)=zs.drop at0:=by rw[HR.out,List.drop_drop,hat]
  rw[hr2]at hl1;obtain⟨Z2,hZ2⟩:∃Z2,Z2=zs.drop at0:=⟨_,rfl⟩;have hlenr:zs.length - at0=Z2.length:=by rw[hZ2,List.length_drop]
  have HPS:Hid (pSigs zs=.ok (l,Z2)):=Hd (by rw[hZ2];exact HP.out.trans hl1);have HL:=Hd (And.intro hl2 (And.intro hl3 hl4));have HSR:Hid (Sees wr B (tailAt A c at0) Z2.length (bv Z2)):=Hd (by
   have h1:=(HS.out.below (HX.out.below.mono hB)).tail (k:=at0) hat1 HC.out.1;have e1:(bv zs).drop at0=bv Z2:=by rw[hZ2];simp[bv,cv]
   rwa [e1,hlenr]at h1)
  have hZB:AllBytes Z2:=by rw[hZ2];exact HZ.out.drop at0
  have HRG:=Hd (Xs4 (tailAt A c at0) (c - at0) Z2 wr B HSR.out (Lq hB HX.out.below.size) ⟨by have:=HC.out.1;omega,fun h=>by
   unfold tailAt at h;split at h
   ·omega
   ·cases A with
    | none=>have:=HC.out.2.1 rfl;omega
    | some a=>cases h⟩ (by have:=HC.out.2.2;omega) hZB)
  have HLR:=Hd hlenr;have HA1:=Hd hat1;have HZB:=Hd hZB;clear hl1 hl2 hl3 hl4 hat hr2 hrl HR hkr hlenr hZB hZ2;go_wp2_with (((with_reducible show wpList _ _ _ (⟨some 53,_,_,_,_,_⟩::_) _ _);go_must(refine Xef rfl 22 5 (.tmp 51) (.tmp 52) rfl Tryz.underlying22 Xcp A zs.length c at0 ?_ ?_ hat1 HC.out.1 HC.out.2.2 ?_;go_simp;go_simp;rw[HLR.out])))
  refine HRG.out.mono ?_;rintro e w4 ⟨hb4,(⟨m,r3,q,hp,rfl,hv⟩ | ⟨x,hp,rfl⟩)⟩;rotate_left
  ·have hx:=Xhb HZB.out hp;have HPE:Hid (pTx zs=.error x):=Hd (by unfold pTx;rw[HPS.out];dsimp only;rw[hp]);have HX4:=Hd (HX.out.more hb4);clear hp hb4 HRG HX;rcases hx with rfl | rfl
   all_goals
    go_wp2_with (first
     | ((with_reducible show wpList _ _ _ (⟨none,Op.store 40 _ _,_,_,_,_⟩::_) _ _);go_must(refine Xa1 rfl 40 (.tmp 11) (.tmp 55) rfl mzero Xci Xbv rfl ?_ ?_ ?_;go_simp;go_simp;intro w5 hr5 hb5 hz5;have HX5:=Hd (HX4.out.more hb5);clear hr5 hb5 hz5))
     | ((with_reducible show wpList _ _ _ (⟨none,Op.store 42 _ _,_,_,_,_⟩::_) _ _);go_must(refine Xa4 rfl 42 (.tmp 2) (.tmp 60) rfl w.heap.size tzero tzero HX5.out.res Xan rfl Xap ?_ ?_ ?_;go_simp;(go_simp;kernel_rfl);intro w6 hr6 ht6;have R6:=Hd hr6;have T6:=Hd ht6;clear hr6 ht6)))
    refine bodyPost_ret (Xbq (h:=rfl) _ w6 ⟨w.heap.size,0,none⟩ _ _ _ (by rfl) (by rfl) (by rfl) (run_loadVar_row w6 w.heap.size 42 42 tzero.toArray (0,0) _ R6.out.is Tryz.underlying42 rfl (by rw[List.size_toArray];exact Xan))) rfl ?_;exact .inr ⟨_,HPE.out,rfl,HX5.out.below.trans (T6.out.below (Lr _))⟩
  have hle:=(Xe0 _ _ _ hp).le;have HPO:Hid (pTx zs=.ok (⟨l,m⟩,r3)):=Hd (by unfold pTx;rw[HPS.out];dsimp only;rw[hp]);have HSM:=Hd (show(Tryz.prog.info? 40).map (·.size)=some (q.cells m).length by rw[Xat,Xaq hv.recent]);have HL39:=Hd (Xaq (q:=q) hv.recent);have HX4:=Hd (HX.out.more hb4);have HV4:=Hd hv;have HZ4:=Hd hb4.size;have hK:k=l.length:=HL.out.1.symm;have HWS:=Hd HX.out.size;have HOL:=Hd (show ∀g,(Value.slice VA k vc).ownBlock=some g→g<wr.heap.size from fun g hg=>(HX.out.own.lt g hg).2);have hsum:((at0:Int)+((Z2.length - r3.length:Nat):Int))=(zs.length:Int) - r3.length:=by have:=HLR.out;have:=HA1.out;omega
  obtain⟨T,hT⟩:∃T:Int,T=((Z2.length - r3.length:Nat):Int):=⟨_,rfl⟩;have hwr:IntKind.i64.wrap ((at0:Int)+T)=(zs.length:Int) - r3.length:=by rw[hT,hsum,IntKind.wrap_i64];omega
  rw[←hT];clear hle hp hb4 hv HRG HX hsum hT;go_wp2_with (first
   | ((with_reducible show wpList _ _ _ (⟨none,Op.store 40 (.tmp 11) _,_,_,_,_⟩::_) _ _);go_must(refine Xa1 rfl 40 (.tmp 11) (.tmp 55) rfl (q.cells m) HSM.out Xcz (by rw[HL39.out];rfl) ?_ ?_ ?_;go_simp;go_simp;intro w5 hr5 hb5 hz5;have HX5:=Hd (HX4.out.more hb5);have R5:=Hd hr5;have HB5:=Hd hb5;clear hr5 hb5 hz5))
   | ((with_reducible show wpList _ _ _ (⟨some 62,_,_,_,_,_⟩::_) _ _);go_must(refine Xa0 rfl 40 (.tmp 11) rfl w4.heap.size 40 (q.cells m) _ Tryz.underlying40 rfl HSM.out R5.out ?_ ?_;go_simp))
   | ((with_reducible show wpList _ _ _ (⟨none,Op.store 40 (.tmp 63) _,_,_,_,_⟩::_) _ _);go_must(refine Xa9 rfl 40 (.tmp 63) (.tmp 62) rfl (w.heap.size+1) 42 1 _ (q.cells m) HX5.out.tx HSM.out (by rw[HL39.out];simp[Xar]) Xcz ?_ ?_ ?_;go_simp;go_simp;intro w6 hr6 ht6;rw[Xlf Xar HL39.out]at hr6;have R6:=Hd hr6;have T6:=Hd ht6;have RR6:=Hd (ht6.row HX5.out.res (by simp));clear hr6 ht6))
   | ((with_reducible show wpList _ _ _ (⟨some 64,_,_,_,_,_⟩::_) _ _);go_must(refine Xa0 rfl 42 (.tmp 8) rfl (w.heap.size+1) 42 (Value.slice VA k vc::q.cells m) _ Tryz.underlying42 rfl (by rw[Xba,List.length_cons,HL39.out]) R6.out ?_ ?_;go_simp))
   | ((with_reducible show wpList _ _ _ (⟨none,Op.store 42 (.tmp 2) _,_,_,_,_⟩::_) _ _);go_must(refine Xa4 rfl 42 (.tmp 2) (.tmp 64) rfl w.heap.size tzero (Value.slice VA k vc::q.cells m) RR6.out (by rw[Xba,List.length_cons,HL39.out]) (by rw[List.length_cons,HL39.out];rfl) (Xbm (s:=⟨VA,k,vc,q⟩) (x:=⟨l,m⟩)) ?_ ?_ ?_;go_simp;go_simp;intro w7 hr7 ht7;have R7:=Hd hr7;have T7:=Hd ht7;clear hr7 ht7)))
  refine bodyPost_ret (Xbq (h:=rfl) _ w7 ⟨w.heap.size,0,none⟩ _ _ _ (by rfl) (by rfl) (by rfl) (run_loadVar_row w7 w.heap.size 42 42 (Value.slice VA k vc::q.cells m).toArray (0,0) _ R7.out.is Tryz.underlying42 rfl (by rw[List.size_toArray,Xba,List.length_cons,HL39.out]))) rfl ?_;have hz6:=T6.out.size;have hz7:=T7.out.size;have hstay:∀g,w.heap.size+2≤g→g<w4.heap.size→w7.heap[g]?=w4.heap[g]?:=fun g h1 h2=>((T7.out.block g (by omega)).trans (T6.out.block g (by omega))).trans (HB5.out.block g h2)
  have hsx:=HX4.out.size;refine .inl ⟨⟨l,m⟩,r3,⟨VA,k,vc,q⟩,w.heap.size+2,HPO.out,by rfl,by omega,⟨by show l.length≤65535;omega,wr.heap.size,?_,?_,⟨?_,HOL.out,HL.out.2.1⟩,?_⟩,?_⟩
  ·exact HWS.out
  ·have:=HB5.out.size;have:=HZ4.out;omega
  ·have h1:=HX4.out.own;rw[←HL.out.2.2]at h1;have h2:w4.ownsRow (w.heap.size+2) 104 64 (.slice VA k vc) l.length (bv l.flatten):=by rw[HL.out.1];exact h1
   refine⟨h2.1,?_⟩;rcases h2.2 with h3 | ⟨g,cap,cur,hv,hg,hh,hrest⟩
   ·exact .inl h3
   ·exact .inr ⟨g,cap,cur,hv,hg,(hstay g hg (Array.getElem?_eq_some_iff.1 hh).1).trans hh,hrest⟩
  ·refine(HV4.out.stay (w':=w7) (by have:=HB5.out.size;omega) fun g a b=>hstay g (by have:=HWS.out;omega) b).more (by have:=HB5.out.size;omega)
  ·exact((HX5.out.below.trans (T6.out.below (by simp))).trans (T7.out.below (Lr _)))
theorem Xrl(A:Option Addr)(n c B:Nat)(zs:List Int)(w:World)(hs:Sees w B A n (bv zs))(hB:B≤w.heap.size)(hnc:n≤c)(hA:A=none→c=0)(hc:c≤maxLen)(hz:AllBytes zs) :
 Calls Tryz.prog 54 #[.slice A n c] w (WholeDone w zs):=by
 have hn:zs.length=n:=by have:=hs.len;rwa [bL]at this
 subst hn;have hmx:=hc;unfold maxLen at hmx;have r0:=Row.new w 42 tzero;have b0:Below w.heap.size w (w.alloc (.cells tzero.toArray 42)):=(Br _ _).alloc (Lr _) _;have z0:(w.alloc (.cells tzero.toArray 42)).heap.size=w.heap.size+1:=by simp
 have HG:=Hd (Xr9 A zs.length c B zs (w.alloc (.cells tzero.toArray 42)) (hs.below (b0.mono hB)) (Lq hB b0.size) hnc hA hc hz);have R0:=Hd r0;have B0:=Hd b0;have Z0:=Hd z0;have HZ:=Hd hz;clear hs r0 b0 z0 hz hA;obtain⟨W,hW⟩:∃W,W=w.alloc (.cells tzero.toArray 42):=⟨_,rfl⟩;go_enter Tryz.func54,Tryz.ntmps54
 go_upto_region 1 with fail
 have hX:∀c,c=tzero.toArray→w.alloc (.cells c 42)=W:=by rintro _ rfl;exact hW.symm
 rw[hX];rotate_left
 ·kernel_rfl
 rw[←hW]at HG R0 B0 Z0;clear hW hX;by_cases hbig:1232<zs.length
 ·have HP:Hid (wTx zs=.error 3):=Hd (by unfold wTx;rw[if_pos hbig]);have hbig':(1232:Int)<zs.length:=by omega
  go_wp2_with (((with_reducible show wpList _ _ _ (⟨none,Op.store 42 _ _,_,_,_,_⟩::_) _ _);go_must(refine Xa4 rfl 42 (.tmp 2) (.tmp 10) rfl w.heap.size tzero tzero R0.out Xan rfl Xap ?_ ?_ ?_;go_simp;(go_simp;kernel_rfl);intro w3 hr3 ht3;have R3:=Hd hr3;have T3:=Hd ht3;clear hr3 ht3)))
  refine bodyPost_ret (Xaf (h:=rfl) _ w3 ⟨w.heap.size,0,none⟩ _ _ (by rfl) (by rfl) (run_loadVar_row w3 w.heap.size 42 42 tzero.toArray (0,0) _ R3.out.is Tryz.underlying42 rfl (by rw[List.size_toArray];exact Xan))) rfl ?_;exact .inr ⟨_,HP.out,rfl,B0.out.trans (T3.out.below (Lr _))⟩
 have hbig':¬(1232:Int)<zs.length:=by omega
 go_wp2_with fail;refine HG.out.mono ?_;rintro e w2 (⟨x,r,s,lo,hp,rfl,hlo,hv,hb⟩ | ⟨x,hp,rfl,hb⟩);rotate_left
 ·have hx:=Xls HZ.out hp;have HP:Hid (wTx zs=.error x):=Hd (by unfold wTx;rw[if_neg hbig,hp]);have HR2:=Hd (R0.out.below hb R0.out.lt);have HB2:=Hd (B0.out.trans (hb.mono B0.out.size));have HLT:=Hd (show w.heap.size<w2.heap.size by have:=HR2.out.lt;exact this);clear hp hb HG;rcases hx with rfl | rfl
  all_goals
   go_wp2_with (first
    | ((with_reducible show wpList _ _ _ (⟨none,Op.store 42 (.tmp 4) _,_,_,_,_⟩::_) _ _);go_must(refine Xa1 rfl 42 (.tmp 4) (.tmp 14) rfl tzero Xan Xap rfl ?_ ?_ ?_;go_simp;go_simp;intro w3 hr3 hb3 hz3;have B3:=Hd hb3;clear hr3 hb3 hz3))
    | ((with_reducible show wpList _ _ _ (⟨none,Op.store 42 (.tmp 2) _,_,_,_,_⟩::_) _ _);go_must(refine Xa4 rfl 42 (.tmp 2) (.tmp 19) rfl w.heap.size tzero tzero (HR2.out.below B3.out HLT.out) Xan rfl Xap ?_ ?_ ?_;go_simp;(go_simp;kernel_rfl);intro w4 hr4 ht4;have R4:=Hd hr4;have T4:=Hd ht4;clear hr4 ht4)))
   refine bodyPost_ret (Xaf (h:=rfl) _ w4 ⟨w.heap.size,0,none⟩ _ _ (by rfl) (by rfl) (run_loadVar_row w4 w.heap.size 42 42 tzero.toArray (0,0) _ R4.out.is Tryz.underlying42 rfl (by rw[List.size_toArray];exact Xan))) rfl ?_;exact .inr ⟨_,HP.out,rfl,(HB2.out.trans (B3.out.mono HB2.out.size)).trans (T4.out.below (Lr _))⟩
 have hle:=(Xn7 _ _ _ hp).le;have HR2:=Hd (R0.out.below hb R0.out.lt);have HB2:=Hd (B0.out.trans (hb.mono B0.out.size));have HLT:=Hd HR2.out.lt;have HTX:=Hd hv;have HSZ:=Hd (show(Tryz.prog.info? 42).map (·.size)=some (TRaw.cells s x).length by rw[Xba,Xac hv.in_.m.recent]);have HTL:=Hd (Xac (s:=s) (x:=x) hv.in_.m.recent);have HCO:=Hd (Xbm (s:=s) (x:=x));have HLO:=Hd hlo;have HP2:=Hd hp;obtain⟨T,hT⟩:∃T:Int,T=(zs.length:Int) - r.length:=⟨_,rfl⟩;rw[←hT];have HT:=Hd hT;obtain⟨cs,hcs⟩:∃cs,cs=TRaw.cells s x:=⟨_,rfl⟩;have HCS:=Hd hcs;rw[←hcs]at HSZ HTL HCO ⊢;clear hcs hT hp hv hlo hb HG;by_cases h0:r.length=0
 ·have hT0:¬T<zs.length:=by have:=HT.out;omega
  have HP:Hid (wTx zs=.ok x):=Hd (by unfold wTx;rw[if_neg hbig,HP2.out];dsimp only;rw[if_pos h0]);go_wp2_with (first
   | ((with_reducible show wpList _ _ _ (⟨none,Op.store 42 (.tmp 4) _,_,_,_,_⟩::_) _ _);go_must(refine Xa1 rfl 42 (.tmp 4) (.tmp 14) rfl cs HSZ.out HCO.out (by rw[HTL.out];rfl) ?_ ?_ ?_;go_simp;go_simp;intro w3 hr3 hb3 hz3;have R3:=Hd hr3;have B3:=Hd hb3;clear hr3 hb3 hz3))
   | ((with_reducible show wpList _ _ _ (⟨some 26,_,_,_,_,_⟩::_) _ _);go_must(refine Xa0 rfl 42 (.tmp 4) rfl w2.heap.size 42 cs _ Tryz.underlying42 rfl HSZ.out R3.out ?_ ?_;go_simp))
   | ((with_reducible show wpList _ _ _ (⟨none,Op.store 42 (.tmp 2) _,_,_,_,_⟩::_) _ _);go_must(refine Xa4 rfl 42 (.tmp 2) (.tmp 26) rfl w.heap.size tzero cs (HR2.out.below B3.out HLT.out) HSZ.out (by rw[HTL.out];rfl) HCO.out ?_ ?_ ?_;go_simp;go_simp;intro w4 hr4 ht4;have R4:=Hd hr4;have T4:=Hd ht4;clear hr4 ht4)))
  refine bodyPost_ret (Xaf (h:=rfl) _ w4 ⟨w.heap.size,0,none⟩ _ _ (by rfl) (by rfl) (run_loadVar_row w4 w.heap.size 42 42 cs.toArray (0,0) _ R4.out.is Tryz.underlying42 rfl (by rw[List.size_toArray];exact HSZ.out))) rfl ?_;refine .inl ⟨x,s,lo,HP.out,by rw[HCS.out];rfl,?_,?_,(HB2.out.trans (B3.out.mono HB2.out.size)).trans (T4.out.below (Lr _))⟩
  ·exact Lq B0.out.size HLO.out
  ·refine(HTX.out.stay (w':=w4) (by rw[T4.out.size];exact B3.out.size) fun k a b=>(T4.out.block k ?_).trans (B3.out.block k b)).more (by rw[T4.out.size];exact B3.out.size);have:=Z0.out;have:=HLO.out;omega
 ·have hT0:T<zs.length:=by have:=HT.out;omega
  have HP:Hid (wTx zs=.error 4):=Hd (by unfold wTx;rw[if_neg hbig,HP2.out];dsimp only;rw[if_neg h0]);go_wp2_with (first
   | ((with_reducible show wpList _ _ _ (⟨none,Op.store 42 (.tmp 4) _,_,_,_,_⟩::_) _ _);go_must(refine Xa1 rfl 42 (.tmp 4) (.tmp 14) rfl cs HSZ.out HCO.out (by rw[HTL.out];rfl) ?_ ?_ ?_;go_simp;go_simp;intro w3 hr3 hb3 hz3;have B3:=Hd hb3;clear hr3 hb3 hz3))
   | ((with_reducible show wpList _ _ _ (⟨none,Op.store 42 (.tmp 2) _,_,_,_,_⟩::_) _ _);go_must(refine Xa4 rfl 42 (.tmp 2) (.tmp 25) rfl w.heap.size tzero tzero (HR2.out.below B3.out HLT.out) Xan rfl Xap ?_ ?_ ?_;go_simp;(go_simp;kernel_rfl);intro w4 hr4 ht4;have R4:=Hd hr4;have T4:=Hd ht4;clear hr4 ht4)))
  refine bodyPost_ret (Xaf (h:=rfl) _ w4 ⟨w.heap.size,0,none⟩ _ _ (by rfl) (by rfl) (run_loadVar_row w4 w.heap.size 42 42 tzero.toArray (0,0) _ R4.out.is Tryz.underlying42 rfl (by rw[List.size_toArray];exact Xan))) rfl ?_;exact .inr ⟨_,HP.out,rfl,(HB2.out.trans (B3.out.mono HB2.out.size)).trans (T4.out.below (Lr _))⟩
theorem Xqb(s:TRaw)(x:LTx)(B:Nat)(w:World)(hm:TxIn w B s x)(hB:B≤w.heap.size)(hs:Small x.m) :
 Calls Tryz.prog 96 #[.agg (s.cells x).toArray] w fun e w'=>e=.returned (.int .i64 (tot x.m:Nat))∧Below w.heap.size w w':=by
 have rb:=TxRow.of (Row.new w 42 (s.cells x)) hm.m.recent;have hb0:=(Br w.heap.size w).alloc (Lr _) (.cells (s.cells x).toArray 42);generalize s.cells x=cs at *;obtain⟨d0,d2,d3,d4,d5,d38,d39⟩:=rb;obtain⟨SA,sn,sc,KA,kn,kc,IA,n,ic,LA,ln,lc⟩:=s;dsimp only at d0 d5 d38 d39
 have lk:=hm.m.keys.len;have ll:=hm.m.looks.len;dsimp only at lk ll
 have k1:=hs.keys;have k2:=hs.looks;rw[lk]at k1;rw[ll]at k2;have HM:=Hd (hm.below (hb0.mono hB));have HB0:=Hd hb0;have HT:Hid (tot x.m=kn+lookSize x.m.looks):=Hd (by unfold tot;rw[lk]);have HS:=Hd hs;have HLL:=Hd ll;clear d0 d2 d3 d4 d38 hm hb0 lk ll hs;go_enter Tryz.func96,Tryz.ntmps96
 go_wp2;generalize (w.alloc (Obj.cells cs.toArray 42))=W0 at *;go_loopw [3,4] (fun nn i wr=>∃(k j s:Nat),k≤ln∧i=.int .i64 k∧nn=.int .i64 s∧s=kn+lookSize (x.m.looks.take k)∧s≤8000∧wr=W0.drewN j) (fun nn i _=>ln - (intOf i).toNat)
 case atStart=>exact⟨0,0,kn,Nat.zero_le _,rfl,rfl,by simp[lookSize],by omega,rfl⟩
 case round =>
  obtain⟨k,j,s,hk,rfl,rfl,hsum,hs9,rfl⟩:=hrel;have HSU:=Hd hsum;clear hsum;by_cases hlt:k<ln
  ·obtain⟨a,y,va,vd,rfl,hab,hx,hat⟩:=HM.out.m.looks.get hlt;have hx2:=HS.out.wr (List.mem_of_getElem? hx);have hz:=Xfn hx;have hz2:=Xd5 (l:=x.m.looks) (k+1);have hz3:=HS.out.sum;have hc1:W0.cell? ((a.add (k*34)).add 32)=some va:=hat.cells 32 va (by rw[List.getElem?_append_right (by rw[bL,hat.len];exact Lr _),bL,hat.len];rfl);have hc2:W0.cell? ((a.add (k*34)).add 33)=some vd:=hat.cells 33 vd (by rw[List.getElem?_append_right (by rw[bL,hat.len];omega),bL,hat.len];rfl);obtain⟨A1,c1,rfl,_,_,_⟩:=hat.wr.is;obtain⟨A2,c2,rfl,_,_,_⟩:=hat.rd.is;have e1:W0.cell? ⟨(a.add (k*34)).block,(a.add (k*34)).off+32,none⟩=some (.slice A1 y.wr.length c1):=hc1;have e2:W0.cell? ⟨(a.add (k*34)).block,(a.add (k*34)).off+33,none⟩=some (.slice A2 y.rd.length c2):=hc2;have HZ:Hid (s+y.wr.length+y.rd.length=kn+lookSize (x.m.looks.take (k+1))):=Hd (by have:=HSU.out;omega);have hz4:s+y.wr.length+y.rd.length≤8000:=by have:=HZ.out;omega
   obtain⟨g1,g2⟩:=hx2;clear hx hat hz hz2 hz3 hc1 hc2;go_wp2;go_quiet (fail)
   go_wp2;go_roundw
   case rel=>exact⟨k+1,j+nq,s+y.wr.length+y.rd.length,by omega,by go_num,by go_num,HZ.out,hz4,by simp⟩
   case measure=>simp[intOf];omega
  ·have hkn:k=ln:=by omega
   have HE:Hid (tot x.m=s):=Hd (by
    have h1:=HSU.out;rw[hkn,List.take_of_length_le (by rw[HLL.out];exact Lr _)]at h1;rw[HT.out,h1])
   clear hkn HSU;go_wp2;go_ret;exact⟨by simp[HE.out],below_drewN HB0.out j⟩
theorem Xt4{l:LLook}(h1:l.wr.length=0)(h2:l.rd.length=0):noix l=true:=by simp[noix,ixs,h1,h2]
theorem Xs2{l:LLook}(h:¬(l.wr.length=0∧l.rd.length=0)):noix l=false:=by
 unfold noix ixs;rw[decide_eq_false_iff_not];intro h';exact h ⟨by omega,by omega⟩
theorem Xqc(s:TRaw)(x:LTx)(B:Nat)(w:World)(hm:TxIn w B s x)(hB:B≤w.heap.size)(hs:Small x.m)(hw:x.m.Wf) :
 Calls Tryz.prog 55 #[.agg (s.cells x).toArray] w fun e w'=>e=.returned (.int .i64 (chk x))∧Below w.heap.size w w':=by
 have hrow:=Row.new w 42 (s.cells x);have hb0:=(Br w.heap.size w).alloc (Lr _) (.cells (s.cells x).toArray 42);have HTS:=Hd (show(Tryz.prog.info? 42).map (·.size)=some (s.cells x).length by rw[Xba,Xac hm.m.recent]);have HTR:=Hd (fun(V:World) (h:Row V w.heap.size 42 (s.cells x))=>TxRow.of h hm.m.recent);have HT:=Hd (fun(V:World) (h:TxIn V B s x) (hz:B≤V.heap.size)=>Xqb s x B V h hz hs);have HM0:=Hd (hm.below (hb0.mono hB));have rb:=HTR.out _ hrow;have lk:=hm.m.keys.len;have ll:=hm.m.looks.len;have li:=hm.m.ins.len;have lsg:=hm.sigs.len;have hsn:=hm.sn;have k1:=hs.keys;have k2:=hs.looks;have k3:=hs.ins;generalize s.cells x=cs at *;obtain⟨d0,d2,d3,d4,d5,d38,d39⟩:=rb;obtain⟨SA,sn,sc,KA,kn,kc,IA,n,ic,LA,ln,lc⟩:=s;dsimp only at d0 d5 d38 d39 lk ll li lsg hsn
 rw[lk]at k1;rw[ll]at k2;rw[li]at k3;unfold maxLen at hsn;have HLK:=Hd lk;have HLL:=Hd ll;have HLI:=Hd li;obtain⟨s0,s1⟩:0≤x.m.s∧x.m.s<256:=hw.s;obtain⟨r0,r1⟩:0≤x.m.r∧x.m.r<256:=hw.r;obtain⟨o0,o1⟩:0≤x.m.o∧x.m.o<256:=hw.o;have HB1:Hid (b1 x=decide (x.m.s=0∨(sn:Int)≠x.m.s)):=Hd (by unfold b1;rw[lsg]);have HB2:Hid (b2 x.m=decide (x.m.s≤x.m.r∨(kn:Int)<x.m.s+x.m.o)):=Hd (by unfold b2;rw[lk]);have HB4:Hid (b4 x.m=decide (64<tot x.m)):=Hd rfl;have HB5:Hid (b5 x.m=x.m.ins.any (stray kn (tot x.m))):=Hd (by unfold b5;rw[lk]);have htt:=hs.tot;obtain⟨tt,htt'⟩:∃tt,tt=tot x.m:=⟨_,rfl⟩;rw[←htt']at htt HB4 HB5 HT;clear htt';obtain⟨v,hv⟩:∃v,v=x.m.s:=⟨_,rfl⟩;obtain⟨r,hr⟩:∃v,v=x.m.r:=⟨_,rfl⟩;obtain⟨o,ho⟩:∃v,v=x.m.o:=⟨_,rfl⟩;rw[←hv]at d2 s0 s1 HB1 HB2;rw[←hr]at d3 r0 r1 HB2;rw[←ho]at d4 o0 o1 HB2;have HROW:=Hd hrow;have HB0:=Hd hb0;have hb1:=HB0.out.alloc (show w.heap.size≤(w.alloc (.cells cs.toArray 42)).heap.size from HB0.out.size) (.cells #[Value.int .u8 v,.int .u8 r,.int .u8 o] 33);have hbx:=(Br (w.alloc (.cells cs.toArray 42)).heap.size (w.alloc (.cells cs.toArray 42))).alloc (Lr _) (.cells #[Value.int .u8 v,.int .u8 r,.int .u8 o] 33);have RT1:=Hd (HROW.out.below hbx HROW.out.lt);have RH1:=Hd (Row.new' (w.alloc (.cells cs.toArray 42)) 33 [Value.int .u8 v,.int .u8 r,.int .u8 o] (g:=w.heap.size+1) (by simp));have BW1:=Hd hb1;have HM1:=Hd (HM0.out.below (hbx.mono (Lq hB HB0.out.size)));have e5:=(HTR.out _ RT1.out).c5;dsimp only at e5
 have HS:=Hd hs;have HW:=Hd hw;clear hrow hb0 hm hs hw lk ll li lsg hv hr ho;go_enter Tryz.func55,Tryz.ntmps55
 go_upto_region 3 with fail
 clear hb1 hbx d0 d2 d3 d4 d5 d38 d39 e5 HROW HM0;generalize (w.alloc (.cells cs.toArray 42)).alloc (.cells #[Value.int .u8 v,.int .u8 r,.int .u8 o] 33)=W1 at *;go_wp2_with ((with_reducible show wpList _ _ _ (⟨some 19,_,_,_,_,_⟩::_) _ _);go_must(refine Xa0 rfl 42 (.tmp 1) rfl w.heap.size 42 cs _ Tryz.underlying42 rfl HTS.out RT1.out ?_ ?_;go_simp))
 refine(HT.out W1 HM1.out (Lq hB BW1.out.size)).mono ?_;rintro e w2 ⟨rfl,hb2⟩;have RT2:=Hd (RT1.out.below hb2 RT1.out.lt);have RH2:=Hd (RH1.out.below hb2 RH1.out.lt);have BW2:=Hd (BW1.out.trans (hb2.mono BW1.out.size));have HM2:=Hd (HM1.out.below (hb2.mono (Lq hB BW1.out.size)));obtain⟨d0,d2,d3,d4,d5,d38,d39⟩:=HTR.out _ RT2.out;dsimp only at d0 d5 d38 d39
 have h0:w2.cell? ⟨w.heap.size+1,0,none⟩=some (.int .u8 v):=RH2.out.cell 0;have h1:w2.cell? ⟨w.heap.size+1,1,none⟩=some (.int .u8 r):=RH2.out.cell 1;have h2:w2.cell? ⟨w.heap.size+1,2,none⟩=some (.int .u8 o):=RH2.out.cell 2;clear hb2 RT1 RH1 BW1 HM1 HT d2 d3 d4;by_cases hz:v=0
 ·have HQ:Hid (brk x 0=true):=Hd (by show b1 x=true;rw[HB1.out];simp[hz]);have e1:(v==0)=true:=by simp[hz]
  clear hz;go_wp2_with fail;go_ret;exact⟨Xc9 (k:=0) (fun j hj=>by omega) HQ.out (by omega) rfl,BW2.out⟩
 have e1:(v==0)=false:=by simp[hz]
 by_cases hn:(sn:Int)=v
 rotate_left
 ·have HQ:Hid (brk x 0=true):=Hd (by show b1 x=true;rw[HB1.out];simp[hn]);have e2:((sn:Int) != v)=true:=by simp[hn]
  clear hz hn;go_wp2_with fail;go_ret;exact⟨Xc9 (k:=0) (fun j hj=>by omega) HQ.out (by omega) rfl,BW2.out⟩
 have HOK1:Hid (okTo x 1):=Hd (Xbu (fun j hj=>by omega) (by show b1 x=false;rw[HB1.out];simp[hz,hn]));have e2:((sn:Int) != v)=false:=by simp[hn]
 clear hz hn;by_cases hrs:v≤r
 ·have HQ:Hid (brk x 1=true):=Hd (by show b2 x.m=true;rw[HB2.out];simp[hrs]);go_wp2_with fail;go_ret;exact⟨Xc9 (k:=1) HOK1.out HQ.out (by omega) rfl,BW2.out⟩
 by_cases hov:(kn:Int)<v+o
 ·have HQ:Hid (brk x 1=true):=Hd (by show b2 x.m=true;rw[HB2.out];simp[hov]);go_wp2_with fail;go_ret;exact⟨Xc9 (k:=1) HOK1.out HQ.out (by omega) rfl,BW2.out⟩
 have HOK2:Hid (okTo x 2):=Hd (Xbu HOK1.out (by show b2 x.m=false;rw[HB2.out];simp;omega));go_wp2_with fail;clear e1 e2 hrs hov h0 h1 h2 d0;go_loop [6] (fun i=>∃k:Nat,k≤ln∧i=.int .i64 k∧(x.m.looks.take k).any noix=false) (fun i=>ln - (intOf i).toNat)
 case atStart=>exact⟨0,Nat.zero_le _,rfl,by simp⟩
 case round =>
  obtain⟨k,hk,rfl,hany⟩:=hrel;have HA:=Hd hany;clear hany;by_cases hlt:k<ln
  ·obtain⟨a,y,va,vd,rfl,hab,hx,hat⟩:=HM2.out.m.looks.get hlt;have hx2:=HS.out.wr (List.mem_of_getElem? hx);have hc1:w2.cell? ((a.add (k*34)).add 32)=some va:=hat.cells 32 va (by rw[List.getElem?_append_right (by rw[bL,hat.len];exact Lr _),bL,hat.len];rfl);have hc2:w2.cell? ((a.add (k*34)).add 33)=some vd:=hat.cells 33 vd (by rw[List.getElem?_append_right (by rw[bL,hat.len];omega),bL,hat.len];rfl);obtain⟨A1,c1,rfl,_,_,_⟩:=hat.wr.is;obtain⟨A2,c2,rfl,_,_,_⟩:=hat.rd.is;have e1:w2.cell? ⟨(a.add (k*34)).block,(a.add (k*34)).off+32,none⟩=some (.slice A1 y.wr.length c1):=hc1;have e2:w2.cell? ⟨(a.add (k*34)).block,(a.add (k*34)).off+33,none⟩=some (.slice A2 y.rd.length c2):=hc2;obtain⟨g1,g2⟩:=hx2;have HX:=Hd hx;clear hx hat hc1 hc2;have hnz:=fun a b=>Xt4 (l:=y) a b
   have hns:=fun a=>Xs2 (l:=y) a
   have HNZ:=Hd hnz;have HNS:=Hd hns;clear hnz hns;generalize y.wr.length=n1 at *;generalize y.rd.length=n2 at *;have step:Hid (¬(n1=0∧n2=0)→(x.m.looks.take (k+1)).any noix=false):=Hd fun h=>by rw[Xb4 HX.out,HA.out,HNS.out h];rfl
   by_cases hw1:n1=0
   ·have q1:((n1:Int)==0)=true:=by simp[hw1]
    by_cases hw2:n2=0
    ·have q2:((n2:Int)==0)=true:=by simp[hw2]
     have HQ:Hid (brk x 2=true):=Hd (Xdw HX.out (HNZ.out hw1 hw2));clear hw1 hw2;go_wp2_with fail;go_ret;exact⟨Xc9 (k:=2) HOK2.out HQ.out (by omega) rfl,BW2.out⟩
    ·have q2:((n2:Int)==0)=false:=by simp[hw2]
     have HP:=Hd (step.out (fun h=>hw2 h.2));clear hw1 hw2;go_wp2_with fail;go_round
     case rel=>exact⟨k+1,by omega,by go_num,HP.out⟩
     case measure=>simp[intOf];omega
   ·have q1:((n1:Int)==0)=false:=by simp[hw1]
    have HP:=Hd (step.out (fun h=>hw1 h.1));clear hw1;go_wp2_with fail;go_round
    case rel=>exact⟨k+1,by omega,by go_num,HP.out⟩
    case measure=>simp[intOf];omega
  have hkn:k=ln:=by omega
  have HOK3:Hid (okTo x 3):=Hd (Xbu HOK2.out (by
   have h1:=HA.out;rw[hkn,List.take_of_length_le (by rw[HLL.out];exact Lr _)]at h1;exact h1))
  clear hkn HA;by_cases h64:(64:Int)<tt
  ·have HQ:Hid (brk x 3=true):=Hd (by show b4 x.m=true;rw[HB4.out];simp;omega);go_wp2_with fail;go_ret;exact⟨Xc9 (k:=3) HOK3.out HQ.out (by omega) rfl,BW2.out⟩
  have HOK4:Hid (okTo x 4):=Hd (Xbu HOK3.out (by show b4 x.m=false;rw[HB4.out];simp;omega));go_wp2_with fail;clear hk hlt h64;go_loopw [7] (fun i wr=>∃k:Nat,k≤n∧i=.int .i64 k∧(x.m.ins.take k).any (stray kn tt)=false∧Below w2.heap.size w2 wr) (fun i _=>n - (intOf i).toNat)
  case atStart=>exact⟨0,Nat.zero_le _,rfl,by simp,Br _ _⟩
  case round =>
   obtain⟨i,hi,rfl,hany,hbw⟩:=hrel;have HA:=Hd hany;have HBW:=Hd hbw;have c38:wr.cell? ⟨w.heap.size,38,none⟩=some (.slice IA n ic):=(hbw.cell (p:=⟨w.heap.size,38,none⟩) RT2.out.lt).trans d38;have c5:wr.cell? ⟨w.heap.size,5,none⟩=some (.slice KA kn kc):=(hbw.cell (p:=⟨w.heap.size,5,none⟩) RT2.out.lt).trans d5;have HMW:=Hd (HM2.out.m.below (hbw.mono (Lq hB BW2.out.size)));have BWR:=Hd (BW2.out.trans (hbw.mono BW2.out.size));clear hany hbw;by_cases hlt:i<n
   ·obtain⟨a,y,va,vd,rfl,hab,hx,hat⟩:=HMW.out.ins.get hlt;obtain⟨⟨p0,p1⟩,hacb,_⟩:=HW.out.ins y (List.mem_of_getElem? hx);have hacl:=HS.out.acc y (List.mem_of_getElem? hx);obtain⟨A1,c1,rfl,hs1,hn1,hn2⟩:=hat.acc.is;obtain⟨A2,c2,rfl,_,_,_⟩:=hat.dat.is;have HX:=Hd hx;have HACB:=Hd hacb;have HSE:=Hd hs1;have HL:=Hd (Xbj y.p (Value.slice A1 y.acc.length c1) (Value.slice A2 y.dat.length c2));have HAT:=Hd hat.cells;have H1:=Hd (Xcg (p:=y.p) hat.acc hat.dat);have HL3:Hid ((inCells y.p (Value.slice A1 y.acc.length c1) (Value.slice A2 y.dat.length c2)).length=3):=Hd rfl;have HIC:Hid (∀(V:World) (g:Nat),Row V g 131 (inCells y.p (Value.slice A1 y.acc.length c1) (Value.slice A2 y.dat.length c2))→V.cell? ⟨g,0,none⟩=some (.int .u8 y.p)∧V.cell? ⟨g,1,none⟩=some (.slice A1 y.acc.length c1)):=Hd fun V g h=>⟨(Xcc h).1,(Xcc h).2.1⟩
    have HST:Hid (stray kn tt y=(decide (y.p=0∨(kn:Int)≤y.p)||y.acc.any (astray tt))):=Hd rfl;have HNX:Hid (stray kn tt y=false→(x.m.ins.take (i+1)).any (stray kn tt)=false):=Hd fun h=>by rw[Xb4 HX.out,HA.out,h];rfl
    have HYS:Hid (stray kn tt y=true→brk x 4=true):=Hd fun h=>by show b5 x.m=true;rw[HB5.out];exact Xdw HX.out h
    clear hx hacb hs1 hat HA;generalize inCells y.p (Value.slice A1 y.acc.length c1) (Value.slice A2 y.dat.length c2)=lc' at *;generalize stray kn tt y=sy at *;obtain⟨p,hp⟩:∃p,p=y.p:=⟨_,rfl⟩;rw[←hp]at p0 p1 HIC HST;clear hp;obtain⟨m,hm⟩:∃m,m=y.acc.length:=⟨_,rfl⟩;rw[←hm]at hacl HIC HSE hn1;have HM:=Hd hm;clear hm;by_cases hz:p=0
    ·have e1:(p==0)=true:=by simp[hz]
     have HQ:=Hd (HYS.out (by rw[HST.out];simp[hz]));clear hz;go_wp2_with (first
      | ((with_reducible show wpList _ _ _ (⟨some 92,_,_,_,_,_⟩::_) _ _);go_must(refine Xa3 rfl 131 (.tmp 91) rfl (a.add (i*3)) lc' _ Tryz.underlying131 rfl HL.out HAT.out ?_ ?_;go_simp))
      | ((with_reducible show wpList _ _ _ (⟨none,Op.store 131 _ _,_,_,_,_⟩::_) _ _);go_must(refine Xa1 rfl 131 (.tmp 8) (.tmp 92) rfl lc' HL.out H1.out (by rw[HL3.out];rfl) ?_ ?_ ?_;go_simp;go_simp;intro w3 hr3 hb3 hz3;obtain⟨i0,i1⟩:=HIC.out w3 _ hr3;have R3:=Hd hr3;have B3:=Hd hb3;clear hr3 hb3 hz3)))
     go_ret;exact⟨Xc9 (k:=4) HOK4.out HQ.out (by omega) rfl,BWR.out.trans (B3.out.mono BWR.out.size)⟩
    have e1:(p==0)=false:=by simp[hz]
    by_cases hov:(kn:Int)≤p
    ·have HQ:=Hd (HYS.out (by rw[HST.out];simp[hov]));clear hz;go_wp2_with (first
      | ((with_reducible show wpList _ _ _ (⟨some 92,_,_,_,_,_⟩::_) _ _);go_must(refine Xa3 rfl 131 (.tmp 91) rfl (a.add (i*3)) lc' _ Tryz.underlying131 rfl HL.out HAT.out ?_ ?_;go_simp))
      | ((with_reducible show wpList _ _ _ (⟨none,Op.store 131 _ _,_,_,_,_⟩::_) _ _);go_must(refine Xa1 rfl 131 (.tmp 8) (.tmp 92) rfl lc' HL.out H1.out (by rw[HL3.out];rfl) ?_ ?_ ?_;go_simp;go_simp;intro w3 hr3 hb3 hz3;obtain⟨i0,i1⟩:=HIC.out w3 _ hr3;have R3:=Hd hr3;have B3:=Hd hb3;clear hr3 hb3 hz3)))
     go_ret;exact⟨Xc9 (k:=4) HOK4.out HQ.out (by omega) rfl,BWR.out.trans (B3.out.mono BWR.out.size)⟩
    have HSY:Hid (sy=y.acc.any (astray tt)):=Hd (by rw[HST.out,decide_eq_false (by simp[hz,hov])];rfl);clear hz;go_wp2_with (first
     | ((with_reducible show wpList _ _ _ (⟨some 92,_,_,_,_,_⟩::_) _ _);go_must(refine Xa3 rfl 131 (.tmp 91) rfl (a.add (i*3)) lc' _ Tryz.underlying131 rfl HL.out HAT.out ?_ ?_;go_simp))
     | ((with_reducible show wpList _ _ _ (⟨none,Op.store 131 _ _,_,_,_,_⟩::_) _ _);go_must(refine Xa1 rfl 131 (.tmp 8) (.tmp 92) rfl lc' HL.out H1.out (by rw[HL3.out];rfl) ?_ ?_ ?_;go_simp;go_simp;intro w3 hr3 hb3 hz3;obtain⟨i0,i1⟩:=HIC.out w3 _ hr3;have R3:=Hd hr3;have B3:=Hd hb3;clear hr3 hb3 hz3)))
    have HS3:=Hd (HSE.out.below (B3.out.mono (Lq hB BWR.out.size)));go_loop [9] (fun jv=>∃j:Nat,j≤m∧jv=.int .i64 j∧(y.acc.take j).any (astray tt)=false) (fun jv=>m - (intOf jv).toNat)
    case atStart=>exact⟨0,Nat.zero_le _,rfl,by simp⟩
    case round =>
     obtain⟨j,hj,rfl,hja⟩:=hrel;have HJ:=Hd hja;clear hja;by_cases hjl:j<m
     ·obtain⟨b,rfl,hbb,hcb⟩:=HS3.out.byte hjl;have hzx:=Xgl (l:=y.acc) (k:=j) (by have:=HM.out;omega);obtain⟨z0,z1⟩:=HACB.out _ (List.mem_of_getElem? hzx);have HZX:=Hd hzx;clear hzx;generalize y.acc.getD j 0=z at *;by_cases hst:(tt:Int)≤z
      ·have HQ:=Hd (HYS.out (by rw[HSY.out];exact Xdw HZX.out (by simp[astray,hst])));go_wp2_with fail;go_ret;exact⟨Xc9 (k:=4) HOK4.out HQ.out (by omega) rfl,BWR.out.trans (B3.out.mono BWR.out.size)⟩
      ·have HP:Hid ((y.acc.take (j+1)).any (astray tt)=false):=Hd (by rw[Xb4 HZX.out,HJ.out];simp[astray];omega);go_wp2_with fail;go_round
       case rel=>exact⟨j+1,by omega,by go_num,HP.out⟩
       case measure=>simp[intOf];omega
     ·have hjm:j=m:=by omega
      have HP:=Hd (HNX.out (by
       rw[HSY.out];have h1:=HJ.out;rwa [hjm,List.take_of_length_le (by rw[HM.out];exact Lr _)]at h1))
      clear hjm;go_wp2_with fail;go_roundw
      case rel=>exact⟨i+1,by omega,by go_num,HP.out,HBW.out.trans (B3.out.mono HBW.out.size)⟩
      case measure=>simp[intOf];omega
   have hin:i=n:=by omega
   have HOK5:Hid (okTo x 5):=Hd (Xbu HOK4.out (by
    show b5 x.m=false
    rw[HB5.out];have h1:=HA.out;rwa [hin,List.take_of_length_le (by rw[HLI.out];exact Lr _)]at h1))
   clear hin HA;go_wp2_with fail;clear hlt hi HOK4 HOK3 HOK2 HOK1 HBW;go_loopw [10] (fun qv wz=>∃(q j:Nat),q≤kn∧qv=.int .i64 q∧(x.m.keys.take q).Nodup∧wz=wr.drewN j) (fun qv _=>kn - (intOf qv).toNat)
   case atStart=>exact⟨0,0,Nat.zero_le _,rfl,by simp,rfl⟩
   case round =>
    obtain⟨q,j,hq,rfl,hnd,rfl⟩:=hrel;have HND:=Hd hnd;clear hnd;by_cases hql:q<kn
    ·obtain⟨a,y,ha,hab,hx,hat⟩:=HMW.out.keys.get hql;obtain rfl:KA=some a:=ha;have CA:=Hd hat.cells;have HX:=Hd hx;have HYL:=Hd hat.len;have HSX:=Hd (show(Tryz.prog.info? 78).map (·.size)=some (bv y).length by rw[Xab,bL,hat.len]);obtain⟨X,hX⟩:∃X,X=bv y:=⟨_,rfl⟩;rw[←hX]at CA HSX;have HXX:=Hd hX;clear hat hx hX;go_wp2_with fail;go_loopw [11] (fun uv wz=>∃(u j:Nat),u≤q∧uv=.int .i64 u∧y ∉ x.m.keys.take u∧wz=wr.drewN j) (fun uv _=>q - (intOf uv).toNat)
     case atStart=>exact⟨0,j,Nat.zero_le _,rfl,by simp,rfl⟩
     case round =>
      obtain⟨u,j2,hu,rfl,hnot,rfl⟩:=hrel;have HN:=Hd hnot;clear hnot;by_cases hul:u<q
      ·obtain⟨b,y2,hb,_,hx2,hat2⟩:=HMW.out.keys.get (k:=u) (by dsimp only;omega);obtain rfl:a=b:=Option.some.inj hb;have hukn:u<kn:=by omega
       have CB:=Hd hat2.cells;have HX2:=Hd hx2;have HSY:=Hd (show(Tryz.prog.info? 78).map (·.size)=some (bv y2).length by rw[Xab,bL,hat2.len]);have NQ:∀w,(binOp .eql 78 (.agg X.toArray) (.agg (bv y2).toArray)).run Tryz.prog w=.ok (.bool (decide (y=y2))) w:=fun w=>by rw[HXX.out];exact Xej HYL.out hat2.len w
       generalize bv y2=Y at *;clear hx2 hat2 hb;by_cases hyy:y=y2
       ·have HQ:Hid (brk x 5=true):=Hd (by
         show b6 x.m=true
         refine decide_eq_true (Xg4 HX.out ?_);rw[hyy];exact List.mem_of_getElem? (i:=u) (by rw[List.getElem?_take_of_lt hul];exact HX2.out))
        rw[decide_eq_true hyy]at NQ;clear hyy;go_wp2_with fail;refine wp_region_quiet_lit (by kernel_rfl) (by kernel_rfl) ?_;repeat (first
         | ((with_reducible show wpQuiet _ _ _ _ (⟨some 133,_,_,_,_,_⟩::_) _);go_must(refine Xa6 (by kernel_rfl) 78 (.tmp 132) rfl (a.add (q*32)) X _ Tryz.underlying78 rfl HSX.out (by rintro _ ⟨nq,rfl⟩;exact CA.out) ?_ ?_;go_simp;go_simp))
         | ((with_reducible show wpQuiet _ _ _ _ (⟨some 139,_,_,_,_,_⟩::_) _);go_must(refine Xa6 (by kernel_rfl) 78 (.tmp 138) rfl (a.add (u*32)) Y _ Tryz.underlying78 rfl HSY.out (by rintro _ ⟨nq,rfl⟩;exact CB.out) ?_ ?_;go_simp;go_simp))
         | go_big_quiet_step (fail))
        refine wpQuiet_nil ?_;intro nq;go_wp2_with fail;go_ret;exact⟨Xc9 (k:=5) HOK5.out HQ.out (by omega) rfl,below_drewN BWR.out _⟩
       ·have HQ:Hid (y ∉ x.m.keys.take (u+1)):=Hd (by
         rw[List.take_add_one,HX2.out,Option.toList_some,List.mem_append,List.mem_singleton];exact fun h=>h.elim HN.out hyy)
        rw[decide_eq_false hyy]at NQ;clear hyy;go_wp2_with fail;refine wp_region_quiet_lit (by kernel_rfl) (by kernel_rfl) ?_;repeat (first
         | ((with_reducible show wpQuiet _ _ _ _ (⟨some 133,_,_,_,_,_⟩::_) _);go_must(refine Xa6 (by kernel_rfl) 78 (.tmp 132) rfl (a.add (q*32)) X _ Tryz.underlying78 rfl HSX.out (by rintro _ ⟨nq,rfl⟩;exact CA.out) ?_ ?_;go_simp;go_simp))
         | ((with_reducible show wpQuiet _ _ _ _ (⟨some 139,_,_,_,_,_⟩::_) _);go_must(refine Xa6 (by kernel_rfl) 78 (.tmp 138) rfl (a.add (u*32)) Y _ Tryz.underlying78 rfl HSY.out (by rintro _ ⟨nq,rfl⟩;exact CB.out) ?_ ?_;go_simp;go_simp))
         | go_big_quiet_step (fail))
        refine wpQuiet_nil ?_;intro nq;go_wp2_with fail;go_roundw
        case rel=>exact⟨u+1,j2+nq,by omega,by go_num,HQ.out,by simp⟩
        case measure=>simp[intOf];omega
      ·have huq:u=q:=by omega
       have HP:Hid ((x.m.keys.take (q+1)).Nodup):=Hd ((Xbx HX.out).2 ⟨HND.out,huq ▸ HN.out⟩);clear huq;go_wp2_with fail;go_roundw
       case rel=>exact⟨q+1,j2,by omega,by go_num,HP.out,rfl⟩
       case measure=>simp[intOf];omega
    ·have hqn:q=kn:=by omega
     have HE:Hid (chk x=0):=Hd (Xnl (Xbu HOK5.out (by
      show b6 x.m=false
      refine decide_eq_false (fun h=>h ?_);have h1:=HND.out;rwa [hqn,List.take_of_length_le (by rw[HLK.out];exact Lr _)]at h1)))
     clear hqn;go_wp2_with fail;go_ret;exact⟨by rw[HE.out];rfl,below_drewN BWR.out j⟩
end Go.Proofs.YtdgbodljmdcagaaGreatDoor
