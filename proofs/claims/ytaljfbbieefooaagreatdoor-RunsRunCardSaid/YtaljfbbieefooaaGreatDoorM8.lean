import Derived.Test.YtaljfbbieefooaaGreatDoorM7
set_option maxRecDepth 100000
set_option maxHeartbeats 16000000
set_option linter.unusedSimpArgs false
set_option linter.unusedVariables false
namespace Go.Proofs.YtaljfbbieefooaaGreatDoor
open Go.RowKit
theorem Xe0:Tryz.prog.built 62 []=some (bv key0).toArray:=by kernel_rfl
theorem Xcj:(Tryz.prog.info? 93).map (·.zero)=some (some (.agg r0.cells.toArray)):=by kernel_rfl
theorem Xbi(a:LAcc)(w:World)(ha:AccOk a):Calls Tryz.prog 61 #[.agg a.cells.toArray] w fun e w'=>e=.returned (.bool (decide (plain14 a)))∧Below w.heap.size w w':=by
 have RA:=Hd (Row.new w 69 a.cells);have HB:=Hd ((Br w.heap.size w).alloc (Lr _) (.cells a.cells.toArray 69));have c33:(w.alloc (.cells a.cells.toArray 69)).cell? ⟨w.heap.size,33,none⟩=some (.int .u64 a.s):=(RA.out.cell 33).trans (acc_s ha.o.1);have HK:Hid ((Tryz.prog.info? 62).map (·.size)=some (bv a.o).length):=Hd (by rw[Xan,bL,ha.o.1]);have HC:Hid (∀j u,(bv a.o)[j]?=some u→(w.alloc (.cells a.cells.toArray 69)).cell? ((⟨w.heap.size,1,none⟩:Addr).add j)=some u):=Hd fun j u hu=>by rw[Xa5];exact(RA.out.cell _).trans (acc_o hu)
 have HE:=Hd (fun w=>Xg7 ha.o.1 Xb3.1 w);clear RA;generalize hW:w.alloc (.cells a.cells.toArray 69)=W at *;have HW:=Hd hW;clear hW;have hpl:plain14 a↔a.o=key0∧a.s=0:=Iff.rfl;have HP:=Hd hpl;clear hpl;by_cases ho:a.o=key0
 ·rw[decide_eq_true ho]at HE;have HD:Hid (decide (plain14 a)=(a.s==0)):=Hd (by
   rw[Bool.eq_iff_iff,decide_eq_true_iff,beq_iff_eq,HP.out];exact⟨fun h=>h.2,fun h=>⟨ho,h⟩⟩)
  clear ho;have NE:=HE.out;go_enter Tryz.func61,Tryz.ntmps61
  go_upto_region 1 with fail
  rw[HW.out];clear HW;go_wp2_with (first
   | ((with_reducible show wpList _ _ _ (⟨some 4,_,_,_,_,_⟩::_) _ _);go_must(refine Xa3 rfl 62 (.tmp 3) rfl ⟨w.heap.size,1,none⟩ (bv a.o) _ Tryz.underlying62 rfl HK.out HC.out ?_ ?_;go_simp))
   | ((with_reducible show wpList _ _ _ (⟨some 5,_,_,_,_,_⟩::_) _ _);go_must(refine wpList_plain rfl fun K hK=>Xae _ _ _ rfl (by simp only[List.map_toArray,List.map_nil];exact Xe0) (hK _ _ ?_))))
  go_ret;exact⟨by rw[HD.out];rfl,HB.out⟩
 ·rw[decide_eq_false ho]at HE;have HD:Hid (decide (plain14 a)=false):=Hd (decide_eq_false fun h=>ho (HP.out.1 h).1);clear ho;have NE:=HE.out;go_enter Tryz.func61,Tryz.ntmps61
  go_upto_region 1 with fail
  rw[HW.out];clear HW;go_wp2_with (first
   | ((with_reducible show wpList _ _ _ (⟨some 4,_,_,_,_,_⟩::_) _ _);go_must(refine Xa3 rfl 62 (.tmp 3) rfl ⟨w.heap.size,1,none⟩ (bv a.o) _ Tryz.underlying62 rfl HK.out HC.out ?_ ?_;go_simp))
   | ((with_reducible show wpList _ _ _ (⟨some 5,_,_,_,_,_⟩::_) _ _);go_must(refine wpList_plain rfl fun K hK=>Xae _ _ _ rfl (by simp only[List.map_toArray,List.map_nil];exact Xe0) (hK _ _ ?_))))
  go_ret;exact⟨by rw[HD.out];rfl,HB.out⟩
def insC(p:Int)(A:Option Addr)(n c:Nat)(D:Option Addr)(dn dc:Nat):List Value:=[.int .u8 p,.slice A n c,.slice D dn dc]
def plcA(x:LAsk)(r:List LRole)(acc:List Int):Int:=if plc14 x r acc=0 then acc.getD 0 0 else 0
def plcB(x:LAsk)(r:List LRole)(acc:List Int):Int:=if plc14 x r acc=0 then acc.getD (need14 x - 1) 0 else 0
def PlcDone(w:World)(x:LAsk)(r:List LRole)(acc:List Int)(e:Ending)(w':World):Prop:=e=.returned (.tuple #[.int .i64 (plcA x r acc),.int .i64 (plcB x r acc),.int .i64 (plc14 x r acc)])∧Below w.heap.size w w'
theorem Xhc{x:LAsk}{r:List LRole}{acc:List Int}(h:acc.length<need14 x):plc14 x r acc=8:=by unfold plc14;rw[if_pos h]
theorem Xhx{x:LAsk}{r:List LRole}{acc:List Int}(h:¬acc.length<need14 x)(h2:∃i ∈ acc,(r.length:Int)≤i):plc14 x r acc=8:=by unfold plc14;rw[if_neg h,if_pos h2]
theorem Xcm{x:LAsk}{r:List LRole}{acc:List Int}(h:¬acc.length<need14 x)(h2:¬∃i ∈ acc,(r.length:Int)≤i){v:Int}(h3:chk14 true (rol14 r (acc.getD 0 0))=v)(h4:v≠0):plc14 x r acc=v:=by unfold plc14;rw[if_neg h,if_neg h2,h3,if_pos h4]
theorem Xd2{x:LAsk}{r:List LRole}{acc:List Int}(h:¬acc.length<need14 x)(h2:¬∃i ∈ acc,(r.length:Int)≤i)(h3:chk14 true (rol14 r (acc.getD 0 0))=0)(h4:two14 x):plc14 x r acc=chk14 (decide (x.tag=0)) (rol14 r (acc.getD 1 0)):=by unfold plc14;rw[if_neg h,if_neg h2,h3,if_neg (by simp),if_pos h4]
theorem Xp2{x:LAsk}{r:List LRole}{acc:List Int}(h:¬acc.length<need14 x)(h2:¬∃i ∈ acc,(r.length:Int)≤i)(h3:chk14 true (rol14 r (acc.getD 0 0))=0)(h4:¬two14 x):plc14 x r acc=0:=by unfold plc14;rw[if_neg h,if_neg h2,h3,if_neg (by simp),if_neg h4]
theorem Xba{w w':World}{x:LAsk}{r:List LRole}{acc:List Int}{v:Int}(h:plc14 x r acc=v)(h0:v≠0)(hb:Below w.heap.size w w'):PlcDone w x r acc (.returned (.tuple #[.int .i64 0,.int .i64 0,.int .i64 v])) w':=by
 unfold PlcDone plcA plcB;rw[h,if_neg h0,if_neg h0];exact⟨rfl,hb⟩
theorem Xh2{w w':World}{x:LAsk}{r:List LRole}{acc:List Int}{a b:Int}(h:plc14 x r acc=0)(ha:acc.getD 0 0=a)(hb':acc.getD (need14 x - 1) 0=b)(hb:Below w.heap.size w w'):PlcDone w x r acc (.returned (.tuple #[.int .i64 a,.int .i64 b,.int .i64 0])) w':=by
 unfold PlcDone plcA plcB;rw[h,if_pos rfl,if_pos rfl,ha,hb'];exact⟨rfl,hb⟩
structure PX(w V:World)(B g3 g5:Nat)(x:LAsk)(p:Int)(IA:Option Addr)(n c:Nat)(D:Option Addr)(dn dc:Nat)(acc:List Int)(RA:Option Addr)(rn:Nat)(r:List LRole):Prop where
 b:Below w.heap.size w V
 r3:Row V g3 142 (askC x)
 r5:Row V g5 61 (insC p IA n c D dn dc)
 acc:Sees V B IA n (bv acc)
 rol:RolesIn V B RA rn r
 hB:B≤w.heap.size
theorem PX.below{w V V':World}{B g3 g5:Nat}{x:LAsk}{p:Int}{IA:Option Addr}{n c:Nat}{D:Option Addr}{dn dc:Nat}{acc:List Int}{RA:Option Addr}{rn:Nat}{r:List LRole}(h:PX w V B g3 g5 x p IA n c D dn dc acc RA rn r)(hb:Below V.heap.size V V'):PX w V' B g3 g5 x p IA n c D dn dc acc RA rn r:=
 ⟨h.b.trans (hb.mono h.b.size),h.r3.below hb h.r3.lt,h.r5.below hb h.r5.lt,h.acc.below (hb.mono (Lq h.hB h.b.size)),h.rol.below (hb.mono (Lq h.hB h.b.size)),h.hB⟩
theorem Xgn{r:List LRole}{i:Int}{k:Nat}{y:LRole}(hi:i=k)(h:r[k]?=some y):rol14 r i=y:=by
 unfold rol14;rw[hi,Int.toNat_natCast,List.getD_eq_getElem?_getD,h];rfl
theorem Xu6(x:LAsk)(hT:x.tag=0)(p:Int)(IA:Option Addr)(n c:Nat)(D:Option Addr)(dn dc:Nat)(acc:List Int)(RA:Option Addr)(rn rc:Nat)(r:List LRole)(B:Nat)(w:World)
 (hacc:Sees w B IA n (bv acc)) (hb:AllBytes acc) (hr:RolesIn w B RA rn r) (hB:B≤w.heap.size) (hn:n≤100000) (hrn:rn≤100000) :
 Calls Tryz.prog 60 #[.agg (askC x).toArray,.slice RA rn rc,.agg (insC p IA n c D dn dc).toArray] w (PlcDone w x r acc):=by
 have HT:=Hd hT;have HAB:=Hd hb;have HLA:=Hd (show acc.length=n by have:=hacc.len;rwa [bL]at this);have HLR:=Hd hr.len;have hneed:need14 x=2:=by unfold need14;first | rw[if_pos (show two14 x by unfold two14;rw[hT];decide)] | rw[if_neg (show ¬two14 x by unfold two14;rw[hT];decide)]
 have HND:=Hd hneed;have HTW:Hid (two14 x):=Hd (by unfold two14;rw[hT];decide);have hbw:=((Br w.heap.size w).alloc (Lr _) (.cells (askC x).toArray 142)).alloc (by simp) (.cells (insC p IA n c D dn dc).toArray 61);have P0:=Hd (show PX w _ B w.heap.size (w.heap.size+1) x p IA n c D dn dc acc RA rn r from⟨hbw,(Row.new w 142 (askC x)).alloc _,Row.new' _ 61 _ (by simp),hacc.below (hbw.mono hB),hr.below (hbw.mono hB),hB⟩);clear hbw hacc hr hneed;obtain⟨g5,hg5⟩:∃g,g=w.heap.size+1:=⟨_,rfl⟩;obtain⟨g3,hg3⟩:∃g,g=w.heap.size:=⟨_,rfl⟩;have HG5:Hid (w.heap.size+1=g5):=Hd hg5.symm;have HG3:Hid (w.heap.size=g3):=Hd hg3.symm;have P1:Hid (PX w ((w.alloc (.cells (askC x).toArray 142)).alloc (.cells (insC p IA n c D dn dc).toArray 61)) B g3 g5 x p IA n c D dn dc acc RA rn r):=Hd (by rw[hg5,hg3];exact P0.out);clear hg5 hg3 P0;generalize hW:(w.alloc (.cells (askC x).toArray 142)).alloc (.cells (insC p IA n c D dn dc).toArray 61)=W at *;have HW:=Hd hW;clear hW;go_enter Tryz.func60,Tryz.ntmps60
 go_upto_region 2 with fail
 try rw[HG5.out]
 try rw[HG3.out]
 rw[HW.out];clear HG5 HG3 HW;have c30:W.cell? ⟨g3,0,none⟩=some (.int .u64 0):=(P1.out.r3.cell 0).trans (by rw[←HT.out];rfl);have c51:W.cell? ⟨g5,1,none⟩=some (.slice IA n c):=P1.out.r5.cell 1;clear hT;by_cases hf:n<2
 ·have hf':(n:Int)<2:=by omega
  have HE:Hid (plc14 x r acc=8):=Hd (Xhc (by rw[HLA.out,HND.out];exact hf));go_wp2_with fail;go_ret3
  exact Xba HE.out (by decide) P1.out.b
 have hf':¬(n:Int)<2:=by omega
 have HF:Hid (¬acc.length<need14 x):=Hd (by rw[HLA.out,HND.out];exact hf);go_upto_region 6 with fail
 clear c30;go_wp2_with fail;go_loopw [10] (fun i wr=>∃k:Nat,k≤n∧i=.int .i64 k∧wr=W∧Hid (∀i ∈ acc.take k,i<(rn:Int))) (fun i _=>n - (intOf i).toNat)
 case atStart=>exact⟨0,Nat.zero_le _,rfl,rfl,Hd (by simp)⟩
 case round =>
  obtain⟨k,hk,rfl,rfl,HI⟩:=hrel;by_cases hlt:k<n
  ·have hlt':(k:Int)<n:=by omega
   obtain⟨ia,u,rfl,hab,hu,hcell⟩:=P1.out.acc.at_ hlt;obtain⟨z,hz,hzu⟩:∃z,acc[k]?=some z∧u=.int .u8 z:=by
    unfold bv cv at hu;rw[List.getElem?_map]at hu;obtain⟨z,hz,e⟩:=Option.map_eq_some_iff.1 hu;exact⟨z,hz,e.symm⟩
   rw[hzu]at hcell;have hzb:=HAB.out z (List.mem_of_getElem? hz);have hzb0:=hzb.1;have hzb1:=hzb.2;by_cases hzr:z<rn
   ·have hzr':¬(rn:Int)≤z:=by omega
    have HI2:Hid (∀i ∈ acc.take (k+1),i<(rn:Int)):=Hd fun i hi=>by
     rw[List.take_add_one,hz]at hi;rcases List.mem_append.1 hi with hi | hi
     ·exact HI.out i hi
     ·obtain rfl:i=z:=by simpa using hi
      exact hzr
    clear hu hz hzu hab hzb;go_wp2_with fail;go_roundw
    case rel=>exact⟨k+1,by omega,by go_num,trivial,HI2⟩
    case measure=>simp[intOf];omega
   ·have hzr':(rn:Int)≤z:=by omega
    have HE:Hid (plc14 x r acc=8):=Hd (Xhx HF.out ⟨z,List.mem_of_getElem? hz,by rw[HLR.out];exact hzr'⟩);clear hu hz hzu hab hzb;go_wp2_with fail;go_ret3
    exact Xba HE.out (by decide) P1.out.b
  ·have hlt':¬(k:Int)<n:=by omega
   have hkn:k=n:=by omega
   have HO:Hid (¬∃i ∈ acc,(r.length:Int)≤i):=Hd (by
    rintro⟨i,hi,h⟩;have:=HI.out i (by rw[hkn,←HLA.out,List.take_length];exact hi);rw[HLR.out]at h;omega)
   clear HI hkn hlt;go_wp2_with fail;go_loopw [11] (fun i wr=>∃j:Nat,j≤2∧i=.int .i64 j∧PX w wr B g3 g5 x p IA n c D dn dc acc RA rn r∧Hid (1≤j→chk14 true (rol14 r (acc.getD 0 0))=0)∧Hid (2≤j→chk14 true (rol14 r (acc.getD 1 0))=0)) (fun i _=>2 - (intOf i).toNat)
   case atStart=>exact⟨0,by omega,rfl,P1.out,Hd (by omega),Hd (by omega)⟩
   case round =>
    clear c51 P1;obtain⟨j,hj,rfl,hpx,H1,H2⟩:=hrel;have PX1:=Hd hpx;clear hpx;rename World=>wr0
    obtain⟨V,hV⟩:∃V,V=wr0:=⟨_,rfl⟩;subst hV;have c30:V.cell? ⟨g3,0,none⟩=some (.int .u64 0):=(PX1.out.r3.cell 0).trans (by rw[←HT.out];rfl);have c51:V.cell? ⟨g5,1,none⟩=some (.slice IA n c):=PX1.out.r5.cell 1;by_cases hj0:j=0
    ·subst hj0;obtain⟨ia0,u0,IE0,_,hu0,hcell0⟩:=PX1.out.acc.at_ (k:=0) (by omega);obtain⟨z0,hz0,hzu0⟩:∃z,acc[0]?=some z∧u0=.int .u8 z:=by
      unfold bv cv at hu0;rw[List.getElem?_map]at hu0;obtain⟨z,hz,e⟩:=Option.map_eq_some_iff.1 hu0;exact⟨z,hz,e.symm⟩
     rw[hzu0]at hcell0;have hzb0:=HAB.out z0 (List.mem_of_getElem? hz0);have hzg0:acc.getD 0 0=z0:=by rw[List.getD_eq_getElem?_getD,hz0];rfl
     have hzn0:z0<(rn:Int):=by have:=HO.out;have hm:=List.mem_of_getElem? hz0;by_cases h:z0<(rn:Int);exact h;exact absurd ⟨z0,hm,by rw[HLR.out];omega⟩ this
     have hcell0:V.cell? ia0=some (.int .u8 z0):=by simpa [Addr.add]using hcell0
     obtain⟨k,hk⟩:=Int.eq_ofNat_of_zero_le hzb0.1;have hkr:k<rn:=by omega
     obtain⟨ra,y,RE,hrb,hy,hyo,hyc⟩:=PX1.out.rol.get hkr;have HRO:=Hd (Xgn (i:=z0) hk hy);rw[←hzg0]at HRO;have HZG:=Hd hzg0;subst RE;subst IE0;subst hk;have HSR:=Hd (Xce hyo.1);have HYC:=Hd hyc;have HKB:(k:Int)<256:=hzb0.2;have HYO:=Hd hyo;clear hzg0 hzb0 hu0 hz0 hzu0 hzn0 hy hyo hyc hrb;have hj0:(0:Int)<2:=by decide
     go_upto_region 15 with(first
      | ((with_reducible show wpList _ _ _ (⟨some 54,_,_,_,_,_⟩::_) _ _);go_must(refine Xa3 rfl 93 (.tmp 53) rfl (ra.add (k*34)) y.cells _ Tryz.underlying93 rfl HSR.out HYC.out ?_ ?_;go_simp))
      | ((with_reducible show wpList _ _ _ (⟨some 12,_,_,_,_,_⟩::_) _ _);go_must(refine Xa0 rfl 93 rfl r0.cells Xcj ?_))
      | ((with_reducible show wpList _ _ _ (⟨none,Op.store 93 _ _,_,_,_,_⟩::_) _ _);go_must(refine Xa2 rfl 93 (.tmp 12) (.tmp 54) rfl y.cells HSR.out (Xcy _) (by rw[List.size_toArray,Xc5 HYO.out.1];rfl) ?_ ?_ ?_;go_simp;go_simp;intro w4 hr4 hb4 hz4)))
     have PX2:=Hd (PX1.out.below hb4);have R12:=Hd hr4;have c30':w4.cell? ⟨g3,0,none⟩=some (.int .u64 0):=(PX2.out.r3.cell 0).trans (by rw[←HT.out];rfl);have s32:w4.cell? ⟨V.heap.size,32,none⟩=some (.bool y.sg):=(R12.out.cell 32).trans (Xe9 HYO.out.1);have s33:w4.cell? ⟨V.heap.size,33,none⟩=some (.bool y.wr):=(R12.out.cell 33).trans (Xcr HYO.out.1);generalize V.heap.size=gr at *;clear hr4 hb4 hz4 c30 c51;cases hs:y.sg with
     | false =>
      rw[hs]at s32;have HE:Hid (plc14 x r acc=14):=Hd (Xcm HF.out HO.out (by rw[HRO.out];unfold chk14;rw[hs];rfl) (by decide));go_wp2_with fail;go_ret3
      exact Xba HE.out (by decide) PX2.out.b
     | true =>
      rw[hs]at s32;cases hw:y.wr with
      | false =>
       rw[hw]at s33;have HE:Hid (plc14 x r acc=15):=Hd (Xcm HF.out HO.out (by rw[HRO.out];unfold chk14;rw[hs,hw];rfl) (by decide));go_wp2_with fail;go_ret3
       exact Xba HE.out (by decide) PX2.out.b
      | true =>
       rw[hw]at s33;have HCK:Hid (chk14 true (rol14 r (acc.getD 0 0))=0):=Hd (by rw[HRO.out];unfold chk14;rw[hs,hw];rfl);go_wp2_with fail;go_roundw
       case rel=>exact⟨1,by omega,by go_num,PX2.out,Hd (fun _=>HCK.out),Hd (fun h=>absurd h (by omega))⟩
       case measure=>simp[intOf]
    by_cases hj1:j=1
    ·subst hj1;obtain⟨ia1,u1,IE1,_,hu1,hcell1⟩:=PX1.out.acc.at_ (k:=1) (by omega);obtain⟨z1,hz1,hzu1⟩:∃z,acc[1]?=some z∧u1=.int .u8 z:=by
      unfold bv cv at hu1;rw[List.getElem?_map]at hu1;obtain⟨z,hz,e⟩:=Option.map_eq_some_iff.1 hu1;exact⟨z,hz,e.symm⟩
     rw[hzu1]at hcell1;have hzb1:=HAB.out z1 (List.mem_of_getElem? hz1);have hzg1:acc.getD 1 0=z1:=by rw[List.getD_eq_getElem?_getD,hz1];rfl
     have hzn1:z1<(rn:Int):=by have:=HO.out;have hm:=List.mem_of_getElem? hz1;by_cases h:z1<(rn:Int);exact h;exact absurd ⟨z1,hm,by rw[HLR.out];omega⟩ this
     have hcell1:V.cell? ⟨ia1.block,ia1.off+1,none⟩=some (.int .u8 z1):=by simpa [Addr.add]using hcell1
     obtain⟨k,hk⟩:=Int.eq_ofNat_of_zero_le hzb1.1;have hkr:k<rn:=by omega
     obtain⟨ra,y,RE,hrb,hy,hyo,hyc⟩:=PX1.out.rol.get hkr;have HRO:=Hd (Xgn (i:=z1) hk hy);rw[←hzg1]at HRO;have HZG:=Hd hzg1;subst RE;subst IE1;subst hk;have HSR:=Hd (Xce hyo.1);have HYC:=Hd hyc;have HKB:(k:Int)<256:=hzb1.2;have HYO:=Hd hyo;clear hzg1 hzb1 hu1 hz1 hzu1 hzn1 hy hyo hyc hrb;have hj0:(1:Int)<2:=by decide
     go_upto_region 15 with(first
      | ((with_reducible show wpList _ _ _ (⟨some 54,_,_,_,_,_⟩::_) _ _);go_must(refine Xa3 rfl 93 (.tmp 53) rfl (ra.add (k*34)) y.cells _ Tryz.underlying93 rfl HSR.out HYC.out ?_ ?_;go_simp))
      | ((with_reducible show wpList _ _ _ (⟨some 12,_,_,_,_,_⟩::_) _ _);go_must(refine Xa0 rfl 93 rfl r0.cells Xcj ?_))
      | ((with_reducible show wpList _ _ _ (⟨none,Op.store 93 _ _,_,_,_,_⟩::_) _ _);go_must(refine Xa2 rfl 93 (.tmp 12) (.tmp 54) rfl y.cells HSR.out (Xcy _) (by rw[List.size_toArray,Xc5 HYO.out.1];rfl) ?_ ?_ ?_;go_simp;go_simp;intro w4 hr4 hb4 hz4)))
     have PX2:=Hd (PX1.out.below hb4);have R12:=Hd hr4;have c30':w4.cell? ⟨g3,0,none⟩=some (.int .u64 0):=(PX2.out.r3.cell 0).trans (by rw[←HT.out];rfl);have s32:w4.cell? ⟨V.heap.size,32,none⟩=some (.bool y.sg):=(R12.out.cell 32).trans (Xe9 HYO.out.1);have s33:w4.cell? ⟨V.heap.size,33,none⟩=some (.bool y.wr):=(R12.out.cell 33).trans (Xcr HYO.out.1);generalize V.heap.size=gr at *;clear hr4 hb4 hz4 c30 c51;cases hs:y.sg with
     | false =>
      rw[hs]at s32;have HE:Hid (plc14 x r acc=14):=Hd ((Xd2 HF.out HO.out (H1.out (by omega)) HTW.out).trans (by rw[HRO.out,HT.out];unfold chk14;rw[hs];rfl));go_wp2_with fail;go_ret3
      exact Xba HE.out (by decide) PX2.out.b
     | true =>
      rw[hs]at s32;cases hw:y.wr with
      | false =>
       rw[hw]at s33;have HE:Hid (plc14 x r acc=15):=Hd ((Xd2 HF.out HO.out (H1.out (by omega)) HTW.out).trans (by rw[HRO.out,HT.out];unfold chk14;rw[hs,hw];rfl));go_wp2_with fail;go_ret3
       exact Xba HE.out (by decide) PX2.out.b
      | true =>
       rw[hw]at s33;have HCK:Hid (chk14 true (rol14 r (acc.getD 1 0))=0):=Hd (by rw[HRO.out];unfold chk14;rw[hs,hw];rfl);go_wp2_with fail;go_roundw
       case rel=>exact⟨2,by omega,by go_num,PX2.out,Hd (fun _=>H1.out (by omega)),Hd (fun h=>HCK.out)⟩
       case measure=>simp[intOf]
    have hje:j=2:=by omega
    subst hje;have hj0:¬(2:Int)<2:=by decide
    obtain⟨ia0,u0,IE0,_,hu0,hcell0⟩:=PX1.out.acc.at_ (k:=0) (by omega);obtain⟨z0,hz0,hzu0⟩:∃z,acc[0]?=some z∧u0=.int .u8 z:=by
     unfold bv cv at hu0;rw[List.getElem?_map]at hu0;obtain⟨z,hz,e⟩:=Option.map_eq_some_iff.1 hu0;exact⟨z,hz,e.symm⟩
    rw[hzu0]at hcell0;have hzb0:=HAB.out z0 (List.mem_of_getElem? hz0);have hzg0:acc.getD 0 0=z0:=by rw[List.getD_eq_getElem?_getD,hz0];rfl
    have hzn0:z0<(rn:Int):=by have:=HO.out;have hm:=List.mem_of_getElem? hz0;by_cases h:z0<(rn:Int);exact h;exact absurd ⟨z0,hm,by rw[HLR.out];omega⟩ this
    have hcell0:V.cell? ia0=some (.int .u8 z0):=by simpa [Addr.add]using hcell0
    obtain⟨ia1,u1,IE1,_,hu1,hcell1⟩:=PX1.out.acc.at_ (k:=1) (by omega);obtain⟨z1,hz1,hzu1⟩:∃z,acc[1]?=some z∧u1=.int .u8 z:=by
     unfold bv cv at hu1;rw[List.getElem?_map]at hu1;obtain⟨z,hz,e⟩:=Option.map_eq_some_iff.1 hu1;exact⟨z,hz,e.symm⟩
    rw[hzu1]at hcell1;have hzb1:=HAB.out z1 (List.mem_of_getElem? hz1);have hzg1:acc.getD 1 0=z1:=by rw[List.getD_eq_getElem?_getD,hz1];rfl
    have hzn1:z1<(rn:Int):=by have:=HO.out;have hm:=List.mem_of_getElem? hz1;by_cases h:z1<(rn:Int);exact h;exact absurd ⟨z1,hm,by rw[HLR.out];omega⟩ this
    have hcell1:V.cell? ⟨ia1.block,ia1.off+1,none⟩=some (.int .u8 z1):=by simpa [Addr.add]using hcell1
    have HE:Hid (plc14 x r acc=0):=Hd ((Xd2 HF.out HO.out (H1.out (by omega)) HTW.out).trans (by rw[HT.out];exact H2.out (by omega)));subst IE0;obtain rfl:=Option.some.inj IE1;have HZ0:=Hd hzg0;have HZL:Hid (acc.getD (need14 x - 1) 0=z1):=Hd (by rw[HND.out];exact hzg1);have hb00:=hzb0.1;have hb01:=hzb0.2;clear hzg0 hu0 hz0 hzu0 hzn0 hzb0;have hb10:=hzb1.1;have hb11:=hzb1.2;clear hzg1 hu1 hz1 hzu1 hzn1 hzb1;go_wp2_with fail;have N51:∀q,(V.drewN q).cell? ⟨g5,1,none⟩=some (.slice (some ia0) n c):=fun q=>c51
    have NC0:∀q,(V.drewN q).cell? ia0=some (.int .u8 z0):=fun q=>hcell0
    have NC1:∀q,(V.drewN q).cell? ⟨ia0.block,ia0.off+1,none⟩=some (.int .u8 z1):=fun q=>hcell1
    have hn0:(0:Int)<n:=by omega
    have hn1:(1:Int)≤n:=by omega
    clear c51 c30;go_quiet (fail)
    go_wp2_with fail;go_ret3
    exact Xh2 HE.out HZ0.out HZL.out (PX1.out.b.trans ⟨rfl,rfl,rfl,Lr _,fun _ _=>rfl⟩)
theorem Xtn(x:LAsk)(hT:x.tag=1)(p:Int)(IA:Option Addr)(n c:Nat)(D:Option Addr)(dn dc:Nat)(acc:List Int)(RA:Option Addr)(rn rc:Nat)(r:List LRole)(B:Nat)(w:World)
 (hacc:Sees w B IA n (bv acc)) (hb:AllBytes acc) (hr:RolesIn w B RA rn r) (hB:B≤w.heap.size) (hn:n≤100000) (hrn:rn≤100000) :
 Calls Tryz.prog 60 #[.agg (askC x).toArray,.slice RA rn rc,.agg (insC p IA n c D dn dc).toArray] w (PlcDone w x r acc):=by
 have HT:=Hd hT;have HAB:=Hd hb;have HLA:=Hd (show acc.length=n by have:=hacc.len;rwa [bL]at this);have HLR:=Hd hr.len;have hneed:need14 x=1:=by unfold need14;first | rw[if_pos (show two14 x by unfold two14;rw[hT];decide)] | rw[if_neg (show ¬two14 x by unfold two14;rw[hT];decide)]
 have HND:=Hd hneed;have HTW:Hid (¬two14 x):=Hd (by unfold two14;rw[hT];decide);have hbw:=((Br w.heap.size w).alloc (Lr _) (.cells (askC x).toArray 142)).alloc (by simp) (.cells (insC p IA n c D dn dc).toArray 61);have P0:=Hd (show PX w _ B w.heap.size (w.heap.size+1) x p IA n c D dn dc acc RA rn r from⟨hbw,(Row.new w 142 (askC x)).alloc _,Row.new' _ 61 _ (by simp),hacc.below (hbw.mono hB),hr.below (hbw.mono hB),hB⟩);clear hbw hacc hr hneed;obtain⟨g5,hg5⟩:∃g,g=w.heap.size+1:=⟨_,rfl⟩;obtain⟨g3,hg3⟩:∃g,g=w.heap.size:=⟨_,rfl⟩;have HG5:Hid (w.heap.size+1=g5):=Hd hg5.symm;have HG3:Hid (w.heap.size=g3):=Hd hg3.symm;have P1:Hid (PX w ((w.alloc (.cells (askC x).toArray 142)).alloc (.cells (insC p IA n c D dn dc).toArray 61)) B g3 g5 x p IA n c D dn dc acc RA rn r):=Hd (by rw[hg5,hg3];exact P0.out);clear hg5 hg3 P0;generalize hW:(w.alloc (.cells (askC x).toArray 142)).alloc (.cells (insC p IA n c D dn dc).toArray 61)=W at *;have HW:=Hd hW;clear hW;go_enter Tryz.func60,Tryz.ntmps60
 go_upto_region 2 with fail
 try rw[HG5.out]
 try rw[HG3.out]
 rw[HW.out];clear HG5 HG3 HW;have c30:W.cell? ⟨g3,0,none⟩=some (.int .u64 1):=(P1.out.r3.cell 0).trans (by rw[←HT.out];rfl);have c51:W.cell? ⟨g5,1,none⟩=some (.slice IA n c):=P1.out.r5.cell 1;clear hT;by_cases hf:n<1
 ·have hf':(n:Int)<1:=by omega
  have HE:Hid (plc14 x r acc=8):=Hd (Xhc (by rw[HLA.out,HND.out];exact hf));go_wp2_with fail;go_ret3
  exact Xba HE.out (by decide) P1.out.b
 have hf':¬(n:Int)<1:=by omega
 have HF:Hid (¬acc.length<need14 x):=Hd (by rw[HLA.out,HND.out];exact hf);go_upto_region 6 with fail
 clear c30;go_wp2_with fail;go_loopw [10] (fun i wr=>∃k:Nat,k≤n∧i=.int .i64 k∧wr=W∧Hid (∀i ∈ acc.take k,i<(rn:Int))) (fun i _=>n - (intOf i).toNat)
 case atStart=>exact⟨0,Nat.zero_le _,rfl,rfl,Hd (by simp)⟩
 case round =>
  obtain⟨k,hk,rfl,rfl,HI⟩:=hrel;by_cases hlt:k<n
  ·have hlt':(k:Int)<n:=by omega
   obtain⟨ia,u,rfl,hab,hu,hcell⟩:=P1.out.acc.at_ hlt;obtain⟨z,hz,hzu⟩:∃z,acc[k]?=some z∧u=.int .u8 z:=by
    unfold bv cv at hu;rw[List.getElem?_map]at hu;obtain⟨z,hz,e⟩:=Option.map_eq_some_iff.1 hu;exact⟨z,hz,e.symm⟩
   rw[hzu]at hcell;have hzb:=HAB.out z (List.mem_of_getElem? hz);have hzb0:=hzb.1;have hzb1:=hzb.2;by_cases hzr:z<rn
   ·have hzr':¬(rn:Int)≤z:=by omega
    have HI2:Hid (∀i ∈ acc.take (k+1),i<(rn:Int)):=Hd fun i hi=>by
     rw[List.take_add_one,hz]at hi;rcases List.mem_append.1 hi with hi | hi
     ·exact HI.out i hi
     ·obtain rfl:i=z:=by simpa using hi
      exact hzr
    clear hu hz hzu hab hzb;go_wp2_with fail;go_roundw
    case rel=>exact⟨k+1,by omega,by go_num,trivial,HI2⟩
    case measure=>simp[intOf];omega
   ·have hzr':(rn:Int)≤z:=by omega
    have HE:Hid (plc14 x r acc=8):=Hd (Xhx HF.out ⟨z,List.mem_of_getElem? hz,by rw[HLR.out];exact hzr'⟩);clear hu hz hzu hab hzb;go_wp2_with fail;go_ret3
    exact Xba HE.out (by decide) P1.out.b
  ·have hlt':¬(k:Int)<n:=by omega
   have hkn:k=n:=by omega
   have HO:Hid (¬∃i ∈ acc,(r.length:Int)≤i):=Hd (by
    rintro⟨i,hi,h⟩;have:=HI.out i (by rw[hkn,←HLA.out,List.take_length];exact hi);rw[HLR.out]at h;omega)
   clear HI hkn hlt;go_wp2_with fail;go_loopw [11] (fun i wr=>∃j:Nat,j≤1∧i=.int .i64 j∧PX w wr B g3 g5 x p IA n c D dn dc acc RA rn r∧Hid (1≤j→chk14 true (rol14 r (acc.getD 0 0))=0)∧Hid (2≤j→chk14 false (rol14 r (acc.getD 1 0))=0)) (fun i _=>1 - (intOf i).toNat)
   case atStart=>exact⟨0,by omega,rfl,P1.out,Hd (by omega),Hd (by omega)⟩
   case round =>
    clear c51 P1;obtain⟨j,hj,rfl,hpx,H1,H2⟩:=hrel;have PX1:=Hd hpx;clear hpx;rename World=>wr0
    obtain⟨V,hV⟩:∃V,V=wr0:=⟨_,rfl⟩;subst hV;have c30:V.cell? ⟨g3,0,none⟩=some (.int .u64 1):=(PX1.out.r3.cell 0).trans (by rw[←HT.out];rfl);have c51:V.cell? ⟨g5,1,none⟩=some (.slice IA n c):=PX1.out.r5.cell 1;by_cases hj0:j=0
    ·subst hj0;obtain⟨ia0,u0,IE0,_,hu0,hcell0⟩:=PX1.out.acc.at_ (k:=0) (by omega);obtain⟨z0,hz0,hzu0⟩:∃z,acc[0]?=some z∧u0=.int .u8 z:=by
      unfold bv cv at hu0;rw[List.getElem?_map]at hu0;obtain⟨z,hz,e⟩:=Option.map_eq_some_iff.1 hu0;exact⟨z,hz,e.symm⟩
     rw[hzu0]at hcell0;have hzb0:=HAB.out z0 (List.mem_of_getElem? hz0);have hzg0:acc.getD 0 0=z0:=by rw[List.getD_eq_getElem?_getD,hz0];rfl
     have hzn0:z0<(rn:Int):=by have:=HO.out;have hm:=List.mem_of_getElem? hz0;by_cases h:z0<(rn:Int);exact h;exact absurd ⟨z0,hm,by rw[HLR.out];omega⟩ this
     have hcell0:V.cell? ia0=some (.int .u8 z0):=by simpa [Addr.add]using hcell0
     obtain⟨k,hk⟩:=Int.eq_ofNat_of_zero_le hzb0.1;have hkr:k<rn:=by omega
     obtain⟨ra,y,RE,hrb,hy,hyo,hyc⟩:=PX1.out.rol.get hkr;have HRO:=Hd (Xgn (i:=z0) hk hy);rw[←hzg0]at HRO;have HZG:=Hd hzg0;subst RE;subst IE0;subst hk;have HSR:=Hd (Xce hyo.1);have HYC:=Hd hyc;have HKB:(k:Int)<256:=hzb0.2;have HYO:=Hd hyo;clear hzg0 hzb0 hu0 hz0 hzu0 hzn0 hy hyo hyc hrb;have hj0:(0:Int)<1:=by decide
     go_upto_region 15 with(first
      | ((with_reducible show wpList _ _ _ (⟨some 54,_,_,_,_,_⟩::_) _ _);go_must(refine Xa3 rfl 93 (.tmp 53) rfl (ra.add (k*34)) y.cells _ Tryz.underlying93 rfl HSR.out HYC.out ?_ ?_;go_simp))
      | ((with_reducible show wpList _ _ _ (⟨some 12,_,_,_,_,_⟩::_) _ _);go_must(refine Xa0 rfl 93 rfl r0.cells Xcj ?_))
      | ((with_reducible show wpList _ _ _ (⟨none,Op.store 93 _ _,_,_,_,_⟩::_) _ _);go_must(refine Xa2 rfl 93 (.tmp 12) (.tmp 54) rfl y.cells HSR.out (Xcy _) (by rw[List.size_toArray,Xc5 HYO.out.1];rfl) ?_ ?_ ?_;go_simp;go_simp;intro w4 hr4 hb4 hz4)))
     have PX2:=Hd (PX1.out.below hb4);have R12:=Hd hr4;have c30':w4.cell? ⟨g3,0,none⟩=some (.int .u64 1):=(PX2.out.r3.cell 0).trans (by rw[←HT.out];rfl);have s32:w4.cell? ⟨V.heap.size,32,none⟩=some (.bool y.sg):=(R12.out.cell 32).trans (Xe9 HYO.out.1);have s33:w4.cell? ⟨V.heap.size,33,none⟩=some (.bool y.wr):=(R12.out.cell 33).trans (Xcr HYO.out.1);generalize V.heap.size=gr at *;clear hr4 hb4 hz4 c30 c51;cases hs:y.sg with
     | false =>
      rw[hs]at s32;have HE:Hid (plc14 x r acc=14):=Hd (Xcm HF.out HO.out (by rw[HRO.out];unfold chk14;rw[hs];rfl) (by decide));go_wp2_with fail;go_ret3
      exact Xba HE.out (by decide) PX2.out.b
     | true =>
      rw[hs]at s32;cases hw:y.wr with
      | false =>
       rw[hw]at s33;have HE:Hid (plc14 x r acc=15):=Hd (Xcm HF.out HO.out (by rw[HRO.out];unfold chk14;rw[hs,hw];rfl) (by decide));go_wp2_with fail;go_ret3
       exact Xba HE.out (by decide) PX2.out.b
      | true =>
       rw[hw]at s33;have HCK:Hid (chk14 true (rol14 r (acc.getD 0 0))=0):=Hd (by rw[HRO.out];unfold chk14;rw[hs,hw];rfl);go_wp2_with fail;go_roundw
       case rel=>exact⟨1,by omega,by go_num,PX2.out,Hd (fun _=>HCK.out),Hd (fun h=>absurd h (by omega))⟩
       case measure=>simp[intOf]
    have hje:j=1:=by omega
    subst hje;have hj0:¬(1:Int)<1:=by decide
    obtain⟨ia0,u0,IE0,_,hu0,hcell0⟩:=PX1.out.acc.at_ (k:=0) (by omega);obtain⟨z0,hz0,hzu0⟩:∃z,acc[0]?=some z∧u0=.int .u8 z:=by
     unfold bv cv at hu0;rw[List.getElem?_map]at hu0;obtain⟨z,hz,e⟩:=Option.map_eq_some_iff.1 hu0;exact⟨z,hz,e.symm⟩
    rw[hzu0]at hcell0;have hzb0:=HAB.out z0 (List.mem_of_getElem? hz0);have hzg0:acc.getD 0 0=z0:=by rw[List.getD_eq_getElem?_getD,hz0];rfl
    have hzn0:z0<(rn:Int):=by have:=HO.out;have hm:=List.mem_of_getElem? hz0;by_cases h:z0<(rn:Int);exact h;exact absurd ⟨z0,hm,by rw[HLR.out];omega⟩ this
    have hcell0:V.cell? ia0=some (.int .u8 z0):=by simpa [Addr.add]using hcell0
    have HE:Hid (plc14 x r acc=0):=Hd (Xp2 HF.out HO.out (H1.out (by omega)) HTW.out);subst IE0;have HZ0:=Hd hzg0;have HZL:Hid (acc.getD (need14 x - 1) 0=z0):=Hd (by rw[HND.out];exact hzg0);have hb00:=hzb0.1;have hb01:=hzb0.2;clear hzg0 hu0 hz0 hzu0 hzn0 hzb0;go_wp2_with fail;have N51:∀q,(V.drewN q).cell? ⟨g5,1,none⟩=some (.slice (some ia0) n c):=fun q=>c51
    have NC0:∀q,(V.drewN q).cell? ia0=some (.int .u8 z0):=fun q=>hcell0
    have hn0:(0:Int)<n:=by omega
    have hn1:(1:Int)≤n:=by omega
    clear c51 c30;go_quiet (fail)
    go_wp2_with fail;go_ret3
    exact Xh2 HE.out HZ0.out HZL.out (PX1.out.b.trans ⟨rfl,rfl,rfl,Lr _,fun _ _=>rfl⟩)
theorem Xsr(x:LAsk)(hT:x.tag=2)(p:Int)(IA:Option Addr)(n c:Nat)(D:Option Addr)(dn dc:Nat)(acc:List Int)(RA:Option Addr)(rn rc:Nat)(r:List LRole)(B:Nat)(w:World)
 (hacc:Sees w B IA n (bv acc)) (hb:AllBytes acc) (hr:RolesIn w B RA rn r) (hB:B≤w.heap.size) (hn:n≤100000) (hrn:rn≤100000) :
 Calls Tryz.prog 60 #[.agg (askC x).toArray,.slice RA rn rc,.agg (insC p IA n c D dn dc).toArray] w (PlcDone w x r acc):=by
 have HT:=Hd hT;have HAB:=Hd hb;have HLA:=Hd (show acc.length=n by have:=hacc.len;rwa [bL]at this);have HLR:=Hd hr.len;have hneed:need14 x=2:=by unfold need14;first | rw[if_pos (show two14 x by unfold two14;rw[hT];decide)] | rw[if_neg (show ¬two14 x by unfold two14;rw[hT];decide)]
 have HND:=Hd hneed;have HTW:Hid (two14 x):=Hd (by unfold two14;rw[hT];decide);have hbw:=((Br w.heap.size w).alloc (Lr _) (.cells (askC x).toArray 142)).alloc (by simp) (.cells (insC p IA n c D dn dc).toArray 61);have P0:=Hd (show PX w _ B w.heap.size (w.heap.size+1) x p IA n c D dn dc acc RA rn r from⟨hbw,(Row.new w 142 (askC x)).alloc _,Row.new' _ 61 _ (by simp),hacc.below (hbw.mono hB),hr.below (hbw.mono hB),hB⟩);clear hbw hacc hr hneed;obtain⟨g5,hg5⟩:∃g,g=w.heap.size+1:=⟨_,rfl⟩;obtain⟨g3,hg3⟩:∃g,g=w.heap.size:=⟨_,rfl⟩;have HG5:Hid (w.heap.size+1=g5):=Hd hg5.symm;have HG3:Hid (w.heap.size=g3):=Hd hg3.symm;have P1:Hid (PX w ((w.alloc (.cells (askC x).toArray 142)).alloc (.cells (insC p IA n c D dn dc).toArray 61)) B g3 g5 x p IA n c D dn dc acc RA rn r):=Hd (by rw[hg5,hg3];exact P0.out);clear hg5 hg3 P0;generalize hW:(w.alloc (.cells (askC x).toArray 142)).alloc (.cells (insC p IA n c D dn dc).toArray 61)=W at *;have HW:=Hd hW;clear hW;go_enter Tryz.func60,Tryz.ntmps60
 go_upto_region 2 with fail
 try rw[HG5.out]
 try rw[HG3.out]
 rw[HW.out];clear HG5 HG3 HW;have c30:W.cell? ⟨g3,0,none⟩=some (.int .u64 2):=(P1.out.r3.cell 0).trans (by rw[←HT.out];rfl);have c51:W.cell? ⟨g5,1,none⟩=some (.slice IA n c):=P1.out.r5.cell 1;clear hT;by_cases hf:n<2
 ·have hf':(n:Int)<2:=by omega
  have HE:Hid (plc14 x r acc=8):=Hd (Xhc (by rw[HLA.out,HND.out];exact hf));go_wp2_with fail;go_ret3
  exact Xba HE.out (by decide) P1.out.b
 have hf':¬(n:Int)<2:=by omega
 have HF:Hid (¬acc.length<need14 x):=Hd (by rw[HLA.out,HND.out];exact hf);go_upto_region 6 with fail
 clear c30;go_wp2_with fail;go_loopw [10] (fun i wr=>∃k:Nat,k≤n∧i=.int .i64 k∧wr=W∧Hid (∀i ∈ acc.take k,i<(rn:Int))) (fun i _=>n - (intOf i).toNat)
 case atStart=>exact⟨0,Nat.zero_le _,rfl,rfl,Hd (by simp)⟩
 case round =>
  obtain⟨k,hk,rfl,rfl,HI⟩:=hrel;by_cases hlt:k<n
  ·have hlt':(k:Int)<n:=by omega
   obtain⟨ia,u,rfl,hab,hu,hcell⟩:=P1.out.acc.at_ hlt;obtain⟨z,hz,hzu⟩:∃z,acc[k]?=some z∧u=.int .u8 z:=by
    unfold bv cv at hu;rw[List.getElem?_map]at hu;obtain⟨z,hz,e⟩:=Option.map_eq_some_iff.1 hu;exact⟨z,hz,e.symm⟩
   rw[hzu]at hcell;have hzb:=HAB.out z (List.mem_of_getElem? hz);have hzb0:=hzb.1;have hzb1:=hzb.2;by_cases hzr:z<rn
   ·have hzr':¬(rn:Int)≤z:=by omega
    have HI2:Hid (∀i ∈ acc.take (k+1),i<(rn:Int)):=Hd fun i hi=>by
     rw[List.take_add_one,hz]at hi;rcases List.mem_append.1 hi with hi | hi
     ·exact HI.out i hi
     ·obtain rfl:i=z:=by simpa using hi
      exact hzr
    clear hu hz hzu hab hzb;go_wp2_with fail;go_roundw
    case rel=>exact⟨k+1,by omega,by go_num,trivial,HI2⟩
    case measure=>simp[intOf];omega
   ·have hzr':(rn:Int)≤z:=by omega
    have HE:Hid (plc14 x r acc=8):=Hd (Xhx HF.out ⟨z,List.mem_of_getElem? hz,by rw[HLR.out];exact hzr'⟩);clear hu hz hzu hab hzb;go_wp2_with fail;go_ret3
    exact Xba HE.out (by decide) P1.out.b
  ·have hlt':¬(k:Int)<n:=by omega
   have hkn:k=n:=by omega
   have HO:Hid (¬∃i ∈ acc,(r.length:Int)≤i):=Hd (by
    rintro⟨i,hi,h⟩;have:=HI.out i (by rw[hkn,←HLA.out,List.take_length];exact hi);rw[HLR.out]at h;omega)
   clear HI hkn hlt;go_wp2_with fail;go_loopw [11] (fun i wr=>∃j:Nat,j≤2∧i=.int .i64 j∧PX w wr B g3 g5 x p IA n c D dn dc acc RA rn r∧Hid (1≤j→chk14 true (rol14 r (acc.getD 0 0))=0)∧Hid (2≤j→chk14 false (rol14 r (acc.getD 1 0))=0)) (fun i _=>2 - (intOf i).toNat)
   case atStart=>exact⟨0,by omega,rfl,P1.out,Hd (by omega),Hd (by omega)⟩
   case round =>
    clear c51 P1;obtain⟨j,hj,rfl,hpx,H1,H2⟩:=hrel;have PX1:=Hd hpx;clear hpx;rename World=>wr0
    obtain⟨V,hV⟩:∃V,V=wr0:=⟨_,rfl⟩;subst hV;have c30:V.cell? ⟨g3,0,none⟩=some (.int .u64 2):=(PX1.out.r3.cell 0).trans (by rw[←HT.out];rfl);have c51:V.cell? ⟨g5,1,none⟩=some (.slice IA n c):=PX1.out.r5.cell 1;by_cases hj0:j=0
    ·subst hj0;obtain⟨ia0,u0,IE0,_,hu0,hcell0⟩:=PX1.out.acc.at_ (k:=0) (by omega);obtain⟨z0,hz0,hzu0⟩:∃z,acc[0]?=some z∧u0=.int .u8 z:=by
      unfold bv cv at hu0;rw[List.getElem?_map]at hu0;obtain⟨z,hz,e⟩:=Option.map_eq_some_iff.1 hu0;exact⟨z,hz,e.symm⟩
     rw[hzu0]at hcell0;have hzb0:=HAB.out z0 (List.mem_of_getElem? hz0);have hzg0:acc.getD 0 0=z0:=by rw[List.getD_eq_getElem?_getD,hz0];rfl
     have hzn0:z0<(rn:Int):=by have:=HO.out;have hm:=List.mem_of_getElem? hz0;by_cases h:z0<(rn:Int);exact h;exact absurd ⟨z0,hm,by rw[HLR.out];omega⟩ this
     have hcell0:V.cell? ia0=some (.int .u8 z0):=by simpa [Addr.add]using hcell0
     obtain⟨k,hk⟩:=Int.eq_ofNat_of_zero_le hzb0.1;have hkr:k<rn:=by omega
     obtain⟨ra,y,RE,hrb,hy,hyo,hyc⟩:=PX1.out.rol.get hkr;have HRO:=Hd (Xgn (i:=z0) hk hy);rw[←hzg0]at HRO;have HZG:=Hd hzg0;subst RE;subst IE0;subst hk;have HSR:=Hd (Xce hyo.1);have HYC:=Hd hyc;have HKB:(k:Int)<256:=hzb0.2;have HYO:=Hd hyo;clear hzg0 hzb0 hu0 hz0 hzu0 hzn0 hy hyo hyc hrb;have hj0:(0:Int)<2:=by decide
     go_upto_region 15 with(first
      | ((with_reducible show wpList _ _ _ (⟨some 54,_,_,_,_,_⟩::_) _ _);go_must(refine Xa3 rfl 93 (.tmp 53) rfl (ra.add (k*34)) y.cells _ Tryz.underlying93 rfl HSR.out HYC.out ?_ ?_;go_simp))
      | ((with_reducible show wpList _ _ _ (⟨some 12,_,_,_,_,_⟩::_) _ _);go_must(refine Xa0 rfl 93 rfl r0.cells Xcj ?_))
      | ((with_reducible show wpList _ _ _ (⟨none,Op.store 93 _ _,_,_,_,_⟩::_) _ _);go_must(refine Xa2 rfl 93 (.tmp 12) (.tmp 54) rfl y.cells HSR.out (Xcy _) (by rw[List.size_toArray,Xc5 HYO.out.1];rfl) ?_ ?_ ?_;go_simp;go_simp;intro w4 hr4 hb4 hz4)))
     have PX2:=Hd (PX1.out.below hb4);have R12:=Hd hr4;have c30':w4.cell? ⟨g3,0,none⟩=some (.int .u64 2):=(PX2.out.r3.cell 0).trans (by rw[←HT.out];rfl);have s32:w4.cell? ⟨V.heap.size,32,none⟩=some (.bool y.sg):=(R12.out.cell 32).trans (Xe9 HYO.out.1);have s33:w4.cell? ⟨V.heap.size,33,none⟩=some (.bool y.wr):=(R12.out.cell 33).trans (Xcr HYO.out.1);generalize V.heap.size=gr at *;clear hr4 hb4 hz4 c30 c51;cases hs:y.sg with
     | false =>
      rw[hs]at s32;have HE:Hid (plc14 x r acc=14):=Hd (Xcm HF.out HO.out (by rw[HRO.out];unfold chk14;rw[hs];rfl) (by decide));go_wp2_with fail;go_ret3
      exact Xba HE.out (by decide) PX2.out.b
     | true =>
      rw[hs]at s32;cases hw:y.wr with
      | false =>
       rw[hw]at s33;have HE:Hid (plc14 x r acc=15):=Hd (Xcm HF.out HO.out (by rw[HRO.out];unfold chk14;rw[hs,hw];rfl) (by decide));go_wp2_with fail;go_ret3
       exact Xba HE.out (by decide) PX2.out.b
      | true =>
       rw[hw]at s33;have HCK:Hid (chk14 true (rol14 r (acc.getD 0 0))=0):=Hd (by rw[HRO.out];unfold chk14;rw[hs,hw];rfl);go_wp2_with fail;go_roundw
       case rel=>exact⟨1,by omega,by go_num,PX2.out,Hd (fun _=>HCK.out),Hd (fun h=>absurd h (by omega))⟩
       case measure=>simp[intOf]
    by_cases hj1:j=1
    ·subst hj1;obtain⟨ia1,u1,IE1,_,hu1,hcell1⟩:=PX1.out.acc.at_ (k:=1) (by omega);obtain⟨z1,hz1,hzu1⟩:∃z,acc[1]?=some z∧u1=.int .u8 z:=by
      unfold bv cv at hu1;rw[List.getElem?_map]at hu1;obtain⟨z,hz,e⟩:=Option.map_eq_some_iff.1 hu1;exact⟨z,hz,e.symm⟩
     rw[hzu1]at hcell1;have hzb1:=HAB.out z1 (List.mem_of_getElem? hz1);have hzg1:acc.getD 1 0=z1:=by rw[List.getD_eq_getElem?_getD,hz1];rfl
     have hzn1:z1<(rn:Int):=by have:=HO.out;have hm:=List.mem_of_getElem? hz1;by_cases h:z1<(rn:Int);exact h;exact absurd ⟨z1,hm,by rw[HLR.out];omega⟩ this
     have hcell1:V.cell? ⟨ia1.block,ia1.off+1,none⟩=some (.int .u8 z1):=by simpa [Addr.add]using hcell1
     obtain⟨k,hk⟩:=Int.eq_ofNat_of_zero_le hzb1.1;have hkr:k<rn:=by omega
     obtain⟨ra,y,RE,hrb,hy,hyo,hyc⟩:=PX1.out.rol.get hkr;have HRO:=Hd (Xgn (i:=z1) hk hy);rw[←hzg1]at HRO;have HZG:=Hd hzg1;subst RE;subst IE1;subst hk;have HSR:=Hd (Xce hyo.1);have HYC:=Hd hyc;have HKB:(k:Int)<256:=hzb1.2;have HYO:=Hd hyo;clear hzg1 hzb1 hu1 hz1 hzu1 hzn1 hy hyo hyc hrb;have hj0:(1:Int)<2:=by decide
     go_upto_region 15 with(first
      | ((with_reducible show wpList _ _ _ (⟨some 54,_,_,_,_,_⟩::_) _ _);go_must(refine Xa3 rfl 93 (.tmp 53) rfl (ra.add (k*34)) y.cells _ Tryz.underlying93 rfl HSR.out HYC.out ?_ ?_;go_simp))
      | ((with_reducible show wpList _ _ _ (⟨some 12,_,_,_,_,_⟩::_) _ _);go_must(refine Xa0 rfl 93 rfl r0.cells Xcj ?_))
      | ((with_reducible show wpList _ _ _ (⟨none,Op.store 93 _ _,_,_,_,_⟩::_) _ _);go_must(refine Xa2 rfl 93 (.tmp 12) (.tmp 54) rfl y.cells HSR.out (Xcy _) (by rw[List.size_toArray,Xc5 HYO.out.1];rfl) ?_ ?_ ?_;go_simp;go_simp;intro w4 hr4 hb4 hz4)))
     have PX2:=Hd (PX1.out.below hb4);have R12:=Hd hr4;have c30':w4.cell? ⟨g3,0,none⟩=some (.int .u64 2):=(PX2.out.r3.cell 0).trans (by rw[←HT.out];rfl);have s32:w4.cell? ⟨V.heap.size,32,none⟩=some (.bool y.sg):=(R12.out.cell 32).trans (Xe9 HYO.out.1);have s33:w4.cell? ⟨V.heap.size,33,none⟩=some (.bool y.wr):=(R12.out.cell 33).trans (Xcr HYO.out.1);generalize V.heap.size=gr at *;clear hr4 hb4 hz4 c30 c51;cases hw:y.wr with
     | false =>
      rw[hw]at s33;cases hs:y.sg with
      | false =>
       rw[hs]at s32;have HE:Hid (plc14 x r acc=15):=Hd ((Xd2 HF.out HO.out (H1.out (by omega)) HTW.out).trans (by rw[HRO.out,HT.out];unfold chk14;rw[hs,hw];rfl));go_wp2_with fail;go_ret3
       exact Xba HE.out (by decide) PX2.out.b
      | true =>
       rw[hs]at s32;have HE:Hid (plc14 x r acc=15):=Hd ((Xd2 HF.out HO.out (H1.out (by omega)) HTW.out).trans (by rw[HRO.out,HT.out];unfold chk14;rw[hs,hw];rfl));go_wp2_with fail;go_ret3
       exact Xba HE.out (by decide) PX2.out.b
     | true =>
      rw[hw]at s33;cases hs:y.sg with
      | false =>
       rw[hs]at s32;have HCK:Hid (chk14 false (rol14 r (acc.getD 1 0))=0):=Hd (by rw[HRO.out];unfold chk14;rw[hs,hw];rfl);go_wp2_with fail;go_roundw
       case rel=>exact⟨2,by omega,by go_num,PX2.out,Hd (fun _=>H1.out (by omega)),Hd (fun h=>HCK.out)⟩
       case measure=>simp[intOf]
      | true =>
       rw[hs]at s32;have HCK:Hid (chk14 false (rol14 r (acc.getD 1 0))=0):=Hd (by rw[HRO.out];unfold chk14;rw[hs,hw];rfl);go_wp2_with fail;go_roundw
       case rel=>exact⟨2,by omega,by go_num,PX2.out,Hd (fun _=>H1.out (by omega)),Hd (fun h=>HCK.out)⟩
       case measure=>simp[intOf]
    have hje:j=2:=by omega
    subst hje;have hj0:¬(2:Int)<2:=by decide
    obtain⟨ia0,u0,IE0,_,hu0,hcell0⟩:=PX1.out.acc.at_ (k:=0) (by omega);obtain⟨z0,hz0,hzu0⟩:∃z,acc[0]?=some z∧u0=.int .u8 z:=by
     unfold bv cv at hu0;rw[List.getElem?_map]at hu0;obtain⟨z,hz,e⟩:=Option.map_eq_some_iff.1 hu0;exact⟨z,hz,e.symm⟩
    rw[hzu0]at hcell0;have hzb0:=HAB.out z0 (List.mem_of_getElem? hz0);have hzg0:acc.getD 0 0=z0:=by rw[List.getD_eq_getElem?_getD,hz0];rfl
    have hzn0:z0<(rn:Int):=by have:=HO.out;have hm:=List.mem_of_getElem? hz0;by_cases h:z0<(rn:Int);exact h;exact absurd ⟨z0,hm,by rw[HLR.out];omega⟩ this
    have hcell0:V.cell? ia0=some (.int .u8 z0):=by simpa [Addr.add]using hcell0
    obtain⟨ia1,u1,IE1,_,hu1,hcell1⟩:=PX1.out.acc.at_ (k:=1) (by omega);obtain⟨z1,hz1,hzu1⟩:∃z,acc[1]?=some z∧u1=.int .u8 z:=by
     unfold bv cv at hu1;rw[List.getElem?_map]at hu1;obtain⟨z,hz,e⟩:=Option.map_eq_some_iff.1 hu1;exact⟨z,hz,e.symm⟩
    rw[hzu1]at hcell1;have hzb1:=HAB.out z1 (List.mem_of_getElem? hz1);have hzg1:acc.getD 1 0=z1:=by rw[List.getD_eq_getElem?_getD,hz1];rfl
    have hzn1:z1<(rn:Int):=by have:=HO.out;have hm:=List.mem_of_getElem? hz1;by_cases h:z1<(rn:Int);exact h;exact absurd ⟨z1,hm,by rw[HLR.out];omega⟩ this
    have hcell1:V.cell? ⟨ia1.block,ia1.off+1,none⟩=some (.int .u8 z1):=by simpa [Addr.add]using hcell1
    have HE:Hid (plc14 x r acc=0):=Hd ((Xd2 HF.out HO.out (H1.out (by omega)) HTW.out).trans (by rw[HT.out];exact H2.out (by omega)));subst IE0;obtain rfl:=Option.some.inj IE1;have HZ0:=Hd hzg0;have HZL:Hid (acc.getD (need14 x - 1) 0=z1):=Hd (by rw[HND.out];exact hzg1);have hb00:=hzb0.1;have hb01:=hzb0.2;clear hzg0 hu0 hz0 hzu0 hzn0 hzb0;have hb10:=hzb1.1;have hb11:=hzb1.2;clear hzg1 hu1 hz1 hzu1 hzn1 hzb1;go_wp2_with fail;have N51:∀q,(V.drewN q).cell? ⟨g5,1,none⟩=some (.slice (some ia0) n c):=fun q=>c51
    have NC0:∀q,(V.drewN q).cell? ia0=some (.int .u8 z0):=fun q=>hcell0
    have NC1:∀q,(V.drewN q).cell? ⟨ia0.block,ia0.off+1,none⟩=some (.int .u8 z1):=fun q=>hcell1
    have hn0:(0:Int)<n:=by omega
    have hn1:(1:Int)≤n:=by omega
    clear c51 c30;go_quiet (fail)
    go_wp2_with fail;go_ret3
    exact Xh2 HE.out HZ0.out HZL.out (PX1.out.b.trans ⟨rfl,rfl,rfl,Lr _,fun _ _=>rfl⟩)
theorem Xts(x:LAsk)(hT:x.tag=8)(p:Int)(IA:Option Addr)(n c:Nat)(D:Option Addr)(dn dc:Nat)(acc:List Int)(RA:Option Addr)(rn rc:Nat)(r:List LRole)(B:Nat)(w:World)
 (hacc:Sees w B IA n (bv acc)) (hb:AllBytes acc) (hr:RolesIn w B RA rn r) (hB:B≤w.heap.size) (hn:n≤100000) (hrn:rn≤100000) :
 Calls Tryz.prog 60 #[.agg (askC x).toArray,.slice RA rn rc,.agg (insC p IA n c D dn dc).toArray] w (PlcDone w x r acc):=by
 have HT:=Hd hT;have HAB:=Hd hb;have HLA:=Hd (show acc.length=n by have:=hacc.len;rwa [bL]at this);have HLR:=Hd hr.len;have hneed:need14 x=1:=by unfold need14;first | rw[if_pos (show two14 x by unfold two14;rw[hT];decide)] | rw[if_neg (show ¬two14 x by unfold two14;rw[hT];decide)]
 have HND:=Hd hneed;have HTW:Hid (¬two14 x):=Hd (by unfold two14;rw[hT];decide);have hbw:=((Br w.heap.size w).alloc (Lr _) (.cells (askC x).toArray 142)).alloc (by simp) (.cells (insC p IA n c D dn dc).toArray 61);have P0:=Hd (show PX w _ B w.heap.size (w.heap.size+1) x p IA n c D dn dc acc RA rn r from⟨hbw,(Row.new w 142 (askC x)).alloc _,Row.new' _ 61 _ (by simp),hacc.below (hbw.mono hB),hr.below (hbw.mono hB),hB⟩);clear hbw hacc hr hneed;obtain⟨g5,hg5⟩:∃g,g=w.heap.size+1:=⟨_,rfl⟩;obtain⟨g3,hg3⟩:∃g,g=w.heap.size:=⟨_,rfl⟩;have HG5:Hid (w.heap.size+1=g5):=Hd hg5.symm;have HG3:Hid (w.heap.size=g3):=Hd hg3.symm;have P1:Hid (PX w ((w.alloc (.cells (askC x).toArray 142)).alloc (.cells (insC p IA n c D dn dc).toArray 61)) B g3 g5 x p IA n c D dn dc acc RA rn r):=Hd (by rw[hg5,hg3];exact P0.out);clear hg5 hg3 P0;generalize hW:(w.alloc (.cells (askC x).toArray 142)).alloc (.cells (insC p IA n c D dn dc).toArray 61)=W at *;have HW:=Hd hW;clear hW;go_enter Tryz.func60,Tryz.ntmps60
 go_upto_region 2 with fail
 try rw[HG5.out]
 try rw[HG3.out]
 rw[HW.out];clear HG5 HG3 HW;have c30:W.cell? ⟨g3,0,none⟩=some (.int .u64 8):=(P1.out.r3.cell 0).trans (by rw[←HT.out];rfl);have c51:W.cell? ⟨g5,1,none⟩=some (.slice IA n c):=P1.out.r5.cell 1;clear hT;by_cases hf:n<1
 ·have hf':(n:Int)<1:=by omega
  have HE:Hid (plc14 x r acc=8):=Hd (Xhc (by rw[HLA.out,HND.out];exact hf));go_wp2_with fail;go_ret3
  exact Xba HE.out (by decide) P1.out.b
 have hf':¬(n:Int)<1:=by omega
 have HF:Hid (¬acc.length<need14 x):=Hd (by rw[HLA.out,HND.out];exact hf);go_upto_region 6 with fail
 clear c30;go_wp2_with fail;go_loopw [10] (fun i wr=>∃k:Nat,k≤n∧i=.int .i64 k∧wr=W∧Hid (∀i ∈ acc.take k,i<(rn:Int))) (fun i _=>n - (intOf i).toNat)
 case atStart=>exact⟨0,Nat.zero_le _,rfl,rfl,Hd (by simp)⟩
 case round =>
  obtain⟨k,hk,rfl,rfl,HI⟩:=hrel;by_cases hlt:k<n
  ·have hlt':(k:Int)<n:=by omega
   obtain⟨ia,u,rfl,hab,hu,hcell⟩:=P1.out.acc.at_ hlt;obtain⟨z,hz,hzu⟩:∃z,acc[k]?=some z∧u=.int .u8 z:=by
    unfold bv cv at hu;rw[List.getElem?_map]at hu;obtain⟨z,hz,e⟩:=Option.map_eq_some_iff.1 hu;exact⟨z,hz,e.symm⟩
   rw[hzu]at hcell;have hzb:=HAB.out z (List.mem_of_getElem? hz);have hzb0:=hzb.1;have hzb1:=hzb.2;by_cases hzr:z<rn
   ·have hzr':¬(rn:Int)≤z:=by omega
    have HI2:Hid (∀i ∈ acc.take (k+1),i<(rn:Int)):=Hd fun i hi=>by
     rw[List.take_add_one,hz]at hi;rcases List.mem_append.1 hi with hi | hi
     ·exact HI.out i hi
     ·obtain rfl:i=z:=by simpa using hi
      exact hzr
    clear hu hz hzu hab hzb;go_wp2_with fail;go_roundw
    case rel=>exact⟨k+1,by omega,by go_num,trivial,HI2⟩
    case measure=>simp[intOf];omega
   ·have hzr':(rn:Int)≤z:=by omega
    have HE:Hid (plc14 x r acc=8):=Hd (Xhx HF.out ⟨z,List.mem_of_getElem? hz,by rw[HLR.out];exact hzr'⟩);clear hu hz hzu hab hzb;go_wp2_with fail;go_ret3
    exact Xba HE.out (by decide) P1.out.b
  ·have hlt':¬(k:Int)<n:=by omega
   have hkn:k=n:=by omega
   have HO:Hid (¬∃i ∈ acc,(r.length:Int)≤i):=Hd (by
    rintro⟨i,hi,h⟩;have:=HI.out i (by rw[hkn,←HLA.out,List.take_length];exact hi);rw[HLR.out]at h;omega)
   clear HI hkn hlt;go_wp2_with fail;go_loopw [11] (fun i wr=>∃j:Nat,j≤1∧i=.int .i64 j∧PX w wr B g3 g5 x p IA n c D dn dc acc RA rn r∧Hid (1≤j→chk14 true (rol14 r (acc.getD 0 0))=0)∧Hid (2≤j→chk14 false (rol14 r (acc.getD 1 0))=0)) (fun i _=>1 - (intOf i).toNat)
   case atStart=>exact⟨0,by omega,rfl,P1.out,Hd (by omega),Hd (by omega)⟩
   case round =>
    clear c51 P1;obtain⟨j,hj,rfl,hpx,H1,H2⟩:=hrel;have PX1:=Hd hpx;clear hpx;rename World=>wr0
    obtain⟨V,hV⟩:∃V,V=wr0:=⟨_,rfl⟩;subst hV;have c30:V.cell? ⟨g3,0,none⟩=some (.int .u64 8):=(PX1.out.r3.cell 0).trans (by rw[←HT.out];rfl);have c51:V.cell? ⟨g5,1,none⟩=some (.slice IA n c):=PX1.out.r5.cell 1;by_cases hj0:j=0
    ·subst hj0;obtain⟨ia0,u0,IE0,_,hu0,hcell0⟩:=PX1.out.acc.at_ (k:=0) (by omega);obtain⟨z0,hz0,hzu0⟩:∃z,acc[0]?=some z∧u0=.int .u8 z:=by
      unfold bv cv at hu0;rw[List.getElem?_map]at hu0;obtain⟨z,hz,e⟩:=Option.map_eq_some_iff.1 hu0;exact⟨z,hz,e.symm⟩
     rw[hzu0]at hcell0;have hzb0:=HAB.out z0 (List.mem_of_getElem? hz0);have hzg0:acc.getD 0 0=z0:=by rw[List.getD_eq_getElem?_getD,hz0];rfl
     have hzn0:z0<(rn:Int):=by have:=HO.out;have hm:=List.mem_of_getElem? hz0;by_cases h:z0<(rn:Int);exact h;exact absurd ⟨z0,hm,by rw[HLR.out];omega⟩ this
     have hcell0:V.cell? ia0=some (.int .u8 z0):=by simpa [Addr.add]using hcell0
     obtain⟨k,hk⟩:=Int.eq_ofNat_of_zero_le hzb0.1;have hkr:k<rn:=by omega
     obtain⟨ra,y,RE,hrb,hy,hyo,hyc⟩:=PX1.out.rol.get hkr;have HRO:=Hd (Xgn (i:=z0) hk hy);rw[←hzg0]at HRO;have HZG:=Hd hzg0;subst RE;subst IE0;subst hk;have HSR:=Hd (Xce hyo.1);have HYC:=Hd hyc;have HKB:(k:Int)<256:=hzb0.2;have HYO:=Hd hyo;clear hzg0 hzb0 hu0 hz0 hzu0 hzn0 hy hyo hyc hrb;have hj0:(0:Int)<1:=by decide
     go_upto_region 15 with(first
      | ((with_reducible show wpList _ _ _ (⟨some 54,_,_,_,_,_⟩::_) _ _);go_must(refine Xa3 rfl 93 (.tmp 53) rfl (ra.add (k*34)) y.cells _ Tryz.underlying93 rfl HSR.out HYC.out ?_ ?_;go_simp))
      | ((with_reducible show wpList _ _ _ (⟨some 12,_,_,_,_,_⟩::_) _ _);go_must(refine Xa0 rfl 93 rfl r0.cells Xcj ?_))
      | ((with_reducible show wpList _ _ _ (⟨none,Op.store 93 _ _,_,_,_,_⟩::_) _ _);go_must(refine Xa2 rfl 93 (.tmp 12) (.tmp 54) rfl y.cells HSR.out (Xcy _) (by rw[List.size_toArray,Xc5 HYO.out.1];rfl) ?_ ?_ ?_;go_simp;go_simp;intro w4 hr4 hb4 hz4)))
     have PX2:=Hd (PX1.out.below hb4);have R12:=Hd hr4;have c30':w4.cell? ⟨g3,0,none⟩=some (.int .u64 8):=(PX2.out.r3.cell 0).trans (by rw[←HT.out];rfl);have s32:w4.cell? ⟨V.heap.size,32,none⟩=some (.bool y.sg):=(R12.out.cell 32).trans (Xe9 HYO.out.1);have s33:w4.cell? ⟨V.heap.size,33,none⟩=some (.bool y.wr):=(R12.out.cell 33).trans (Xcr HYO.out.1);generalize V.heap.size=gr at *;clear hr4 hb4 hz4 c30 c51;cases hs:y.sg with
     | false =>
      rw[hs]at s32;have HE:Hid (plc14 x r acc=14):=Hd (Xcm HF.out HO.out (by rw[HRO.out];unfold chk14;rw[hs];rfl) (by decide));go_wp2_with fail;go_ret3
      exact Xba HE.out (by decide) PX2.out.b
     | true =>
      rw[hs]at s32;cases hw:y.wr with
      | false =>
       rw[hw]at s33;have HE:Hid (plc14 x r acc=15):=Hd (Xcm HF.out HO.out (by rw[HRO.out];unfold chk14;rw[hs,hw];rfl) (by decide));go_wp2_with fail;go_ret3
       exact Xba HE.out (by decide) PX2.out.b
      | true =>
       rw[hw]at s33;have HCK:Hid (chk14 true (rol14 r (acc.getD 0 0))=0):=Hd (by rw[HRO.out];unfold chk14;rw[hs,hw];rfl);go_wp2_with fail;go_roundw
       case rel=>exact⟨1,by omega,by go_num,PX2.out,Hd (fun _=>HCK.out),Hd (fun h=>absurd h (by omega))⟩
       case measure=>simp[intOf]
    have hje:j=1:=by omega
    subst hje;have hj0:¬(1:Int)<1:=by decide
    obtain⟨ia0,u0,IE0,_,hu0,hcell0⟩:=PX1.out.acc.at_ (k:=0) (by omega);obtain⟨z0,hz0,hzu0⟩:∃z,acc[0]?=some z∧u0=.int .u8 z:=by
     unfold bv cv at hu0;rw[List.getElem?_map]at hu0;obtain⟨z,hz,e⟩:=Option.map_eq_some_iff.1 hu0;exact⟨z,hz,e.symm⟩
    rw[hzu0]at hcell0;have hzb0:=HAB.out z0 (List.mem_of_getElem? hz0);have hzg0:acc.getD 0 0=z0:=by rw[List.getD_eq_getElem?_getD,hz0];rfl
    have hzn0:z0<(rn:Int):=by have:=HO.out;have hm:=List.mem_of_getElem? hz0;by_cases h:z0<(rn:Int);exact h;exact absurd ⟨z0,hm,by rw[HLR.out];omega⟩ this
    have hcell0:V.cell? ia0=some (.int .u8 z0):=by simpa [Addr.add]using hcell0
    have HE:Hid (plc14 x r acc=0):=Hd (Xp2 HF.out HO.out (H1.out (by omega)) HTW.out);subst IE0;have HZ0:=Hd hzg0;have HZL:Hid (acc.getD (need14 x - 1) 0=z0):=Hd (by rw[HND.out];exact hzg0);have hb00:=hzb0.1;have hb01:=hzb0.2;clear hzg0 hu0 hz0 hzu0 hzn0 hzb0;go_wp2_with fail;have N51:∀q,(V.drewN q).cell? ⟨g5,1,none⟩=some (.slice (some ia0) n c):=fun q=>c51
    have NC0:∀q,(V.drewN q).cell? ia0=some (.int .u8 z0):=fun q=>hcell0
    have hn0:(0:Int)<n:=by omega
    have hn1:(1:Int)≤n:=by omega
    clear c51 c30;go_quiet (fail)
    go_wp2_with fail;go_ret3
    exact Xh2 HE.out HZ0.out HZL.out (PX1.out.b.trans ⟨rfl,rfl,rfl,Lr _,fun _ _=>rfl⟩)
theorem Xay(x:LAsk)(hT:AskOk x)(p:Int)(IA:Option Addr)(n c:Nat)(D:Option Addr)(dn dc:Nat)(acc:List Int)(RA:Option Addr)(rn rc:Nat)(r:List LRole)(B:Nat)(w:World)
 (hacc:Sees w B IA n (bv acc)) (hb:AllBytes acc) (hr:RolesIn w B RA rn r) (hB:B≤w.heap.size) (hn:n≤100000) (hrn:rn≤100000) :
 Calls Tryz.prog 60 #[.agg (askC x).toArray,.slice RA rn rc,.agg (insC p IA n c D dn dc).toArray] w (PlcDone w x r acc):=by
 rcases hT.tag with h | h | h | h
 ·exact Xu6 x h p IA n c D dn dc acc RA rn rc r B w hacc hb hr hB hn hrn
 ·exact Xtn x h p IA n c D dn dc acc RA rn rc r B w hacc hb hr hB hn hrn
 ·exact Xsr x h p IA n c D dn dc acc RA rn rc r B w hacc hb hr hB hn hrn
 ·exact Xts x h p IA n c D dn dc acc RA rn rc r B w hacc hb hr hB hn hrn
theorem Xbf:(Tryz.prog.info? 69).map (fun i=>(i.zero,i.size,i.bytes))=some (some (.agg blank13.cells.toArray),34,48):=by kernel_rfl
theorem Xbw:(Value.agg blank13.cells.toArray).cells.size=34:=by kernel_rfl
theorem oa_nil(w:World)(base:Nat):OA14 w base (.slice none 0 0) []:=⟨⟨none,0,0,rfl,Lr _,Lr _,World.ownsRow_nil _ _ _ _⟩,by simp⟩
def DoDone(w:World)(R:Res14)(e:Ending)(w':World):Prop:=∃v,e=.returned (.tuple #[v,.int .u64 R.n,.int .i64 R.e])∧OA14 w' w.heap.size v R.l∧Below w.heap.size w w'
theorem Xbg{w w':World}{R:Res14}{v:Int}(h:R=bad14 v)(hb:Below w.heap.size w w'):DoDone w R (.returned (.tuple #[.slice none 0 0,.int .u64 0,.int .i64 v])) w':=by
 subst h;exact⟨_,rfl,oa_nil _ _,hb⟩
structure InsAt14(w:World)(B:Nat)(p:Int)(IA:Option Addr)(n c:Nat)(D:Option Addr)(dn dc:Nat)(acc dat:List Int):Prop where
 aSees:Sees w B IA n (bv acc)
 dSees:Sees w B D dn (bv dat)
 ab:AllBytes acc
 db:AllBytes dat
 ac:n≤c∧c≤maxLen
 dc:dn≤dc∧dc≤maxLen
theorem InsAt14.below{w w':World}{B:Nat}{p:Int}{IA:Option Addr}{n c:Nat}{D:Option Addr}{dn dc:Nat}{acc dat:List Int}(h:InsAt14 w B p IA n c D dn dc acc dat)(hb:Below B w w'):InsAt14 w' B p IA n c D dn dc acc dat:=
 ⟨h.aSees.below hb,h.dSees.below hb,h.ab,h.db,h.ac,h.dc⟩
theorem Xrr{x:LAsk}{r:List LRole}{acc:List Int}(h:plc14 x r acc=0):need14 x≤acc.length∧∀i ∈ acc,i<(r.length:Int):=by
 unfold plc14 at h;split at h
 ·cases h
 rename_i h1
 split at h
 ·cases h
 rename_i h2
 exact⟨by omega,fun i hi=>by
  by_cases h3:i<(r.length:Int)
  ·exact h3
  ·exact absurd ⟨i,hi,by omega⟩ h2⟩
theorem Xe3{x:LAsk}(h:two14 x):need14 x=2:=by unfold need14;rw[if_pos h]
theorem Xez{x:LAsk}(h:¬two14 x):need14 x=1:=by unfold need14;rw[if_neg h]
theorem Xga{acc:List Int}{m k:Nat}(hb:AllBytes acc)(hk:k<acc.length)(h:∀i ∈ acc,i<(m:Int)):∃j:Nat,acc.getD k 0=j∧j<m:=by
 have he:acc.getD k 0=acc[k]:=by rw[List.getD_eq_getElem?_getD,List.getElem?_eq_getElem hk];rfl
 have hm:=List.getElem_mem hk;have h0:=(hb _ hm).1;have h1:=h _ hm;exact⟨(acc[k]).toNat,by rw[he];omega,by omega⟩
structure OutAt(V:World)(base g cap n:Nat)(rest:List Value)(out:List LAcc):Prop where
 row:Row V g 69 (accsC out++rest)
 lo:base≤g
 len:out.length=n
 room:n≤cap∧cap≤maxLen
 all:(accsC out++rest).length=cap*34
 ok:∀x ∈ out,AccOk x
theorem Xjx{L:List LAcc}{k:Nat}(h:k<L.length):accsC L=accsC (L.take k)++((getA L k).cells++accsC (L.drop (k+1))):=by
 have e0:getA L k=L[k]:=Xpt (List.getElem?_eq_getElem h);have e:L=L.take k++(getA L k::L.drop (k+1)):=by rw[e0,←List.drop_eq_getElem_cons h,List.take_append_drop]
 have e1:∀(a b:List LAcc) (z:LAcc),accsC (a++z::b)=accsC a++(z.cells++accsC b):=fun a b z=>by unfold accsC;rw[List.map_append,List.flatten_append,List.map_cons,List.flatten_cons]
 exact(congrArg accsC e).trans (e1 _ _ _)
theorem Xst{L:List LAcc}{k:Nat}(h:k<L.length)(y:LAcc):accsC (L.set k y)=accsC (L.take k)++(y.cells++accsC (L.drop (k+1))):=by
 have e1:∀(a b:List LAcc) (z:LAcc),accsC (a++z::b)=accsC a++(z.cells++accsC b):=fun a b z=>by unfold accsC;rw[List.map_append,List.flatten_append,List.map_cons,List.flatten_cons]
 rw[List.set_eq_take_append_cons_drop,if_pos h];exact e1 _ _ _
theorem Xfu{L:List LAcc}(h:∀x ∈ L,AccOk x){k:Nat}(hk:k<L.length):(accsC (L.take k)).length=k*34:=by
 rw[Xep fun x hx=>h x (List.mem_of_mem_take hx),List.length_take,Nat.min_eq_left (by omega)]
section
variable{V V':World}{base g cap n k:Nat}{rest:List Value}{out:List LAcc}
theorem OutAt.below(h:OutAt V base g cap n rest out)(hb:Below V.heap.size V V'):OutAt V' base g cap n rest out:=⟨h.row.below hb h.row.lt,h.lo,h.len,h.room,h.all,h.ok⟩
theorem OutAt.low{b':Nat}(h:OutAt V base g cap n rest out)(hb:b'≤base):OutAt V b' g cap n rest out:=⟨h.row,Lq hb h.lo,h.len,h.room,h.all,h.ok⟩
theorem OutAt.cell(h:OutAt V base g cap n rest out)(hk:k<n){j:Nat}{u:Value}(hu:(getA out k).cells[j]?=some u):V.cell? ⟨g,k*34+j,none⟩=some u:=by
 have hl:=Xfu h.ok (by rw[h.len];exact hk:k<out.length);have hj:=(List.getElem?_eq_some_iff.1 hu).1;rw[h.row.cell,Xjx (by rw[h.len];exact hk:k<out.length),List.append_assoc,List.getElem?_append_right (by omega),hl,Nat.add_sub_cancel_left,List.append_assoc,List.getElem?_append_left hj];exact hu
theorem OutAt.done(h:OutAt V base g cap n rest out):OA14 V base (.slice (some ⟨g,0,none⟩) n cap) out:=by
 have hl:=Xep h.ok;rw[←h.len];refine⟨⟨_,cap,cap,rfl,by rw[h.len];exact h.room.1,Lr _,?_⟩,h.ok⟩;exact Xo1 h.row hl h.all (by rw[h.len];exact h.room.1) h.room.2 h.lo
theorem OutAt.part(h:OutAt V base g cap n rest out)(hk:k<n){o:Nat}{cs:List Value}{y:LAcc}(hy:AccOk y)(hc:(getA out k).cells.take o++cs++(getA out k).cells.drop (o+cs.length)=y.cells)(ho:o+cs.length≤34)
 (hr:Row V' g 69 ((accsC out++rest).take (k*34+o)++cs++(accsC out++rest).drop (k*34+o+cs.length))):OutAt V' base g cap n rest (out.set k y):=by
 have hk':k<out.length:=by rw[h.len];exact hk
 have hl:=Xfu h.ok hk';have ha:(getA out k).cells.length=34:=Xbt (Xa8 h.ok k).o.1;have e:(accsC out++rest).take (k*34+o)++cs++(accsC out++rest).drop (k*34+o+cs.length)=accsC (out.set k y)++rest:=by
  rw[Xst hk',←hc,Xjx hk'];generalize (getA out k).cells=C at *;generalize accsC (out.take k)=P at *;generalize accsC (out.drop (k+1))=S at *;have e1:(P++(C++S)++rest).take (k*34+o)=P++C.take o:=by
   rw[List.append_assoc,List.take_append,hl,List.take_of_length_le (by omega),Nat.add_sub_cancel_left,List.append_assoc,List.take_append_of_le_length (by omega)]
  have e2:(P++(C++S)++rest).drop (k*34+o+cs.length)=C.drop (o+cs.length)++S++rest:=by
   rw[List.append_assoc,List.drop_append,hl,List.drop_of_length_le (by omega),List.nil_append,show k*34+o+cs.length - k*34=o+cs.length by omega,List.append_assoc,List.drop_append_of_le_length (by omega),List.append_assoc]
  rw[e1,e2];simp only[List.append_assoc]
 rw[e]at hr;refine⟨hr,h.lo,by rw[List.length_set];exact h.len,h.room,?_,Xhk h.ok hy⟩;have h1:=h.all;rw[List.length_append]at h1 ⊢;rw[Xep (Xhk h.ok hy),List.length_set];rw[Xep h.ok]at h1;exact h1
theorem Xvc{α:Type}(l:List α){i:Nat}(u:α)(h:i<l.length):l.set i u=l.take i++[u]++l.drop (i+[u].length):=by
 rw[List.set_eq_take_append_cons_drop,if_pos h];simp
theorem OutAt.one(h:OutAt V base g cap n rest out)(hk:k<n){o:Nat}{u:Value}{y:LAcc}(hy:AccOk y)(ho:o<34)(hc:(getA out k).cells.set o u=y.cells):OutAt (V.setCell ⟨g,k*34+o,none⟩ u) base g cap n rest (out.set k y):=by
 have hr:=h.row.set_ (k*34+o) u;have ha:(getA out k).cells.length=34:=Xbt (Xa8 h.ok k).o.1;have hall:=h.all;have hle:k*34+34≤cap*34:=by have:=Nat.mul_le_mul_right 34 (show k+1≤cap from Lq hk h.room.1);omega
 rw[Xvc _ u (by omega)]at hr hc
 ·exact h.part hk hy hc (by simp;omega) hr
end
theorem do_arg(l:List LAcc)(r:List LRole)(p:Int)(IA:Option Addr)(n c:Nat)(D:Option Addr)(dn dc:Nat)(acc dat:List Int)(LA:Option Addr)(ln lc:Nat)(RA:Option Addr)(rn rc:Nat)(B:Nat)(w:World)
 (hl:AccsIn w B LA ln l) (hlc:ln≤lc) (hr:RolesIn w B RA rn r) (hi:InsAt14 w B p IA n c D dn dc acc dat) (hB:B≤w.heap.size) (hn:n≤100000) (hln:ln≤100000) (hrn:rn≤100000) (hne:ln≠rn) :
 Calls Tryz.prog 29 #[.slice LA ln lc,.slice RA rn rc,.agg (insC p IA n c D dn dc).toArray] w (DoDone w (do14 l r acc dat)):=by
 have HD:Hid (do14 l r acc dat=bad14 1):=Hd (by unfold do14;rw[if_pos (by rw[hl.len,hr.len];exact hne)]);have hne':¬(ln:Int)=(rn:Int):=fun e=>hne (by exact_mod_cast e)
 clear hne;have HLL:=Hd hl.len;have HLR:=Hd hr.len;have hbw:=(Br w.heap.size w).alloc (Lr _) (.cells (insC p IA n c D dn dc).toArray 61);have HBW:=Hd hbw;have R5:=Hd (Row.new w 61 (insC p IA n c D dn dc));have HL:=Hd (hl.below (hbw.mono hB));have HR:=Hd (hr.below (hbw.mono hB));have HI:=Hd (hi.below (hbw.mono hB));have HB:=Hd hB;clear hbw hl hr hi;obtain⟨g5,hg5⟩:∃g,g=w.heap.size:=⟨_,rfl⟩;have HG5:Hid (w.heap.size=g5):=Hd hg5.symm;rw[←hg5]at R5;clear hg5;generalize hW:w.alloc (.cells (insC p IA n c D dn dc).toArray 61)=W at *;have HW:=Hd hW;clear hW;go_enter Tryz.func29,Tryz.ntmps29
 go_upto_region 1 with fail
 try rw[HG5.out]
 rw[HW.out];clear HG5 HW;go_wp2_with fail;go_ret3
 exact Xbg HD.out HBW.out
theorem Xvp(l:List LAcc)(r:List LRole)(p:Int)(IA:Option Addr)(n c:Nat)(D:Option Addr)(dn dc:Nat)(acc dat:List Int)(LA:Option Addr)(ln lc:Nat)(RA:Option Addr)(rn rc:Nat)(B:Nat)(w:World)
 (hl:AccsIn w B LA ln l) (hlc:ln≤lc) (hr:RolesIn w B RA rn r) (hi:InsAt14 w B p IA n c D dn dc acc dat) (hB:B≤w.heap.size) (hn:n≤100000) (hln:ln≤100000) (hrn:rn≤100000) (heq:ln=rn) (hdat:dat14 dat=none) :
 Calls Tryz.prog 29 #[.slice LA ln lc,.slice RA rn rc,.agg (insC p IA n c D dn dc).toArray] w (DoDone w (do14 l r acc dat)):=by
 have HD:Hid (do14 l r acc dat=bad14 13):=Hd (by unfold do14;rw[if_neg (by rw[hl.len,hr.len];omega),hdat]);subst heq;have HLL:=Hd hl.len;have HLR:=Hd hr.len;have hbw:=(Br w.heap.size w).alloc (Lr _) (.cells (insC p IA n c D dn dc).toArray 61);have HBW:=Hd hbw;have R5:=Hd (Row.new w 61 (insC p IA n c D dn dc));have HL:=Hd (hl.below (hbw.mono hB));have HR:=Hd (hr.below (hbw.mono hB));have HI:=Hd (hi.below (hbw.mono hB));have HB:=Hd hB;clear hbw hl hr hi;obtain⟨g5,hg5⟩:∃g,g=w.heap.size:=⟨_,rfl⟩;have HG5:Hid (w.heap.size=g5):=Hd hg5.symm;rw[←hg5]at R5;clear hg5;generalize hW:w.alloc (.cells (insC p IA n c D dn dc).toArray 61)=W at *;have HW:=Hd hW;clear hW;go_enter Tryz.func29,Tryz.ntmps29
 go_upto_region 1 with fail
 try rw[HG5.out]
 rw[HW.out];clear HG5 HW;have c52:W.cell? ⟨g5,2,none⟩=some (.slice D dn dc):=R5.out.cell 2;have HDA:=Hd (Xb7 D dn dc B dat W HI.out.dSees (Lq HB.out HBW.out.size) HI.out.dc.1 HI.out.dc.2 HI.out.db);rw[hdat]at HDA;go_upto_region 3 with fail
 go_wp2_with fail;clear c52;refine HDA.out.mono ?_;rintro e w1 ⟨rfl,hb1⟩;have B1:=Hd hb1;clear hb1 HDA;go_upto_region 4 with(first
  | ((with_reducible show wpList _ _ _ (⟨some 9,_,_,_,_,_⟩::_) _ _);go_must(refine Xa0 rfl 142 rfl (askC ask0) Xar ?_))
  | ((with_reducible show wpList _ _ _ (⟨none,Op.store 142 _ _,_,_,_,_⟩::_) _ _);go_must(refine Xa2 rfl 142 (.tmp 9) (.tmp 24) rfl (askC ((none:Option LAsk).getD ask0)) (Xac rfl) (Xah _) ((show(askC ask0).toArray.size=35 from rfl).trans (Xaf rfl).symm) ?_ ?_ ?_;go_simp;go_simp;intro w2 hr2 hb2 hz2)))
 have BF:=Hd (HBW.out.trans ((B1.out.trans (hb2.mono B1.out.size)).mono HBW.out.size));clear hr2 hb2 hz2;go_wp2_with fail;go_ret3
 exact Xbg HD.out BF.out
theorem do_plc(l:List LAcc)(r:List LRole)(p:Int)(IA:Option Addr)(n c:Nat)(D:Option Addr)(dn dc:Nat)(acc dat:List Int)(LA:Option Addr)(ln lc:Nat)(RA:Option Addr)(rn rc:Nat)(B:Nat)(w:World)
 (hl:AccsIn w B LA ln l) (hlc:ln≤lc) (hr:RolesIn w B RA rn r) (hi:InsAt14 w B p IA n c D dn dc acc dat) (hB:B≤w.heap.size) (hn:n≤100000) (hln:ln≤100000) (hrn:rn≤100000) (heq:ln=rn) (x:LAsk) (hdat:dat14 dat=some x) (hp:plc14 x r acc≠0) :
 Calls Tryz.prog 29 #[.slice LA ln lc,.slice RA rn rc,.agg (insC p IA n c D dn dc).toArray] w (DoDone w (do14 l r acc dat)):=by
 have HD:Hid (do14 l r acc dat=bad14 (plc14 x r acc)):=Hd (by unfold do14;rw[if_neg (by rw[hl.len,hr.len];omega),hdat];dsimp only;rw[if_pos hp]);have HAO:=Hd (Xat hi.db hdat);subst heq;have HLL:=Hd hl.len;have HLR:=Hd hr.len;have hbw:=(Br w.heap.size w).alloc (Lr _) (.cells (insC p IA n c D dn dc).toArray 61);have HBW:=Hd hbw;have R5:=Hd (Row.new w 61 (insC p IA n c D dn dc));have HL:=Hd (hl.below (hbw.mono hB));have HR:=Hd (hr.below (hbw.mono hB));have HI:=Hd (hi.below (hbw.mono hB));have HB:=Hd hB;clear hbw hl hr hi;obtain⟨g5,hg5⟩:∃g,g=w.heap.size:=⟨_,rfl⟩;have HG5:Hid (w.heap.size=g5):=Hd hg5.symm;rw[←hg5]at R5;clear hg5;generalize hW:w.alloc (.cells (insC p IA n c D dn dc).toArray 61)=W at *;have HW:=Hd hW;clear hW;go_enter Tryz.func29,Tryz.ntmps29
 go_upto_region 1 with fail
 try rw[HG5.out]
 rw[HW.out];clear HG5 HW;have c52:W.cell? ⟨g5,2,none⟩=some (.slice D dn dc):=R5.out.cell 2;have HDA:=Hd (Xb7 D dn dc B dat W HI.out.dSees (Lq HB.out HBW.out.size) HI.out.dc.1 HI.out.dc.2 HI.out.db);rw[hdat]at HDA;go_upto_region 3 with fail
 go_wp2_with fail;clear c52;refine HDA.out.mono ?_;rintro e w1 ⟨rfl,hb1⟩;have B1:=Hd hb1;clear hb1 HDA;go_upto_region 6 with(first
  | ((with_reducible show wpList _ _ _ (⟨some 9,_,_,_,_,_⟩::_) _ _);go_must(refine Xa0 rfl 142 rfl (askC ask0) Xar ?_))
  | ((with_reducible show wpList _ _ _ (⟨none,Op.store 142 _ _,_,_,_,_⟩::_) _ _);go_must(refine Xa2 rfl 142 (.tmp 9) (.tmp 24) rfl (askC ((some x).getD ask0)) (Xac HAO.out.o.1) (Xah _) ((show(askC ask0).toArray.size=35 from rfl).trans (Xaf HAO.out.o.1).symm) ?_ ?_ ?_;go_simp;go_simp;intro w2 hr2 hb2 hz2)))
 have R9:=Hd hr2;have B2:=Hd (HBW.out.trans ((B1.out.trans (hb2.mono B1.out.size)).mono HBW.out.size));have R52:=Hd (R5.out.below (B1.out.trans (hb2.mono B1.out.size)) R5.out.lt);have HK:=Hd (show Below B W w2 from(B1.out.trans (hb2.mono B1.out.size)).mono (Lq HB.out HBW.out.size));have HP:=Hd (Xay x HAO.out p IA n c D dn dc acc RA ln rc r B w2 (HI.out.aSees.below HK.out) HI.out.ab (HR.out.below HK.out) (Lq HB.out B2.out.size) hn hln);obtain⟨g9,hg9⟩:∃g,g=w1.heap.size:=⟨_,rfl⟩;have HG9:Hid (w.heap.size≤g9):=Hd (by have:=HBW.out.size;have:=B1.out.size;omega);rw[←hg9]at R9 ⊢;clear hr2 hb2 hz2 hg9 B1;go_wp2_with (first
  | ((with_reducible show wpList _ _ _ (⟨some 29,_,_,_,_,_⟩::_) _ _);go_must(refine Xa1 rfl 142 (.tmp 9) rfl g9 142 (askC x) _ Tryz.underlying142 rfl (Xac HAO.out.o.1) R9.out ?_ ?_;go_simp))
  | ((with_reducible show wpList _ _ _ (⟨some 31,_,_,_,_,_⟩::_) _ _);go_must(refine Xa1 rfl 61 (.tmp 5) rfl g5 61 (insC p IA n c D dn dc) _ Tryz.underlying61 rfl (by kernel_rfl) R52.out ?_ ?_;go_simp)))
 refine HP.out.mono ?_;rintro e w3 ⟨rfl,hb3⟩;have B3:=Hd (B2.out.trans (hb3.mono B2.out.size));have R93:=Hd (R9.out.below hb3 R9.out.lt);have HK3:=Hd (show Below B W w3 from HK.out.trans (hb3.mono (Lq HB.out B2.out.size)));clear hb3 HP R9 R52 B2 HK;have hp':¬plc14 x r acc=0:=hp;clear hp;generalize plc14 x r acc=q at *;go_wp2_with fail;go_ret3
 exact Xbg HD.out B3.out
end Go.Proofs.YtaljfbbieefooaaGreatDoor
