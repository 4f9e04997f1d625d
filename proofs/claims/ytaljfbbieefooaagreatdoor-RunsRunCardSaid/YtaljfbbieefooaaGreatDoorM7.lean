import Derived.Test.YtaljfbbieefooaaGreatDoorM6
set_option maxRecDepth 100000
set_option maxHeartbeats 16000000
set_option linter.unusedSimpArgs false
set_option linter.unusedVariables false
namespace Go.Proofs.YtaljfbbieefooaaGreatDoor
open Go.RowKit
def askC(x:LAsk):List Value:=.int .u64 x.tag::.int .u64 x.coins::.int .u64 x.space::bv x.owner
def ask0:LAsk:=⟨0,0,0,key0⟩
theorem Xaf{x:LAsk}(h:x.owner.length=32):(askC x).length=35:=by simp[askC,bL,h]
theorem Xah(x:LAsk):∀u ∈ askC x,u.oneCell'=true:=by
 intro u hu;unfold askC at hu;simp only[List.mem_cons]at hu;rcases hu with rfl | rfl | rfl | hu
 ·rfl
 ·rfl
 ·rfl
 ·exact Xbj _ _ hu
theorem Xar:(Tryz.prog.info? 142).map (·.zero)=some (some (.agg (askC ask0).toArray)):=by kernel_rfl
theorem Xac{x:LAsk}(h:x.owner.length=32):(Tryz.prog.info? 142).map (·.size)=some (askC x).length:=by
 rw[Xaf h];kernel_rfl
theorem Xd1:Tryz.prog.built 142 []=some (askC ask0).toArray:=by kernel_rfl
theorem Xc1(t:Int):Tryz.prog.built 142 [(0,.int .u64 t)]=some (askC ⟨t,0,0,key0⟩).toArray:=by kernel_rfl
theorem Xb2:(Tryz.prog.info? 5).map (·.size)=some 1:=by kernel_rfl
def DatDone(w:World)(r:Option LAsk)(e:Ending)(w':World):Prop:=e=.returned (.tuple #[.agg (askC (r.getD ask0)).toArray,.bool r.isSome])∧Below w.heap.size w w'
theorem Xdj{zs:List Int}{m:Nat}(h1:1≤m)(h2:m≤8)(h:m≤zs.length):getN zs m=(num zs m,0):=by
 unfold getN;rw[if_neg (by omega),if_neg (by omega)];simp
theorem Xil{zs:List Int}{m:Nat}(h1:1≤m)(h2:m≤8)(h:zs.length<m):getN zs m=(0,5):=by
 unfold getN;rw[if_neg (by omega),if_pos (by omega)]
theorem Xg2{t c s:Int}{o o':List Int}(h:o.length=32)(h':o'.length=32):(askC ⟨t,c,s,o⟩).take 3++bv o'++(askC ⟨t,c,s,o⟩).drop (3+(bv o').length)=askC ⟨t,c,s,o'⟩:=by
 unfold askC;rw[bL,h'];have:(bv o).length=32:=by rw[bL,h]
 simp[List.drop_of_length_le,this]
theorem Xbc{w:World}{g:Nat}{cs:List Value}(hr:Row w g 142 cs)(hi:(Tryz.prog.info? 142).map (·.size)=some cs.length):(loadVar 142 ⟨g,0,none⟩).run Tryz.prog w=.ok (.agg cs.toArray) w:=by
 have:=Xc0 (P:=Tryz.prog) w ⟨g,0,none⟩ 142 cs _ (fun j v hv=>by rw[Xa5,Nat.zero_add];exact(hr.cell j).trans hv) Tryz.underlying142 rfl hi;simpa [Instr.loadAt,Instr.sureAddr]using this
theorem Xnq(A:Option Addr)(n c B:Nat)(zs:List Int)(w:World)(hlen:zs.length=n)(hx:Sees w B A n (bv zs))(hB:B≤w.heap.size)(hnc:n≤c)(hc:c≤maxLen)(hz:AllBytes zs)(h4:n<4) :
 Calls Tryz.prog 59 #[.slice A n c] w (DatDone w (dat14 zs)):=by
 have HN:=Hd hlen;have HX:=Hd hx;have HCM:=Hd (And.intro hnc hc);have R2:=Hd (Row.new w 142 (askC ask0));have HB2:=Hd ((Br w.heap.size w).alloc (Lr _) (.cells (askC ask0).toArray 142));have HX2:=Hd (hx.below ((Br w.heap.size w).alloc (Lr _) (.cells (askC ask0).toArray 142) |>.mono hB));generalize hW:w.alloc (.cells (askC ask0).toArray 142)=W at *;have HW:=Hd hW;clear hW;obtain⟨g2,hg2⟩:∃g,g=w.heap.size:=⟨_,rfl⟩;have HG2:Hid (w.heap.size=g2):=Hd hg2.symm;rw[←hg2]at R2;clear hg2;have HZ0:Hid (Bytes zs):=Hd (Xb1 hz);have HMX:Hid (n≤maxLen):=Hd (Lq hnc hc);have HGT:=Hd (Xfe A n c zs 4 W B HX2.out HMX.out HZ0.out);have HGB:Hid (w.heap.size≤g2):=Hd (by have:=HG2.out;omega);have hd:dat14 zs=none:=by unfold dat14;rw[if_pos (by omega)]
 have HD:=Hd hd;rw[show(4:Int)=((4:Nat):Int)from rfl,Xil (by omega) (by omega) (by omega:zs.length<4)]at HGT;rw[HD.out];clear hd hx hlen;go_enter Tryz.func59,Tryz.ntmps59
 go_wp2_with (first | ((with_reducible show wpList _ _ _ (⟨some 2,_,_,_,_,_⟩::_) _ _);go_must(refine Xa0 rfl 142 rfl (askC ask0) Xar ?_)))
 rw[HG2.out,HW.out];clear HG2 HW;refine HGT.out.mono ?_;rintro e w1 ⟨rfl,rfl⟩;clear HGT;go_wp2_with (first
  | ((with_reducible show wpList _ _ _ (⟨some 14,_,_,_,_,_⟩::_) _ _);go_must(refine wpList_plain rfl fun K hK=>Xae _ _ _ rfl (by simp only[List.map_toArray,List.map_nil];exact Xd1) (hK _ _ ?_)))
  | ((with_reducible show wpList _ _ _ (⟨none,Op.store 142 (.tmp 2) _,_,_,_,_⟩::_) _ _);go_must(refine Xab rfl 142 (.tmp 2) (.tmp 14) rfl g2 (askC ask0) (askC ask0) R2.out (Xac rfl) rfl (Xah _) ?_ ?_ ?_;go_simp;go_simp;intro w9 hr9 ht9;have R9:=Hd hr9;have T9:=Hd ht9;clear hr9 ht9)))
 refine bodyPost_ret (Xaa (h:=rfl) _ w9 ⟨g2,0,none⟩ (.agg (askC ask0).toArray) (.bool false) (by rfl) (by rfl) (Xbc R9.out (Xac rfl))) rfl ?_;exact⟨rfl,HB2.out.trans (T9.out.below HGB.out)⟩
theorem Xou(A:Option Addr)(n c B:Nat)(zs:List Int)(w:World)(hlen:zs.length=n)(hx:Sees w B A n (bv zs))(hB:B≤w.heap.size)(hnc:n≤c)(hc:c≤maxLen)(hz:AllBytes zs)(h4:4≤n)(t:Int)(ht:num zs 4=t)(hd:dat14 zs=none)(h0:t=0→n≠52)(h1:t=1→n≠36)(h2:t=2→n≠12)(h8:t=8→n≠12) :
 Calls Tryz.prog 59 #[.slice A n c] w (DatDone w (dat14 zs)):=by
 have HN:=Hd hlen;have HX:=Hd hx;have HCM:=Hd (And.intro hnc hc);have R2:=Hd (Row.new w 142 (askC ask0));have HB2:=Hd ((Br w.heap.size w).alloc (Lr _) (.cells (askC ask0).toArray 142));have HX2:=Hd (hx.below ((Br w.heap.size w).alloc (Lr _) (.cells (askC ask0).toArray 142) |>.mono hB));generalize hW:w.alloc (.cells (askC ask0).toArray 142)=W at *;have HW:=Hd hW;clear hW;obtain⟨g2,hg2⟩:∃g,g=w.heap.size:=⟨_,rfl⟩;have HG2:Hid (w.heap.size=g2):=Hd hg2.symm;rw[←hg2]at R2;clear hg2;have HZ0:Hid (Bytes zs):=Hd (Xb1 hz);have HMX:Hid (n≤maxLen):=Hd (Lq hnc hc);have HGT:=Hd (Xfe A n c zs 4 W B HX2.out HMX.out HZ0.out);have HGB:Hid (w.heap.size≤g2):=Hd (by have:=HG2.out;omega);have HD:=Hd hd;rw[HD.out];have HL4:Hid (4≤n):=Hd h4;have HXT:Hid (Sees W B (tailAt A c 4) (n - 4) (bv (zs.drop 4))):=Hd (by have:=HX2.out.tail (c:=c) HL4.out HCM.out.1;simpa [bv,cv]using this);have HBW:Hid (B≤W.heap.size):=Hd (Lq hB HB2.out.size);rw[show(4:Int)=((4:Nat):Int)from rfl,Xdj (by omega) (by omega) (by omega:4≤zs.length),ht]at HGT;have HL:=Hd hlen;have q0:t=0→¬((n - 4:Nat):Int)=48:=fun e=>by have:=h0 e;omega
 have q1:t=1→¬((n - 4:Nat):Int)=32:=fun e=>by have:=h1 e;omega
 have q2:t=2→¬((n - 4:Nat):Int)=8:=fun e=>by have:=h2 e;omega
 have q8:t=8→¬((n - 4:Nat):Int)=8:=fun e=>by have:=h8 e;omega
 clear hd ht h0 h1 h2 h8 hx hlen h4 HX HX2;have W9:Hid (∀(V:World),True):=Hd fun _=>trivial
 by_cases e0:t=0
 ·subst e0;have hq:=q0 rfl;clear q0 q1 q2 q8;go_enter Tryz.func59,Tryz.ntmps59
  go_wp2_with (first | ((with_reducible show wpList _ _ _ (⟨some 2,_,_,_,_,_⟩::_) _ _);go_must(refine Xa0 rfl 142 rfl (askC ask0) Xar ?_)))
  rw[HG2.out,HW.out];clear HG2 HW;refine HGT.out.mono ?_;rintro e w1 ⟨rfl,rfl⟩;clear HGT;go_wp2_with (first
   | ((with_reducible show wpList _ _ _ (⟨some 16,_,_,_,_,_⟩::_) _ _);go_must(refine wpList_plain rfl fun K hK=>Xae _ _ _ rfl (by simp only[List.map_toArray,List.map_cons,List.map_nil];exact Xc1 _) (hK _ _ ?_)))
   | ((with_reducible show wpList _ _ _ (⟨some 6,_,_,_,_,_⟩::_) _ _);go_must(refine Xa0 rfl 142 rfl (askC ask0) Xar ?_))
   | ((with_reducible show wpList _ _ _ (⟨none,Op.store 142 (.tmp 6) _,_,_,_,_⟩::_) _ _);go_must(refine Xa2 rfl 142 (.tmp 6) (.tmp 16) rfl (askC ⟨0,0,0,key0⟩) (Xac rfl) (Xah _) rfl ?_ ?_ ?_;go_simp;go_simp;intro w6 hr6 hb6 hz6;have R6:=Hd hr6;have R26:=Hd (R2.out.below hb6 R2.out.lt);have B6:=Hd (HB2.out.trans (hb6.mono HB2.out.size));have HZ6:=Hd hz6;have HX6:=Hd (HXT.out.below (hb6.mono HBW.out));clear hr6 hb6 hz6))
   | ((with_reducible show wpList _ _ _ (⟨some 18,_,_,_,_,_⟩::_) _ _);go_must(refine Xbe rfl 22 5 (.tmp 17) (.const (.int .i64 4)) rfl Tryz.underlying22 Xb2 A n c 4 ?_ ?_ HL4.out HCM.out.1 HCM.out.2 ?_;go_simp;go_simp))
   | ((with_reducible show wpList _ _ _ (⟨some 19,_,_,_,_,_⟩::_) _ _);go_must(refine wpList_plain rfl fun K hK=>Xae _ _ _ rfl (by simp only[List.map_toArray,List.map_nil];exact Xd1) (hK _ _ ?_)))
   | ((with_reducible show wpList _ _ _ (⟨none,Op.store 142 (.tmp 2) _,_,_,_,_⟩::_) _ _);go_must(refine Xab rfl 142 (.tmp 2) (.tmp 19) rfl g2 (askC ask0) (askC ask0) R26.out (Xac rfl) rfl (Xah _) ?_ ?_ ?_;go_simp;go_simp;intro w9 hr9 ht9;have R9:=Hd hr9;have T9:=Hd ht9;clear hr9 ht9)))
  refine bodyPost_ret (Xaa (h:=rfl) _ w9 ⟨g2,0,none⟩ (.agg (askC ask0).toArray) (.bool false) (by rfl) (by rfl) (Xbc R9.out (Xac rfl))) rfl ?_;exact⟨rfl,B6.out.trans (T9.out.below HGB.out)⟩
 by_cases e1:t=1
 ·subst e1;have hq:=q1 rfl;clear q0 q1 q2 q8;go_enter Tryz.func59,Tryz.ntmps59
  go_wp2_with (first | ((with_reducible show wpList _ _ _ (⟨some 2,_,_,_,_,_⟩::_) _ _);go_must(refine Xa0 rfl 142 rfl (askC ask0) Xar ?_)))
  rw[HG2.out,HW.out];clear HG2 HW;refine HGT.out.mono ?_;rintro e w1 ⟨rfl,rfl⟩;clear HGT;go_wp2_with (first
   | ((with_reducible show wpList _ _ _ (⟨some 16,_,_,_,_,_⟩::_) _ _);go_must(refine wpList_plain rfl fun K hK=>Xae _ _ _ rfl (by simp only[List.map_toArray,List.map_cons,List.map_nil];exact Xc1 _) (hK _ _ ?_)))
   | ((with_reducible show wpList _ _ _ (⟨some 6,_,_,_,_,_⟩::_) _ _);go_must(refine Xa0 rfl 142 rfl (askC ask0) Xar ?_))
   | ((with_reducible show wpList _ _ _ (⟨none,Op.store 142 (.tmp 6) _,_,_,_,_⟩::_) _ _);go_must(refine Xa2 rfl 142 (.tmp 6) (.tmp 16) rfl (askC ⟨1,0,0,key0⟩) (Xac rfl) (Xah _) rfl ?_ ?_ ?_;go_simp;go_simp;intro w6 hr6 hb6 hz6;have R6:=Hd hr6;have R26:=Hd (R2.out.below hb6 R2.out.lt);have B6:=Hd (HB2.out.trans (hb6.mono HB2.out.size));have HZ6:=Hd hz6;have HX6:=Hd (HXT.out.below (hb6.mono HBW.out));clear hr6 hb6 hz6))
   | ((with_reducible show wpList _ _ _ (⟨some 18,_,_,_,_,_⟩::_) _ _);go_must(refine Xbe rfl 22 5 (.tmp 17) (.const (.int .i64 4)) rfl Tryz.underlying22 Xb2 A n c 4 ?_ ?_ HL4.out HCM.out.1 HCM.out.2 ?_;go_simp;go_simp))
   | ((with_reducible show wpList _ _ _ (⟨some 19,_,_,_,_,_⟩::_) _ _);go_must(refine wpList_plain rfl fun K hK=>Xae _ _ _ rfl (by simp only[List.map_toArray,List.map_nil];exact Xd1) (hK _ _ ?_)))
   | ((with_reducible show wpList _ _ _ (⟨none,Op.store 142 (.tmp 2) _,_,_,_,_⟩::_) _ _);go_must(refine Xab rfl 142 (.tmp 2) (.tmp 19) rfl g2 (askC ask0) (askC ask0) R26.out (Xac rfl) rfl (Xah _) ?_ ?_ ?_;go_simp;go_simp;intro w9 hr9 ht9;have R9:=Hd hr9;have T9:=Hd ht9;clear hr9 ht9)))
  refine bodyPost_ret (Xaa (h:=rfl) _ w9 ⟨g2,0,none⟩ (.agg (askC ask0).toArray) (.bool false) (by rfl) (by rfl) (Xbc R9.out (Xac rfl))) rfl ?_;exact⟨rfl,B6.out.trans (T9.out.below HGB.out)⟩
 by_cases e2:t=2
 ·subst e2;have hq:=q2 rfl;clear q0 q1 q2 q8;go_enter Tryz.func59,Tryz.ntmps59
  go_wp2_with (first | ((with_reducible show wpList _ _ _ (⟨some 2,_,_,_,_,_⟩::_) _ _);go_must(refine Xa0 rfl 142 rfl (askC ask0) Xar ?_)))
  rw[HG2.out,HW.out];clear HG2 HW;refine HGT.out.mono ?_;rintro e w1 ⟨rfl,rfl⟩;clear HGT;go_wp2_with (first
   | ((with_reducible show wpList _ _ _ (⟨some 16,_,_,_,_,_⟩::_) _ _);go_must(refine wpList_plain rfl fun K hK=>Xae _ _ _ rfl (by simp only[List.map_toArray,List.map_cons,List.map_nil];exact Xc1 _) (hK _ _ ?_)))
   | ((with_reducible show wpList _ _ _ (⟨some 6,_,_,_,_,_⟩::_) _ _);go_must(refine Xa0 rfl 142 rfl (askC ask0) Xar ?_))
   | ((with_reducible show wpList _ _ _ (⟨none,Op.store 142 (.tmp 6) _,_,_,_,_⟩::_) _ _);go_must(refine Xa2 rfl 142 (.tmp 6) (.tmp 16) rfl (askC ⟨2,0,0,key0⟩) (Xac rfl) (Xah _) rfl ?_ ?_ ?_;go_simp;go_simp;intro w6 hr6 hb6 hz6;have R6:=Hd hr6;have R26:=Hd (R2.out.below hb6 R2.out.lt);have B6:=Hd (HB2.out.trans (hb6.mono HB2.out.size));have HZ6:=Hd hz6;have HX6:=Hd (HXT.out.below (hb6.mono HBW.out));clear hr6 hb6 hz6))
   | ((with_reducible show wpList _ _ _ (⟨some 18,_,_,_,_,_⟩::_) _ _);go_must(refine Xbe rfl 22 5 (.tmp 17) (.const (.int .i64 4)) rfl Tryz.underlying22 Xb2 A n c 4 ?_ ?_ HL4.out HCM.out.1 HCM.out.2 ?_;go_simp;go_simp))
   | ((with_reducible show wpList _ _ _ (⟨some 19,_,_,_,_,_⟩::_) _ _);go_must(refine wpList_plain rfl fun K hK=>Xae _ _ _ rfl (by simp only[List.map_toArray,List.map_nil];exact Xd1) (hK _ _ ?_)))
   | ((with_reducible show wpList _ _ _ (⟨none,Op.store 142 (.tmp 2) _,_,_,_,_⟩::_) _ _);go_must(refine Xab rfl 142 (.tmp 2) (.tmp 19) rfl g2 (askC ask0) (askC ask0) R26.out (Xac rfl) rfl (Xah _) ?_ ?_ ?_;go_simp;go_simp;intro w9 hr9 ht9;have R9:=Hd hr9;have T9:=Hd ht9;clear hr9 ht9)))
  refine bodyPost_ret (Xaa (h:=rfl) _ w9 ⟨g2,0,none⟩ (.agg (askC ask0).toArray) (.bool false) (by rfl) (by rfl) (Xbc R9.out (Xac rfl))) rfl ?_;exact⟨rfl,B6.out.trans (T9.out.below HGB.out)⟩
 by_cases e8:t=8
 ·subst e8;have hq:=q8 rfl;clear q0 q1 q2 q8;go_enter Tryz.func59,Tryz.ntmps59
  go_wp2_with (first | ((with_reducible show wpList _ _ _ (⟨some 2,_,_,_,_,_⟩::_) _ _);go_must(refine Xa0 rfl 142 rfl (askC ask0) Xar ?_)))
  rw[HG2.out,HW.out];clear HG2 HW;refine HGT.out.mono ?_;rintro e w1 ⟨rfl,rfl⟩;clear HGT;go_wp2_with (first
   | ((with_reducible show wpList _ _ _ (⟨some 16,_,_,_,_,_⟩::_) _ _);go_must(refine wpList_plain rfl fun K hK=>Xae _ _ _ rfl (by simp only[List.map_toArray,List.map_cons,List.map_nil];exact Xc1 _) (hK _ _ ?_)))
   | ((with_reducible show wpList _ _ _ (⟨some 6,_,_,_,_,_⟩::_) _ _);go_must(refine Xa0 rfl 142 rfl (askC ask0) Xar ?_))
   | ((with_reducible show wpList _ _ _ (⟨none,Op.store 142 (.tmp 6) _,_,_,_,_⟩::_) _ _);go_must(refine Xa2 rfl 142 (.tmp 6) (.tmp 16) rfl (askC ⟨8,0,0,key0⟩) (Xac rfl) (Xah _) rfl ?_ ?_ ?_;go_simp;go_simp;intro w6 hr6 hb6 hz6;have R6:=Hd hr6;have R26:=Hd (R2.out.below hb6 R2.out.lt);have B6:=Hd (HB2.out.trans (hb6.mono HB2.out.size));have HZ6:=Hd hz6;have HX6:=Hd (HXT.out.below (hb6.mono HBW.out));clear hr6 hb6 hz6))
   | ((with_reducible show wpList _ _ _ (⟨some 18,_,_,_,_,_⟩::_) _ _);go_must(refine Xbe rfl 22 5 (.tmp 17) (.const (.int .i64 4)) rfl Tryz.underlying22 Xb2 A n c 4 ?_ ?_ HL4.out HCM.out.1 HCM.out.2 ?_;go_simp;go_simp))
   | ((with_reducible show wpList _ _ _ (⟨some 19,_,_,_,_,_⟩::_) _ _);go_must(refine wpList_plain rfl fun K hK=>Xae _ _ _ rfl (by simp only[List.map_toArray,List.map_nil];exact Xd1) (hK _ _ ?_)))
   | ((with_reducible show wpList _ _ _ (⟨none,Op.store 142 (.tmp 2) _,_,_,_,_⟩::_) _ _);go_must(refine Xab rfl 142 (.tmp 2) (.tmp 19) rfl g2 (askC ask0) (askC ask0) R26.out (Xac rfl) rfl (Xah _) ?_ ?_ ?_;go_simp;go_simp;intro w9 hr9 ht9;have R9:=Hd hr9;have T9:=Hd ht9;clear hr9 ht9)))
  refine bodyPost_ret (Xaa (h:=rfl) _ w9 ⟨g2,0,none⟩ (.agg (askC ask0).toArray) (.bool false) (by rfl) (by rfl) (Xbc R9.out (Xac rfl))) rfl ?_;exact⟨rfl,B6.out.trans (T9.out.below HGB.out)⟩
 ·clear q0 q1 q2 q8;go_enter Tryz.func59,Tryz.ntmps59
  go_wp2_with (first | ((with_reducible show wpList _ _ _ (⟨some 2,_,_,_,_,_⟩::_) _ _);go_must(refine Xa0 rfl 142 rfl (askC ask0) Xar ?_)))
  rw[HG2.out,HW.out];clear HG2 HW;refine HGT.out.mono ?_;rintro e w1 ⟨rfl,rfl⟩;clear HGT;go_wp2_with (first
   | ((with_reducible show wpList _ _ _ (⟨some 16,_,_,_,_,_⟩::_) _ _);go_must(refine wpList_plain rfl fun K hK=>Xae _ _ _ rfl (by simp only[List.map_toArray,List.map_cons,List.map_nil];exact Xc1 _) (hK _ _ ?_)))
   | ((with_reducible show wpList _ _ _ (⟨some 6,_,_,_,_,_⟩::_) _ _);go_must(refine Xa0 rfl 142 rfl (askC ask0) Xar ?_))
   | ((with_reducible show wpList _ _ _ (⟨none,Op.store 142 (.tmp 6) _,_,_,_,_⟩::_) _ _);go_must(refine Xa2 rfl 142 (.tmp 6) (.tmp 16) rfl (askC ⟨t,0,0,key0⟩) (Xac rfl) (Xah _) rfl ?_ ?_ ?_;go_simp;go_simp;intro w6 hr6 hb6 hz6;have R6:=Hd hr6;have R26:=Hd (R2.out.below hb6 R2.out.lt);have B6:=Hd (HB2.out.trans (hb6.mono HB2.out.size));have HZ6:=Hd hz6;have HX6:=Hd (HXT.out.below (hb6.mono HBW.out));clear hr6 hb6 hz6))
   | ((with_reducible show wpList _ _ _ (⟨some 18,_,_,_,_,_⟩::_) _ _);go_must(refine Xbe rfl 22 5 (.tmp 17) (.const (.int .i64 4)) rfl Tryz.underlying22 Xb2 A n c 4 ?_ ?_ HL4.out HCM.out.1 HCM.out.2 ?_;go_simp;go_simp))
   | ((with_reducible show wpList _ _ _ (⟨some 19,_,_,_,_,_⟩::_) _ _);go_must(refine wpList_plain rfl fun K hK=>Xae _ _ _ rfl (by simp only[List.map_toArray,List.map_nil];exact Xd1) (hK _ _ ?_)))
   | ((with_reducible show wpList _ _ _ (⟨none,Op.store 142 (.tmp 2) _,_,_,_,_⟩::_) _ _);go_must(refine Xab rfl 142 (.tmp 2) (.tmp 19) rfl g2 (askC ask0) (askC ask0) R26.out (Xac rfl) rfl (Xah _) ?_ ?_ ?_;go_simp;go_simp;intro w9 hr9 ht9;have R9:=Hd hr9;have T9:=Hd ht9;clear hr9 ht9)))
  refine bodyPost_ret (Xaa (h:=rfl) _ w9 ⟨g2,0,none⟩ (.agg (askC ask0).toArray) (.bool false) (by rfl) (by rfl) (Xbc R9.out (Xac rfl))) rfl ?_;exact⟨rfl,B6.out.trans (T9.out.below HGB.out)⟩
theorem data_2(A:Option Addr)(n c B:Nat)(zs:List Int)(w:World)(hlen:zs.length=n)(hx:Sees w B A n (bv zs))(hB:B≤w.heap.size)(hnc:n≤c)(hc:c≤maxLen)(hz:AllBytes zs)(hn:n=12)(ht:num zs 4=2) :
 Calls Tryz.prog 59 #[.slice A n c] w (DatDone w (dat14 zs)):=by
 have HN:=Hd hlen;have HX:=Hd hx;have HCM:=Hd (And.intro hnc hc);have R2:=Hd (Row.new w 142 (askC ask0));have HB2:=Hd ((Br w.heap.size w).alloc (Lr _) (.cells (askC ask0).toArray 142));have HX2:=Hd (hx.below ((Br w.heap.size w).alloc (Lr _) (.cells (askC ask0).toArray 142) |>.mono hB));generalize hW:w.alloc (.cells (askC ask0).toArray 142)=W at *;have HW:=Hd hW;clear hW;obtain⟨g2,hg2⟩:∃g,g=w.heap.size:=⟨_,rfl⟩;have HG2:Hid (w.heap.size=g2):=Hd hg2.symm;rw[←hg2]at R2;clear hg2;have HZ0:Hid (Bytes zs):=Hd (Xb1 hz);have HMX:Hid (n≤maxLen):=Hd (Lq hnc hc);have HGT:=Hd (Xfe A n c zs 4 W B HX2.out HMX.out HZ0.out);have HGB:Hid (w.heap.size≤g2):=Hd (by have:=HG2.out;omega);have hd:dat14 zs=some ⟨2,num (zs.drop 4) 8,0,key0⟩:=by unfold dat14;rw[if_neg (by omega),if_neg (by omega),if_neg (by omega),if_pos ⟨ht,by omega⟩]
 have HD:=Hd hd;rw[HD.out];have h4:4≤n:=by omega
 have HL4:Hid (4≤n):=Hd h4;have HXT:Hid (Sees W B (tailAt A c 4) (n - 4) (bv (zs.drop 4))):=Hd (by have:=HX2.out.tail (c:=c) HL4.out HCM.out.1;simpa [bv,cv]using this);have HBW:Hid (B≤W.heap.size):=Hd (Lq hB HB2.out.size);rw[show(4:Int)=((4:Nat):Int)from rfl,Xdj (by omega) (by omega) (by omega:4≤zs.length),ht]at HGT;have HBD:Hid (∀k,Bytes (zs.drop k)):=Hd fun k=>Xb1 fun z hzz=>hz z (List.mem_of_mem_drop hzz)
 have HL:=Hd hlen;have HCL:Hid (n - 4≤c - 4∧c - 4≤maxLen):=Hd ⟨by have:=HCM.out;omega,by have:=HCM.out;omega⟩;obtain⟨ad,had⟩:∃ad,tailAt A c 4=some ad:=by
  obtain⟨a,u,e,_⟩:=HXT.out.at_ (k:=0) (by omega);exact⟨a,e⟩
 have HAD:=Hd had;rw[had]at HXT;clear had hd hx h4 HX HX2 hlen ht;subst hn;go_enter Tryz.func59,Tryz.ntmps59
 go_wp2_with (first | ((with_reducible show wpList _ _ _ (⟨some 2,_,_,_,_,_⟩::_) _ _);go_must(refine Xa0 rfl 142 rfl (askC ask0) Xar ?_)))
 rw[HG2.out,HW.out];clear HG2 HW;refine HGT.out.mono ?_;rintro e w1 ⟨rfl,rfl⟩;clear HGT;go_upto_region 14 with(first
  | ((with_reducible show wpList _ _ _ (⟨some 16,_,_,_,_,_⟩::_) _ _);go_must(refine wpList_plain rfl fun K hK=>Xae _ _ _ rfl (by simp only[List.map_toArray,List.map_cons,List.map_nil];exact Xc1 _) (hK _ _ ?_)))
  | ((with_reducible show wpList _ _ _ (⟨some 6,_,_,_,_,_⟩::_) _ _);go_must(refine Xa0 rfl 142 rfl (askC ask0) Xar ?_))
  | ((with_reducible show wpList _ _ _ (⟨none,Op.store 142 (.tmp 6) _,_,_,_,_⟩::_) _ _);go_must(refine Xa2 rfl 142 (.tmp 6) (.tmp 16) rfl (askC ⟨2,0,0,key0⟩) (Xac rfl) (Xah _) rfl ?_ ?_ ?_;go_simp;go_simp;intro w6 hr6 hb6 hz6;have R6:=Hd hr6;have R26:=Hd (R2.out.below hb6 R2.out.lt);have B6:=Hd (HB2.out.trans (hb6.mono HB2.out.size));have HZ6:=Hd hz6;have HX6:=Hd (HXT.out.below (hb6.mono HBW.out));clear hr6 hb6 hz6))
  | ((with_reducible show wpList _ _ _ (⟨some 18,_,_,_,_,_⟩::_) _ _);go_must(refine Xbe rfl 22 5 (.tmp 17) (.const (.int .i64 4)) rfl Tryz.underlying22 Xb2 A 12 c 4 ?_ ?_ HL4.out HCM.out.1 HCM.out.2 ?_;go_simp;go_simp);rw[HAD.out]))
 have HG6:Hid (W.heap.size≠g2):=Hd (by have:=R2.out.lt;omega);obtain⟨g6,hg6⟩:∃g,g=W.heap.size:=⟨_,rfl⟩;have HGE:Hid (w.heap.size≤g6):=Hd (by have:=HB2.out.size;omega);rw[←hg6]at R6 HG6 ⊢;clear hg6;have HG8:=Hd (Xfe (some ad) 8 (c - 4) (zs.drop 4) 8 w6 B HX6.out (by unfold maxLen;omega) (HBD.out 4));rw[show(8:Int)=((8:Nat):Int)from rfl,Xdj (by omega) (by omega) (by have:=HL.out;rw[List.length_drop];omega)]at HG8;have hv:∃v,v=num (zs.drop 4) 8:=⟨_,rfl⟩;obtain⟨v,hv⟩:=hv;rw[←hv]at HG8;have HV:=Hd hv;clear hv;go_wp2_with fail;refine HG8.out.mono ?_;rintro e w7 ⟨rfl,rfl⟩;have c6:=R6.out.cell 1;have f6:=R6.out.frozen 1;have R7:=Hd (show Row _ g6 142 (askC ⟨2,v,0,key0⟩)from R6.out.set_ 1 (.int .u64 v));have R27:=Hd (R26.out.far (p:=⟨g6,1,none⟩) (fun e=>HG6.out e.symm) (.int .u64 v));have BF:=Hd (B6.out.trans ((Xa6 w6 ⟨g6,1,none⟩ (.int .u64 v)).below HGE.out));clear R6 R26 B6;go_wp2_with (first
  | ((with_reducible show wpList _ _ _ (⟨some 86,_,_,_,_,_⟩::_) _ _);go_must(refine Xa1 rfl 142 (.tmp 6) rfl g6 142 (askC ⟨2,v,0,key0⟩) _ Tryz.underlying142 rfl (Xac rfl) R7.out ?_ ?_;go_simp))
  | ((with_reducible show wpList _ _ _ (⟨none,Op.store 142 (.tmp 2) _,_,_,_,_⟩::_) _ _);go_must(refine Xab rfl 142 (.tmp 2) (.tmp 86) rfl g2 (askC ask0) (askC ⟨2,v,0,key0⟩) R27.out (Xac rfl) rfl (Xah _) ?_ ?_ ?_;go_simp;go_simp;intro w9 hr9 ht9;have R9:=Hd hr9;have T9:=Hd ht9;clear hr9 ht9)))
 refine bodyPost_ret (Xaa (h:=rfl) _ w9 ⟨g2,0,none⟩ (.agg (askC ⟨2,v,0,key0⟩).toArray) (.bool true) (by rfl) (by rfl) (Xbc R9.out (Xac rfl))) rfl ?_;exact⟨by rw[HV.out];rfl,BF.out.trans (T9.out.below HGB.out)⟩
theorem data_8(A:Option Addr)(n c B:Nat)(zs:List Int)(w:World)(hlen:zs.length=n)(hx:Sees w B A n (bv zs))(hB:B≤w.heap.size)(hnc:n≤c)(hc:c≤maxLen)(hz:AllBytes zs)(hn:n=12)(ht:num zs 4=8) :
 Calls Tryz.prog 59 #[.slice A n c] w (DatDone w (dat14 zs)):=by
 have HN:=Hd hlen;have HX:=Hd hx;have HCM:=Hd (And.intro hnc hc);have R2:=Hd (Row.new w 142 (askC ask0));have HB2:=Hd ((Br w.heap.size w).alloc (Lr _) (.cells (askC ask0).toArray 142));have HX2:=Hd (hx.below ((Br w.heap.size w).alloc (Lr _) (.cells (askC ask0).toArray 142) |>.mono hB));generalize hW:w.alloc (.cells (askC ask0).toArray 142)=W at *;have HW:=Hd hW;clear hW;obtain⟨g2,hg2⟩:∃g,g=w.heap.size:=⟨_,rfl⟩;have HG2:Hid (w.heap.size=g2):=Hd hg2.symm;rw[←hg2]at R2;clear hg2;have HZ0:Hid (Bytes zs):=Hd (Xb1 hz);have HMX:Hid (n≤maxLen):=Hd (Lq hnc hc);have HGT:=Hd (Xfe A n c zs 4 W B HX2.out HMX.out HZ0.out);have HGB:Hid (w.heap.size≤g2):=Hd (by have:=HG2.out;omega);have hd:dat14 zs=some ⟨8,0,num (zs.drop 4) 8,key0⟩:=by unfold dat14;rw[if_neg (by omega),if_neg (by omega),if_neg (by omega),if_neg (by omega),if_pos ⟨ht,by omega⟩]
 have HD:=Hd hd;rw[HD.out];have h4:4≤n:=by omega
 have HL4:Hid (4≤n):=Hd h4;have HXT:Hid (Sees W B (tailAt A c 4) (n - 4) (bv (zs.drop 4))):=Hd (by have:=HX2.out.tail (c:=c) HL4.out HCM.out.1;simpa [bv,cv]using this);have HBW:Hid (B≤W.heap.size):=Hd (Lq hB HB2.out.size);rw[show(4:Int)=((4:Nat):Int)from rfl,Xdj (by omega) (by omega) (by omega:4≤zs.length),ht]at HGT;have HBD:Hid (∀k,Bytes (zs.drop k)):=Hd fun k=>Xb1 fun z hzz=>hz z (List.mem_of_mem_drop hzz)
 have HL:=Hd hlen;have HCL:Hid (n - 4≤c - 4∧c - 4≤maxLen):=Hd ⟨by have:=HCM.out;omega,by have:=HCM.out;omega⟩;obtain⟨ad,had⟩:∃ad,tailAt A c 4=some ad:=by
  obtain⟨a,u,e,_⟩:=HXT.out.at_ (k:=0) (by omega);exact⟨a,e⟩
 have HAD:=Hd had;rw[had]at HXT;clear had hd hx h4 HX HX2 hlen ht;subst hn;go_enter Tryz.func59,Tryz.ntmps59
 go_wp2_with (first | ((with_reducible show wpList _ _ _ (⟨some 2,_,_,_,_,_⟩::_) _ _);go_must(refine Xa0 rfl 142 rfl (askC ask0) Xar ?_)))
 rw[HG2.out,HW.out];clear HG2 HW;refine HGT.out.mono ?_;rintro e w1 ⟨rfl,rfl⟩;clear HGT;go_upto_region 16 with(first
  | ((with_reducible show wpList _ _ _ (⟨some 16,_,_,_,_,_⟩::_) _ _);go_must(refine wpList_plain rfl fun K hK=>Xae _ _ _ rfl (by simp only[List.map_toArray,List.map_cons,List.map_nil];exact Xc1 _) (hK _ _ ?_)))
  | ((with_reducible show wpList _ _ _ (⟨some 6,_,_,_,_,_⟩::_) _ _);go_must(refine Xa0 rfl 142 rfl (askC ask0) Xar ?_))
  | ((with_reducible show wpList _ _ _ (⟨none,Op.store 142 (.tmp 6) _,_,_,_,_⟩::_) _ _);go_must(refine Xa2 rfl 142 (.tmp 6) (.tmp 16) rfl (askC ⟨8,0,0,key0⟩) (Xac rfl) (Xah _) rfl ?_ ?_ ?_;go_simp;go_simp;intro w6 hr6 hb6 hz6;have R6:=Hd hr6;have R26:=Hd (R2.out.below hb6 R2.out.lt);have B6:=Hd (HB2.out.trans (hb6.mono HB2.out.size));have HZ6:=Hd hz6;have HX6:=Hd (HXT.out.below (hb6.mono HBW.out));clear hr6 hb6 hz6))
  | ((with_reducible show wpList _ _ _ (⟨some 18,_,_,_,_,_⟩::_) _ _);go_must(refine Xbe rfl 22 5 (.tmp 17) (.const (.int .i64 4)) rfl Tryz.underlying22 Xb2 A 12 c 4 ?_ ?_ HL4.out HCM.out.1 HCM.out.2 ?_;go_simp;go_simp);rw[HAD.out]))
 have HG6:Hid (W.heap.size≠g2):=Hd (by have:=R2.out.lt;omega);obtain⟨g6,hg6⟩:∃g,g=W.heap.size:=⟨_,rfl⟩;have HGE:Hid (w.heap.size≤g6):=Hd (by have:=HB2.out.size;omega);rw[←hg6]at R6 HG6 ⊢;clear hg6;have HG8:=Hd (Xfe (some ad) 8 (c - 4) (zs.drop 4) 8 w6 B HX6.out (by unfold maxLen;omega) (HBD.out 4));rw[show(8:Int)=((8:Nat):Int)from rfl,Xdj (by omega) (by omega) (by have:=HL.out;rw[List.length_drop];omega)]at HG8;have hv:∃v,v=num (zs.drop 4) 8:=⟨_,rfl⟩;obtain⟨v,hv⟩:=hv;rw[←hv]at HG8;have HV:=Hd hv;clear hv;go_wp2_with fail;refine HG8.out.mono ?_;rintro e w7 ⟨rfl,rfl⟩;have c6:=R6.out.cell 2;have f6:=R6.out.frozen 2;have R7:=Hd (show Row _ g6 142 (askC ⟨8,0,v,key0⟩)from R6.out.set_ 2 (.int .u64 v));have R27:=Hd (R26.out.far (p:=⟨g6,2,none⟩) (fun e=>HG6.out e.symm) (.int .u64 v));have BF:=Hd (B6.out.trans ((Xa6 w6 ⟨g6,2,none⟩ (.int .u64 v)).below HGE.out));clear R6 R26 B6;go_wp2_with (first
  | ((with_reducible show wpList _ _ _ (⟨some 86,_,_,_,_,_⟩::_) _ _);go_must(refine Xa1 rfl 142 (.tmp 6) rfl g6 142 (askC ⟨8,0,v,key0⟩) _ Tryz.underlying142 rfl (Xac rfl) R7.out ?_ ?_;go_simp))
  | ((with_reducible show wpList _ _ _ (⟨none,Op.store 142 (.tmp 2) _,_,_,_,_⟩::_) _ _);go_must(refine Xab rfl 142 (.tmp 2) (.tmp 86) rfl g2 (askC ask0) (askC ⟨8,0,v,key0⟩) R27.out (Xac rfl) rfl (Xah _) ?_ ?_ ?_;go_simp;go_simp;intro w9 hr9 ht9;have R9:=Hd hr9;have T9:=Hd ht9;clear hr9 ht9)))
 refine bodyPost_ret (Xaa (h:=rfl) _ w9 ⟨g2,0,none⟩ (.agg (askC ⟨8,0,v,key0⟩).toArray) (.bool true) (by rfl) (by rfl) (Xbc R9.out (Xac rfl))) rfl ?_;exact⟨by rw[HV.out];rfl,BF.out.trans (T9.out.below HGB.out)⟩
theorem data_1(A:Option Addr)(n c B:Nat)(zs:List Int)(w:World)(hlen:zs.length=n)(hx:Sees w B A n (bv zs))(hB:B≤w.heap.size)(hnc:n≤c)(hc:c≤maxLen)(hz:AllBytes zs)(hn:n=36)(ht:num zs 4=1) :
 Calls Tryz.prog 59 #[.slice A n c] w (DatDone w (dat14 zs)):=by
 have HN:=Hd hlen;have HX:=Hd hx;have HCM:=Hd (And.intro hnc hc);have R2:=Hd (Row.new w 142 (askC ask0));have HB2:=Hd ((Br w.heap.size w).alloc (Lr _) (.cells (askC ask0).toArray 142));have HX2:=Hd (hx.below ((Br w.heap.size w).alloc (Lr _) (.cells (askC ask0).toArray 142) |>.mono hB));generalize hW:w.alloc (.cells (askC ask0).toArray 142)=W at *;have HW:=Hd hW;clear hW;obtain⟨g2,hg2⟩:∃g,g=w.heap.size:=⟨_,rfl⟩;have HG2:Hid (w.heap.size=g2):=Hd hg2.symm;rw[←hg2]at R2;clear hg2;have HZ0:Hid (Bytes zs):=Hd (Xb1 hz);have HMX:Hid (n≤maxLen):=Hd (Lq hnc hc);have HGT:=Hd (Xfe A n c zs 4 W B HX2.out HMX.out HZ0.out);have HGB:Hid (w.heap.size≤g2):=Hd (by have:=HG2.out;omega);have hd:dat14 zs=some ⟨1,0,0,zs.drop 4⟩:=by unfold dat14;rw[if_neg (by omega),if_neg (by omega),if_pos ⟨ht,by omega⟩]
 have HD:=Hd hd;rw[HD.out];have h4:4≤n:=by omega
 have HL4:Hid (4≤n):=Hd h4;have HXT:Hid (Sees W B (tailAt A c 4) (n - 4) (bv (zs.drop 4))):=Hd (by have:=HX2.out.tail (c:=c) HL4.out HCM.out.1;simpa [bv,cv]using this);have HBW:Hid (B≤W.heap.size):=Hd (Lq hB HB2.out.size);rw[show(4:Int)=((4:Nat):Int)from rfl,Xdj (by omega) (by omega) (by omega:4≤zs.length),ht]at HGT;have HBD:Hid (∀k,Bytes (zs.drop k)):=Hd fun k=>Xb1 fun z hzz=>hz z (List.mem_of_mem_drop hzz)
 have HL:=Hd hlen;have HCL:Hid (n - 4≤c - 4∧c - 4≤maxLen):=Hd ⟨by have:=HCM.out;omega,by have:=HCM.out;omega⟩;obtain⟨ad,had⟩:∃ad,tailAt A c 4=some ad:=by
  obtain⟨a,u,e,_⟩:=HXT.out.at_ (k:=0) (by omega);exact⟨a,e⟩
 have HAD:=Hd had;rw[had]at HXT;clear had hd hx h4 HX HX2 hlen ht;subst hn;go_enter Tryz.func59,Tryz.ntmps59
 go_wp2_with (first | ((with_reducible show wpList _ _ _ (⟨some 2,_,_,_,_,_⟩::_) _ _);go_must(refine Xa0 rfl 142 rfl (askC ask0) Xar ?_)))
 rw[HG2.out,HW.out];clear HG2 HW;refine HGT.out.mono ?_;rintro e w1 ⟨rfl,rfl⟩;clear HGT;go_upto_region 12 with(first
  | ((with_reducible show wpList _ _ _ (⟨some 16,_,_,_,_,_⟩::_) _ _);go_must(refine wpList_plain rfl fun K hK=>Xae _ _ _ rfl (by simp only[List.map_toArray,List.map_cons,List.map_nil];exact Xc1 _) (hK _ _ ?_)))
  | ((with_reducible show wpList _ _ _ (⟨some 6,_,_,_,_,_⟩::_) _ _);go_must(refine Xa0 rfl 142 rfl (askC ask0) Xar ?_))
  | ((with_reducible show wpList _ _ _ (⟨none,Op.store 142 (.tmp 6) _,_,_,_,_⟩::_) _ _);go_must(refine Xa2 rfl 142 (.tmp 6) (.tmp 16) rfl (askC ⟨1,0,0,key0⟩) (Xac rfl) (Xah _) rfl ?_ ?_ ?_;go_simp;go_simp;intro w6 hr6 hb6 hz6;have R6:=Hd hr6;have R26:=Hd (R2.out.below hb6 R2.out.lt);have B6:=Hd (HB2.out.trans (hb6.mono HB2.out.size));have HZ6:=Hd hz6;have HX6:=Hd (HXT.out.below (hb6.mono HBW.out));clear hr6 hb6 hz6))
  | ((with_reducible show wpList _ _ _ (⟨some 18,_,_,_,_,_⟩::_) _ _);go_must(refine Xbe rfl 22 5 (.tmp 17) (.const (.int .i64 4)) rfl Tryz.underlying22 Xb2 A 36 c 4 ?_ ?_ HL4.out HCM.out.1 HCM.out.2 ?_;go_simp;go_simp);rw[HAD.out]))
 have HG6:Hid (W.heap.size≠g2):=Hd (by have:=R2.out.lt;omega);obtain⟨g6,hg6⟩:∃g,g=W.heap.size:=⟨_,rfl⟩;have HGE:Hid (w.heap.size≤g6):=Hd (by have:=HB2.out.size;omega);rw[←hg6]at R6 HG6 ⊢;clear hg6;have HOL:Hid ((zs.drop 4).length=32):=Hd (by have:=HL.out;rw[List.length_drop];omega);have HSRC:Hid (∀j u,(bv (zs.drop 4))[j]?=some u→w6.cell? (ad.add j)=some u):=Hd fun j u hu=>by
  obtain⟨a,e,_,hcell⟩:=HX6.out.cell j u hu;cases e
  exact hcell
 go_wp2_with (first
  | ((with_reducible show wpList _ _ _ (⟨some 57,_,_,_,_,_⟩::_) _ _);go_must(refine wpList_plain rfl fun K hK=>Xfp (.tmp 55) (.tmp 56) 22 22 5 rfl Tryz.underlying22 Xb2 g6 3 32 32 ad (36 - 4) (c - 4) (by go_simp) (by go_simp) (askC ⟨1,0,0,key0⟩) 142 R6.out (bv (zs.drop 4)) (by rw[bL,HOL.out];rfl) HSRC.out (by rw[bL,HOL.out];decide) (Xbj _) (fun w7 hr7 ht7=>hK _ _ ?_);have hr7':Row w7 g6 142 (askC ⟨1,0,0,zs.drop 4⟩):=(by rw[Xg2 rfl HOL.out]at hr7;exact hr7);have R7:=Hd hr7';have R27:=Hd (ht7.row R26.out (fun e=>HG6.out e.symm));have BF:=Hd (B6.out.trans (ht7.below HGE.out));clear hr7 hr7' ht7))
  | ((with_reducible show wpList _ _ _ (⟨some 86,_,_,_,_,_⟩::_) _ _);go_must(refine Xa1 rfl 142 (.tmp 6) rfl g6 142 (askC ⟨1,0,0,zs.drop 4⟩) _ Tryz.underlying142 rfl (Xac HOL.out) R7.out ?_ ?_;go_simp))
  | ((with_reducible show wpList _ _ _ (⟨none,Op.store 142 (.tmp 2) _,_,_,_,_⟩::_) _ _);go_must(refine Xab rfl 142 (.tmp 2) (.tmp 86) rfl g2 (askC ask0) (askC ⟨1,0,0,zs.drop 4⟩) R27.out (Xac HOL.out) ((Xaf (x:=ask0) rfl).trans (Xaf HOL.out).symm) (Xah _) ?_ ?_ ?_;go_simp;go_simp;intro w9 hr9 ht9;have R9:=Hd hr9;have T9:=Hd ht9;clear hr9 ht9)))
 refine bodyPost_ret (Xaa (h:=rfl) _ w9 ⟨g2,0,none⟩ (.agg (askC ⟨1,0,0,zs.drop 4⟩).toArray) (.bool true) (by rfl) (by rfl) (Xbc R9.out (Xac HOL.out))) rfl ?_;exact⟨rfl,BF.out.trans (T9.out.below HGB.out)⟩
theorem data_0(A:Option Addr)(n c B:Nat)(zs:List Int)(w:World)(hlen:zs.length=n)(hx:Sees w B A n (bv zs))(hB:B≤w.heap.size)(hnc:n≤c)(hc:c≤maxLen)(hz:AllBytes zs)(hn:n=52)(ht:num zs 4=0) :
 Calls Tryz.prog 59 #[.slice A n c] w (DatDone w (dat14 zs)):=by
 have HN:=Hd hlen;have HX:=Hd hx;have HCM:=Hd (And.intro hnc hc);have R2:=Hd (Row.new w 142 (askC ask0));have HB2:=Hd ((Br w.heap.size w).alloc (Lr _) (.cells (askC ask0).toArray 142));have HX2:=Hd (hx.below ((Br w.heap.size w).alloc (Lr _) (.cells (askC ask0).toArray 142) |>.mono hB));generalize hW:w.alloc (.cells (askC ask0).toArray 142)=W at *;have HW:=Hd hW;clear hW;obtain⟨g2,hg2⟩:∃g,g=w.heap.size:=⟨_,rfl⟩;have HG2:Hid (w.heap.size=g2):=Hd hg2.symm;rw[←hg2]at R2;clear hg2;have HZ0:Hid (Bytes zs):=Hd (Xb1 hz);have HMX:Hid (n≤maxLen):=Hd (Lq hnc hc);have HGT:=Hd (Xfe A n c zs 4 W B HX2.out HMX.out HZ0.out);have HGB:Hid (w.heap.size≤g2):=Hd (by have:=HG2.out;omega);have hd:dat14 zs=some ⟨0,num (zs.drop 4) 8,num (zs.drop 12) 8,zs.drop 20⟩:=by unfold dat14;rw[if_neg (by omega),if_pos ⟨ht,by omega⟩]
 have HD:=Hd hd;rw[HD.out];have h4:4≤n:=by omega
 have HL4:Hid (4≤n):=Hd h4;have HXT:Hid (Sees W B (tailAt A c 4) (n - 4) (bv (zs.drop 4))):=Hd (by have:=HX2.out.tail (c:=c) HL4.out HCM.out.1;simpa [bv,cv]using this);have HBW:Hid (B≤W.heap.size):=Hd (Lq hB HB2.out.size);rw[show(4:Int)=((4:Nat):Int)from rfl,Xdj (by omega) (by omega) (by omega:4≤zs.length),ht]at HGT;have HBD:Hid (∀k,Bytes (zs.drop k)):=Hd fun k=>Xb1 fun z hzz=>hz z (List.mem_of_mem_drop hzz)
 have HL:=Hd hlen;have HCL:Hid (n - 4≤c - 4∧c - 4≤maxLen):=Hd ⟨by have:=HCM.out;omega,by have:=HCM.out;omega⟩;obtain⟨ad,had⟩:∃ad,tailAt A c 4=some ad:=by
  obtain⟨a,u,e,_⟩:=HXT.out.at_ (k:=0) (by omega);exact⟨a,e⟩
 have HAD:=Hd had;rw[had]at HXT;clear had hd hx h4 HX HX2 hlen ht;subst hn;go_enter Tryz.func59,Tryz.ntmps59
 go_wp2_with (first | ((with_reducible show wpList _ _ _ (⟨some 2,_,_,_,_,_⟩::_) _ _);go_must(refine Xa0 rfl 142 rfl (askC ask0) Xar ?_)))
 rw[HG2.out,HW.out];clear HG2 HW;refine HGT.out.mono ?_;rintro e w1 ⟨rfl,rfl⟩;clear HGT;go_upto_region 8 with(first
  | ((with_reducible show wpList _ _ _ (⟨some 16,_,_,_,_,_⟩::_) _ _);go_must(refine wpList_plain rfl fun K hK=>Xae _ _ _ rfl (by simp only[List.map_toArray,List.map_cons,List.map_nil];exact Xc1 _) (hK _ _ ?_)))
  | ((with_reducible show wpList _ _ _ (⟨some 6,_,_,_,_,_⟩::_) _ _);go_must(refine Xa0 rfl 142 rfl (askC ask0) Xar ?_))
  | ((with_reducible show wpList _ _ _ (⟨none,Op.store 142 (.tmp 6) _,_,_,_,_⟩::_) _ _);go_must(refine Xa2 rfl 142 (.tmp 6) (.tmp 16) rfl (askC ⟨0,0,0,key0⟩) (Xac rfl) (Xah _) rfl ?_ ?_ ?_;go_simp;go_simp;intro w6 hr6 hb6 hz6;have R6:=Hd hr6;have R26:=Hd (R2.out.below hb6 R2.out.lt);have B6:=Hd (HB2.out.trans (hb6.mono HB2.out.size));have HZ6:=Hd hz6;have HX6:=Hd (HXT.out.below (hb6.mono HBW.out));clear hr6 hb6 hz6))
  | ((with_reducible show wpList _ _ _ (⟨some 18,_,_,_,_,_⟩::_) _ _);go_must(refine Xbe rfl 22 5 (.tmp 17) (.const (.int .i64 4)) rfl Tryz.underlying22 Xb2 A 52 c 4 ?_ ?_ HL4.out HCM.out.1 HCM.out.2 ?_;go_simp;go_simp);rw[HAD.out]))
 have HG6:Hid (W.heap.size≠g2):=Hd (by have:=R2.out.lt;omega);obtain⟨g6,hg6⟩:∃g,g=W.heap.size:=⟨_,rfl⟩;have HGE:Hid (w.heap.size≤g6):=Hd (by have:=HB2.out.size;omega);rw[←hg6]at R6 HG6 ⊢;clear hg6;have HOL:Hid ((zs.drop 20).length=32):=Hd (by have:=HL.out;rw[List.length_drop];omega);have HG8:=Hd (Xfe (some ad) 48 (c - 4) (zs.drop 4) 8 w6 B HX6.out (by unfold maxLen;omega) (HBD.out 4));rw[show(8:Int)=((8:Nat):Int)from rfl,Xdj (by omega) (by omega) (by have:=HL.out;rw[List.length_drop];omega)]at HG8;obtain⟨v,hv⟩:∃v,v=num (zs.drop 4) 8:=⟨_,rfl⟩;rw[←hv]at HG8;have HV:=Hd hv;clear hv;go_wp2_with fail;refine HG8.out.mono ?_;rintro e w7 ⟨rfl,rfl⟩;have c6:=R6.out.cell 1;have f6:=R6.out.frozen 1;have R7:=Hd (show Row _ g6 142 (askC ⟨0,v,0,key0⟩)from R6.out.set_ 1 (.int .u64 v));have R27:=Hd (R26.out.far (p:=⟨g6,1,none⟩) (fun e=>HG6.out e.symm) (.int .u64 v));have B7:=Hd (B6.out.trans ((Xa6 w6 ⟨g6,1,none⟩ (.int .u64 v)).below HGE.out));have HBG:Hid (B≤g6):=Hd (Lq hB HGE.out);have X7:=Hd (HX6.out.below ((Xa6 w6 ⟨g6,1,none⟩ (.int .u64 v)).below HBG.out));clear R6 R26 B6 HX6 HG8;go_upto_region 9 with fail
 clear c6 f6;generalize w6.setCell ⟨g6,1,none⟩ (.int .u64 v)=w7 at *;have X8:Hid (Sees w7 B (tailAt (some ad) (c - 4) 8) 40 (bv (zs.drop 12))):=Hd (by have:=X7.out.tail (c:=c - 4) (k:=8) (by decide) (by have:=HCL.out.1;omega);simpa [bv,cv,List.drop_drop]using this);have HG9:=Hd (Xfe (tailAt (some ad) (c - 4) 8) 40 (c - 4 - 8) (zs.drop 12) 8 w7 B X8.out (by unfold maxLen;omega) (HBD.out 12));rw[show(8:Int)=((8:Nat):Int)from rfl,Xdj (by omega) (by omega) (by have:=HL.out;rw[List.length_drop];omega)]at HG9;obtain⟨v2,hv2⟩:∃v,v=num (zs.drop 12) 8:=⟨_,rfl⟩;rw[←hv2]at HG9;have HV2:=Hd hv2;clear hv2;go_wp2_with (first | ((with_reducible show wpList _ _ _ (⟨some 36,_,_,_,_,_⟩::_) _ _);go_must(refine Xbe rfl 22 5 (.tmp 35) (.const (.int .i64 8)) rfl Tryz.underlying22 Xb2 (some ad) 48 (c - 4) 8 ?_ ?_ (by decide) (by have:=HCL.out.1;omega) HCL.out.2 ?_;go_simp;go_simp)))
 refine HG9.out.mono ?_;rintro e w8 ⟨rfl,rfl⟩;have c7:=R7.out.cell 2;have f7:=R7.out.frozen 2;have R8:=Hd (show Row _ g6 142 (askC ⟨0,v,v2,key0⟩)from R7.out.set_ 2 (.int .u64 v2));have R28:=Hd (R27.out.far (p:=⟨g6,2,none⟩) (fun e=>HG6.out e.symm) (.int .u64 v2));have B8:=Hd (B7.out.trans ((Xa6 w7 ⟨g6,2,none⟩ (.int .u64 v2)).below HGE.out));have Y8:=Hd (X7.out.below ((Xa6 w7 ⟨g6,2,none⟩ (.int .u64 v2)).below HBG.out));clear R7 R27 B7 X7 X8 HG9;go_upto_region 10 with fail
 clear c7 f7;generalize w7.setCell ⟨g6,2,none⟩ (.int .u64 v2)=w8 at *;have Y9:Hid (Sees w8 B (tailAt (some ad) (c - 4) 16) 32 (bv (zs.drop 20))):=Hd (by have:=Y8.out.tail (c:=c - 4) (k:=16) (by decide) (by have:=HCL.out.1;omega);simpa [bv,cv,List.drop_drop]using this);obtain⟨ae,hae⟩:∃ae,tailAt (some ad) (c - 4) 16=some ae:=by
  obtain⟨a,u,e,_⟩:=Y9.out.at_ (k:=0) (by omega);exact⟨a,e⟩
 have HAE:=Hd hae;rw[hae]at Y9;clear hae;have HSRC:Hid (∀j u,(bv (zs.drop 20))[j]?=some u→w8.cell? (ae.add j)=some u):=Hd fun j u hu=>by
  obtain⟨a,e,_,hcell⟩:=Y9.out.cell j u hu;cases e
  exact hcell
 refine wp_region_held_drew (S:=(fun V=>True)) (by kernel_rfl) trivial (fun _=>?_);refine Tk 0 rfl ?_ trivial ?_ ⟨?_,rfl⟩
 ·intro w hw;(try dsimp only at hw);go_simp;try with_reducible rfl
 try simp only[nm]
 refine Tk 1 rfl ?_ trivial ?_ ⟨?_,rfl⟩
 ·intro w hw;(try dsimp only at hw);go_simp;try with_reducible rfl
 try simp only[nm]
 refine Tk 2 rfl ?_ trivial ?_ ⟨?_,rfl⟩
 ·intro w hw;(try dsimp only at hw);go_simp;try with_reducible rfl
 try simp only[nm]
 refine Tl 3 (v:=.slice (some ae) 32 (c - 4 - 16)) rfl (Or.inl ⟨by rfl,fun wz hwz=>by rw[←HAE.out];exact Xm8 22 5 (.tmp 43) (.const (.int .i64 16)) rfl Tryz.underlying22 Xb2 (some ad) 48 (c - 4) 16 (by go_simp) (by go_simp) (by decide) (by have:=HCL.out.1;omega) HCL.out.2⟩) trivial ?_;try simp only[nm]
 refine Rl 4 rfl fun K hK=>?_
 refine Xfp (.tmp 42) (.tmp 44) 22 22 5 rfl Tryz.underlying22 Xb2 g6 3 32 32 ae 32 (c - 4 - 16) (by go_simp) (by go_simp) (askC ⟨0,v,v2,key0⟩) 142 R8.out.drew (bv (zs.drop 20)) (by rw[bL,HOL.out];rfl) HSRC.out (by rw[bL,HOL.out,Xaf rfl];decide) (Xbj _) (fun w9' hr7 ht7=>?_);rw[Xg2 rfl HOL.out]at hr7;have R7:=Hd hr7;have R27:=Hd (ht7.row R28.out.drew (fun e=>HG6.out e.symm));have BF:=Hd ((show Below w.heap.size w w8.drew from B8.out.trans ⟨rfl,rfl,rfl,Lr _,fun _ _=>rfl⟩).trans (ht7.below HGE.out));clear hr7 ht7 R8 R28 B8;refine hK.out _ _ trivial ?_;clear hK K;try simp only[Act.put]
 refine wpAnyH_done (by kernel_rfl) ?_ _;go_wp2_with (first
  | ((with_reducible show wpList _ _ _ (⟨some 86,_,_,_,_,_⟩::_) _ _);go_must(refine Xa1 rfl 142 (.tmp 6) rfl g6 142 (askC ⟨0,v,v2,zs.drop 20⟩) _ Tryz.underlying142 rfl (Xac HOL.out) R7.out ?_ ?_;go_simp))
  | ((with_reducible show wpList _ _ _ (⟨none,Op.store 142 (.tmp 2) _,_,_,_,_⟩::_) _ _);go_must(refine Xab rfl 142 (.tmp 2) (.tmp 86) rfl g2 (askC ask0) (askC ⟨0,v,v2,zs.drop 20⟩) R27.out (Xac HOL.out) ((Xaf (x:=ask0) rfl).trans (Xaf HOL.out).symm) (Xah _) ?_ ?_ ?_;go_simp;go_simp;intro w9 hr9 ht9;have R9:=Hd hr9;have T9:=Hd ht9;clear hr9 ht9)))
 refine bodyPost_ret (Xaa (h:=rfl) _ w9 ⟨g2,0,none⟩ (.agg (askC ⟨0,v,v2,zs.drop 20⟩).toArray) (.bool true) (by rfl) (by rfl) (Xbc R9.out (Xac HOL.out))) rfl ?_;exact⟨by rw[HV.out,HV2.out];rfl,BF.out.trans (T9.out.below HGB.out)⟩
theorem Xb7(A:Option Addr)(n c B:Nat)(zs:List Int)(w:World)(hx:Sees w B A n (bv zs))(hB:B≤w.heap.size)(hnc:n≤c)(hc:c≤maxLen)(hz:AllBytes zs) :
 Calls Tryz.prog 59 #[.slice A n c] w (DatDone w (dat14 zs)):=by
 have hlen:zs.length=n:=by have:=hx.len;rwa [bL]at this
 by_cases h4:n<4
 ·exact Xnq A n c B zs w hlen hx hB hnc hc hz h4
 by_cases a0:num zs 4=0∧n=52
 ·exact data_0 A n c B zs w hlen hx hB hnc hc hz a0.2 a0.1
 by_cases a1:num zs 4=1∧n=36
 ·exact data_1 A n c B zs w hlen hx hB hnc hc hz a1.2 a1.1
 by_cases a2:num zs 4=2∧n=12
 ·exact data_2 A n c B zs w hlen hx hB hnc hc hz a2.2 a2.1
 by_cases a8:num zs 4=8∧n=12
 ·exact data_8 A n c B zs w hlen hx hB hnc hc hz a8.2 a8.1
 refine Xou A n c B zs w hlen hx hB hnc hc hz (by omega) _ rfl ?_ (fun e h=>a0 ⟨e,h⟩) (fun e h=>a1 ⟨e,h⟩) (fun e h=>a2 ⟨e,h⟩) (fun e h=>a8 ⟨e,h⟩);unfold dat14;rw[hlen,if_neg h4,if_neg a0,if_neg a1,if_neg a2,if_neg a8]
end Go.Proofs.YtaljfbbieefooaaGreatDoor
