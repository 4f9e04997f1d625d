import Derived.Test.YtkhcgclnmdgpbaaDoorM13
set_option maxRecDepth 100000
set_option maxHeartbeats 16000000
set_option linter.unusedSimpArgs false
set_option linter.unusedVariables false
namespace Go.Proofs.YtkhcgclnmdgpbaaDoor
open Go.RowKit
theorem Xe2:(Tryd.prog.info? 48).map (fun i=>(i.zero,i.size,i.bytes))=some (some (.agg zrdC.toArray),48,232):=by kernel_rfl
theorem Xf9:(Value.agg zrdC.toArray).cells.size=48:=by kernel_rfl
theorem Xfe(gi gr:Nat):((q15x gi gr).cells rd16x).length=48:=by kernel_rfl
theorem Xi6{w:World}{B n:Nat}{A:Option Addr}{l:List (YRaw × LReady)}(hc:CsIn 48 w B A n (l.map fun p=>p.1.cells p.2))(he:∀(k:Nat) (p:YRaw × LReady),l[k]?=some p→ReadyIn w B p.1 p.2):RdsIn w B A n l:=by
 have hl:l.length=n:=by have:=hc.len;rwa [List.length_map]at this
 refine⟨hl,he,fun k p hp=>?_⟩;obtain⟨a,x,e,hb,hx,_,hcs⟩:=hc.get (k:=k) (by rw[←hl];exact(List.getElem?_eq_some_iff.1 hp).1) (by omega);rw[List.getElem?_map,hp]at hx;injection hx with hx
 subst hx;exact⟨a,e,hb,hcs⟩
theorem Xfx{o:Oper}{a:Act}{w:World}{K:Act→World→Prop}{Q:Exit→Act→World→Prop}(x:Operand)(ho:o.op=.field 72 x 0)(y:LAcc)(hx:a.eval x=.agg y.cells.toArray)(h:K (a.put o.dst (.int .u64 y.c)) w):o.wp Tryd.prog a w K Q:=by
 have hp:(part 44 y.cells.toArray 0).run Tryd.prog w=.ok (.int .u64 y.c) w:=Xcb _ 0 w rfl;have hf:(execOp a.eval o).run Tryd.prog w=.ok (.value (.int .u64 y.c)) w:=by
  unfold execOp;rw[ho];simp only[hx];unfold Instr.field;have h0:y.cells.toArray[0]?=some (.int .u64 y.c):=rfl;go_simp;simp[asAgg,h0,Result.andThen]
 unfold Oper.wp;rw[hf];exact h
def h16a:LHold:=⟨kx15 8,ac15x 12000⟩
def h16b:LHold:=⟨kx15 9,ac15x 3000⟩
def o16x:LOut:=⟨0,-1,150,5000,0,[h16a,h16b]⟩
def s16a:List LHold:=[h16a,h16b]
def s16b:List LHold:=[⟨kx15 8,ac15x 20000⟩,h16b]
def f16x:F16:=fold16 [rd16x,rd16x,rd16x] ⟨[],0,0,s16b⟩
theorem Xrz:apply16 st15x rd16x=((o16x,0),s16a):=by kernel_rfl
theorem put16x:putH s16a (kx15 8) (ac15x 20000)=s16b:=by kernel_rfl
theorem Xtd:f16x.outs.length=2∧f16x.fees=10000∧f16x.e=22∧getH f16x.L (kx15 8)=ac15x 4000:=by
 refine⟨?_,?_,?_,?_⟩ <;> kernel_rfl
theorem get16a:getH s16a (kx15 8)=ac15x 12000:=by kernel_rfl
theorem get16b:getH s16a (kx15 9)=ac15x 3000:=by kernel_rfl
theorem Xss(gi gr:Nat):RdP16 (q15x gi gr) rd16x:=⟨⟨fun r hr=>Xlu r hr,fun a ha=>by obtain rfl:=List.mem_singleton.1 ha;exact⟨Xom,Xoy⟩,by decide⟩,fun a ha=>by obtain rfl:=List.mem_singleton.1 ha;exact⟨by decide,by decide⟩,by decide,⟨by simp[q15x],fun a ha=>by obtain rfl:=List.mem_singleton.1 ha;decide⟩,by simp[q15x]⟩
theorem len16x(k:Nat):(sto16 s16b [(q15x 0 0,rd16x),(q15x 0 0,rd16x),(q15x 0 0,rd16x)] k).length≤1000:=by
 match k with
 | 0=>decide +kernel
 | 1=>decide +kernel
 | 2=>decide +kernel
 | k+3=>exact(by decide +kernel:(sto16 s16b [(q15x 0 0,rd16x),(q15x 0 0,rd16x),(q15x 0 0,rd16x)] 3).length≤1000)
theorem Xoc(L:List LHold)(q:YRaw)(k:Nat):sto16 L [(q,rd16x),(q,rd16x),(q,rd16x)] k=sto16 L [(q15x 0 0,rd16x),(q15x 0 0,rd16x),(q15x 0 0,rd16x)] k:=by
 unfold sto16;rw[List.map_take,List.map_take];rfl
theorem Xiq(w:World)(htw:TypAt w):Calls Tryd.prog 5 #[] w fun e w'=>e=.returned (.bool true)∧Below w.heap.size w w':=by
 have HT:=Hd htw;have HA:=Hd Xnh;have HKN:=Hd Xql;have HKM:=Hd Xpy;have HPUT:=Hd put15x;have HAP:=Hd Xrz;have HPU2:=Hd put16x;have HFX:=Hd Xtd;have HGA:=Hd get16a;have HGB:=Hd get16b;clear htw;go_enter Tryd.func5,Tryd.ntmps5
 go_upto_region 2 with(first
  | ((with_reducible show wpList _ _ _ (⟨some 10,_,_,_,_,_⟩::_) _ _);go_must(refine wpList_plain rfl fun K hK=>Xau _ _ _ rfl (by simp only[List.map_toArray,List.map_cons,List.map_nil];exact HKN.out) (hK _ _ ?_)))
  | ((with_reducible show wpList _ _ _ (⟨none,Op.store 68 (.tmp 1) _,_,_,_,_⟩::_) _ _);go_must(refine Xa6 rfl 68 (.tmp 1) (.tmp 10) rfl (bv (kx15 8)) (by kernel_rfl) (Xcd _) rfl ?_ ?_ ?_;go_simp;go_simp;intro w1 hr1 hb1 hz1)))
 have R1:=Hd hr1;have B1:=Hd hb1;obtain⟨g1,hg1⟩:∃g,g=w.heap.size:=⟨_,rfl⟩;rw[←hg1]at R1 ⊢;have HG1:Hid (w.heap.size≤g1):=Hd (by omega);clear hr1 hb1 hz1 hg1;go_upto_region 3 with(first
  | ((with_reducible show wpList _ _ _ (⟨some 11,_,_,_,_,_⟩::_) _ _);go_must(refine wpList_plain rfl fun K hK=>Xau _ _ _ rfl (by simp only[List.map_toArray,List.map_cons,List.map_nil];exact HKM.out) (hK _ _ ?_)))
  | ((with_reducible show wpList _ _ _ (⟨none,Op.store 68 (.tmp 2) _,_,_,_,_⟩::_) _ _);go_must(refine Xa6 rfl 68 (.tmp 2) (.tmp 11) rfl (bv (kx15 9)) (by kernel_rfl) (Xcd _) rfl ?_ ?_ ?_;go_simp;go_simp;intro w2 hr2 hb2 hz2)))
 have R2:=Hd hr2;have HX0:Hid (Below w1.heap.size w1 w2):=Hd hb2;obtain⟨g2,hg2⟩:∃g,g=w1.heap.size:=⟨_,rfl⟩;rw[←hg2]at R2 ⊢;have X2:Hid (LX15 w w2 g1 g2):=Hd ⟨B1.out.trans (HX0.out.mono B1.out.size),R1.out.below HX0.out R1.out.lt,R2.out,HG1.out,by rw[hg2];exact B1.out.size⟩;clear hr2 hb2 hz2 hg2 HX0 R1 R2 B1 HG1;go_wp2_with (first
  | ((with_reducible show wpList _ _ _ (⟨some 12,_,_,_,_,_⟩::_) _ _);go_must(refine Xa3 rfl 68 (.tmp 1) rfl g1 _ (bv (kx15 8)) _ Tryd.underlying68 rfl (by kernel_rfl) X2.out.r1 ?_ ?_;go_simp))
  | ((with_reducible show wpList _ _ _ (⟨some 13,_,_,_,_,_⟩::_) _ _);go_must(refine Xa3 rfl 68 (.tmp 2) rfl g2 _ (bv (kx15 9)) _ Tryd.underlying68 rfl (by kernel_rfl) X2.out.r2 ?_ ?_;go_simp)))
 refine(move16 w2).mono ?_;rintro e w3 ⟨gi,gr,rfl,hrd,hb3⟩;have RD3:=Hd hrd;have X3:=Hd (X2.out.below hb3);clear hrd hb3 X2;go_upto_region 4 with(first
  | ((with_reducible show wpList _ _ _ (⟨some 3,_,_,_,_,_⟩::_) _ _);go_must(refine Xa2 rfl 48 rfl zrdC Xmf ?_))
  | ((with_reducible show wpList _ _ _ (⟨none,Op.store 48 (.tmp 3) _,_,_,_,_⟩::_) _ _);go_must(refine Xa6 rfl 48 (.tmp 3) (.tmp 14) rfl ((q15x gi gr).cells rd16x) (Xbj _ _) (Xf4 _ _) rfl ?_ ?_ ?_;go_simp;go_simp;intro w4 hr4 hb4 hz4)))
 have R4:=Hd hr4;have X4:=Hd (X3.out.below hb4);have RD4:=Hd ((RD3.out.below hb4).more hb4.size);obtain⟨g3,hg3⟩:∃g,g=w3.heap.size:=⟨_,rfl⟩;rw[←hg3]at R4 ⊢;clear hr4 hb4 hz4 hg3 X3 RD3;go_wp2_with fail;refine(new13 w4).mono ?_;rintro e w5 ⟨sb,mb,rfl,hst,hsl,hml,hb5⟩;have X5:=Hd (X4.out.below hb5);have R5:=Hd (R4.out.below hb5 R4.out.lt);have RD5:=Hd (RD4.out.below hb5);have HML:Hid (w.heap.size≤mb∧g1≠mb∧g2≠mb∧w4.heap.size≤mb):=Hd (by have h1:=X4.out.r1.lt;have h2:=X4.out.r2.lt;have h3:=X4.out.b.size;omega);have S5:=Hd hst;have H45:=Hd hb5.size;clear hst hsl hml hb5 X4 R4 RD4;go_wp2_with (first
  | ((with_reducible show wpList _ _ _ (⟨some 17,_,_,_,_,_⟩::_) _ _);go_must(refine Xa3 rfl 68 (.tmp 1) rfl g1 _ (bv (kx15 8)) _ Tryd.underlying68 rfl (by kernel_rfl) X5.out.r1 ?_ ?_;go_simp))
  | ((with_reducible show wpList _ _ _ (⟨some 18,_,_,_,_,_⟩::_) _ _);go_must(refine wpList_plain rfl fun K hK=>Xau _ _ _ rfl (by simp only[List.map_toArray,List.map_cons,List.map_nil];exact HA.out 20000) (hK _ _ ?_)))
  | fail)
 refine(put13 sb mb [] (kx15 8) (ac15x 20000) w5 S5.out (Xeo (by omega)) (Xlt (by omega)) (by simp)).mono ?_;rintro e w6 ⟨rfl,hst,hg6⟩;rw[HPUT.out]at hst;have S6:=Hd hst;have X6:=Hd (X5.out.grown hg6 HML.out.1 HML.out.2.1 HML.out.2.2.1);have R6:=Hd (R5.out.grown hg6 (fun e=>S5.out.row_ne R5.out (Option.some.inj e)));have RD6:=Hd (RD5.out.keep (Xg3 S5.out S6.out hg6 H45.out));have H46:=Hd (Lq H45.out hg6.size);clear hst hg6 X5 R5 RD5 S5 HPUT H45;have HAC:=Hd (Xsz sb mb st15x (q15x gi gr) rd16x w4.heap.size w6 S6.out RD6.out (Xss gi gr) H46.out (by simp[st15x,q15x]) (HT.out.below X6.out.b HT.out.pos));rw[HAP.out]at HAC;clear HAP;go_wp2_with ((with_reducible show wpList _ _ _ (⟨some 22,_,_,_,_,_⟩::_) _ _);go_must(refine Xa3 rfl 48 (.tmp 3) rfl g3 _ ((q15x gi gr).cells rd16x) _ Tryd.underlying48 rfl (Xbj _ _) R6.out ?_ ?_;go_simp))
 refine HAC.out.mono ?_;rintro e w7 ⟨A7,c7,rfl,ho7,hs7,hg7⟩;have S7:=Hd hs7;have X7:=Hd (X6.out.grown hg7 HML.out.1 HML.out.2.1 HML.out.2.2.1);have R7:=Hd (R6.out.grown hg7 (fun e=>S6.out.row_ne R6.out (Option.some.inj e)));have RD7:=Hd (RD6.out.keep (Xg3 S6.out S7.out hg7 H46.out));have H47:=Hd (Lq H46.out hg7.size);clear ho7 hs7 hg7 X6 R6 RD6 S6 HAC H46;go_upto_region 7 with(first
  | ((with_reducible show wpList _ _ _ (⟨some 5,_,_,_,_,_⟩::_) _ _);go_must(refine Xa2 rfl 60 rfl (out0.cells (.slice none 0 0)) Xbh ?_))
  | ((with_reducible show wpList _ _ _ (⟨none,Op.store 60 (.tmp 5) _,_,_,_,_⟩::_) _ _);go_must(refine Xa6 rfl 60 (.tmp 5) (.tmp 24) rfl (o16x.cells (.slice A7 o16x.ch.length o16x.ch.length)) (Xag _ _) (Xbe _ rfl) rfl ?_ ?_ ?_;go_simp;go_simp;intro w8 hr8 hb8 hz8)))
 have R8:=Hd hr8;have S8:=Hd (S7.out.below hb8);have X8:=Hd (X7.out.below hb8);have R38:=Hd (R7.out.below hb8 R7.out.lt);have RD8:=Hd (RD7.out.below (hb8.mono H47.out));have H48:=Hd (Lq H47.out hb8.size);obtain⟨g5,hg5⟩:∃g,g=w7.heap.size:=⟨_,rfl⟩;rw[←hg5]at R8 ⊢;clear hr8 hb8 hz8 hg5 S7 X7 R7 RD7 H47;have oc:w8.cell? ⟨g5,3,none⟩=some (.int .u64 5000):=R8.out.cell 3;go_wp2_with (first
  | ((with_reducible show wpList _ _ _ (⟨some 35,_,_,_,_,_⟩::_) _ _);go_must(refine Xb8 (by kernel_rfl) 68 (.tmp 2) rfl ⟨g2,0,none⟩ (bv (kx15 9)) _ Tryd.underlying68 rfl (by kernel_rfl) (fun j v hv=>by rw[Xac,Nat.zero_add];exact(X8.out.r2.cell j).trans hv) ?_ ?_;go_simp))
  | fail)
 refine(get13 sb mb s16a (kx15 9) w8 S8.out (Xeo (by omega))).mono ?_;rintro e w9 ⟨rfl,hb9⟩;rw[HGB.out];have S9:=Hd (S8.out.below hb9);have X9:=Hd (X8.out.below hb9);have R39:=Hd (R38.out.below hb9 R38.out.lt);have RD9:=Hd (RD8.out.below (hb9.mono H48.out));have H49:=Hd (Lq H48.out hb9.size);clear hb9 S8 X8 R38 RD8 H48 oc R8;go_wp2_with (first
  | ((with_reducible show wpList _ _ _ (⟨some 42,_,_,_,_,_⟩::_) _ _);go_must(refine Xb8 (by kernel_rfl) 68 (.tmp 1) rfl ⟨g1,0,none⟩ (bv (kx15 8)) _ Tryd.underlying68 rfl (by kernel_rfl) (fun j v hv=>by rw[Xac,Nat.zero_add];exact(X9.out.r1.cell j).trans hv) ?_ ?_;go_simp))
  | ((with_reducible show wpList _ _ _ (⟨some 37,_,_,_,_,_⟩::_) _ _);go_must(refine BigFrame.wpList_want (by kernel_rfl) fun K hK=>Xfx (.tmp 36) rfl (ac15x 3000) (by go_simp) (hK _ _ ?_)))
  | fail)
 refine(get13 sb mb s16a (kx15 8) w9 S9.out (Xeo (by omega))).mono ?_;rintro e w10 ⟨rfl,hb10⟩;rw[HGA.out];have S10:=Hd (S9.out.below hb10);have X10:=Hd (X9.out.below hb10);have R310:=Hd (R39.out.below hb10 R39.out.lt);have RD10:=Hd (RD9.out.below (hb10.mono H49.out));have H410:=Hd (Lq H49.out hb10.size);clear hb10 S9 X9 R39 RD9 H49;go_wp2_with (first
  | ((with_reducible show wpList _ _ _ (⟨some 44,_,_,_,_,_⟩::_) _ _);go_must(refine BigFrame.wpList_want (by kernel_rfl) fun K hK=>Xfx (.tmp 43) rfl (ac15x 12000) (by go_simp) (hK _ _ ?_)))
  | ((with_reducible show wpList _ _ _ (⟨some 48,_,_,_,_,_⟩::_) _ _);go_must(refine Xa3 rfl 68 (.tmp 1) rfl g1 _ (bv (kx15 8)) _ Tryd.underlying68 rfl (by kernel_rfl) X10.out.r1 ?_ ?_;go_simp))
  | ((with_reducible show wpList _ _ _ (⟨some 49,_,_,_,_,_⟩::_) _ _);go_must(refine wpList_plain rfl fun K hK=>Xau _ _ _ rfl (by simp only[List.map_toArray,List.map_cons,List.map_nil];exact HA.out 20000) (hK _ _ ?_)))
  | fail)
 refine(put13 sb mb s16a (kx15 8) (ac15x 20000) w10 S10.out (Xeo (by omega)) (Xlt (by omega)) (by simp[s16a])).mono ?_;rintro e w11 ⟨rfl,hst,hg11⟩;rw[HPU2.out]at hst;have S11:=Hd hst;have X11:=Hd (X10.out.grown hg11 HML.out.1 HML.out.2.1 HML.out.2.2.1);have R11:=Hd (R310.out.grown hg11 (fun e=>S10.out.row_ne R310.out (Option.some.inj e)));have RD11:=Hd (RD10.out.keep (Xg3 S10.out S11.out hg11 H410.out));have H411:=Hd (Lq H410.out hg11.size);clear hst hg11 X10 R310 RD10 S10 HPU2 H410;go_wp2_with (first
  | ((with_reducible show wpList _ _ _ (⟨some 53,_,_,_,_,_⟩::_) _ _);go_must(refine Xa3 rfl 48 (.tmp 3) rfl g3 _ ((q15x gi gr).cells rd16x) _ Tryd.underlying48 rfl (Xbj _ _) R11.out ?_ ?_;go_simp))
  | ((with_reducible show wpList _ _ _ (⟨some 54,_,_,_,_,_⟩::_) _ _);go_must(refine Xa3 rfl 48 (.tmp 3) rfl g3 _ ((q15x gi gr).cells rd16x) _ Tryd.underlying48 rfl (Xbj _ _) R11.out ?_ ?_;go_simp))
  | ((with_reducible show wpList _ _ _ (⟨some 55,_,_,_,_,_⟩::_) _ _);go_must(refine Xa3 rfl 48 (.tmp 3) rfl g3 _ ((q15x gi gr).cells rd16x) _ Tryd.underlying48 rfl (Xbj _ _) R11.out ?_ ?_;go_simp))
  | ((with_reducible show wpList _ _ _ (⟨some 56,_,_,_,_,_⟩::_) _ _);go_must(refine wpList_plain rfl fun K hK=>Xc3 23 48 (.tmp 53) (.tmp 54) (.tmp 55) rfl ((q15x gi gr).cells rd16x) ((q15x gi gr).cells rd16x) ((q15x gi gr).cells rd16x) _ 48 232 Tryd.underlying23 Xe2 Xf9 (by omega) (by omega) (Xfe _ _) (Xfe _ _) (Xfe _ _) (by go_simp) (by go_simp) (by go_simp) (hK _ _ ?_)))
  | fail)
 have hb12:=(Br w11.heap.size w11).alloc (Lr _) (.cells (((q15x gi gr).cells rd16x)++(((q15x gi gr).cells rd16x)++((q15x gi gr).cells rd16x))).toArray 48);have R12:=Row.new w11 48 (((q15x gi gr).cells rd16x)++(((q15x gi gr).cells rd16x)++((q15x gi gr).cells rd16x)));have S12:=S11.out.below hb12;have X12:=Hd (X11.out.below hb12);have RD12:=(RD11.out.below (hb12.mono H411.out)).more (Lq H411.out hb12.size);have hall:∀(k:Nat) (p:YRaw × LReady),([(q15x gi gr,rd16x),(q15x gi gr,rd16x),(q15x gi gr,rd16x)]:List (YRaw × LReady))[k]?=some p→p=(q15x gi gr,rd16x):=fun k p hp=>by
  have:=List.mem_of_getElem? hp;simpa using this
 have hcs:CsIn 48 (w11.alloc (.cells (((q15x gi gr).cells rd16x)++(((q15x gi gr).cells rd16x)++((q15x gi gr).cells rd16x))).toArray 48)) (w11.alloc (.cells (((q15x gi gr).cells rd16x)++(((q15x gi gr).cells rd16x)++((q15x gi gr).cells rd16x))).toArray 48)).heap.size (some ⟨w11.heap.size,0,none⟩) 3 (([(q15x gi gr,rd16x),(q15x gi gr,rd16x),(q15x gi gr,rd16x)]:List (YRaw × LReady)).map fun p=>p.1.cells p.2):=by
  refine Xm9 (ys:=[]) (t:=48) ?_ rfl (fun k hk=>?_) (by simp)
  ·simpa using R12
  ·simp only[List.map_cons,List.map_nil,List.mem_cons,List.not_mem_nil,or_false]at hk;rcases hk with rfl | rfl | rfl <;> exact Xfe gi gr
 have HFC:Hid (Calls Tryd.prog 10 #[.pointer (some ⟨sb,0,none⟩),.slice (some ⟨w11.heap.size,0,none⟩) 3 3] (w11.alloc (.cells (((q15x gi gr).cells rd16x)++(((q15x gi gr).cells rd16x)++((q15x gi gr).cells rd16x))).toArray 48)) (FoldDone16 (w11.alloc (.cells (((q15x gi gr).cells rd16x)++(((q15x gi gr).cells rd16x)++((q15x gi gr).cells rd16x))).toArray 48)) sb mb f16x)):=Hd (foldC sb mb s16b [(q15x gi gr,rd16x),(q15x gi gr,rd16x),(q15x gi gr,rd16x)] (some ⟨w11.heap.size,0,none⟩) 3 3 _ _ S12 (Xi6 hcs (fun k p hp=>by rw[hall k p hp];exact RD12)) (Lr _) (fun k p hp=>by rw[hall k p hp];exact Xss gi gr) (Lr _) (by omega) (HT.out.below X12.out.b HT.out.pos) (fun k p hp=>by
  rw[hall k p hp,Xoc];have:=len16x k;show _+3≤5000
  omega))
 have S12:=Hd S12;clear hb12 R12 RD12 hall hcs X11 S11 RD11 H411 R11;refine HFC.out.mono ?_;rintro e w13 ⟨os,A13,c13,rfl,hos,_,_,hs13,hg13⟩;have hl2:os.length=2:=by
  have h1:=congrArg List.length hos;rw[List.length_map]at h1;rw[h1];exact HFX.out.1
 rw[hl2,HFX.out.2.1,HFX.out.2.2.1];have S13:=Hd hs13;have X13:=Hd (X12.out.grown hg13 HML.out.1 HML.out.2.1 HML.out.2.2.1);clear hos hs13 hg13 hl2 S12 X12 HFC;go_wp2_with (first
  | ((with_reducible show wpList _ _ _ (⟨some 74,_,_,_,_,_⟩::_) _ _);go_must(refine Xb8 (by kernel_rfl) 68 (.tmp 1) rfl ⟨g1,0,none⟩ (bv (kx15 8)) _ Tryd.underlying68 rfl (by kernel_rfl) (fun j v hv=>by rw[Xac,Nat.zero_add];exact(X13.out.r1.cell j).trans hv) ?_ ?_;go_simp))
  | fail)
 refine(get13 sb mb f16x.L (kx15 8) w13 S13.out (Xeo (by omega))).mono ?_;rintro e w14 ⟨rfl,hb14⟩;rw[HFX.out.2.2.2];have X14:=Hd (X13.out.below hb14);clear hb14 X13 S13;go_wp2_with (first
  | ((with_reducible show wpList _ _ _ (⟨some 76,_,_,_,_,_⟩::_) _ _);go_must(refine BigFrame.wpList_want (by kernel_rfl) fun K hK=>Xfx (.tmp 75) rfl (ac15x 4000) (by go_simp) (hK _ _ ?_)))
  | fail)
 go_ret;exact⟨rfl,X14.out.b⟩
theorem Xpz{x:LReady}(h:RdOk x):Wide15 x:=by
 obtain⟨_,h1,h2,_,h3,h4,_⟩:=h;exact⟨h1,h3,h4,h2⟩
open Go.ChangeShapes Go.WideShapes Go.RowKit
theorem Xh9:Tryd.prog.cellsOf 78=66:=by kernel_rfl
theorem Xqc:Tryd.prog.bytesOf 78=80:=by kernel_rfl
structure HolsIn16(w:World)(B:Nat)(A:Option Addr)(n:Nat)(l:List LHold):Prop where
 cs:CsIn 66 w B A n (l.map LHold.cells)
 ok:∀h ∈ l,HoldOk h
theorem HolsIn16.len{w:World}{B n:Nat}{A:Option Addr}{l:List LHold}(h:HolsIn16 w B A n l):l.length=n:=by have:=h.cs.len;rwa [List.length_map]at this
section
variable{H:Type}{enc:TypeId × Value→H}{w:World}{base b0:Nat}{held:Bool}
theorem Xkx{fuel:Nat}{cs:List Value}{x:DataW H × List MemPlace}(hf:DataW.trod enc Tryd.prog w base (fun _=>true) held fuel 78 cs=some x):∃a:LHold,cs=a.cells∧HoldOk a:=by
 obtain⟨xs,n,_,hx,hl,hlen,ht⟩:=DataW.trod_struct Tryd.underlying78 hf;rw[Xh9]at hl;obtain⟨y0,y1,rfl⟩:∃a b,xs=[a,b]:=by
  match xs,hlen with
  | [a,b],_=>exact⟨a,b,rfl⟩
 have t1:DataW.trod enc Tryd.prog w base (fun _=>true) held n 68 ((cs.drop 0).take 32)=some y0:=by rw[←Xbz];exact ht 0 _ rfl
 have t2:DataW.trod enc Tryd.prog w base (fun _=>true) held n 72 ((cs.drop 32).take 34)=some y1:=by rw[←Xhv];exact ht 1 _ rfl
 have hsplit:cs=(cs.drop 0).take 32++(cs.drop 32).take 34:=by
  have e5:cs.drop 32=(cs.drop 32).take 34:=(List.take_of_length_le (by rw[List.length_drop];omega)).symm;rw[←e5];exact(List.take_append_drop 32 cs).symm
 obtain⟨z,hz,hz1,hz2⟩:=Xfq Tryd.underlying68 Xbz t1;obtain⟨a,ha,ha1⟩:=Xs2 t2;refine⟨⟨z,a⟩,?_,⟨⟨hz1,hz2⟩,ha1⟩⟩;rw[hsplit,hz,ha];rfl
theorem Xhi{A:Option Addr}{n c:Nat}{d:DataW H}{p:List MemPlace}(h:DataW.Trod enc Tryd.prog w base (fun _=>true) held 22 (.slice A n c) d p)(hw:Wt 22 d) :
 ∃l,n≤c∧c≤maxLen∧HolsIn16 w w.heap.size A n l∧l.length≤140737488355328:=by
 obtain⟨fuel,hf⟩:=h;obtain⟨A',n',c',hcs,h1,h2,h3,h4⟩:=Xde (cs:=[.slice A n c]) Tryd.underlying22 (by rw[Xh9];omega) hf hw;obtain⟨rfl,rfl,rfl⟩:A=A'∧n=n'∧c=c':=by simpa using hcs
 rw[Xqc]at h3;have:=Xeu;obtain⟨l,hl,hp⟩:=Xc6 (α:=LHold) (p:=fun i z=>HoldOk z∧∃a,A=some a∧a.block<w.heap.size∧∀j u,z.cells[j]?=some u→w.cell? (a.add (i*66+j))=some u) n fun i hi=>by
  obtain⟨a,cs',y,m,e1,e2,e3,e4,e5,_⟩:=h4 i hi;rw[Xh9]at e3 e4;obtain⟨z,rfl,hz⟩:=Xkx e5;exact⟨z,hz,a,e1,e2,e4⟩
 refine⟨l,h1,h2,⟨Xhc (by omega) (by rw[List.length_map,hl]) fun i x hx=>?_,fun r hr=>?_⟩,by rw[hl];omega⟩
 ·rw[List.getElem?_map]at hx;obtain⟨r,hr,rfl⟩:=Option.map_eq_some_iff.1 hx;exact⟨Xch (hp i r hr).1.k.1 (hp i r hr).1.a.o.1,(hp i r hr).2⟩
 ·obtain⟨i,hi,rfl⟩:=List.getElem_of_mem hr;exact(hp i _ (List.getElem?_eq_getElem hi)).1
theorem Xf5{fuel:Nat}{cs:List Value}{x0:DataW H × List MemPlace}(hf:DataW.trod enc Tryd.prog w base (fun _=>true) held fuel 48 cs=some x0)(hw:Wt 48 x0.1) :
 ∃(q:YRaw) (x:LReady),cs=q.cells x∧ReadyIn w w.heap.size q x∧RdOk x:=by
 obtain⟨xs,n,_,hx,hl,hlen,ht⟩:=DataW.trod_struct Tryd.underlying48 hf;rw[Xgi]at hl;obtain⟨y0,y1,y2,y3,y4,y5,y6,rfl⟩:∃a b c d e f g,xs=[a,b,c,d,e,f,g]:=by
  match xs,hlen with
  | [a,b,c,d,e,f,g],_=>exact⟨a,b,c,d,e,f,g,rfl⟩
 have hx1:x0.1=.agg [y0.1,y1.1,y2.1,y3.1,y4.1,y5.1,y6.1]:=by simpa using congrArg Prod.fst hx
 rw[hx1]at hw;obtain⟨w0,w1,w2⟩:=Xnd hw;have t0:DataW.trod enc Tryd.prog w base (fun _=>true) held n 30 ((cs.drop 0).take 1)=some y0:=by rw[←Xo6];exact ht 0 _ rfl
 have t1:DataW.trod enc Tryd.prog w base (fun _=>true) held n 42 ((cs.drop 1).take 40)=some y1:=by rw[←Xqd];exact ht 1 _ rfl
 have t2:DataW.trod enc Tryd.prog w base (fun _=>true) held n 43 ((cs.drop 41).take 1)=some y2:=by rw[←Xoh];exact ht 2 _ rfl
 have t3:DataW.trod enc Tryd.prog w base (fun _=>true) held n 46 ((cs.drop 42).take 3)=some y3:=by rw[←Xji];exact ht 3 _ rfl
 have t4:DataW.trod enc Tryd.prog w base (fun _=>true) held n 44 ((cs.drop 45).take 1)=some y4:=by rw[←Xfc];exact ht 4 _ rfl
 have t5:DataW.trod enc Tryd.prog w base (fun _=>true) held n 44 ((cs.drop 46).take 1)=some y5:=by rw[←Xfc];exact ht 5 _ rfl
 have t6:DataW.trod enc Tryd.prog w base (fun _=>true) held n 44 ((cs.drop 47).take 1)=some y6:=by rw[←Xfc];exact ht 6 _ rfl
 have ln:∀a n,a+n≤48→((cs.drop a).take n).length=n:=fun a n h=>by rw[List.length_take,List.length_drop];omega
 obtain⟨v0,hv0⟩:=Xf0 (ln 0 1 (by omega));obtain⟨v2,hv2⟩:=Xf0 (ln 41 1 (by omega));rw[hv0]at t0;rw[hv2]at t2;obtain⟨bs,b1,b2,b3⟩:=Xcy t0 w0;obtain⟨BA,bc,rfl,s1,s2,s3⟩:=b1.is;obtain⟨s,t,e1,x1,x2,x3,x4⟩:=Xib t1 w1;obtain⟨RA,rn,rc,rl,rfl,r1,r2,r3⟩:=Xjo t2 w2;obtain⟨u,pp,bb,e3,u1,u2,u3⟩:=Xi3 t3;obtain⟨fe,e4,f4⟩:=Xea Tryd.underlying44 t4 (ln 45 1 (by omega));obtain⟨co,e5,f5⟩:=Xea Tryd.underlying44 t5 (ln 46 1 (by omega));obtain⟨pr,e6,f6⟩:=Xea Tryd.underlying44 t6 (ln 47 1 (by omega));have hsplit:cs=[.slice BA bs.length bc]++(s.cells t++([.slice RA rn rc]++([.int .u64 u,.int .u64 pp,.int .i64 bb]++([.int .u64 fe]++([.int .u64 co]++[.int .u64 pr]))))):=by
  rw[←hv0,←e1,←hv2,←e3,←e4,←e5,←e6];have h48:cs.drop 47=(cs.drop 47).take 1:=(List.take_of_length_le (by rw[List.length_drop];omega)).symm;rw[←h48,←cut15 cs 46 1,←cut15 cs 45 1,←cut15 cs 42 3,←cut15 cs 41 1,←cut15 cs 1 40,←cut15 cs 0 1];rfl
 refine⟨⟨BA,bs.length,bc,s,RA,rn,rc⟩,⟨bs,t,rl,u,pp,bb,fe,co,pr⟩,?_,⟨s1,⟨s2,s3⟩,x1,r2,r1⟩,⟨x2,x3,x4,b2,b3,r3,u1,u2,u3,Xdk f4,Xdk f5,Xdk f6⟩⟩;exact hsplit
theorem Xgc{A:Option Addr}{n c:Nat}{d:DataW H}{p:List MemPlace}(h:DataW.Trod enc Tryd.prog w base (fun _=>true) held 23 (.slice A n c) d p)(hw:Wt 23 d) :
 ∃l:List (YRaw × LReady),n≤c∧c≤maxLen∧RdsIn w w.heap.size A n l∧∀p ∈ l,RdOk p.2:=by
 obtain⟨fuel,hf⟩:=h;obtain⟨A',n',c',hcs,h1,h2,h3,h4⟩:=Xde (cs:=[.slice A n c]) Tryd.underlying23 (by rw[Xgi];omega) hf hw;obtain⟨rfl,rfl,rfl⟩:A=A'∧n=n'∧c=c':=by simpa using hcs
 obtain⟨l,hl,hp⟩:=Xc6 (α:=YRaw × LReady) (p:=fun i z=>ReadyIn w w.heap.size z.1 z.2∧RdOk z.2∧∃a,A=some a∧a.block<w.heap.size∧∀j u,(z.1.cells z.2)[j]?=some u→w.cell? (a.add (i*48+j))=some u) n fun i hi=>by
  obtain⟨a,cs',y,m,e1,e2,e3,e4,e5,e6⟩:=h4 i hi;rw[Xgi]at e3 e4;obtain⟨q,x,rfl,hi1,ho⟩:=Xf5 e5 e6;exact⟨(q,x),hi1,ho,a,e1,e2,e4⟩
 refine⟨l,h1,h2,Xi6 (Xhc (by omega) (by rw[List.length_map,hl]) fun i x hx=>?_) (fun k p hk=>(hp k p hk).1),fun r hr=>?_⟩
 ·rw[List.getElem?_map]at hx;obtain⟨r,hr,rfl⟩:=Option.map_eq_some_iff.1 hx;exact⟨Xbv (hp i r hr).1.tx.m.recent,(hp i r hr).2.2⟩
 ·obtain⟨i,hi,rfl⟩:=List.getElem_of_mem hr;exact(hp i _ (List.getElem?_eq_getElem hi)).2.1
end
theorem rd_p16{w:World}{B:Nat}{q:YRaw}{x:LReady}(h:RdOk x)(hi:ReadyIn w B q x)(hf:Fw15 x):RdP16 q x:=by
 refine⟨⟨fun r hr=>⟨(hi.rs.ok r hr).1,(hi.rs.ok r hr).2⟩,fun a ha=>(h.wf.m.ins a ha).2,h.fee⟩,fun a ha=>(h.wf.m.ins a ha).1,h.u,⟨?_,fun a ha=>?_⟩,?_⟩
 ·have:=hf.n;have:=hi.tx.m.ins.len;omega
 ·have:=(hf.acc ha).1;omega
 ·have:=hf.r;have:=hi.rs.len;omega
def lv16(k:List Int):List LHold→Option LAcc
 | []=>none
 | h::r=>match lv16 k r with
  | some a=>some a
  | none=>if h.k=k then some h.a else none
theorem Xfi(k:List Int)(h:LHold)(r:List LHold):lv16 k (h::r)=(match lv16 k r with | some a=>some a | none=>if h.k=k then some h.a else none):=rfl
theorem Xgx{k:List Int}:∀{ch:List LHold} {a:LAcc},lv16 k ch=some a→∃h ∈ ch,h.k=k
 | [],a,h=>by cases h
 | x::r,a,h=>by
  rw[Xfi]at h;cases h1:lv16 k r with
  | some b =>
   obtain⟨y,hy,e⟩:=Xgx h1;exact⟨y,List.mem_cons_of_mem _ hy,e⟩
  | none =>
   rw[h1]at h;dsimp only at h
   by_cases e:x.k=k
   ·exact⟨x,List.mem_cons_self ..,e⟩
   ·rw[if_neg e]at h;cases h
theorem Xep:∀{ch L:List LHold},Sto L→(∀h ∈ ch,HoldOk h)→∀k,getH (commit16 L ch) k=(lv16 k ch).getD (getH L k)
 | [],L,_,_,k=>rfl
 | h::r,L,hs,hc,k=>by
  have hh:=hc h (List.mem_cons_self ..);rw[Xc1,Xep (hs.put hh.k hh.a) (fun y hy=>hc y (List.mem_cons_of_mem _ hy)) k,Xgf hs hh.k hh.a];rw[Xfi];cases lv16 k r with
  | some a=>rfl
  | none =>
   dsimp only
   by_cases e:h.k=k
   ·rw[if_pos e,if_pos e.symm];rfl
   ·rw[if_neg e,if_neg (fun h=>e h.symm)]
theorem Xiv(k:List Int):∀(a b:List LHold),lv16 k (a++b)=match lv16 k b with | some x=>some x | none=>lv16 k a
 | [],b=>by
  show lv16 k b=_
  cases lv16 k b <;> rfl
 | h::r,b=>by
  show lv16 k (h::(r++b))=_
  rw[Xfi,Xfi,Xiv k r b];cases lv16 k b <;> rfl
def Agree16(Bs:List (List LHold)):Prop:=∀A ∈ Bs,∀B ∈ Bs,∀k a b,lv16 k A=some a→lv16 k B=some b→a=b
theorem Xku{k:List Int}:∀{Bs:List (List LHold)} {a:LAcc},lv16 k Bs.flatten=some a→∃B ∈ Bs,lv16 k B=some a
 | [],a,h=>by cases h
 | B::r,a,h=>by
  rw[List.flatten_cons,Xiv]at h;cases h1:lv16 k r.flatten with
  | some b =>
   rw[h1]at h;obtain⟨C,hC,e⟩:=Xku h1;exact⟨C,List.mem_cons_of_mem _ hC,e.trans h⟩
  | none =>
   rw[h1]at h;exact⟨B,List.mem_cons_self ..,h⟩
theorem Xm6{k:List Int}:∀{Bs:List (List LHold)} {B:List LHold} {a:LAcc},B ∈ Bs→lv16 k B=some a→∃b,lv16 k Bs.flatten=some b
 | [],B,a,hB,_=>by cases hB
 | C::r,B,a,hB,h=>by
  rw[List.flatten_cons,Xiv];cases h1:lv16 k r.flatten with
  | some b=>exact⟨b,rfl⟩
  | none =>
   rcases List.mem_cons.1 hB with rfl | hB
   ·exact⟨a,h⟩
   ·obtain⟨b,hb⟩:=Xm6 hB h;rw[h1]at hb;cases hb
theorem Xlv{k:List Int}{Bs:List (List LHold)}(hg:Agree16 Bs){a:LAcc}:lv16 k Bs.flatten=some a↔∃B ∈ Bs,lv16 k B=some a:=by
 refine⟨Xku,fun⟨B,hB,h⟩=>?_⟩;obtain⟨b,hb⟩:=Xm6 hB h;obtain⟨C,hC,hc⟩:=Xku hb;rw[hb,hg B hB C hC k a b h hc]
theorem Xiz{L:List LHold}{Bs Ps:List (List LHold)}(hs:Sto L)(ho:∀B ∈ Bs,∀h ∈ B,HoldOk h)(hg:Agree16 Bs)(h1:∀P ∈ Ps,P ∈ Bs)(h2:∀B ∈ Bs,B ∈ Ps):commit16 L Ps.flatten=commit16 L Bs.flatten:=by
 have hgp:Agree16 Ps:=fun A hA B hB k a b ha hb=>hg A (h1 A hA) B (h1 B hB) k a b ha hb
 have hob:∀h ∈ Bs.flatten,HoldOk h:=fun h hh=>by
  obtain⟨B,hB,hh⟩:=List.mem_flatten.1 hh;exact ho B hB h hh
 have hop:∀h ∈ Ps.flatten,HoldOk h:=fun h hh=>by
  obtain⟨B,hB,hh⟩:=List.mem_flatten.1 hh;exact ho B (h1 B hB) h hh
 refine(Xcc hs hop).ext (Xcc hs hob) fun k=>?_
 rw[Xep hs hop,Xep hs hob];have e:lv16 k Ps.flatten=lv16 k Bs.flatten:=by
  refine Option.ext fun a=>?_
  rw[Xlv hgp,Xlv hg];exact⟨fun⟨B,hB,h⟩=>⟨B,h1 B hB,h⟩,fun⟨B,hB,h⟩=>⟨B,h2 B hB,h⟩⟩
 rw[e]
theorem Xki{a b:List LRole}(h:confl a b=false):(∀r ∈ b,r.wr=true→∀s ∈ a,s.key≠r.key)∧(∀r ∈ a,r.wr=true→∀s ∈ b,s.key≠r.key):=by
 unfold confl at h;rw[List.any_eq_false]at h;refine⟨fun r hr hw s hs e=>?_,fun r hr hw s hs e=>?_⟩
 ·refine h r hr ?_;unfold hit hasK;rw[Bool.and_eq_true,Bool.or_eq_true];exact⟨List.any_eq_true.2 ⟨s,hs,decide_eq_true e⟩,.inr hw⟩
 ·refine h s hs ?_;unfold hit hasK isW7;rw[Bool.and_eq_true,Bool.or_eq_true];exact⟨List.any_eq_true.2 ⟨r,hr,decide_eq_true e.symm⟩,.inl (List.any_eq_true.2 ⟨r,hr,by rw[Bool.and_eq_true];exact⟨decide_eq_true e.symm,hw⟩⟩)⟩
def ch16(L:List LHold)(x:LReady):List LHold:=(run15 x (load15 L x)).1.ch
theorem Xn8{L Cs:List LHold}{x:LReady}(hs:Sto L)(hc:∀h ∈ Cs,HoldOk h)(hf:∀h ∈ Cs,∀r ∈ x.roles,r.key≠h.k):pay15 (commit16 L Cs) x=pay15 L x∧load15 (commit16 L Cs) x=load15 L x:=by
 have hg:∀r ∈ x.roles,getH (commit16 L Cs) r.key=getH L r.key:=fun r hr=>Xen hs hc r.key fun h hh e=>hf h hh r hr e.symm
 have hl:ld15 (commit16 L Cs) x.roles=ld15 L x.roles:=List.map_congr_left fun r hr=>hg r hr
 refine⟨?_,by unfold load15;rw[hl]⟩;unfold pay15;cases hr:x.roles with
 | nil=>rfl
 | cons r rs =>
  have:=hg r (by rw[hr];exact List.mem_cons_self ..);dsimp only
  rw[this]
theorem Xkq{L Cs:List LHold}{x:LReady}(hs:Sto L)(hc:∀h ∈ Cs,HoldOk h)(hf:∀h ∈ Cs,∀r ∈ x.roles,r.key≠h.k)(hp:pay15 L x=true) :
 ((run15 x (load15 L x)).2=0→apply16 (commit16 L Cs) x=(((run15 x (load15 L x)).1,0),commit16 L (Cs++ch16 L x)))∧((run15 x (load15 L x)).2≠0→(apply16 (commit16 L Cs) x).1.2=1):=by
 obtain⟨h1,h2⟩:=Xn8 hs hc hf;unfold apply16;rw[h1,h2,if_pos hp];refine⟨fun h=>?_,fun h=>?_⟩
 ·rw[if_pos h,Xdv];rfl
 ·rw[if_neg h]
theorem Xg5{L:List LHold}(hs:Sto L):∀(r done:List LReady) (S:F16),S.e=0→S.L=commit16 L (done.map (ch16 L)).flatten→(∀h ∈ (done.map (ch16 L)).flatten,HoldOk h)→(∀x ∈ r,RdF16 x∧pay15 L x=true) →
 (∀x ∈ r,∀h ∈ (done.map (ch16 L)).flatten,∀s ∈ x.roles,s.key≠h.k)→(r.Pairwise fun y x=>∀h ∈ ch16 L y,∀s ∈ x.roles,s.key≠h.k) →
 ((∀x ∈ r,(run15 x (load15 L x)).2=0)→(fold16 r S).outs=S.outs++r.map (fun x=>(run15 x (load15 L x)).1)∧(fold16 r S).e=0∧(fold16 r S).L=commit16 L ((done++r).map (ch16 L)).flatten) ∧
 ((¬∀x ∈ r,(run15 x (load15 L x)).2=0)→(fold16 r S).e=1)
 | [],done,S,he,hL,_,_,_,_=>⟨fun _=>⟨by simp[fold16],he,by simp[fold16,hL]⟩,fun h=>absurd (fun x hx=>by cases hx) h⟩
 | x::r,done,S,he,hL,hc,hr,hf,hp=>by
  obtain⟨hx,hpx⟩:=hr x (List.mem_cons_self ..);obtain⟨hp1,hp2⟩:=List.pairwise_cons.1 hp;have ha:=Xkq hs hc (hf x (List.mem_cons_self ..)) hpx;rw[←hL]at ha;rw[Xbg];by_cases h0:(run15 x (load15 L x)).2=0
  ·have h1:=ha.1 h0;rw[h1];dsimp only
   rw[if_pos rfl];have hch:=Xfa hx.key (Xdm hs hpx hx) hx.ins;have hflat:((done++[x]).map (ch16 L)).flatten=(done.map (ch16 L)).flatten++ch16 L x:=by simp
   have ih:=Xg5 hs r (done++[x]) ⟨S.outs++[(run15 x (load15 L x)).1],sat16 (S.fees+(run15 x (load15 L x)).1.fee),0,commit16 L ((done.map (ch16 L)).flatten++ch16 L x)⟩ rfl (by rw[hflat])
    (by
      rw[hflat];intro h hh;rcases List.mem_append.1 hh with hh | hh
      ·exact hc h hh
      ·exact hch.ok h hh)
    (fun y hy=>hr y (List.mem_cons_of_mem _ hy))
    (by
      intro y hy;rw[hflat];intro h hh;rcases List.mem_append.1 hh with hh | hh
      ·exact hf y (List.mem_cons_of_mem _ hy) h hh
      ·exact hp1 y hy h hh) hp2
   refine⟨fun hall=>?_,fun hn=>ih.2 fun hall=>hn fun y hy=>?_⟩
   ·obtain⟨i1,i2,i3⟩:=ih.1 fun y hy=>hall y (List.mem_cons_of_mem _ hy)
    refine⟨by rw[i1];simp,i2,by rw[i3];simp⟩
   ·rcases List.mem_cons.1 hy with rfl | hy
    ·exact h0
    ·exact hall y hy
  ·have h1:=ha.2 h0;rw[if_neg (by rw[h1];decide)];exact⟨fun hall=>absurd (hall x (List.mem_cons_self ..)) h0,fun _=>h1⟩
def sum16(l:List (YRaw × LReady)):Nat:=(l.map fun p=>p.2.roles.length+p.2.tx.m.ins.length).sum
theorem Xn4{l:List (YRaw × LReady)}{k:Nat}{p:YRaw × LReady}(h:l[k]?=some p):sum16 (l.take (k+1))=sum16 (l.take k)+(p.2.roles.length+p.2.tx.m.ins.length):=by
 unfold sum16;rw[List.take_add_one,h,Option.toList_some,List.map_append,List.sum_append];simp
theorem Xjc:∀{l:List (YRaw × LReady)},(∀p ∈ l,Fw15 p.2)→sum16 l≤500*l.length
 | [],_=>by simp[sum16]
 | p::r,h=>by
  have h1:=Xjc (l:=r) (fun q hq=>h q (by simp[hq]));have h2:=h p (by simp);have h3:=h2.n;have h4:=h2.r;have e:sum16 (p::r)=(p.2.roles.length+p.2.tx.m.ins.length)+sum16 r:=by simp[sum16]
  rw[e,List.length_cons];omega
structure Few16(n:Nat)(l:List (YRaw × LReady)):Prop where
 f:∀p ∈ l,Fw15 p.2
 s:sum16 l≤800
 hn:n≤200
 hl:l.length≤40
theorem Xjp(a:Addr)(o:Nat):(⟨a.block,a.off+o,none⟩:Addr)=a.add o∨o=0:=by
 by_cases h:o=0
 ·exact .inr h
 ·left;unfold Addr.add;rw[if_neg h]
def GrDone16(n:Nat)(l:List (YRaw × LReady))(w:World)(e:Ending)(w':World):Prop:=(∃b,e=.returned (.bool b)∧(b=false→Few16 n l))∧Below w.heap.size w w'
theorem Xt9(A LA:Option Addr)(n c ln lc B:Nat)(l:List (YRaw × LReady))(w:World)(hr:RdsIn w B LA ln l)(hB:B≤w.heap.size)(hw:∀p ∈ l,Wide15 p.2)(hnc:n≤c∧c≤maxLen)(hlc:ln≤lc∧lc≤maxLen):Calls Tryd.prog 4 #[.slice A n c,.slice LA ln lc] w (GrDone16 n l w):=by
 have HR:=Hd hr;have HB:=Hd hB;have HW:=Hd hw;have HLN:=Hd hr.len;have hnm:n≤9223372036854775807:=Lq hnc.1 hnc.2;have hlm:ln≤9223372036854775807:=Lq hlc.1 hlc.2;clear hr hB hw hnc hlc;go_enter Tryd.func4,Tryd.ntmps4
 by_cases hn:n>200
 ·have hn1:(200:Int)<n:=by omega
  have hn2:decide ((200:Int)<n)=true:=decide_eq_true hn1;go_wp2_with fail;go_ret;exact⟨⟨true,rfl,fun h=>by cases h⟩,Br _ _⟩
 have hn1:¬(200:Int)<n:=by omega
 have hn2:decide ((200:Int)<n)=false:=decide_eq_false hn1;by_cases hl:ln>40
 ·have hl1:(40:Int)<ln:=by omega
  have hl2:decide ((40:Int)<ln)=true:=decide_eq_true hl1;go_wp2_with fail;go_ret;exact⟨⟨true,rfl,fun h=>by cases h⟩,Br _ _⟩
 have hl1:¬(40:Int)<ln:=by omega
 have hl2:decide ((40:Int)<ln)=false:=decide_eq_false hl1;have HN:Hid (n≤200∧ln≤40):=Hd (by omega);go_wp2_with fail;clear hn1 hn2 hl1 hl2 hn hl;go_loopw [5,6] (fun nn i wr=>∃(k s:Nat),k≤ln∧i=.int .i64 k∧nn=.int .i64 s∧Below w.heap.size w wr∧s=sum16 (l.take k)∧∀p ∈ l.take k,Fw15 p.2) (fun _ i _=>ln - (intOf i).toNat)
 case atStart=>exact⟨0,0,Nat.zero_le _,rfl,rfl,Br _ _,by simp[sum16],fun p hp=>by simp at hp⟩
 case round =>
  obtain⟨k,s,hk,rfl,rfl,hb,hs,hf⟩:=hrel;have BW:=Hd hb;have HS:=Hd hs;have HF:=Hd hf;have hs2:s≤20000:=by
   have h1:=Xjc hf;have h2:=HN.out;have h3:(l.take k).length≤40:=by rw[List.length_take];have:=HLN.out;omega
   omega
  clear hb hs hf;rename World=>wr
  by_cases hlt:k<ln
  ·have hlt':(k:Int)<ln:=by omega
   obtain⟨p,hp⟩:∃p,l[k]?=some p:=⟨_,List.getElem?_eq_getElem (by rw[HLN.out];exact hlt)⟩;have RW:=HR.out.below (BW.out.mono HB.out);obtain⟨a,ea,hab,hcs⟩:=RW.sees k p hp;have RI:=Hd (RW.each k p hp);have HCS:=Hd hcs;have HGR:=Hd (Xtv p.1 p.2 B wr RI.out (Lq HB.out BW.out.size) (HW.out p (List.mem_of_getElem? hp)));have HSZ:=Hd (Xfb (q:=p.1) RI.out.tx.m.recent);have HTK:=Hd (Xn4 hp);have HTM:Hid (∀q ∈ l.take (k+1),q ∈ l.take k∨q=p):=Hd fun q hq=>by
    rw[List.take_add_one,hp,Option.toList_some]at hq;rcases List.mem_append.1 hq with h | h
    ·exact .inl h
    ·exact .inr (List.mem_singleton.1 h)
   have HRL:=Hd RI.out.rs.len;have HIL:=Hd RI.out.tx.m.ins.len;subst ea;have HAB:=Hd (Nat.lt_of_lt_of_le hab (Lq HB.out BW.out.size));clear hp RW hab hcs;go_wp2_with ((with_reducible show wpList _ _ _ (⟨some 24,_,_,_,_,_⟩::_) _ _);go_must(refine Xa9 rfl 48 (.tmp 23) rfl (a.add (k*48)) (p.1.cells p.2) _ Tryd.underlying48 rfl HSZ.out HCS.out ?_ ?_;go_simp))
   refine HGR.out.mono ?_;rintro e w1 ⟨⟨b,rfl,hfw⟩,hb1⟩;have B1:=Hd (BW.out.trans (hb1.mono BW.out.size));have HFW:=Hd hfw;have e1:w1.cell? ⟨(a.add (k*48)).block,(a.add (k*48)).off+41,none⟩=some (.slice p.1.RA p.1.rn p.1.rc):=by
    rw[(hb1.cell (p:=⟨(a.add (k*48)).block,(a.add (k*48)).off+41,none⟩) (by show(a.add (k*48)).block<_;rw[Xab];exact HAB.out))];rw[(Xjp _ _).resolve_right (by omega)];exact HCS.out 41 _ (Xaz RI.out.tx.m.recent 0)
   have e2:w1.cell? ⟨(a.add (k*48)).block,(a.add (k*48)).off+39,none⟩=some (.slice p.1.t.q.IA p.1.t.q.n p.1.t.q.ic):=by
    rw[(hb1.cell (p:=⟨(a.add (k*48)).block,(a.add (k*48)).off+39,none⟩) (by show(a.add (k*48)).block<_;rw[Xab];exact HAB.out))];rw[(Xjp _ _).resolve_right (by omega)];exact HCS.out 39 _ (Xf7 RI.out.tx.m.recent)
   clear hb1 hfw HCS BW HGR;cases b with
   | true =>
    clear e1 e2;go_wp2_with fail;go_ret;exact⟨⟨true,rfl,fun h=>by cases h⟩,B1.out⟩
   | false =>
    have hfw:=HFW.out rfl;have HF1:=Hd hfw;clear HFW;have hrn:p.1.rn≤300:=by have:=hfw.r;have:=HRL.out;omega
    have hin:p.1.t.q.n≤200:=by have:=hfw.n;have:=HIL.out;omega
    clear hfw;go_wp2_with fail;go_quiet (fail)
    go_wp2_with fail;go_roundw
    case rel=>exact⟨k+1,s+p.1.rn+p.1.t.q.n,by omega,by go_num,by go_num,B1.out.trans (Xcm (Br _ _) _),by have h1:=HS.out;have h2:=HTK.out;have h3:=HRL.out;have h4:=HIL.out;omega,fun q hq=>by
     rcases HTM.out q hq with h | h
     ·exact HF.out q h
     ·rw[h];exact HF1.out⟩
    case measure=>simp[intOf];omega
  ·have hke:k=ln:=by omega
   have hlt':¬(k:Int)<ln:=by omega
   have HT:Hid (l.take k=l):=Hd (by rw[hke,←HLN.out];exact List.take_length);rw[HT.out]at HS HF;by_cases h8:s>800
   ·have h81:(800:Int)<s:=by omega
    have h82:decide ((800:Int)<s)=true:=decide_eq_true h81;go_wp2_with fail;go_ret;exact⟨⟨true,rfl,fun h=>by cases h⟩,BW.out⟩
   ·have h81:¬(800:Int)<s:=by omega
    have h82:decide ((800:Int)<s)=false:=decide_eq_false h81;go_wp2_with fail;go_ret;exact⟨⟨false,rfl,fun _=>⟨HF.out,by have h1:=HS.out;omega,HN.out.1,by have h1:=HN.out.2;have h2:=HLN.out;omega⟩⟩,BW.out⟩
theorem Xjj(a:Addr){o:Nat}(ho:0<o):(⟨a.block,a.off+o,none⟩:Addr)=a.add o:=by
 unfold Addr.add;rw[if_neg (by omega)]
theorem RS13.far16{w w':World}{pb base sb mb:Nat}{v:Value}{L M:List LHold}(h:RS13 w pb base v L)(hs:StIn w sb mb M)(hg:w.grownBy w' (some mb)):RS13 w' pb base v L:=
 ⟨h.row.grown hg (fun e=>hs.row_ne h.row (Option.some.inj e)),h.own.kept hg (hs.own_ne16 h.own),h.sto⟩
theorem StIn.far16{w w':World}{pb t sb mb:Nat}{xs:List Value}{M:List LHold}(hs:StIn w sb mb M)(hr:Row w pb t xs)(hne:87≠t)(hg:w.grownBy w' (some pb)):StIn w' sb mb M:=
 hs.keep (hg.block _ hs.lt.1 (fun e=>Xae hs.row hr hne (Option.some.inj e))) (hg.block _ hs.lt.2 (fun e=>hs.row_ne hr (Option.some.inj e).symm))
theorem Xkr:Tryd.prog.built 76 []=some (([.slice none 0 0]:List Value)).toArray:=by kernel_rfl
def StoresDone16(w:World)(L:List LHold)(e:Ending)(w':World):Prop:=∃sb mb pb,e=.returned (.tuple #[.pointer (some ⟨sb,0,none⟩),.pointer (some ⟨pb,0,none⟩)])∧StIn w' sb mb L∧w.heap.size≤sb∧w.heap.size≤mb∧Below w.heap.size w w'
theorem Xhq(l:List LHold):(commit16 [] l).length≤l.length:=by
 have:=Xct l [];simpa using this
theorem Xrv(A:Option Addr)(n c B:Nat)(l:List LHold)(w:World)(hl:HolsIn16 w B A n l)(hB:B≤w.heap.size)(hn:n≤200):Calls Tryd.prog 6 #[.slice A n c] w (StoresDone16 w (commit16 [] l)):=by
 have HM:=Hd hl;have HB:=Hd hB;have HLN:=Hd hl.len;clear hl hB;go_enter Tryd.func6,Tryd.ntmps6
 go_wp2_with fail;refine(new13 w).mono ?_;rintro e w1 ⟨sb,mb,rfl,hs,h1,h2,hb⟩;have S1:=Hd hs;have B1:=Hd hb;have HLO:=Hd (And.intro h1 h2);clear hs hb h1 h2;go_upto_region 3 with(first
  | ((with_reducible show wpList _ _ _ (⟨some 8,_,_,_,_,_⟩::_) _ _);go_must(refine wpList_plain rfl fun K hK=>Xau _ _ _ rfl (by simp only[List.map_toArray,List.map_nil];exact Xkr) (hK _ _ ?_)))
  | ((with_reducible show wpList _ _ _ (⟨some 9,_,_,_,_,_⟩::_) _ _);go_must(refine Xhk rfl 76 (.tmp 8) rfl [.slice none 0 0] (by go_simp) ?_)))
 obtain⟨pb,hpb⟩:∃g,g=w1.heap.size:=⟨_,rfl⟩;have hb2:=(Br w1.heap.size w1).alloc (Lr _) (.cells ([Value.slice none 0 0]:List Value).toArray 76);have R2:RS13 (w1.alloc (.cells ([Value.slice none 0 0]:List Value).toArray 76)) w1.heap.size w.heap.size (.slice none 0 0) []:=⟨Row.new w1 _ _,Xcg _ _ _ _,Xqy⟩;have S2:=Hd (S1.out.below hb2);have B2:=Hd (B1.out.trans (hb2.mono B1.out.size));have HPB:Hid (w.heap.size≤pb):=Hd (by rw[hpb];exact B1.out.size);rw[←hpb]at R2 ⊢;have HR2:Hid (∃v,RS13 (w1.alloc (.cells ([Value.slice none 0 0]:List Value).toArray 76)) pb w.heap.size v []):=Hd ⟨_,R2⟩;clear hpb hb2 R2 S1 B1;generalize w1.alloc (.cells ([Value.slice none 0 0]:List Value).toArray 76)=w2 at *;go_wp2_with fail;go_loopw [6] (fun i wr=>∃k:Nat,k≤n∧i=.int .i64 k∧StIn wr sb mb (commit16 [] (l.take k))∧(∃v,RS13 wr pb w.heap.size v (commit16 [] (l.take k)))∧Below w.heap.size w wr) (fun i _=>n - (intOf i).toNat)
 case atStart=>exact⟨0,Nat.zero_le _,rfl,S2.out,HR2.out,B2.out⟩
 case round =>
  clear S2 HR2 B2;obtain⟨k,hk,rfl,hst,⟨v,hrs⟩,hb⟩:=hrel;have HST:=Hd hst;have HRS:=Hd hrs;have HBW:=Hd hb;clear hst hrs hb;rename World=>wr
  by_cases hlt:k<n
  ·have hlt':(k:Int)<n:=by omega
   obtain⟨a,xs,ea,hab,hxs,hxl,hcs⟩:=HM.out.cs.get hlt (by omega);obtain⟨h,hh,rfl⟩:∃h,l[k]?=some h∧h.cells=xs:=by
    rw[List.getElem?_map]at hxs;obtain⟨h,h1,h2⟩:=Option.map_eq_some_iff.1 hxs;exact⟨h,h1,h2⟩
   have HH:=Hd (HM.out.ok h (List.mem_of_getElem? hh));have HMT:=Hd (Xf1 (L:=[]) hh);have HPL:Hid ((commit16 [] (l.take k)).length≤5000):=Hd (by have:=Xhq (l.take k);have:=List.length_take_le k l;omega);have HSK:Hid ((Tryd.prog.info? 68).map (·.size)=some (bv h.k).length):=Hd (by rw[Xb7,bL,HH.out.k.1]);have HSA:=Hd (Xay HH.out.a.o.1);have HCK:Hid (∀V,Below w.heap.size w V→∀j u,(bv h.k)[j]?=some u→V.cell? ((a.add (k*66)).add j)=some u):=Hd fun V hV j u hu =>
    (hV.cell (by rw[Xab,Xab];exact Nat.lt_of_lt_of_le hab HB.out)).trans (hcs _ _ (Xot hu))
   have HCA:Hid (∀V,Below w.heap.size w V→∀j u,h.a.cells[j]?=some u→V.cell? ((⟨(a.add (k*66)).block,(a.add (k*66)).off+32,none⟩:Addr).add j)=some u):=Hd fun V hV j u hu=>by
    rw[Xjj _ (by omega),Xce,hV.cell (by rw[Xab,Xab];exact Nat.lt_of_lt_of_le hab HB.out)];exact hcs _ _ (Xsv HH.out.k.1 hu)
   subst ea;clear hab hxs hxl hcs hh;go_upto_region 6 with fail
   refine wp_region_held_drew (S:=(fun V=>Below w.heap.size w V)) (by kernel_rfl) HBW.out.drew (fun _=>?_);try dsimp only[List.append]
   have BD:=Hd HBW.out.drew;have SD:=Hd (HST.out.below (Br _ wr).drew);have RD:=Hd (HRS.out.below (Br _ wr).drew);clear HST HRS HBW;generalize wr.drew=wd at *;refine Tk 0 rfl ?_ BD.out ?_ ⟨?_,rfl⟩
   ·intro w hw;(try dsimp only at hw);go_simp;try with_reducible rfl
   try simp only[nm]
   refine Tk 1 rfl ?_ BD.out ?_ ⟨?_,rfl⟩
   ·intro w hw;(try dsimp only at hw);go_simp;try with_reducible rfl
   try simp only[nm]
   refine Tk 2 rfl ?_ BD.out ?_ ⟨?_,rfl⟩
   ·intro w hw;(try dsimp only at hw);go_simp;try with_reducible rfl
   try simp only[nm]
   refine Tk 3 rfl ?_ BD.out ?_ ⟨?_,rfl⟩
   ·intro w hw;(try dsimp only at hw);go_simp;try with_reducible rfl
   try simp only[nm]
   refine Tk 4 rfl ?_ BD.out ?_ ⟨?_,rfl⟩
   ·intro w hw;(try dsimp only at hw);go_simp;try with_reducible rfl
   try simp only[nm]
   refine Tl 5 (v:=.agg (bv h.k).toArray) rfl (Or.inl ⟨by rfl,fun wz hwz=>Xa4 wz 68 (.tmp 20) rfl (a.add (k*66)) (bv h.k) _ Tryd.underlying68 rfl HSK.out (HCK.out wz hwz) (by go_simp)⟩) BD.out ?_;try simp only[nm]
   refine Tk 6 rfl ?_ BD.out ?_ ⟨?_,rfl⟩
   ·intro w hw;(try dsimp only at hw);go_simp;try with_reducible rfl
   try simp only[nm]
   refine Tk 7 rfl ?_ BD.out ?_ ⟨?_,rfl⟩
   ·intro w hw;(try dsimp only at hw);go_simp;try with_reducible rfl
   try simp only[nm]
   refine Tk 8 rfl ?_ BD.out ?_ ⟨?_,rfl⟩
   ·intro w hw;(try dsimp only at hw);go_simp;try with_reducible rfl
   try simp only[nm]
   refine Tk 9 rfl ?_ BD.out ?_ ⟨?_,rfl⟩
   ·intro w hw;(try dsimp only at hw);go_simp;try with_reducible rfl
   try simp only[nm]
   refine Tl 10 (v:=.agg h.a.cells.toArray) rfl (Or.inl ⟨by rfl,fun wz hwz=>Xa4 wz 72 (.tmp 25) rfl ⟨(a.add (k*66)).block,(a.add (k*66)).off+32,none⟩ h.a.cells _ Tryd.underlying72 rfl HSA.out (HCA.out wz hwz) (by go_simp)⟩) BD.out ?_;try simp only[nm]
   refine Rl 11 rfl fun K hK=>?_
   go_simp;refine(put13 sb mb _ h.k h.a wd SD.out HH.out.k HH.out.a HPL.out).mono ?_;rintro e w3 ⟨rfl,hs,hg⟩;rw[←HMT.out]at hs;have S3:=Hd hs;have R3:=Hd (RD.out.far16 SD.out hg);have B3:=Hd (Xem (B:=w.heap.size) hg HLO.out.2 BD.out.size);have BW3:=Hd (BD.out.trans B3.out);clear hs hg SD RD;refine hK.out _ _ BW3.out ?_;clear hK K;try simp only[nm]
   refine wpAnyH_done (by kernel_rfl) ?_ _;go_upto_region 7 with fail
   refine wp_region_held_drew (S:=(fun V=>Below w.heap.size w V)) (by kernel_rfl) BW3.out.drew (fun _=>?_);try dsimp only[List.append]
   have BE:=Hd BW3.out.drew;have SE:=Hd (S3.out.below (Br _ w3).drew);have RE:=Hd (R3.out.below (Br _ w3).drew);clear S3 R3 BW3 B3 BD;generalize w3.drew=we at *;refine Tk 0 rfl ?_ BE.out ?_ ⟨?_,rfl⟩
   ·intro w hw;(try dsimp only at hw);go_simp;try with_reducible rfl
   try simp only[nm]
   refine Tk 1 rfl ?_ BE.out ?_ ⟨?_,rfl⟩
   ·intro w hw;(try dsimp only at hw);go_simp;try with_reducible rfl
   try simp only[nm]
   refine Tk 2 rfl ?_ BE.out ?_ ⟨?_,rfl⟩
   ·intro w hw;(try dsimp only at hw);go_simp;try with_reducible rfl
   try simp only[nm]
   refine Tk 3 rfl ?_ BE.out ?_ ⟨?_,rfl⟩
   ·intro w hw;(try dsimp only at hw);go_simp;try with_reducible rfl
   try simp only[nm]
   refine Tk 4 rfl ?_ BE.out ?_ ⟨?_,rfl⟩
   ·intro w hw;(try dsimp only at hw);go_simp;try with_reducible rfl
   try simp only[nm]
   refine Tl 5 (v:=.agg (bv h.k).toArray) rfl (Or.inl ⟨by rfl,fun wz hwz=>Xa4 wz 68 (.tmp 32) rfl (a.add (k*66)) (bv h.k) _ Tryd.underlying68 rfl HSK.out (HCK.out wz hwz) (by go_simp)⟩) BE.out ?_;try simp only[nm]
   refine Tk 6 rfl ?_ BE.out ?_ ⟨?_,rfl⟩
   ·intro w hw;(try dsimp only at hw);go_simp;try with_reducible rfl
   try simp only[nm]
   refine Tk 7 rfl ?_ BE.out ?_ ⟨?_,rfl⟩
   ·intro w hw;(try dsimp only at hw);go_simp;try with_reducible rfl
   try simp only[nm]
   refine Tk 8 rfl ?_ BE.out ?_ ⟨?_,rfl⟩
   ·intro w hw;(try dsimp only at hw);go_simp;try with_reducible rfl
   try simp only[nm]
   refine Tk 9 rfl ?_ BE.out ?_ ⟨?_,rfl⟩
   ·intro w hw;(try dsimp only at hw);go_simp;try with_reducible rfl
   try simp only[nm]
   refine Tl 10 (v:=.agg h.a.cells.toArray) rfl (Or.inl ⟨by rfl,fun wz hwz=>Xa4 wz 72 (.tmp 37) rfl ⟨(a.add (k*66)).block,(a.add (k*66)).off+32,none⟩ h.a.cells _ Tryd.underlying72 rfl HSA.out (HCA.out wz hwz) (by go_simp)⟩) BE.out ?_;try simp only[nm]
   refine Rl 11 rfl fun K hK=>?_
   go_simp;refine(Xr1 pb w.heap.size v _ h.k h.a we RE.out HH.out.k HH.out.a HPL.out BE.out.size).mono ?_;rintro e w4 ⟨rfl,u,hr,hg⟩;rw[←HMT.out]at hr;have R4:Hid (∃v,RS13 w4 pb w.heap.size v (commit16 [] (l.take (k+1)))):=Hd ⟨u,hr⟩;have S4:=Hd (SE.out.far16 RE.out.row (by decide) hg);have BW4:=Hd (BE.out.trans (Xem (B:=w.heap.size) hg HPB.out BE.out.size));clear hr hg SE RE;refine hK.out _ _ BW4.out ?_;clear hK K;try simp only[nm]
   refine wpAnyH_done (by kernel_rfl) ?_ _;go_wp2_with fail;go_roundw
   case rel=>exact⟨k+1,by omega,by go_num,S4.out,R4.out,BW4.out⟩
   case measure=>simp[intOf];omega
  ·have hke:k=n:=by omega
   have hlt':¬(k:Int)<n:=by omega
   have HT:Hid (l.take k=l):=Hd (by rw[hke,←HLN.out];exact List.take_length);rw[HT.out]at HST;go_wp2_with fail;go_ret2
   exact⟨sb,mb,pb,rfl,HST.out,HLO.out.1,HLO.out.2,HBW.out⟩
open Go.RowKit Go.Maps
theorem Xij{ops:Array Oper}{rest:List Oper}{o:Oper}{a:Act}{w:World}{Q:Exit→Act→World→Prop}(hg:o.guard=none)(m x:Operand)(hop:o.op=Op.lookup 84 m x true)(b n:Nat){D:DataW Unit}{M:List LHold}
 (hm:a.eval m=.map (some b)) (hown:w.ownsMap Tryd.prog 68 accE b n D) (had:AD D (ks13 M) (getH M)) {k:List Int} (hk:k.length=32∧AllBytes k) (hx:a.eval x=.agg (bv k).toArray)
 (h:wpList Tryd.prog ops Q rest (a.put o.dst (.tuple #[.agg (getH M k).cells.toArray,.bool (decide (k ∈ ks13 M))])) w):wpList Tryd.prog ops Q (o::rest) a w:=by
 refine wpList_lookup_own_ok w hg m x 84 hop 68 72 Xb9 Tryd.underlying84 accE (Xg7 w) (accD blank13) [] (Xks Xcf) b n D hm hown _ (KL k) hx (KL_is hk.1 hk.2) fun v ps hv=>?_
 rw[had.at_key hk]at hv;obtain⟨y,rfl,hy,e⟩:=Xit hv;injection e with e _
 have:y=getH M k:=by
  by_cases hmm:k ∈ ks13 M
  ·rw[if_pos hmm]at e;exact(Xfd e).symm
  ·rw[if_neg hmm]at e;rw[Xi8.2 hmm];exact(Xfd e).symm
 rw[this,had.has_key hk];exact h
theorem Xrb{L M:List LHold}(hs:Sto L)(ht:Sto M)(hl:L.length=M.length){vs:List (List Int)}(hp:vs.Perm (ks13 L))(h:∀k ∈ vs,k ∈ ks13 M∧getH L k=getH M k):L=M:=by
 have h1:∀k ∈ ks13 L,k ∈ ks13 M∧getH L k=getH M k:=fun k hk=>h k (hp.symm.subset hk)
 refine hs.ext ht fun k=>?_
 by_cases hk:k ∈ ks13 L
 ·exact(h1 k hk).2
 ·have hk':k ∉ ks13 M:=fun hm=>by
   have:=Xfp (l:=k::ks13 L) (m:=ks13 M) (List.nodup_cons.2 ⟨hk,Xd4 hs.rise⟩) fun x hx=>by
    rcases List.mem_cons.1 hx with rfl | hx
    ·exact hm
    ·exact(h1 x hx).1
   rw[List.length_cons,Xed,Xed]at this;omega
  rw[Xi8.2 hk,Xi8.2 hk']
theorem Xts(mb mb':Nat)(L M:List LHold)(w:World){D E:DataW Unit}(ho:w.ownsMap Tryd.prog 68 accE mb L.length D)(hd:AD D (ks13 L) (getH L))(ho':w.ownsMap Tryd.prog 68 accE mb' M.length E)(he:AD E (ks13 M) (getH M))(hs:Sto L)(ht:Sto M)(hL:L.length≤5000)(hM:M.length≤5000) :
 Calls Tryd.prog 35 #[.map (some mb),.map (some mb')] w fun e w'=>e=.returned (.bool (decide (L=M)))∧Below w.heap.size w w':=by
 have l1:=fun ty=>ho.len Tryd.underlying84 ty
 have l2:=fun ty=>ho'.len Tryd.underlying84 ty
 rw[hd.size,Xed]at l1;rw[he.size,Xed]at l2;have HOW:=Hd ho;have HOE:=Hd ho';have HAD:=Hd hd;have HAE:=Hd he;have HST:=Hd hs;have HSE:=Hd ht;clear ho ho' hd he hs ht;obtain⟨n,hn⟩:∃n,n=L.length:=⟨_,rfl⟩;obtain⟨m,hm⟩:∃m,m=M.length:=⟨_,rfl⟩;have HN:=Hd hn;have HMM:=Hd hm;rw[←hn]at l1 hL;rw[←hm]at l2 hM;clear hn hm;by_cases hnm:n=m
 ·have HNM:Hid (L.length=M.length):=Hd (by rw[←HN.out,←HMM.out];exact hnm);subst hnm;go_enter Tryd.func35,Tryd.ntmps35
  go_wp2_with (at_range;go_must(refine wpList_range_own _ rfl (.tmp 14) 84 rfl 68 72 Xb9 Tryd.underlying84 accE mb L.length D rfl HOW.out ?_;intro w4 hrg hg hsz))
  try go_frame
  have B4:Hid (Below w.heap.size w w4):=Hd ((Br _ _).grown hg (Lr _) (by intro k hk;cases hk));have R4:=Hd (RV13.start hrg HAD.out);obtain⟨rr,hrr⟩:∃r,r=w.heap.size:=⟨_,rfl⟩;have HRR:Hid (w.heap.size≤rr):=Hd (Nat.le_of_eq hrr.symm);rw[←hrr]at R4 ⊢;clear hrr hrg hg hsz HOW l1 l2;go_loopw [16] (fun _ wx=>∃vs,RV13 wx mb rr L D vs∧Hid (∀k ∈ vs,k ∈ ks13 M∧getH L k=getH M k)∧Below w.heap.size w wx) (fun _ wx=>wx.rangeLeft mb rr)
  case atStart=>exact⟨[],R4.out,Hd (by simp),B4.out⟩
  case round =>
   clear B4 R4;obtain⟨vs,hrv,HV,hb⟩:=hrel;have RV:=Hd hrv;have HB:=Hd hb;clear hrv hb;go_wp2_with (at_next;go_must(refine Xia rfl (.tmp 15) rfl rfl HST.out RV.out HAD.out ?_ ?_))
   ·intro hp;have E1:Hid (decide (L=M)=true):=Hd (decide_eq_true (Xrb HST.out HSE.out HNM.out hp HV.out));clear hp;go_wp2_with fail;go_ret;exact⟨by rw[E1.out];rfl,HB.out⟩
   ·intro k1 w5 hk1 hnv hrv1 hlt hg1 hs1 hen;have RV5:=Hd hrv1;have HLT:=Hd hlt;have B5:=Hd (HB.out.grown hg1 HB.out.size (fun j hj=>by cases hj;exact HRR.out));have HEY:=Hd (HSE.out.get_ok k1);have HIN:=Hd hk1;have HOK:=Hd (HST.out.get_ok k1);have HKO:=Hd (HAD.out.ok k1 hk1).1;have HSK:Hid ((Tryd.prog.info? 68).map (·.size)=some (bv k1).length):=Hd (by rw[Xb7,bL,HKO.out.1]);have HSF:=Hd (Xay HOK.out.o.1);have RA:=Hd ((Row.new w5 68 (bv (List.replicate 32 0))).alloc (.cells blank13.cells.toArray 72));have RB:=Hd (Row.new' (w5.alloc (.cells (bv (List.replicate 32 0)).toArray 68)) 72 blank13.cells (g:=w5.heap.size+1) (by simp));have BW:=Hd (((Br w5.heap.size w5).alloc (Lr _) (.cells (bv (List.replicate 32 0)).toArray 68)).alloc (by simp) (.cells blank13.cells.toArray 72));have HLZ:Hid ((bv (List.replicate 32 0)).length=(bv k1).length):=Hd (by rw[bL,bL,HKO.out.1];rfl);have HLA:Hid (blank13.cells.length=(getH L k1).cells.length):=Hd (by rw[Xbs HOK.out.o.1];rfl);clear hk1 hnv hrv1 hlt hg1 hs1;go_upto_region 6 with(first
    | ((with_reducible show wpList _ _ _ (⟨some 5,_,_,_,_,_⟩::_) _ _);go_must(refine Xa2 rfl 68 rfl (bv (List.replicate 32 0)) Xrg ?_))
    | ((with_reducible show wpList _ _ _ (⟨some 6,_,_,_,_,_⟩::_) _ _);go_must(refine Xa2 rfl 72 rfl blank13.cells Xgh ?_))
    | ((with_reducible show wpList _ _ _ (⟨none,Op.store 68 _ _,_,_,_,_⟩::_) _ _);go_must(refine Xai rfl 68 (.tmp 5) (.tmp 19) rfl w5.heap.size (bv (List.replicate 32 0)) (bv k1) RA.out HSK.out HLZ.out (Xcd _) ?_ ?_ ?_;go_simp;go_simp;intro w6 hr ht;have RA6:=Hd hr;have RB6:=Hd (ht.row RB.out (by omega));have BW6:=Hd (BW.out.trans (ht.below (Lr _)));clear hr ht))
    | ((with_reducible show wpList _ _ _ (⟨none,Op.store 72 _ _,_,_,_,_⟩::_) _ _);go_must(refine Xai rfl 72 (.tmp 6) (.tmp 20) rfl (w5.heap.size+1) blank13.cells (getH L k1).cells RB6.out HSF.out HLA.out (Xe3 _) ?_ ?_ ?_;go_simp;go_simp;intro w7 hr ht;have RB7:=Hd hr;have RA7:=Hd (ht.row RA6.out (by omega));have BW7:=Hd (BW6.out.trans (ht.below (by omega)));clear hr ht)))
    clear hen;try go_frame
    have e8:(w5.alloc (.cells (bv (List.replicate 32 0)).toArray 68)).heap.size=w5.heap.size+1:=by simp
    try rw[e8]
    clear e8;obtain⟨ga,hga⟩:∃g,g=w5.heap.size:=⟨_,rfl⟩;obtain⟨gb,hgb⟩:∃g,g=w5.heap.size+1:=⟨_,rfl⟩;rw[←hgb]at RB7 ⊢;rw[←hga]at RA7 ⊢;clear hgb hga;have HO7:Hid (w7.ownsMap Tryd.prog 68 accE mb' M.length E):=Hd (HOE.out.kept (Xcx (B5.out.trans (BW7.out.mono B5.out.size))) (by simp));have HLE:Hid (blank13.cells.toArray.size=(getH M k1).cells.length):=Hd (by rw[List.size_toArray,Xbs HEY.out.o.1];rfl);have HSE2:=Hd (Xay HEY.out.o.1);go_upto_region 7 with(first
     | ((with_reducible show wpList _ _ _ (⟨some 23,_,_,_,_,_⟩::_) _ _);go_must(refine Xa3 rfl 68 (.tmp 5) rfl ga 68 (bv k1) _ Tryd.underlying68 rfl HSK.out RA7.out ?_ ?_;go_simp))
     | (at_lookup;go_must(refine Xij rfl (.tmp 22) (.tmp 23) rfl mb' M.length ?_ HO7.out HAE.out HKO.out ?_ ?_;go_simp;go_simp))
     | ((with_reducible show wpList _ _ _ (⟨some 7,_,_,_,_,_⟩::_) _ _);go_must(refine Xa2 rfl 72 rfl blank13.cells Xgh ?_))
     | ((with_reducible show wpList _ _ _ (⟨none,Op.store 72 _ _,_,_,_,_⟩::_) _ _);go_must(refine Xa6 rfl 72 (.tmp 7) (.tmp 25) rfl (getH M k1).cells HSE2.out (Xe3 _) HLE.out ?_ ?_ ?_;go_simp;go_simp;intro w8 hr8 hb8 hz8)))
    have RC8:=Hd hr8;have RB8:=Hd (RB7.out.below hb8 RB7.out.lt);have BW8:=Hd (BW7.out.trans (hb8.mono BW7.out.size));have B8:=Hd (B5.out.trans (BW8.out.mono B5.out.size));have K8:=RV5.out.kept (Xcx BW8.out) (by simp) (by simp);have RV8:=Hd K8.1;have HLT8:=Hd K8.2;clear hr8 hb8 hz8 K8;obtain⟨gc,hgc⟩:∃g,g=w7.heap.size:=⟨_,rfl⟩;rw[←hgc]at RC8 ⊢;clear hgc RA7 RB7 BW7 HO7 B5 RV5;have HNEQ:=Hd (fun w=>Xfr (x:=getH L k1) (y:=getH M k1) HOK.out.o.1 HEY.out.o.1 w);by_cases hm:k1 ∈ ks13 M
    ·rw[decide_eq_true hm];by_cases hy:getH L k1=getH M k1
     ·rw[decide_eq_true hy]at HNEQ;have HV2:Hid (∀k ∈ k1::vs,k ∈ ks13 M∧getH L k=getH M k):=Hd fun k hk=>by
       rcases List.mem_cons.1 hk with rfl | hk
       ·exact⟨hm,hy⟩
       ·exact HV.out k hk
      clear hm hy;have NEQ:=HNEQ.out;clear HNEQ;go_wp2_with (first
       | ((with_reducible show wpList _ _ _ (⟨some 30,_,_,_,_,_⟩::_) _ _);go_must(refine Xb8 (by kernel_rfl) 72 (.tmp 6) rfl ⟨gb,0,none⟩ (getH L k1).cells _ Tryd.underlying72 rfl HSF.out (fun j u hu=>by rw[Xac,Nat.zero_add];exact(RB8.out.cell j).trans hu) ?_ ?_;go_simp))
       | ((with_reducible show wpList _ _ _ (⟨some 31,_,_,_,_,_⟩::_) _ _);go_must(refine Xb8 (by kernel_rfl) 72 (.tmp 7) rfl ⟨gc,0,none⟩ (getH M k1).cells _ Tryd.underlying72 rfl HSE2.out (fun j u hu=>by rw[Xac,Nat.zero_add];exact(RC8.out.cell j).trans hu) ?_ ?_;go_simp)))
      go_roundw
      case rel=>exact⟨k1::vs,RV8.out,HV2,B8.out⟩
      case measure =>
       show World.rangeLeft _ mb rr<World.rangeLeft _ mb rr
       rw[HLT8.out];exact HLT.out
     ·rw[decide_eq_false hy]at HNEQ;have E1:Hid (decide (L=M)=false):=Hd (decide_eq_false fun e=>hy (by rw[e]));clear hm hy;have NEQ:=HNEQ.out;clear HNEQ;go_wp2_with (first
       | ((with_reducible show wpList _ _ _ (⟨some 30,_,_,_,_,_⟩::_) _ _);go_must(refine Xb8 (by kernel_rfl) 72 (.tmp 6) rfl ⟨gb,0,none⟩ (getH L k1).cells _ Tryd.underlying72 rfl HSF.out (fun j u hu=>by rw[Xac,Nat.zero_add];exact(RB8.out.cell j).trans hu) ?_ ?_;go_simp))
       | ((with_reducible show wpList _ _ _ (⟨some 31,_,_,_,_,_⟩::_) _ _);go_must(refine Xb8 (by kernel_rfl) 72 (.tmp 7) rfl ⟨gc,0,none⟩ (getH M k1).cells _ Tryd.underlying72 rfl HSE2.out (fun j u hu=>by rw[Xac,Nat.zero_add];exact(RC8.out.cell j).trans hu) ?_ ?_;go_simp)))
      go_ret;exact⟨by rw[E1.out];rfl,B8.out⟩
    ·rw[decide_eq_false hm];have E1:Hid (decide (L=M)=false):=Hd (decide_eq_false fun e=>hm (by rw[←e];exact HIN.out));clear hm HNEQ;go_wp2_with fail;go_ret;exact⟨by rw[E1.out];rfl,B8.out⟩
 ·have hne:¬(n:Int)=(m:Int):=fun e=>hnm (by exact_mod_cast e)
  have E1:Hid (decide (L=M)=false):=Hd (decide_eq_false fun e=>hnm (by rw[HN.out,HMM.out,e]));clear hnm;go_enter Tryd.func35,Tryd.ntmps35
  go_wp2_with fail;go_ret;exact⟨by rw[E1.out];rfl,Br _ _⟩
theorem same13(sb mb sb' mb':Nat)(L M:List LHold)(w:World)(h:StIn w sb mb L)(h':StIn w sb' mb' M)(hL:L.length≤5000)(hM:M.length≤5000):Calls Tryd.prog 14 #[.pointer (some ⟨sb,0,none⟩),.pointer (some ⟨sb',0,none⟩)] w fun e w'=>e=.returned (.bool (decide (L=M)))∧Below w.heap.size w w':=by
 have HT:=Hd (Xfw sb mb L w h);have HU:=Hd (Xfw sb' mb' M w h');have c0:w.cell? ⟨sb,0,none⟩=some (.map (some mb)):=h.row.cell 0;have c1:w.cell? ⟨sb',0,none⟩=some (.map (some mb')):=h'.row.cell 0;obtain⟨D,ho,hd⟩:=h.map;obtain⟨E,ho',he⟩:=h'.map;have HE:Hid (∀V,Below w.heap.size w V→Calls Tryd.prog 35 #[.map (some mb),.map (some mb')] V fun e w'=>e=.returned (.bool (decide (L=M)))∧Below w.heap.size w w'):=Hd fun V hV =>
  (Xts mb mb' L M V (ho.kept (Xcx hV) (by simp)) hd (ho'.kept (Xcx hV) (by simp)) he h.sto h'.sto hL hM).mono fun e w' ⟨h1,h2⟩=>⟨h1,hV.trans (h2.mono hV.size)⟩
 have HC:Hid (∀V,Below w.heap.size w V→V.cell? ⟨sb,0,none⟩=some (.map (some mb))∧V.cell? ⟨sb',0,none⟩=some (.map (some mb'))):=Hd fun V hV=>⟨(hV.cell h.lt.1).trans c0,(hV.cell h'.lt.1).trans c1⟩
 clear c0 c1;clear h h' ho ho' hd he;generalize decide (L=M)=r at *;go_enter Tryd.func14,Tryd.ntmps14
 go_wp2_with fail;refine HT.out.mono ?_;rintro e w' ⟨rfl,rfl⟩;go_wp2_with fail;refine HU.out.mono ?_;rintro e w' ⟨rfl,rfl⟩;go_wp2_with fail;refine wp_region_held_drew (S:=(fun V=>Below w.heap.size w V)) (by kernel_rfl) (Br w.heap.size w).drew (fun _=>?_);refine Tk 0 rfl ?_ (Br w.heap.size w).drew ?_ ⟨?_,rfl⟩
 ·intro w hw;(try dsimp only at hw);go_simp;try with_reducible rfl
 try simp only[nm]
 refine Tk 1 rfl ?_ (Br w.heap.size w).drew ?_ ⟨?_,rfl⟩
 ·intro w hw;(try dsimp only at hw);go_simp;try with_reducible rfl
 try simp only[nm]
 refine Tk 2 rfl ?_ (Br w.heap.size w).drew ?_ ⟨?_,rfl⟩
 ·intro w hw;(try dsimp only at hw);go_simp;try with_reducible rfl
 try simp only[nm]
 refine Tk 3 rfl ?_ (Br w.heap.size w).drew ?_ ⟨?_,rfl⟩
 ·intro w hw;try dsimp only at hw
  have hc:=(HC.out _ hw).1;go_simp;try with_reducible rfl
 try simp only[nm]
 refine Tk 4 rfl ?_ (Br w.heap.size w).drew ?_ ⟨?_,rfl⟩
 ·intro w hw;(try dsimp only at hw);go_simp;try with_reducible rfl
 try simp only[nm]
 refine Tk 5 rfl ?_ (Br w.heap.size w).drew ?_ ⟨?_,rfl⟩
 ·intro w hw;(try dsimp only at hw);go_simp;try with_reducible rfl
 try simp only[nm]
 refine Tk 6 rfl ?_ (Br w.heap.size w).drew ?_ ⟨?_,rfl⟩
 ·intro w hw;(try dsimp only at hw);go_simp;try with_reducible rfl
 try simp only[nm]
 refine Tk 7 rfl ?_ (Br w.heap.size w).drew ?_ ⟨?_,rfl⟩
 ·intro w hw;try dsimp only at hw
  have hc:=(HC.out _ hw).2;go_simp;try with_reducible rfl
 try simp only[nm]
 refine Rl 8 rfl fun K hK=>?_
 go_simp;refine(HE.out _ (Br w.heap.size w).drew).mono ?_;rintro e w1 ⟨rfl,hb⟩;have B1:=Hd hb;clear hb;refine hK.out _ _ B1.out ?_;clear hK K;try simp only[nm]
 refine Tk 9 rfl ?_ B1.out ?_ ⟨?_,rfl⟩
 ·intro w hw;(try dsimp only at hw);go_simp;try with_reducible rfl
 try simp only[nm]
 refine wpAnyH_done (by kernel_rfl) ?_ _;go_wp2_with fail;go_ret;exact⟨rfl,B1.out⟩
theorem Xn2{o:Oper}{a:Act}(w:World)(b:BinOp)(t:TypeId){u:TypeId}(x y:Operand){X Y:Array Value}{v:Value}(hm:Tryd.prog.eqGuardType Tryd.prog.depth t=false)(ho:o.op=.binOp b t x y u)(hx:a.eval x=.agg X)(hy:a.eval y=.agg Y)(h:(binOp b t (.agg X) (.agg Y)).run Tryd.prog w=.ok v w):(execOp a.eval o).run Tryd.prog w=.ok (.value v) w:=by
 unfold execOp;rw[ho];simp only[hx,hy];rw[Sem.run_bind,Sem.run_bind,run_eqGuard_agg (hm:=hm),Result.andThen_ok,h];rfl
def Apart16(rs:List (YRaw × LReady)):Prop:=∀(i k:Nat) (y z:YRaw × LReady),k<i→rs[i]?=some y→rs[k]?=some z→confl y.2.roles z.2.roles=false
def ApaDone16(rs:List (YRaw × LReady))(e:Ending):Prop:=∃b:Bool,e=.returned (.bool b)∧(b=true→Apart16 rs)
theorem Xph(A:Option Addr)(n c:Nat)(rs:List (YRaw × LReady))(w:World)(h:RdsIn w w.heap.size A n rs)(hn:n≤100)(hrn:∀p ∈ rs,p.1.rn≤4000) :
 Calls Tryd.prog 8 #[.slice A n c] w fun e w'=>ApaDone16 rs e∧Below w.heap.size w w':=by
 have HX:=Hd h;have HR:=Hd hrn;clear h hrn;go_enter Tryd.func8,Tryd.ntmps8
 go_wp2_with fail;go_loopw [3] (fun i wr=>∃k:Nat,k≤n∧i=.int .i64 k∧(∀(i j:Nat) (y z:YRaw × LReady),i<k→j<i→rs[i]?=some y→rs[j]?=some z→confl y.2.roles z.2.roles=false)∧Below w.heap.size w wr) (fun i _=>n - (intOf i).toNat)
 case atStart=>exact⟨0,Nat.zero_le _,rfl,fun i j y z hi=>absurd hi (Nat.not_lt_zero _),Br _ _⟩
 case round =>
  obtain⟨k,hk,rfl,hap,hb⟩:=hrel;have BW:=Hd hb;have HAP:=Hd hap;clear hb hap;rename World=>wr
  by_cases hlt:k<n
  ·have hlt':(k:Int)<n:=by omega
   obtain⟨y,hy⟩:∃y,rs[k]?=some y:=⟨_,List.getElem?_eq_getElem (by rw[HX.out.len];exact hlt)⟩;obtain⟨a,ea,hab,hac⟩:=HX.out.sees k y hy;have HYI:=Hd (HX.out.each k y hy);have HRY:=Hd (HX.out.each k y hy).rs;have HNY:=Hd (HR.out y (List.mem_of_getElem? hy));have HY:=Hd hy;have HCX:Hid (∀V,Below w.heap.size w V→V.cell? ⟨(a.add (k*48)).block,(a.add (k*48)).off+41,none⟩=some (.slice y.1.RA y.1.rn y.1.rc)):=Hd fun V hV=>(hV.cell (by rw[Xab];exact hab)).trans (show w.cell? ⟨(a.add (k*48)).block,(a.add (k*48)).off+41,none⟩=_ from hac 41 _ (Xaz HYI.out.tx.m.recent 0))
   have EA:=Hd ea;subst ea;clear hab hac hy;go_wp2_with fail;go_loopw [4] (fun i wr=>∃j:Nat,j≤k∧i=.int .i64 j∧(∀(j':Nat) (z:YRaw × LReady),j'<j→rs[j']?=some z→confl y.2.roles z.2.roles=false)∧Below w.heap.size w wr) (fun i _=>k - (intOf i).toNat)
   case atStart=>exact⟨0,Nat.zero_le _,rfl,fun j z hj=>absurd hj (Nat.not_lt_zero _),BW.out⟩
   case round =>
    obtain⟨j,hj,rfl,haj,hb⟩:=hrel;have BV:=Hd hb;have HAJ:=Hd haj;clear hb haj BW;rename World=>wv
    by_cases hlj:j<k
    ·have hlj':(j:Int)<k:=by omega
     have hjn:(j:Int)<n:=by omega
     obtain⟨z,hz⟩:∃z,rs[j]?=some z:=⟨_,List.getElem?_eq_getElem (by rw[HX.out.len];omega)⟩;obtain⟨a2,ea2,hab,hac⟩:=HX.out.sees j z hz;obtain rfl:a=a2:=Option.some.inj ea2;have HZI:=Hd (HX.out.each j z hz);have HRZ:=Hd (HX.out.each j z hz).rs;have HNZ:=Hd (HR.out z (List.mem_of_getElem? hz));have HZ:=Hd hz;have HCY:Hid (∀V,Below w.heap.size w V→V.cell? ⟨(a.add (j*48)).block,(a.add (j*48)).off+41,none⟩=some (.slice z.1.RA z.1.rn z.1.rc)):=Hd fun V hV=>(hV.cell (by rw[Xab];exact hab)).trans (show w.cell? ⟨(a.add (j*48)).block,(a.add (j*48)).off+41,none⟩=_ from hac 41 _ (Xaz HZI.out.tx.m.recent 0))
     clear hab hac hz ea2;obtain⟨cf,hcf⟩:∃d,d=confl y.2.roles z.2.roles:=⟨_,rfl⟩;have HCF:=Hd hcf;go_upto_region 7 with fail
     have SB:=Hd (show Below w.heap.size w wv.drew from BV.out.drew);refine wp_region_held_drew (S:=fun V=>Below w.heap.size w V) (by kernel_rfl) SB.out (fun _=>?_);try dsimp only[List.append]
     clear BV;generalize wv.drew=wd at *;refine Tk 0 rfl ?_ SB.out ?_ ⟨?_,rfl⟩
     ·intro w hw;(try dsimp only at hw);go_simp;try with_reducible rfl
     try simp only[nm]
     refine Tk 1 rfl ?_ SB.out ?_ ⟨?_,rfl⟩
     ·intro w hw;(try dsimp only at hw);go_simp;try with_reducible rfl
     try simp only[nm]
     refine Tk 2 rfl ?_ SB.out ?_ ⟨?_,rfl⟩
     ·intro w hw;(try dsimp only at hw);go_simp;try with_reducible rfl
     try simp only[nm]
     refine Tk 3 rfl ?_ SB.out ?_ ⟨?_,rfl⟩
     ·intro w hw;(try dsimp only at hw);go_simp;try with_reducible rfl
     try simp only[nm]
     refine Tk 4 rfl ?_ SB.out ?_ ⟨?_,rfl⟩
     ·intro w hw;try dsimp only at hw
      have oc:=HCX.out w hw;go_simp;try with_reducible rfl
     try simp only[nm]
     refine Tk 5 rfl ?_ SB.out ?_ ⟨?_,rfl⟩
     ·intro w hw;(try dsimp only at hw);go_simp;try with_reducible rfl
     try simp only[nm]
     refine Tk 6 rfl ?_ SB.out ?_ ⟨?_,rfl⟩
     ·intro w hw;(try dsimp only at hw);go_simp;try with_reducible rfl
     try simp only[nm]
     refine Tk 7 rfl ?_ SB.out ?_ ⟨?_,rfl⟩
     ·intro w hw;(try dsimp only at hw);go_simp;try with_reducible rfl
     try simp only[nm]
     refine Tk 8 rfl ?_ SB.out ?_ ⟨?_,rfl⟩
     ·intro w hw;(try dsimp only at hw);go_simp;try with_reducible rfl
     try simp only[nm]
     refine Tk 9 rfl ?_ SB.out ?_ ⟨?_,rfl⟩
     ·intro w hw;try dsimp only at hw
      have oc:=HCY.out w hw;go_simp;try with_reducible rfl
     try simp only[nm]
     refine Rl 10 rfl fun K hK=>?_
     go_simp;refine(Xp9 y.1.RA z.1.RA y.1.rn y.1.rc z.1.rn z.1.rc w.heap.size y.2.roles z.2.roles wd (HRY.out.below SB.out) (HRZ.out.below SB.out) SB.out.size HNY.out HNZ.out).mono ?_;rintro e w1 ⟨rfl,hb1⟩;have SB:=Hd (SB.out.trans (hb1.mono SB.out.size));clear hb1;refine hK.out _ _ SB.out ?_;clear hK K;try simp only[nm]
     refine wpAnyH_done (by kernel_rfl) ?_ _;rw[←hcf];clear hcf;cases cf with
     | true =>
      go_wp2_with fail;go_ret;exact⟨⟨_,rfl,fun h=>by cases h⟩,SB.out⟩
     | false =>
      go_wp2_with fail;go_roundw
      case rel=>exact⟨j+1,by omega,by go_num,fun j' z' h1 h2=>by
       rcases Nat.lt_succ_iff_lt_or_eq.1 h1 with h3 | rfl
       ·exact HAJ.out j' z' h3 h2
       ·obtain rfl:z=z':=Option.some.inj (HZ.out.symm.trans h2);exact HCF.out.symm,SB.out⟩
      case measure=>simp[intOf];omega
    ·have hlj':¬(j:Int)<k:=by omega
     have HAK:Hid (∀(i j:Nat) (y z:YRaw × LReady),i<k+1→j<i→rs[i]?=some y→rs[j]?=some z→confl y.2.roles z.2.roles=false):=Hd fun i j' y' z' h1 h2 h3 h4=>by
      rcases Nat.lt_succ_iff_lt_or_eq.1 h1 with h5 | rfl
      ·exact HAP.out i j' y' z' h5 h2 h3 h4
      ·obtain rfl:y=y':=Option.some.inj (HY.out.symm.trans h3);exact HAJ.out j' z' (by omega) h4
     clear HAP HAJ;obtain⟨rn,hrn⟩:∃r,r=y.1.rn:=⟨_,rfl⟩;have HQN:=Hd hrn;rw[←hrn]at HCX;clear hrn;have hrn4:rn≤4000:=by rw[HQN.out];exact HNY.out
     go_wp2_with fail;go_loopw [5] (fun i wr=>∃j:Nat,j≤rn∧i=.int .i64 j∧Below w.heap.size w wr) (fun i _=>rn - (intOf i).toNat)
     case atStart=>exact⟨0,Nat.zero_le _,rfl,BV.out⟩
     case round =>
      clear hlj hlj' hj;obtain⟨j,hj,rfl,hb⟩:=hrel;have BU:=Hd hb;clear hb BV;rename World=>wu
      have oc:=HCX.out wu BU.out;by_cases hlj:j<rn
      ·have hlj':(j:Int)<rn:=by omega
       obtain⟨ra,u,era,hub,hu,huo,huc⟩:=HRY.out.get (k:=j) (by rw[←HQN.out];exact hlj);have HKU:Hid ((Tryd.prog.info? 68).map (·.size)=some (bv u.key).length∧∀V,Below w.heap.size w V→∀i x,(bv u.key)[i]?=some x→V.cell? ((ra.add (j*34)).add i)=some x):=Hd ⟨by rw[bL,huo.1];exact Xb7,fun V hV i x hx=>(hV.cell (by rw[Xab,Xab];exact hub)).trans (huc i x (Xc9 hx))⟩;have HUO:=Hd huo;rw[era]at HCX oc;clear hub hu huo huc;go_wp2_with fail;go_loopw [6] (fun i wr=>∃m:Nat,m≤j∧i=.int .i64 m∧Below w.heap.size w wr) (fun i _=>j - (intOf i).toNat)
       case atStart=>exact⟨0,Nat.zero_le _,rfl,BU.out⟩
       case round =>
        clear oc;obtain⟨m,hm,rfl,hb⟩:=hrel;have BT:=Hd hb;clear hb BU;rename World=>wt
        by_cases hlm:m<j
        ·have hlm':(m:Int)<j:=by omega
         have hmr:(m:Int)<rn:=by omega
         obtain⟨ra2,v,era2,hvb,hv,hvo,hvc⟩:=HRY.out.get (k:=m) (by rw[←HQN.out];omega);obtain rfl:ra=ra2:=Option.some.inj (era.symm.trans era2);have HKV:Hid ((Tryd.prog.info? 68).map (·.size)=some (bv v.key).length∧∀V,Below w.heap.size w V→∀i x,(bv v.key)[i]?=some x→V.cell? ((ra.add (m*34)).add i)=some x):=Hd ⟨by rw[bL,hvo.1];exact Xb7,fun V hV i x hx=>(hV.cell (by rw[Xab,Xab];exact hvb)).trans (hvc i x (Xc9 hx))⟩;obtain⟨dd,hdd⟩:∃d,d=decide (u.key=v.key):=⟨_,rfl⟩;have HEQ:Hid (∀w,(binOp .eql 68 (.agg (bv u.key).toArray) (.agg (bv v.key).toArray)).run Tryd.prog w=.ok (.bool dd) w):=Hd fun w=>by rw[hdd];exact Xi1 HUO.out.1 hvo.1 w
         clear hvb hv hvo hvc hdd era2;go_upto_region 15 with fail
         have SB:=Hd (show Below w.heap.size w wt.drew from BT.out.drew);refine wp_region_held_drew (S:=fun V=>Below w.heap.size w V) (by kernel_rfl) SB.out (fun _=>?_);try dsimp only[List.append]
         clear BT;generalize wt.drew=wd at *;refine Tk 0 rfl ?_ SB.out ?_ ⟨?_,rfl⟩
         ·intro w hw;(try dsimp only at hw);go_simp;try with_reducible rfl
         try simp only[nm]
         refine Tk 1 rfl ?_ SB.out ?_ ⟨?_,rfl⟩
         ·intro w hw;(try dsimp only at hw);go_simp;try with_reducible rfl
         try simp only[nm]
         refine Tk 2 rfl ?_ SB.out ?_ ⟨?_,rfl⟩
         ·intro w hw;(try dsimp only at hw);go_simp;try with_reducible rfl
         try simp only[nm]
         refine Tk 3 rfl ?_ SB.out ?_ ⟨?_,rfl⟩
         ·intro w hw;(try dsimp only at hw);go_simp;try with_reducible rfl
         try simp only[nm]
         refine Tk 4 rfl ?_ SB.out ?_ ⟨?_,rfl⟩
         ·intro w hw;try dsimp only at hw
          have oc:=HCX.out w hw;go_simp;try with_reducible rfl
         try simp only[nm]
         refine Tk 5 rfl ?_ SB.out ?_ ⟨?_,rfl⟩
         ·intro w hw;(try dsimp only at hw);go_simp;try with_reducible rfl
         try simp only[nm]
         refine Tk 6 rfl ?_ SB.out ?_ ⟨?_,rfl⟩
         ·intro w hw;(try dsimp only at hw);go_simp;try with_reducible rfl
         try simp only[nm]
         refine Tk 7 rfl ?_ SB.out ?_ ⟨?_,rfl⟩
         ·intro w hw;(try dsimp only at hw);go_simp;try with_reducible rfl
         try simp only[nm]
         refine Tl 8 (v:=.agg (bv u.key).toArray) rfl (Or.inl ⟨by rfl,fun wz hwz=>Xa4 wz 68 (.tmp 51) rfl (ra.add (j*34)) (bv u.key) _ Tryd.underlying68 rfl HKU.out.1 (HKU.out.2 wz hwz) (by go_simp)⟩) SB.out ?_;try simp only[nm]
         refine Tk 9 rfl ?_ SB.out ?_ ⟨?_,rfl⟩
         ·intro w hw;(try dsimp only at hw);go_simp;try with_reducible rfl
         try simp only[nm]
         refine Tk 10 rfl ?_ SB.out ?_ ⟨?_,rfl⟩
         ·intro w hw;(try dsimp only at hw);go_simp;try with_reducible rfl
         try simp only[nm]
         refine Tk 11 rfl ?_ SB.out ?_ ⟨?_,rfl⟩
         ·intro w hw;(try dsimp only at hw);go_simp;try with_reducible rfl
         try simp only[nm]
         refine Tk 12 rfl ?_ SB.out ?_ ⟨?_,rfl⟩
         ·intro w hw;(try dsimp only at hw);go_simp;try with_reducible rfl
         try simp only[nm]
         refine Tk 13 rfl ?_ SB.out ?_ ⟨?_,rfl⟩
         ·intro w hw;try dsimp only at hw
          have oc:=HCX.out w hw;go_simp;try with_reducible rfl
         try simp only[nm]
         refine Tk 14 rfl ?_ SB.out ?_ ⟨?_,rfl⟩
         ·intro w hw;(try dsimp only at hw);go_simp;try with_reducible rfl
         try simp only[nm]
         refine Tk 15 rfl ?_ SB.out ?_ ⟨?_,rfl⟩
         ·intro w hw;(try dsimp only at hw);go_simp;try with_reducible rfl
         try simp only[nm]
         refine Tk 16 rfl ?_ SB.out ?_ ⟨?_,rfl⟩
         ·intro w hw;(try dsimp only at hw);go_simp;try with_reducible rfl
         try simp only[nm]
         refine Tl 17 (v:=.agg (bv v.key).toArray) rfl (Or.inl ⟨by rfl,fun wz hwz=>Xa4 wz 68 (.tmp 60) rfl (ra.add (m*34)) (bv v.key) _ Tryd.underlying68 rfl HKV.out.1 (HKV.out.2 wz hwz) (by go_simp)⟩) SB.out ?_;try simp only[nm]
         refine Tl 18 (v:=.bool dd) rfl (Or.inl ⟨by rfl,fun wz hwz=>Xn2 wz .eql 68 (.tmp 52) (.tmp 61) (by kernel_rfl) rfl (by go_simp) (by go_simp) (HEQ.out wz)⟩) SB.out ?_;try simp only[nm]
         refine wpAnyH_done (by kernel_rfl) ?_ _;cases dd with
         | true =>
          go_wp2_with fail;go_ret;exact⟨⟨_,rfl,fun h=>by cases h⟩,SB.out⟩
         | false =>
          go_wp2_with fail;go_roundw
          case rel=>exact⟨m+1,by omega,by go_num,SB.out⟩
          case measure=>simp[intOf];omega
        ·have hlm':¬(m:Int)<j:=by omega
         go_wp2_with fail;go_roundw
         case rel=>exact⟨j+1,by omega,by go_num,BT.out⟩
         case measure=>simp[intOf];omega
      ·have hlj':¬(j:Int)<rn:=by omega
       go_wp2_with fail;go_roundw
       case rel=>exact⟨k+1,by omega,by go_num,HAK.out,BU.out⟩
       case measure=>simp[intOf];omega
  ·have hke:k=n:=by omega
   have hlt':¬(k:Int)<n:=by omega
   go_wp2_with fail;go_ret;exact⟨⟨_,rfl,fun _ i k' y z h1 h2 h3=>HAP.out i k' y z (by have h4:=(List.getElem?_eq_some_iff.1 h2).1;rw[HX.out.len]at h4;omega) h1 h2 h3⟩,BW.out⟩
end Go.Proofs.YtkhcgclnmdgpbaaDoor
