import Derived.Test.YtaljfbbieefooaaGreatDoorM19
import Derived.Lib.BitFns
import Derived.Lib.Mul64
import Derived.Laws.NewBlocks
import Derived.Deep.RegionWith
import Derived.Shelf.Small.Bits
import Derived.Lib.IfaceEq
import Derived.Defers
import Derived.RangeFuncNested
import Derived.RangeFuncBound
import Derived.RangeFuncCalls
import Derived.RangeFuncLeaves
import Derived.Shelf.Abstract
import Derived.Shelf.RegionOpen
import Derived.OwnWalkIn
import Derived.TacticsInMore
import Derived.LoopNIn
import Derived.LoopIn
set_option maxRecDepth 100000
set_option maxHeartbeats 16000000
set_option linter.unusedSimpArgs false
set_option linter.unusedVariables false
namespace Go.Proofs.YtaljfbbieefooaaGreatDoor
open Go.RowKit
def ac15x(c:Int):LAcc:=⟨c,k0,0⟩
theorem Xti{c:Int}(h:0≤c∧c<18446744073709551616):AccOk (ac15x c):=⟨h,Xav,by show(0:Int)≤0∧(0:Int)<18446744073709551616;decide⟩
theorem Xnb(c:Int):Tryz.prog.built 69 [(0,.int .u64 c)]=some (ac15x c).cells.toArray:=by kernel_rfl
def st15x:List LHold:=[⟨kx15 8,ac15x 20000⟩]
def l15x:List LAcc:=[ac15x 15000,blank13,blank13]
def h15a:LHold:=⟨kx15 8,ac15x 14800⟩
def h15b:LHold:=⟨kx15 9,ac15x 200⟩
def o15x:LOut:=⟨0,-1,150,5000,0,[h15a,h15b]⟩
theorem put15x:putH [] (kx15 8) (ac15x 20000)=st15x:=by kernel_rfl
theorem pay15x:pay15 st15x rd15x=true:=by kernel_rfl
theorem Xvt:load15 st15x rd15x=l15x:=by kernel_rfl
theorem run15x:run15 rd15x l15x=(o15x,0):=by kernel_rfl
theorem Xin{x y:LHold}(hkx:x.k.length=32)(hky:y.k.length=32)(hx:x.a.o.length=32)(hy:y.a.o.length=32)(w:World):(binOp .eql 74 (.agg x.cells.toArray) (.agg y.cells.toArray)).run Tryz.prog w=.ok (.bool (decide (x=y))) w:=by
 rw[run_eql_struct,Xmr hkx hky hx hy w _ rfl];rfl
theorem Xok:Tryz.prog.built 74 [(0,.agg (bv (kx15 8)).toArray),(1,.agg (ac15x 14800).cells.toArray)]=some h15a.cells.toArray:=Xdg rfl rfl
theorem Xnp:Tryz.prog.built 74 [(0,.agg (bv (kx15 9)).toArray),(1,.agg (ac15x 200).cells.toArray)]=some h15b.cells.toArray:=Xdg rfl rfl
structure LX15(w V:World)(g1 g2:Nat):Prop where
 b:Below w.heap.size w V
 r1:Row V g1 62 (bv (kx15 8))
 r2:Row V g2 62 (bv (kx15 9))
 lo:w.heap.size≤g1∧w.heap.size≤g2
theorem LX15.below{w V V':World}{g1 g2:Nat}(m:LX15 w V g1 g2)(hb:Below V.heap.size V V'):LX15 w V' g1 g2:=⟨m.b.trans (hb.mono m.b.size),m.r1.below hb m.r1.lt,m.r2.below hb m.r2.lt,m.lo⟩
theorem Xiz{w V V':World}{mb:Nat}(hg:V.grownBy V' (some mb))(hb:Below w.heap.size w V)(hm:w.heap.size≤mb):Below w.heap.size w V':=hb.grown hg hb.size (fun k hk=>by cases hk;exact hm)
theorem LX15.grown{w V V':World}{g1 g2 mb:Nat}(m:LX15 w V g1 g2)(hg:V.grownBy V' (some mb))(hm:w.heap.size≤mb)(h1:g1≠mb)(h2:g2≠mb):LX15 w V' g1 g2:=
 ⟨Xiz hg m.b hm,m.r1.grown hg (fun e=>h1 (by injection e)),m.r2.grown hg (fun e=>h2 (by injection e)),m.lo⟩
theorem Xmj{w:World}{base c:Nat}{A:Option Addr}{L:List LHold}(h:w.ownsRow base 74 66 (.slice A L.length c) L.length (holC L))(ho:∀x ∈ L,x.cells.length=66){k:Nat}{x:LHold}(hk:L[k]?=some x):∃a,A=some a∧a.block<w.heap.size∧∀j u,x.cells[j]?=some u→w.cell? ((a.add (k*66)).add j)=some u:=by
 obtain⟨A',c',e,h2,_⟩:=Xbm h;injection e with e _ _
 subst e;have hcs:CsIn 66 w w.heap.size A L.length (L.map LHold.cells):=⟨by rw[List.length_map],fun k hk=>by obtain⟨y,hy,rfl⟩:=List.mem_map.1 hk;exact ho y hy,h2⟩;obtain⟨a,y,e,hb,hy,_,hc⟩:=hcs.get (k:=k) (List.getElem?_eq_some_iff.1 hk).1 (by omega);rw[List.getElem?_map,hk]at hy;injection hy with hy
 subst hy;exact⟨a,e,hb,hc⟩
theorem Xtq{w:World}{base g cap n:Nat}{rest:List Value}{out:List LAcc}(h:OutAt w base g cap n rest out):AccsIn w w.heap.size (some ⟨g,0,none⟩) n out:=h.done.accs h.len.symm
theorem Xl1(w:World)(htw:TypAt w):Calls Tryz.prog 5 #[] w fun e w'=>e=.returned (.bool true)∧Below w.heap.size w w':=by
 have HT:=Hd htw;have HA:=Hd Xnb;have HKN:=Hd Xro;have HKM:=Hd Xr8;have HNB:Hid (∀w,(binOp .neq 69 (.agg blank13.cells.toArray) (.agg blank13.cells.toArray)).run Tryz.prog w=.ok (.bool false) w):=Hd fun w=>by rw[Xcq rfl rfl,decide_eq_true rfl];rfl
 have HEA:Hid (∀w,(binOp .eql 74 (.agg h15a.cells.toArray) (.agg h15a.cells.toArray)).run Tryz.prog w=.ok (.bool true) w):=Hd fun w=>by rw[Xin rfl rfl rfl rfl,decide_eq_true rfl]
 have HEB:Hid (∀w,(binOp .eql 74 (.agg h15b.cells.toArray) (.agg h15b.cells.toArray)).run Tryz.prog w=.ok (.bool true) w):=Hd fun w=>by rw[Xin rfl rfl rfl rfl,decide_eq_true rfl]
 have HPAY:=Hd pay15x;have HLOD:=Hd Xvt;have HRUN:=Hd run15x;have HPUT:=Hd put15x;clear htw;go_enter Tryz.func5,Tryz.ntmps5
 go_upto_region 2 with(first
  | ((with_reducible show wpList _ _ _ (⟨some 9,_,_,_,_,_⟩::_) _ _);go_must(refine wpList_plain rfl fun K hK=>Xae _ _ _ rfl (by simp only[List.map_toArray,List.map_cons,List.map_nil];exact HKN.out) (hK _ _ ?_)))
  | ((with_reducible show wpList _ _ _ (⟨none,Op.store 62 _ _,_,_,_,_⟩::_) _ _);go_must(refine Xa2 rfl 62 (.tmp 1) (.tmp 9) rfl (bv (kx15 8)) (by kernel_rfl) (Xbj _) rfl ?_ ?_ ?_;go_simp;go_simp;intro w1 hr1 hb1 hz1)))
 have R1:=Hd hr1;have B1:=Hd hb1;obtain⟨g1,hg1⟩:∃g,g=w.heap.size:=⟨_,rfl⟩;rw[←hg1]at R1 ⊢;have HG1:Hid (w.heap.size≤g1):=Hd (by omega);clear hr1 hb1 hz1 hg1;go_upto_region 3 with(first
  | ((with_reducible show wpList _ _ _ (⟨some 10,_,_,_,_,_⟩::_) _ _);go_must(refine wpList_plain rfl fun K hK=>Xae _ _ _ rfl (by simp only[List.map_toArray,List.map_cons,List.map_nil];exact HKM.out) (hK _ _ ?_)))
  | ((with_reducible show wpList _ _ _ (⟨none,Op.store 62 _ _,_,_,_,_⟩::_) _ _);go_must(refine Xa2 rfl 62 (.tmp 2) (.tmp 10) rfl (bv (kx15 9)) (by kernel_rfl) (Xbj _) rfl ?_ ?_ ?_;go_simp;go_simp;intro w2 hr2 hb2 hz2)))
 have R2:=Hd hr2;have HX0:Hid (Below w1.heap.size w1 w2):=Hd hb2;obtain⟨g2,hg2⟩:∃g,g=w1.heap.size:=⟨_,rfl⟩;rw[←hg2]at R2 ⊢;have X2:Hid (LX15 w w2 g1 g2):=Hd ⟨B1.out.trans (HX0.out.mono B1.out.size),R1.out.below HX0.out R1.out.lt,R2.out,HG1.out,by rw[hg2];exact B1.out.size⟩;clear hr2 hb2 hz2 hg2 HX0 R1 R2 B1 HG1;go_wp2_with fail;refine(new13 w2).mono ?_;rintro e w3 ⟨sb,mb,rfl,hst,hsl,hml,hb3⟩;have X3:=Hd (X2.out.below hb3);have HML:Hid (w.heap.size≤mb∧g1≠mb∧g2≠mb):=Hd (by have h1:=X2.out.r1.lt;have h2:=X2.out.r2.lt;have h3:=X2.out.b.size;omega);have S3:=Hd hst;clear hst hsl hml hb3 X2;go_wp2_with (first
  | ((with_reducible show wpList _ _ _ (⟨some 13,_,_,_,_,_⟩::_) _ _);go_must(refine Xa1 rfl 62 (.tmp 1) rfl g1 _ (bv (kx15 8)) _ Tryz.underlying62 rfl (by kernel_rfl) X3.out.r1 ?_ ?_;go_simp))
  | ((with_reducible show wpList _ _ _ (⟨some 14,_,_,_,_,_⟩::_) _ _);go_must(refine wpList_plain rfl fun K hK=>Xae _ _ _ rfl (by simp only[List.map_toArray,List.map_cons,List.map_nil];exact HA.out 20000) (hK _ _ ?_)))
  | fail)
 refine(put13 sb mb [] (kx15 8) (ac15x 20000) w3 S3.out (Xl5 (by omega)) (Xti (by omega)) (by simp)).mono ?_;rintro e w4 ⟨rfl,hst,hg4⟩;rw[HPUT.out]at hst;have S4:=Hd hst;have X4:=Hd (X3.out.grown hg4 HML.out.1 HML.out.2.1 HML.out.2.2);clear hst hg4 X3 S3 HML HPUT;go_wp2_with (first
  | ((with_reducible show wpList _ _ _ (⟨some 16,_,_,_,_,_⟩::_) _ _);go_must(refine Xa1 rfl 62 (.tmp 1) rfl g1 _ (bv (kx15 8)) _ Tryz.underlying62 rfl (by kernel_rfl) X4.out.r1 ?_ ?_;go_simp))
  | ((with_reducible show wpList _ _ _ (⟨some 17,_,_,_,_,_⟩::_) _ _);go_must(refine Xa1 rfl 62 (.tmp 2) rfl g2 _ (bv (kx15 9)) _ Tryz.underlying62 rfl (by kernel_rfl) X4.out.r2 ?_ ?_;go_simp))
  | fail)
 refine(move15 w4).mono ?_;rintro e w5 ⟨gi,gr,rfl,hrd,hb5⟩;have RD5:=Hd hrd;have X5:=Hd (X4.out.below hb5);have S5:=Hd (S4.out.below hb5);clear hrd hb5 X4 S4;go_upto_region 6 with(first
  | ((with_reducible show wpList _ _ _ (⟨some 4,_,_,_,_,_⟩::_) _ _);go_must(refine Xa0 rfl 40 rfl zrdC Xml ?_))
  | ((with_reducible show wpList _ _ _ (⟨none,Op.store 40 _ _,_,_,_,_⟩::_) _ _);go_must(refine Xa2 rfl 40 (.tmp 4) (.tmp 18) rfl ((q15x gi gr).cells rd15x) (Xe8 _ _) (Xj4 _ _) rfl ?_ ?_ ?_;go_simp;go_simp;intro w6 hr6 hb6 hz6)))
 have R6:=Hd hr6;have X6:=Hd (X5.out.below hb6);have S6:=Hd (S5.out.below hb6);have RD6:=Hd ((RD5.out.below hb6).more hb6.size);obtain⟨g4,hg4⟩:∃g,g=w5.heap.size:=⟨_,rfl⟩;rw[←hg4]at R6 ⊢;clear hr6 hb6 hz6 hg4 X5 S5 RD5;go_wp2_with (first
  | ((with_reducible show wpList _ _ _ (⟨some 21,_,_,_,_,_⟩::_) _ _);go_must(refine Xa1 rfl 40 (.tmp 4) rfl g4 _ ((q15x gi gr).cells rd15x) _ Tryz.underlying40 rfl (by kernel_rfl) R6.out ?_ ?_;go_simp))
  | fail)
 refine(loadC sb mb st15x (q15x gi gr) rd15x w6.heap.size w6 S6.out RD6.out (Lr _) (by simp[q15x]) (fun r hr=>(Xmo r hr).2) (by decide)).mono ?_;rintro e w7 ⟨hb7,hcs⟩;rw[HPAY.out,HLOD.out]at hcs;rcases hcs with⟨h,_⟩ | ⟨_,gl,cap,rest,rfl,hol⟩
 ·cases h
 have X7:=Hd (X6.out.below hb7);have R7:=Hd (R6.out.below hb7 R6.out.lt);have RD7:=Hd (RD6.out.below hb7);have OL:=Hd hol;have HL67:=Hd hb7.size;clear hol hb7 X6 R6 S6 RD6 HPAY HLOD;have a0:w7.cell? ⟨gl,0,none⟩=some (.int .u64 15000):=by have:=OL.out.cell (k:=0) (by decide) (j:=0) (u:=.int .u64 15000) rfl;simpa using this
 have HA1:Hid (∀j u,blank13.cells[j]?=some u→w7.cell? ⟨gl,34+j,none⟩=some u):=Hd fun j u hu=>by have:=OL.out.cell (k:=1) (by decide) (j:=j) (u:=u) hu;simpa using this
 have hnb:=HNB.out;have h3:rd15x.roles.length=3:=rfl;rw[h3];go_upto_region 9 with(first
  | ((with_reducible show wpList _ _ _ (⟨some 42,_,_,_,_,_⟩::_) _ _);go_must(refine Xal (by kernel_rfl) 69 (.tmp 41) rfl ⟨gl,34,none⟩ blank13.cells _ Tryz.underlying69 rfl (by kernel_rfl) (fun j v hv=>by rw[Xa5];exact HA1.out j v hv) ?_ ?_;go_simp))
  | ((with_reducible show wpList _ _ _ (⟨some 43,_,_,_,_,_⟩::_) _ _);go_must(refine BigFrame.wpList_want (by kernel_rfl) fun K hK=>Xae _ _ _ rfl (by simp only[List.map_toArray,List.map_nil];exact Xbx) (hK _ _ ?_))))
 clear a0 hnb HA1 h3;have HRC:=Hd (runC (q15x gi gr) rd15x w7.heap.size (some ⟨gl,0,none⟩) 3 3 l15x w7 (RD7.out.more HL67.out) (Xtq OL.out) ⟨Lr _,by unfold maxLen;omega⟩ (Lr _) (by omega) (fun a ha=>by obtain rfl:=List.mem_singleton.1 ha;exact⟨by decide,by decide⟩) (fun a ha=>by obtain rfl:=List.mem_singleton.1 ha;exact⟨Xqs,Xqg⟩) (by decide) ⟨by simp[q15x],fun a ha=>by obtain rfl:=List.mem_singleton.1 ha;decide⟩ (HT.out.below X7.out.b HT.out.pos));rw[HRUN.out]at HRC;clear HRUN OL RD7 HL67;go_wp2_with (first
  | ((with_reducible show wpList _ _ _ (⟨some 47,_,_,_,_,_⟩::_) _ _);go_must(refine Xa1 rfl 40 (.tmp 4) rfl g4 _ ((q15x gi gr).cells rd15x) _ Tryz.underlying40 rfl (by kernel_rfl) R7.out ?_ ?_;go_simp))
  | fail)
 refine HRC.out.mono ?_;rintro e w8 ⟨A8,c8,rfl,ho8,hb8⟩;have X8:=Hd (X7.out.below hb8);have HO8:=Hd ho8;clear ho8 hb8 X7 R7 HRC;go_upto_region 10 with(first
  | ((with_reducible show wpList _ _ _ (⟨some 7,_,_,_,_,_⟩::_) _ _);go_must(refine Xa0 rfl 49 rfl (out0.cells (.slice none 0 0)) Xbk ?_))
  | ((with_reducible show wpList _ _ _ (⟨none,Op.store 49 _ _,_,_,_,_⟩::_) _ _);go_must(refine Xa2 rfl 49 (.tmp 7) (.tmp 50) rfl (o15x.cells (.slice A8 o15x.ch.length o15x.ch.length)) (Xag _ _) (Xb5 _ rfl) rfl ?_ ?_ ?_;go_simp;go_simp;intro w9 hr9 hb9 hz9)))
 have R9:=Hd hr9;have X9:=Hd (X8.out.below hb9);have HO9:=Hd (Xas HO8.out hb9);obtain⟨g7,hg7⟩:∃g,g=w8.heap.size:=⟨_,rfl⟩;rw[←hg7]at R9 ⊢;clear hr9 hb9 hz9 hg7 X8 HO8;obtain⟨a8,rfl,hab,hac⟩:=Xmj HO9.out (fun x hx=>by simp only[o15x,List.mem_cons,List.not_mem_nil,or_false]at hx;rcases hx with rfl | rfl <;> rfl) (k:=0) (x:=h15a) rfl;obtain⟨a8',e8,_,hbc⟩:=Xmj HO9.out (fun x hx=>by simp only[o15x,List.mem_cons,List.not_mem_nil,or_false]at hx;rcases hx with rfl | rfl <;> rfl) (k:=1) (x:=h15b) rfl;obtain rfl:a8=a8':=by injection e8
 have HAB:=Hd hab;have HAC:=Hd hac;have HBC:=Hd hbc;have HOL2:Hid (o15x.ch.length=2):=Hd rfl;clear hab hac hbc e8 HO9;have SF:=Hd (show Below w9.heap.size w9 w9.drew from(Br w9.heap.size w9).drew);refine wp_region_held_drew (S:=fun V=>Below w9.heap.size w9 V) (by kernel_rfl) SF.out (fun _=>?_);try dsimp only[List.append]
 generalize w9.drew=wd at *;refine Tk 0 rfl ?_ SF.out ?_ ⟨?_,rfl⟩
 ·intro w hw;(try dsimp only at hw);go_simp;try with_reducible rfl
 try simp only[nm]
 refine Tk 1 rfl ?_ SF.out ?_ ⟨?_,rfl⟩
 ·intro w hw;(try dsimp only at hw);go_simp;try with_reducible rfl
 try simp only[nm]
 refine Tk 2 rfl ?_ SF.out ?_ ⟨?_,rfl⟩
 ·intro w hw;(try dsimp only at hw);go_simp;try with_reducible rfl
 try simp only[nm]
 refine Tk 3 rfl ?_ SF.out ?_ ⟨?_,rfl⟩
 ·intro w hw;(try dsimp only at hw);go_simp;try with_reducible rfl
 try simp only[nm]
 refine Tk 4 rfl ?_ SF.out ?_ ⟨?_,rfl⟩
 ·intro w hw;try dsimp only at hw
  have oc:w.cell? ⟨g7,0,none⟩=some (.int .i64 0):=(hw.cell (p:=⟨g7,0,none⟩) R9.out.lt).trans (R9.out.cell 0);go_simp;try with_reducible rfl
 try simp only[nm]
 refine Tk 5 rfl ?_ SF.out ?_ ⟨?_,rfl⟩
 ·intro w hw;(try dsimp only at hw);go_simp;try with_reducible rfl
 try simp only[nm]
 refine Tk 6 rfl ?_ SF.out ?_ ⟨?_,rfl⟩
 ·intro w hw;(try dsimp only at hw);go_simp;try with_reducible rfl
 try simp only[nm]
 refine Tk 7 rfl ?_ SF.out ?_ ⟨?_,rfl⟩
 ·intro w hw;(try dsimp only at hw);go_simp;try with_reducible rfl
 try simp only[nm]
 refine Tk 8 rfl ?_ SF.out ?_ ⟨?_,rfl⟩
 ·intro w hw;(try dsimp only at hw);go_simp;try with_reducible rfl
 try simp only[nm]
 refine Tk 9 rfl ?_ SF.out ?_ ⟨?_,rfl⟩
 ·intro w hw;try dsimp only at hw
  have oc:w.cell? ⟨g7,1,none⟩=some (.int .i64 (-1)):=(hw.cell (p:=⟨g7,1,none⟩) R9.out.lt).trans (R9.out.cell 1);go_simp;try with_reducible rfl
 try simp only[nm]
 refine Tk 10 rfl ?_ SF.out ?_ ⟨?_,rfl⟩
 ·intro w hw;(try dsimp only at hw);go_simp;try with_reducible rfl
 try simp only[nm]
 refine Tk 11 rfl ?_ SF.out ?_ ⟨?_,rfl⟩
 ·intro w hw;(try dsimp only at hw);go_simp;try with_reducible rfl
 try simp only[nm]
 refine Tk 12 rfl ?_ SF.out ?_ ⟨?_,rfl⟩
 ·intro w hw;(try dsimp only at hw);go_simp;try with_reducible rfl
 try simp only[nm]
 refine Tk 13 rfl ?_ SF.out ?_ ⟨?_,rfl⟩
 ·intro w hw;(try dsimp only at hw);go_simp;try with_reducible rfl
 try simp only[nm]
 refine Tk 14 rfl ?_ SF.out ?_ ⟨?_,rfl⟩
 ·intro w hw;try dsimp only at hw
  have oc:w.cell? ⟨g7,2,none⟩=some (.int .u64 150):=(hw.cell (p:=⟨g7,2,none⟩) R9.out.lt).trans (R9.out.cell 2);go_simp;try with_reducible rfl
 try simp only[nm]
 refine Tk 15 rfl ?_ SF.out ?_ ⟨?_,rfl⟩
 ·intro w hw;(try dsimp only at hw);go_simp;try with_reducible rfl
 try simp only[nm]
 refine Tk 16 rfl ?_ SF.out ?_ ⟨?_,rfl⟩
 ·intro w hw;(try dsimp only at hw);go_simp;try with_reducible rfl
 try simp only[nm]
 refine Tk 17 rfl ?_ SF.out ?_ ⟨?_,rfl⟩
 ·intro w hw;(try dsimp only at hw);go_simp;try with_reducible rfl
 try simp only[nm]
 refine Tk 18 rfl ?_ SF.out ?_ ⟨?_,rfl⟩
 ·intro w hw;(try dsimp only at hw);go_simp;try with_reducible rfl
 try simp only[nm]
 refine Tk 19 rfl ?_ SF.out ?_ ⟨?_,rfl⟩
 ·intro w hw;try dsimp only at hw
  have oc:w.cell? ⟨g7,3,none⟩=some (.int .u64 5000):=(hw.cell (p:=⟨g7,3,none⟩) R9.out.lt).trans (R9.out.cell 3);go_simp;try with_reducible rfl
 try simp only[nm]
 refine Tk 20 rfl ?_ SF.out ?_ ⟨?_,rfl⟩
 ·intro w hw;(try dsimp only at hw);go_simp;try with_reducible rfl
 try simp only[nm]
 refine Tk 21 rfl ?_ SF.out ?_ ⟨?_,rfl⟩
 ·intro w hw;(try dsimp only at hw);go_simp;try with_reducible rfl
 try simp only[nm]
 refine Tk 22 rfl ?_ SF.out ?_ ⟨?_,rfl⟩
 ·intro w hw;(try dsimp only at hw);go_simp;try with_reducible rfl
 try simp only[nm]
 refine Tk 23 rfl ?_ SF.out ?_ ⟨?_,rfl⟩
 ·intro w hw;(try dsimp only at hw);go_simp;try with_reducible rfl
 try simp only[nm]
 refine Tk 24 rfl ?_ SF.out ?_ ⟨?_,rfl⟩
 ·intro w hw;try dsimp only at hw
  have oc:w.cell? ⟨g7,4,none⟩=some (.int .u64 0):=(hw.cell (p:=⟨g7,4,none⟩) R9.out.lt).trans (R9.out.cell 4);go_simp;try with_reducible rfl
 try simp only[nm]
 refine Tk 25 rfl ?_ SF.out ?_ ⟨?_,rfl⟩
 ·intro w hw;(try dsimp only at hw);go_simp;try with_reducible rfl
 try simp only[nm]
 refine Tk 26 rfl ?_ SF.out ?_ ⟨?_,rfl⟩
 ·intro w hw;(try dsimp only at hw);go_simp;try with_reducible rfl
 try simp only[nm]
 refine Tk 27 rfl ?_ SF.out ?_ ⟨?_,rfl⟩
 ·intro w hw;(try dsimp only at hw);go_simp;try with_reducible rfl
 try simp only[nm]
 refine Tk 28 rfl ?_ SF.out ?_ ⟨?_,rfl⟩
 ·intro w hw;(try dsimp only at hw);go_simp;try with_reducible rfl
 try simp only[nm]
 refine Tk 29 rfl ?_ SF.out ?_ ⟨?_,rfl⟩
 ·intro w hw;try dsimp only at hw
  have oc:w.cell? ⟨g7,5,none⟩=some (.slice (some a8) 2 2):=(hw.cell (p:=⟨g7,5,none⟩) R9.out.lt).trans (R9.out.cell 5);go_simp;try with_reducible rfl
 try simp only[nm]
 refine Tk 30 rfl ?_ SF.out ?_ ⟨?_,rfl⟩
 ·intro w hw;(try dsimp only at hw);go_simp;try with_reducible rfl
 try simp only[nm]
 refine Tk 31 rfl ?_ SF.out ?_ ⟨?_,rfl⟩
 ·intro w hw;(try dsimp only at hw);go_simp;try with_reducible rfl
 try simp only[nm]
 refine Tk 32 rfl ?_ SF.out ?_ ⟨?_,rfl⟩
 ·intro w hw;(try dsimp only at hw);go_simp;try with_reducible rfl
 try simp only[nm]
 refine Tk 33 rfl ?_ SF.out ?_ ⟨?_,rfl⟩
 ·intro w hw;(try dsimp only at hw);go_simp;try with_reducible rfl
 try simp only[nm]
 refine Tk 34 rfl ?_ SF.out ?_ ⟨?_,rfl⟩
 ·intro w hw;(try dsimp only at hw);go_simp;try with_reducible rfl
 try simp only[nm]
 refine Tk 35 rfl ?_ SF.out ?_ ⟨?_,rfl⟩
 ·intro w hw;try dsimp only at hw
  have oc:w.cell? ⟨g7,5,none⟩=some (.slice (some a8) 2 2):=(hw.cell (p:=⟨g7,5,none⟩) R9.out.lt).trans (R9.out.cell 5);go_simp;try with_reducible rfl
 try simp only[nm]
 refine Tk 36 rfl ?_ SF.out ?_ ⟨?_,rfl⟩
 ·intro w hw;(try dsimp only at hw);go_simp;try with_reducible rfl
 try simp only[nm]
 refine Tl 37 (v:=.agg h15a.cells.toArray) rfl (Or.inl ⟨by rfl,fun wz hwz=>Xa4 wz 74 (.tmp 88) rfl a8 h15a.cells _ Tryz.underlying74 rfl (by kernel_rfl) (fun j u hu=>(hwz.cell (by rw[Xad];exact HAB.out)).trans (by have:=HAC.out j u hu;rwa [Xc2,Nat.zero_mul,Nat.zero_add]at this)) (by go_simp)⟩) SF.out ?_;try simp only[nm]
 refine Tl 38 (v:=.agg (bv (kx15 8)).toArray) rfl (Or.inl ⟨by rfl,fun wz hwz=>Xa4 wz 62 (.tmp 1) rfl ⟨g1,0,none⟩ (bv (kx15 8)) _ Tryz.underlying62 rfl (by kernel_rfl) (fun j u hu=>by rw[Xa5,Nat.zero_add];exact(hwz.cell (p:=⟨g1,j,none⟩) X9.out.r1.lt).trans ((X9.out.r1.cell j).trans hu)) (by go_simp)⟩) SF.out ?_;try simp only[nm]
 refine Tl 39 (v:=.agg (ac15x 14800).cells.toArray) rfl (Or.inl ⟨by rfl,fun wz hwz=>Xa9 wz _ _ _ rfl (by simp only[List.map_toArray,List.map_cons,List.map_nil];exact HA.out 14800)⟩) SF.out ?_;try simp only[nm]
 refine Tl 40 (v:=.agg h15a.cells.toArray) rfl (Or.inl ⟨by rfl,fun wz hwz=>Xa9 wz _ _ _ rfl (by simp only[List.map_toArray,List.map_cons,List.map_nil];exact Xok)⟩) SF.out ?_;try simp only[nm]
 refine Tk 41 rfl ?_ SF.out ?_ ⟨?_,rfl⟩
 ·intro w hw;try dsimp only at hw
  have hea:=HEA.out;go_simp;try with_reducible rfl
 try simp only[nm]
 refine Tk 42 rfl ?_ SF.out ?_ ⟨?_,rfl⟩
 ·intro w hw;(try dsimp only at hw);go_simp;try with_reducible rfl
 try simp only[nm]
 refine Tk 43 rfl ?_ SF.out ?_ ⟨?_,rfl⟩
 ·intro w hw;(try dsimp only at hw);go_simp;try with_reducible rfl
 try simp only[nm]
 refine Tk 44 rfl ?_ SF.out ?_ ⟨?_,rfl⟩
 ·intro w hw;(try dsimp only at hw);go_simp;try with_reducible rfl
 try simp only[nm]
 refine Tk 45 rfl ?_ SF.out ?_ ⟨?_,rfl⟩
 ·intro w hw;try dsimp only at hw
  have oc:w.cell? ⟨g7,5,none⟩=some (.slice (some a8) 2 2):=(hw.cell (p:=⟨g7,5,none⟩) R9.out.lt).trans (R9.out.cell 5);go_simp;try with_reducible rfl
 try simp only[nm]
 refine Tk 46 rfl ?_ SF.out ?_ ⟨?_,rfl⟩
 ·intro w hw;(try dsimp only at hw);go_simp;try with_reducible rfl
 try simp only[nm]
 refine Tl 47 (v:=.agg h15b.cells.toArray) rfl (Or.inl ⟨by rfl,fun wz hwz=>Xa4 wz 74 (.tmp 98) rfl (a8.add 66) h15b.cells _ Tryz.underlying74 rfl (by kernel_rfl) (fun j u hu=>(hwz.cell (by rw[Xad,Xad];exact HAB.out)).trans (by have:=HBC.out j u hu;simpa using this)) (by go_simp)⟩) SF.out ?_;try simp only[nm]
 refine Tl 48 (v:=.agg (bv (kx15 9)).toArray) rfl (Or.inl ⟨by rfl,fun wz hwz=>Xa4 wz 62 (.tmp 2) rfl ⟨g2,0,none⟩ (bv (kx15 9)) _ Tryz.underlying62 rfl (by kernel_rfl) (fun j u hu=>by rw[Xa5,Nat.zero_add];exact(hwz.cell (p:=⟨g2,j,none⟩) X9.out.r2.lt).trans ((X9.out.r2.cell j).trans hu)) (by go_simp)⟩) SF.out ?_;try simp only[nm]
 refine Tl 49 (v:=.agg (ac15x 200).cells.toArray) rfl (Or.inl ⟨by rfl,fun wz hwz=>Xa9 wz _ _ _ rfl (by simp only[List.map_toArray,List.map_cons,List.map_nil];exact HA.out 200)⟩) SF.out ?_;try simp only[nm]
 refine Tl 50 (v:=.agg h15b.cells.toArray) rfl (Or.inl ⟨by rfl,fun wz hwz=>Xa9 wz _ _ _ rfl (by simp only[List.map_toArray,List.map_cons,List.map_nil];exact Xnp)⟩) SF.out ?_;try simp only[nm]
 refine Tk 51 rfl ?_ SF.out ?_ ⟨?_,rfl⟩
 ·intro w hw;try dsimp only at hw
  have heb:=HEB.out;go_simp;try with_reducible rfl
 try simp only[nm]
 refine Tk 52 rfl ?_ SF.out ?_ ⟨?_,rfl⟩
 ·intro w hw;(try dsimp only at hw);go_simp;try with_reducible rfl
 try simp only[nm]
 refine Tk 53 rfl ?_ SF.out ?_ ⟨?_,rfl⟩
 ·intro w hw;(try dsimp only at hw);go_simp;try with_reducible rfl
 try simp only[Act.put,List.setIfInBounds_toArray,List.set_cons_zero]
 refine wpAnyH_done (by kernel_rfl) ?_ _;go_wp2_with fail;go_ret;exact⟨rfl,X9.out.b.trans (SF.out.mono X9.out.b.size)⟩
theorem Xnz{q:Raw}{m:LMsg}(h:m.recent.length=32):(q.cells m)[38]?=some (.slice q.LA q.ln q.lc):=by
 simp[Raw.cells,bL,h]
theorem Xj8{l:List LIn}{k:Nat}{x:LIn}(h:l[k]?=some x):inSize (l.take (k+1))=inSize (l.take k)+(x.acc.length+x.dat.length):=by
 unfold inSize;rw[List.take_add_one,h];simp
theorem Xhm{l:List LLook}{k:Nat}{x:LLook}(h:l[k]?=some x):lookSize (l.take (k+1))=lookSize (l.take k)+(x.wr.length+x.rd.length):=by
 unfold lookSize;rw[List.take_add_one,h];simp
theorem Xdm{B:Nat}{w V:World}(h:Below B w V)(j:Nat):Below B w (V.drewN j):=h.trans ⟨rfl,rfl,rfl,Lr _,fun _ _=>rfl⟩
def tot15(x:LReady):Nat:=x.bytes.length+x.roles.length+x.tx.sigs.length+x.tx.m.keys.length+x.tx.m.ins.length+x.tx.m.looks.length+inSize x.tx.m.ins+lookSize x.tx.m.looks
structure Fw15(x:LReady):Prop where
 t:tot15 x≤10000
 n:x.tx.m.ins.length≤200
 r:x.roles.length≤300
theorem Fw15.acc{x:LReady}(h:Fw15 x){a:LIn}(ha:a ∈ x.tx.m.ins):a.acc.length≤10000∧a.dat.length≤10000:=by
 have h1:=Xmq ha;have h2:=h.t;unfold tot15 at h2;omega
structure Wide15(x:LReady):Prop where
 m:Sized x.tx.m
 b:x.bytes.length≤140737488355328
 r:x.roles.length≤140737488355328
 s:x.tx.sigs.length≤140737488355328
def GrDone15(x:LReady)(w:World)(e:Ending)(w':World):Prop:=(∃b,e=.returned (.bool b)∧(b=false→Fw15 x))∧Below w.heap.size w w'
theorem Xv3(q:YRaw)(x:LReady)(B:Nat)(w:World)(h:ReadyIn w B q x)(hB:B≤w.heap.size)(hs:Wide15 x) :
 Calls Tryz.prog 4 #[.agg (q.cells x).toArray] w (GrDone15 x w):=by
 obtain⟨BA,bn,bc,⟨SA,sn,sc,⟨KA,kn,kc,IA,n,ic,LA,ln,lc⟩⟩,RA,rn,rc⟩:=q;have hrow:=Row.new w 40 (YRaw.cells ⟨BA,bn,bc,⟨SA,sn,sc,⟨KA,kn,kc,IA,n,ic,LA,ln,lc⟩⟩,RA,rn,rc⟩ x);have hb0:=(Br w.heap.size w).alloc (Lr _) (.cells (YRaw.cells ⟨BA,bn,bc,⟨SA,sn,sc,⟨KA,kn,kc,IA,n,ic,LA,ln,lc⟩⟩,RA,rn,rc⟩ x).toArray 40);have H32:=h.tx.m.recent;have d0:(w.alloc (.cells (YRaw.cells ⟨BA,bn,bc,⟨SA,sn,sc,⟨KA,kn,kc,IA,n,ic,LA,ln,lc⟩⟩,RA,rn,rc⟩ x).toArray 40)).cell? ⟨w.heap.size,0,none⟩=some (.slice BA bn bc):=hrow.cell 0;have d1:(w.alloc (.cells (YRaw.cells ⟨BA,bn,bc,⟨SA,sn,sc,⟨KA,kn,kc,IA,n,ic,LA,ln,lc⟩⟩,RA,rn,rc⟩ x).toArray 40)).cell? ⟨w.heap.size,1,none⟩=some (.slice SA sn sc):=hrow.cell 1;have d6:(w.alloc (.cells (YRaw.cells ⟨BA,bn,bc,⟨SA,sn,sc,⟨KA,kn,kc,IA,n,ic,LA,ln,lc⟩⟩,RA,rn,rc⟩ x).toArray 40)).cell? ⟨w.heap.size,6,none⟩=some (.slice KA kn kc):=hrow.cell 6;have d39:(w.alloc (.cells (YRaw.cells ⟨BA,bn,bc,⟨SA,sn,sc,⟨KA,kn,kc,IA,n,ic,LA,ln,lc⟩⟩,RA,rn,rc⟩ x).toArray 40)).cell? ⟨w.heap.size,39,none⟩=some (.slice IA n ic):=(hrow.cell 39).trans (Xdo H32);have d40:(w.alloc (.cells (YRaw.cells ⟨BA,bn,bc,⟨SA,sn,sc,⟨KA,kn,kc,IA,n,ic,LA,ln,lc⟩⟩,RA,rn,rc⟩ x).toArray 40)).cell? ⟨w.heap.size,40,none⟩=some (.slice LA ln lc):=(hrow.cell 40).trans (Xeb (j:=39) ((Xe1 38).trans (Xnz H32)));have d41:(w.alloc (.cells (YRaw.cells ⟨BA,bn,bc,⟨SA,sn,sc,⟨KA,kn,kc,IA,n,ic,LA,ln,lc⟩⟩,RA,rn,rc⟩ x).toArray 40)).cell? ⟨w.heap.size,41,none⟩=some (.slice RA rn rc):=(hrow.cell 41).trans (Xaj H32 0);have lb:x.bytes.length=bn:=by have:=h.bs.len;rwa [bL]at this
 have lr:x.roles.length=rn:=h.rs.len;have lsg:x.tx.sigs.length=sn:=h.tx.sigs.len;have lk:x.tx.m.keys.length=kn:=h.tx.m.keys.len;have li:x.tx.m.ins.length=n:=h.tx.m.ins.len;have ll:x.tx.m.looks.length=ln:=h.tx.m.looks.len;have k1:=hs.m.keys;have k2:=hs.m.ins;have k3:=hs.m.looks;have k4:=hs.b;have k5:=hs.r;have k6:=hs.s;rw[lk]at k1;rw[li]at k2;rw[ll]at k3;rw[lb]at k4;rw[lr]at k5;rw[lsg]at k6;have HM:=Hd ((h.below (hb0.mono hB)).tx.m);have HSZ:=Hd hs.m;have HB0:=Hd hb0;have HT:Hid (tot15 x=bn+rn+sn+kn+n+ln+inSize x.tx.m.ins+lookSize x.tx.m.looks):=Hd (by unfold tot15;rw[lb,lr,lsg,lk,li,ll]);have HLI:=Hd li;have HLR:=Hd lr;have HLL:=Hd ll;clear hrow h hs hb0 H32 lb lr lsg lk li ll;generalize YRaw.cells ⟨BA,bn,bc,⟨SA,sn,sc,⟨KA,kn,kc,IA,n,ic,LA,ln,lc⟩⟩,RA,rn,rc⟩ x=cs at *;go_enter Tryz.func4,Tryz.ntmps4
 go_upto_region 1 with fail
 generalize (w.alloc (Obj.cells cs.toArray 40))=W0 at *;obtain⟨g1,hg1⟩:∃g,g=w.heap.size:=⟨_,rfl⟩;have HG1:=Hd hg1;rw[←hg1]at d0 d1 d6 d39 d40 d41 ⊢;clear hg1;go_wp2_with fail;go_loopw [3,4] (fun nn i wr=>∃(k j s:Nat),k≤n∧i=.int .i64 k∧nn=.int .i64 s∧wr=W0.drewN j∧s=bn+rn+sn+kn+n+ln+inSize (x.tx.m.ins.take k)∧s≤1900000000000000) (fun nn i _=>n - (intOf i).toNat)
 case atStart=>exact⟨0,0,bn+rn+sn+kn+n+ln,Nat.zero_le _,rfl,by first | rfl | go_num,rfl,by simp[inSize],by omega⟩
 case round =>
  obtain⟨k,j,s,hk,rfl,rfl,rfl,hsum,hs9⟩:=hrel;have HS:=Hd hsum;clear hsum;by_cases hgo:k<n∧s<20000
  ·obtain⟨hlt,hs3⟩:=hgo;obtain⟨a,y,va,vd,rfl,hab,hx,hat⟩:=HM.out.ins.get hlt;obtain⟨A1,c1,rfl,_,_,_⟩:=hat.acc.is;obtain⟨A2,c2,rfl,_,_,_⟩:=hat.dat.is;have e1:W0.cell? ⟨(a.add (k*3)).block,(a.add (k*3)).off+1,none⟩=some (.slice A1 y.acc.length c1):=hat.cells 1 _ rfl;have e2:W0.cell? ⟨(a.add (k*3)).block,(a.add (k*3)).off+2,none⟩=some (.slice A2 y.dat.length c2):=hat.cells 2 _ rfl;have l1:=(HSZ.out.inl y (List.mem_of_getElem? hx)).1;have l2:=(HSZ.out.inl y (List.mem_of_getElem? hx)).2;have HX:=Hd (Xj8 hx);clear hat hx;go_wp2_with fail;go_quiet (fail)
   go_wp2_with fail;go_roundw
   case rel=>exact⟨k+1,j+nq,s+y.acc.length+y.dat.length,by omega,by go_num,by go_num,by simp,by have:=HS.out;have:=HX.out;omega,by omega⟩
   case measure=>simp[intOf];omega
  ·have HGO:Hid (20000≤s∨s=bn+rn+sn+kn+n+ln+inSize x.tx.m.ins):=by
    refine Hd ?_;by_cases h3:s<20000
    ·right
     have hkn:k=n:=by
      have:¬k<n:=fun h=>hgo ⟨h,h3⟩
      omega
     have:=HS.out;rwa [hkn,List.take_of_length_le (by rw[HLI.out];exact Lr _)]at this
    ·left;omega
   have hdec:(k<n∧¬s<20000)∨¬k<n:=by
    by_cases h:k<n
    ·exact .inl ⟨h,fun h3=>hgo ⟨h,h3⟩⟩
    ·exact .inr h
   clear HS hgo;rcases hdec with⟨hd1,hd2⟩ | hd1
   all_goals
    (go_wp2_with fail
     go_loopw [3,5] (fun nn i wr=>∃(k j s:Nat),k≤ln∧i=.int .i64 k∧nn=.int .i64 s∧wr=W0.drewN j∧(20000≤s∨s=bn+rn+sn+kn+n+ln+inSize x.tx.m.ins+lookSize (x.tx.m.looks.take k))∧s≤1900000000000000) (fun nn i _=>ln - (intOf i).toNat)
     case atStart=>exact⟨0,j,s,Nat.zero_le _,rfl,rfl,rfl,by simpa [lookSize]using HGO.out,hs9⟩
     case round =>
      clear HGO hd1;try clear hd2
      clear hs9 hk;obtain⟨k,j,s,hk,rfl,rfl,rfl,hsum,hs9⟩:=hrel;have HS:=Hd hsum;clear hsum;by_cases hgo:k<ln∧s<20000
      ·obtain⟨hlt,hs3⟩:=hgo;obtain⟨a,y,va,vd,rfl,hab,hx,hat⟩:=HM.out.looks.get hlt;have hc1:W0.cell? ((a.add (k*34)).add 32)=some va:=hat.cells 32 va (by rw[List.getElem?_append_right (by rw[bL,hat.len];exact Lr _),bL,hat.len];rfl);have hc2:W0.cell? ((a.add (k*34)).add 33)=some vd:=hat.cells 33 vd (by rw[List.getElem?_append_right (by rw[bL,hat.len];omega),bL,hat.len];rfl);obtain⟨A1,c1,rfl,_,_,_⟩:=hat.wr.is;obtain⟨A2,c2,rfl,_,_,_⟩:=hat.rd.is;have e1:W0.cell? ⟨(a.add (k*34)).block,(a.add (k*34)).off+32,none⟩=some (.slice A1 y.wr.length c1):=hc1;have e2:W0.cell? ⟨(a.add (k*34)).block,(a.add (k*34)).off+33,none⟩=some (.slice A2 y.rd.length c2):=hc2;have l1:=(HSZ.out.lol y (List.mem_of_getElem? hx)).1;have l2:=(HSZ.out.lol y (List.mem_of_getElem? hx)).2;have HX:=Hd (Xhm hx);clear hat hx hc1 hc2;go_wp2_with fail;go_quiet (fail)
       go_wp2_with fail;go_roundw
       case rel =>
        refine⟨k+1,j+nq,s+y.wr.length+y.rd.length,by omega,by go_num,by go_num,by simp,?_,by omega⟩;have h1:=HS.out;have h2:=HX.out;omega
       case measure=>simp[intOf];omega
      ·have HT2:Hid (s≤10000→tot15 x≤10000):=by
        refine Hd fun h3=>?_
        have hkn:k=ln:=by
         have:¬k<ln:=fun h=>hgo ⟨h,by omega⟩
         omega
        have h1:=HS.out;rw[hkn,List.take_of_length_le (by rw[HLL.out];exact Lr _)]at h1;have h2:=HT.out;omega
       have hdec:(k<ln∧¬s<20000)∨¬k<ln:=by
        by_cases h:k<ln
        ·exact .inl ⟨h,fun h3=>hgo ⟨h,h3⟩⟩
        ·exact .inr h
       clear HS hgo;rcases hdec with⟨hd1,hd2⟩ | hd1
       ·have h10:10000<s:=by omega
        have hI:(10000:Int)<s:=by omega
        go_wp2_with fail;go_ret;exact⟨⟨true,rfl,fun hb=>by cases hb⟩,Xdm HB0.out j⟩
       ·by_cases h10:10000<s
        ·have hI:(10000:Int)<s:=by omega
         go_wp2_with fail;go_ret;exact⟨⟨true,rfl,fun hb=>by cases hb⟩,Xdm HB0.out j⟩
        have hJ10:(s:Int)≤10000:=by omega
        by_cases hn2:200<n
        ·have hI:(200:Int)<n:=by omega
         go_wp2_with fail;go_ret;exact⟨⟨true,rfl,fun hb=>by cases hb⟩,Xdm HB0.out j⟩
        have hJn:(n:Int)≤200:=by omega
        by_cases hr3:300<rn
        ·have hI:(300:Int)<rn:=by omega
         go_wp2_with fail;go_ret;exact⟨⟨true,rfl,fun hb=>by cases hb⟩,Xdm HB0.out j⟩
        have hJr:(rn:Int)≤300:=by omega
        have HFEW:Hid (Fw15 x):=Hd ⟨HT2.out (by omega),by rw[HLI.out];omega,by rw[HLR.out];omega⟩;go_wp2_with fail;go_ret;exact⟨⟨_,rfl,fun _=>HFEW.out⟩,Xdm HB0.out j⟩)
theorem Xiy:∀(rs:List LRole) (l:List LAcc),(∀r ∈ rs,r.key.length=32)→(∀a ∈ l,a.o.length=32)→∀x ∈ chg15 rs l,x.k.length=32∧x.a.o.length=32
 | [],_,_,_,x,hx=>by cases hx
 | _::_,[],_,_,x,hx=>by cases hx
 | r::rs,a::l,hr,ha,x,hx=>by
  have ih:=Xiy rs l (fun y hy=>hr y (List.mem_cons_of_mem _ hy)) (fun y hy=>ha y (List.mem_cons_of_mem _ hy));unfold chg15 at hx;split at hx
  ·rcases List.mem_cons.1 hx with rfl | hx
   ·exact⟨hr r (List.mem_cons_self ..),ha a (List.mem_cons_self ..)⟩
   ·exact ih x hx
  ·exact ih x hx
structure FW15(w V:World)(B g2:Nat)(q:YRaw)(x:LReady)(LA:Option Addr)(ln:Nat)(l:List LAcc):Prop where
 b:Below w.heap.size w V
 r2:Row V g2 40 (q.cells x)
 rd:ReadyIn V B q x
 ac:AccsIn V B LA ln l
theorem FW15.below{w V V':World}{B g2 ln:Nat}{q:YRaw}{x:LReady}{LA:Option Addr}{l:List LAcc}(h:FW15 w V B g2 q x LA ln l)(hB:B≤w.heap.size)(hb:Below V.heap.size V V'):FW15 w V' B g2 q x LA ln l:=
 ⟨h.b.trans (hb.mono h.b.size),h.r2.below hb h.r2.lt,h.rd.below (hb.mono (Lq hB h.b.size)),h.ac.below (hb.mono (Lq hB h.b.size))⟩
structure RdOk15(x:LReady):Prop where
 p:∀a ∈ x.tx.m.ins,IsByte a.p
 ab:∀a ∈ x.tx.m.ins,AllBytes a.acc∧AllBytes a.dat
 u:0≤x.u∧x.u<18446744073709551616
 fee:0≤x.fee∧x.fee<18446744073709551616
 kb:∀r ∈ x.roles,AllBytes r.key
theorem Xva{w:World}{B:Nat}{q:YRaw}{x:LReady}(h:RdOk x)(hi:ReadyIn w B q x):RdOk15 x:=
 ⟨fun a ha=>(h.wf.m.ins a ha).1,fun a ha=>(h.wf.m.ins a ha).2,h.u,h.fee,fun r hr=>(hi.rs.ok r hr).2⟩
theorem Xpe{x:LReady}(h:RdOk x):Wide15 x:=by
 obtain⟨_,h1,h2,_,h3,h4,_⟩:=h;exact⟨h1,h3,h4,h2⟩
theorem leftTx(s s':TRaw)(x:LTx)(B:Nat)(w:World)(hT:TwTx w s' x)(h:TxIn w B s x)(hB:B≤w.heap.size)(hsg:x.sigs.length≤65535)
 (hk:x.m.keys.length≤65535∧x.m.ins.length≤65535∧x.m.looks.length≤65535) (hix:∀i ∈ x.m.ins,i.acc.length≤65535∧i.dat.length≤65535) (hlx:∀l ∈ x.m.looks,l.wr.length≤65535∧l.rd.length≤65535) :
 Calls Tryz.prog 35 #[.agg (s'.cells x).toArray,.agg (s.cells x).toArray] w fun e w'=>e=.returned (.bool true)∧Below w.heap.size w w':=by
 obtain⟨SA,sn,sc,q⟩:=s';obtain⟨SB,sn',sd,r⟩:=s;obtain rfl:sn'=sn:=h.sigs.len.symm.trans hT.tx.sigs.len;obtain⟨gs,e1,e2,_⟩:=hT.sig;dsimp only at e1 e2
 subst e1;subst e2;have hsl:=h.sigs.len;dsimp only at hsl
 have hr0:=(Row.new w 34 (TRaw.cells ⟨some ⟨gs,0,none⟩,sn',sn'+3,q⟩ x)).alloc (.cells (TRaw.cells ⟨SB,sn',sd,r⟩ x).toArray 34);have hr1:Row ((w.alloc (.cells (TRaw.cells ⟨some ⟨gs,0,none⟩,sn',sn'+3,q⟩ x).toArray 34)).alloc (.cells (TRaw.cells ⟨SB,sn',sd,r⟩ x).toArray 34)) (w.heap.size+1) 34 (TRaw.cells ⟨SB,sn',sd,r⟩ x):=Row.new' _ _ _ (by simp);have hbw:=(((Br w.heap.size w).alloc (Lr _) (.cells (TRaw.cells ⟨some ⟨gs,0,none⟩,sn',sn'+3,q⟩ x).toArray 34)).alloc (by simp) (.cells (TRaw.cells ⟨SB,sn',sd,r⟩ x).toArray 34));have hw:=hT.below hbw;have hw':=h.below (hbw.mono hB);have HSM:=Hd (show(Tryz.prog.info? 32).map (·.size)=some (q.cells x.m).length by rw[Xcv,Xby h.m.recent]);have HSM':=Hd (show(Tryz.prog.info? 32).map (·.size)=some (r.cells x.m).length by rw[Xcv,Xby h.m.recent]);have HCM:=Hd (Xe1 (s:=⟨some ⟨gs,0,none⟩,sn',sn'+3,q⟩) (x:=x));have HCM':=Hd (Xe1 (s:=⟨SB,sn',sd,r⟩) (x:=x));have c0:(TRaw.cells ⟨some ⟨gs,0,none⟩,sn',sn'+3,q⟩ x)[0]?=some (.slice (some ⟨gs,0,none⟩) sn' (sn'+3)):=rfl;have d0:(TRaw.cells ⟨SB,sn',sd,r⟩ x)[0]?=some (.slice SB sn' sd):=rfl;dsimp only at HCM HCM'
 generalize TRaw.cells ⟨some ⟨gs,0,none⟩,sn',sn'+3,q⟩ x=ca at *;generalize TRaw.cells ⟨SB,sn',sd,r⟩ x=cb at *;obtain⟨W,hW⟩:∃W,W=(w.alloc (.cells ca.toArray 34)).alloc (.cells cb.toArray 34):=⟨_,rfl⟩;rw[←hW]at hr0 hr1 hbw hw hw';obtain⟨C,hC⟩:∃C,C=(bv mk64).toArray:=⟨_,rfl⟩;have HMK:Hid (∀w:World,Calls Tryz.prog 46 #[] w fun e w'=>e=.returned (.agg C)∧Below w.heap.size w w'):=Hd (by rw[hC];exact Xqv);have HLS:Hid (∀w':World,Row w' gs 117 (bv x.sigs.flatten++keyRow 3 mk64)→SigsIn w' B SB sn' x.sigs→B≤w'.heap.size→Calls Tryz.prog 66 #[.slice (some ⟨gs,0,none⟩) sn' (sn'+3),.slice SB sn' sd,.agg C] w' fun e w''=>e=.returned (.bool true)∧Below w'.heap.size w' w''):=Hd (by rw[hC];exact fun w' a b c=>leftS gs SB sn' sd x.sigs mk64 w' B a b c (by omega) Xit);have HLM:Hid (∀w':World,TwIn w' q x.m→MsgIn w' B r x.m→B≤w'.heap.size→Calls Tryz.prog 67 #[.agg (q.cells x.m).toArray,.agg (r.cells x.m).toArray] w' fun e w''=>e=.returned (.bool true)∧Below w'.heap.size w' w''):=Hd fun w' a b c=>Xvr r q x.m B w' a b c hk.1 hk.2.1 hk.2.2 hix hlx
 have hsig:∀w':World,TwTx w' ⟨some ⟨gs,0,none⟩,sn',sn'+3,q⟩ x→Row w' gs 117 (bv x.sigs.flatten++keyRow 3 mk64):=fun w' h=>by
  obtain⟨g,e1,_,hr⟩:=h.sig;dsimp only at e1
  cases e1
  exact hr
 have HSIG:=Hd hsig;have R0:=Hd hr0;have R1:=Hd hr1;have B0:=Hd hbw;have HW:=Hd hw;have HW':=Hd hw';have HC:=Hd (And.intro c0 d0);clear hr0 hr1 hbw hw hw' hT h hC hk hix hlx hsig c0 d0 hsl hsg;go_enter Tryz.func35,Tryz.ntmps35
 go_upto_region 1 with fail
 rw[←hW];clear hW;obtain⟨V,hV⟩:∃V,V=W.drew:=⟨_,rfl⟩;have RV:Hid (Row V w.heap.size 34 ca):=Hd (by rw[hV];exact R0.out.drew);have PV:Hid (Row V (w.heap.size+1) 34 cb):=Hd (by rw[hV];exact R1.out.drew);have BV:Hid (Below w.heap.size w V):=Hd (by rw[hV];exact B0.out.drew);have TV:Hid (TwTx V ⟨some ⟨gs,0,none⟩,sn',sn'+3,q⟩ x):=Hd (by rw[hV];exact HW.out.below (Br _ _).drew);have MV:Hid (TxIn V B ⟨SB,sn',sd,r⟩ x):=Hd (by rw[hV];exact HW'.out.keep fun p hp=>rfl);have HSS:Hid (∀V':World,Row V' w.heap.size 34 ca→Row V' (w.heap.size+1) 34 cb→(V'.cell? ⟨w.heap.size,0,none⟩=some (.slice (some ⟨gs,0,none⟩) sn' (sn'+3))∧V'.rangeAt w.heap.size 1 (q.cells x.m))∧V'.cell? ⟨w.heap.size+1,0,none⟩=some (.slice SB sn' sd)∧V'.rangeAt (w.heap.size+1) 1 (r.cells x.m)):=Hd fun V' h h'=>⟨⟨(h.cell 0).trans HC.out.1,fun j u hu=>by rw[h.cell,HCM.out];exact hu⟩,(h'.cell 0).trans HC.out.2,fun j u hu=>by rw[h'.cell,HCM'.out];exact hu⟩
 have HS:=Hd (HSS.out V RV.out PV.out);refine wp_region_held_drew (S:=fun V=>(V.cell? ⟨w.heap.size,0,none⟩=some (.slice (some ⟨gs,0,none⟩) sn' (sn'+3))∧V.rangeAt w.heap.size 1 (q.cells x.m))∧V.cell? ⟨w.heap.size+1,0,none⟩=some (.slice SB sn' sd)∧V.rangeAt (w.heap.size+1) 1 (r.cells x.m)) (by kernel_rfl) (by rw[←hV];exact HS.out) (fun _=>?_);rw[←hV];clear hV HW HW' R0 R1 B0;refine Tk 0 rfl ?_ HS.out ?_ ⟨?_,rfl⟩
 ·intro w hw;(try dsimp only at hw);obtain⟨⟨q0,q1⟩,p0,p1⟩:=hw;go_simp;try with_reducible rfl
 try simp only[nm]
 refine Tk 1 rfl ?_ HS.out ?_ ⟨?_,rfl⟩
 ·intro w hw;(try dsimp only at hw);obtain⟨⟨q0,q1⟩,p0,p1⟩:=hw;go_simp;try with_reducible rfl
 try simp only[nm]
 refine Tk 2 rfl ?_ HS.out ?_ ⟨?_,rfl⟩
 ·intro w hw;(try dsimp only at hw);obtain⟨⟨q0,q1⟩,p0,p1⟩:=hw;go_simp;try with_reducible rfl
 try simp only[nm]
 refine Tk 3 rfl ?_ HS.out ?_ ⟨?_,rfl⟩
 ·intro w hw;(try dsimp only at hw);obtain⟨⟨q0,q1⟩,p0,p1⟩:=hw;go_simp;try with_reducible rfl
 try simp only[nm]
 refine Rl 4 rfl fun K hK=>?_
 go_simp;refine(HMK.out V).mono ?_;rintro e w1 ⟨rfl,hb1⟩;simp only[];have R1:=Hd (RV.out.below hb1 RV.out.lt);have P1:=Hd (PV.out.below hb1 PV.out.lt);have B1:=Hd (BV.out.trans (hb1.mono BV.out.size));have T1:=Hd (TV.out.below hb1);have M1:=Hd (MV.out.below (hb1.mono (Lq hB BV.out.size)));have HS1:=Hd (HSS.out w1 R1.out P1.out);clear hb1 RV PV BV TV MV;refine hK.out _ _ HS1.out ?_;clear hK K;try simp only[nm]
 refine Rl 5 rfl fun K hK=>?_
 go_simp;refine(HLS.out w1 (HSIG.out _ T1.out) M1.out.sigs (Lq hB B1.out.size)).mono ?_;rintro e w2 ⟨rfl,hb2⟩;simp only[];have R2:=Hd (R1.out.below hb2 R1.out.lt);have P2:=Hd (P1.out.below hb2 P1.out.lt);have B2:=Hd (B1.out.trans (hb2.mono B1.out.size));have T2:=Hd (T1.out.below hb2);have M2:=Hd (M1.out.below (hb2.mono (Lq hB B1.out.size)));have HS2:=Hd (HSS.out w2 R2.out P2.out);clear hb2 R1 P1 B1 T1 M1;refine hK.out _ _ HS2.out ?_;clear hK K;try simp only[nm]
 refine Tk 6 rfl ?_ HS2.out ?_ ⟨?_,rfl⟩
 ·intro w hw;(try dsimp only at hw);obtain⟨⟨q0,q1⟩,p0,p1⟩:=hw;go_simp;try with_reducible rfl
 try simp only[nm]
 refine Tk 7 rfl ?_ HS2.out ?_ ⟨?_,rfl⟩
 ·intro w hw;(try dsimp only at hw);obtain⟨⟨q0,q1⟩,p0,p1⟩:=hw;go_simp;try with_reducible rfl
 try simp only[nm]
 refine Tl 8 (v:=.agg (q.cells x.m).toArray) rfl (yieldsIf_load_mid (by kernel_rfl) 32 (.tmp 12) rfl w.heap.size 1 (by go_simp) (q.cells x.m) _ (fun w hw=>hw.1.2) Tryz.underlying32 rfl HSM.out) HS2.out ?_;try simp only[nm]
 refine Tk 9 rfl ?_ HS2.out ?_ ⟨?_,rfl⟩
 ·intro w hw;(try dsimp only at hw);obtain⟨⟨q0,q1⟩,p0,p1⟩:=hw;go_simp;try with_reducible rfl
 try simp only[nm]
 refine Tl 10 (v:=.agg (r.cells x.m).toArray) rfl (yieldsIf_load_mid (by kernel_rfl) 32 (.tmp 14) rfl (w.heap.size+1) 1 (by go_simp) (r.cells x.m) _ (fun w hw=>hw.2.2) Tryz.underlying32 rfl HSM'.out) HS2.out ?_;try simp only[nm]
 refine Rl 11 rfl fun K hK=>?_
 go_simp;refine(HLM.out w2 T2.out.m M2.out.m (Lq hB B2.out.size)).mono ?_;rintro e w3 ⟨rfl,hb3⟩;simp only[];have R3:=Hd (R2.out.below hb3 R2.out.lt);have P3:=Hd (P2.out.below hb3 P2.out.lt);have B3:=Hd (B2.out.trans (hb3.mono B2.out.size));have T3:=Hd (T2.out.below hb3);have M3:=Hd (M2.out.below (hb3.mono (Lq hB B2.out.size)));have HS3:=Hd (HSS.out w3 R3.out P3.out);clear hb3 R2 P2 B2 T2 M2;refine hK.out _ _ HS3.out ?_;clear hK K;try simp only[nm]
 refine Tk 12 rfl ?_ HS3.out ?_ ⟨?_,rfl⟩
 ·intro w hw;(try dsimp only at hw);obtain⟨⟨q0,q1⟩,p0,p1⟩:=hw;go_simp;try with_reducible rfl
 try simp only[nm]
 refine Tk 13 rfl ?_ HS3.out ?_ ⟨?_,rfl⟩
 ·intro w hw;(try dsimp only at hw);obtain⟨⟨q0,q1⟩,p0,p1⟩:=hw;go_simp;try with_reducible rfl
 try simp only[nm]
 refine wpAnyH_done (by kernel_rfl) ?_ _;go_wp2_with fail;go_ret;exact⟨rfl,B3.out⟩
def wc(zs:List Int):Int:=match wTx zs with
 | .ok _=>0
 | .error c=>c
open Go
section
variable{u v d v1 v0:Int}(hu:0≤u)(huv:u<v)(hd:0≤d)(hd':d<4294967296)(hv:9223372036854775808≤v)(hv':v<18446744073709551616)(e1:v1=v / 4294967296)(e0:v0=v % 4294967296)
include hu huv hd hd' hv in
include hv in
include hv in
include e1 e0 in
include hu huv hd hd' hv hv' e1 e0 in
include hv e1 e0 in
include hu huv hd hd' hv e1 e0 in
include hu huv hd hd' hv hv' e1 e0 in
include hu huv hd hd' hv e1 e0 in
include e0 in
def left(u v d:Int):Int:=(u*4294967296+d) % v
include hv in
end
def cap(x:Int):Int:=if 18446744073709551615<x then 18446744073709551615 else x
def held(zs:List Int):Int:=cap zs.sum
def val:List Int→Int
 | []=>0
 | a::t=>a+65536*val t
def round(x y o:List Int)(i k:Nat)(c:Int):Int:=o.getD (i+k) 0+x.getD i 0*y.getD k 0+c
theorem Sees.drop{w:World}{B n:Nat}{A:Option Addr}{xs:List Value}(h:Sees w B A n xs){a:Addr}(hA:A=some a)(k:Nat):Sees w B (some (a.add k)) (n - k) (xs.drop k):=
 ⟨by have:=h.len;simp;omega,fun i u hu=>by
  rw[List.getElem?_drop]at hu;obtain⟨a',e,hb,hc⟩:=h.cell _ u hu;rw[hA]at e;cases e
  exact⟨_,rfl,by rw[Xad];exact hb,by rw[Xc2];exact hc⟩⟩
theorem Sees.take{w:World}{B n:Nat}{A:Option Addr}{xs:List Value}(h:Sees w B A n xs)(k:Nat)(hk:k≤n):Sees w B A k (xs.take k):=
 ⟨by have:=h.len;simp;omega,fun i u hu=>by
  rw[List.getElem?_take]at hu;split at hu
  ·exact h.cell i u hu
  ·cases hu⟩
def YRaw.pre(q:YRaw)(x:LReady):List Value:=.slice q.BA q.bn q.bc::(q.t.cells x.tx++[.slice q.RA q.rn q.rc])
theorem Xns(q q':YRaw)(x:LReady)(B B':Nat)(w:World)(h:ReadyIn w B q x)(hB:B≤w.heap.size)(h':ReadyIn w B' q' x)(hB':B'≤w.heap.size) :
 Calls Tryz.prog 33 #[.agg (q.cells x).toArray,.agg (q'.cells x).toArray] w fun e w'=>e=.returned (.bool true)∧Below w.heap.size w w':=by
 have hre:=h.tx.m.recent;obtain⟨BA,bn,bc,t,RA,rn,rc⟩:=q;obtain⟨BB,bn',bd,t',RB,rn',rd⟩:=q';obtain rfl:bn'=bn:=by have h1:=h.bs.len;have h2:=h'.bs.len;dsimp only at h1 h2;omega
 obtain rfl:rn'=rn:=h'.rs.len.symm.trans h.rs.len;have hr0:=(Row.new w 40 (YRaw.cells ⟨BA,bn',bc,t,RA,rn',rc⟩ x)).alloc (.cells (YRaw.cells ⟨BB,bn',bd,t',RB,rn',rd⟩ x).toArray 40);have hr1:Row ((w.alloc (.cells (YRaw.cells ⟨BA,bn',bc,t,RA,rn',rc⟩ x).toArray 40)).alloc (.cells (YRaw.cells ⟨BB,bn',bd,t',RB,rn',rd⟩ x).toArray 40)) (w.heap.size+1) 40 (YRaw.cells ⟨BB,bn',bd,t',RB,rn',rd⟩ x):=Row.new' _ _ _ (by simp);have hbw:=(((Br w.heap.size w).alloc (Lr _) (.cells (YRaw.cells ⟨BA,bn',bc,t,RA,rn',rc⟩ x).toArray 40)).alloc (by simp) (.cells (YRaw.cells ⟨BB,bn',bd,t',RB,rn',rd⟩ x).toArray 40));have HIN:=Hd (fun(V:World) (hb:Below w.heap.size w V)=>h.below (hb.mono hB));have HIN':=Hd (fun(V:World) (hb:Below w.heap.size w V)=>h'.below (hb.mono hB'));have HST:=Hd (show(Tryz.prog.info? 34).map (·.size)=some (t.cells x.tx).length by rw[Xel,Xbb hre]);have HST':=Hd (show(Tryz.prog.info? 34).map (·.size)=some (t'.cells x.tx).length by rw[Xel,Xbb hre]);have HCT:Hid (∀j u,(t.cells x.tx)[j]?=some u→(YRaw.cells ⟨BA,bn',bc,t,RA,rn',rc⟩ x)[1+j]?=some u):=Hd fun j u hu=>Xeb hu
 have HCT':Hid (∀j u,(t'.cells x.tx)[j]?=some u→(YRaw.cells ⟨BB,bn',bd,t',RB,rn',rd⟩ x)[1+j]?=some u):=Hd fun j u hu=>Xeb hu
 have HL:Hid (∀i,(YRaw.cells ⟨BA,bn',bc,t,RA,rn',rc⟩ x)[41+i]?=(.slice RA rn' rc::x.last)[i]?):=Hd (Xaj hre);have HL':Hid (∀i,(YRaw.cells ⟨BB,bn',bd,t',RB,rn',rd⟩ x)[41+i]?=(.slice RB rn' rd::x.last)[i]?):=Hd (Xaj hre);have HC0:Hid ((YRaw.cells ⟨BA,bn',bc,t,RA,rn',rc⟩ x)[0]?=some (.slice BA bn' bc)):=Hd rfl;have HC0':Hid ((YRaw.cells ⟨BB,bn',bd,t',RB,rn',rd⟩ x)[0]?=some (.slice BB bn' bd)):=Hd rfl;have HBN:=Hd (And.intro h.bn h.rn);have HRO:=Hd h.rs.ok;have HBE:=Hd (fun w=>Xv2 x.u x.p x.bad w);generalize YRaw.cells ⟨BA,bn',bc,t,RA,rn',rc⟩ x=ca at *;generalize YRaw.cells ⟨BB,bn',bd,t',RB,rn',rd⟩ x=cb at *;have HR0:=Hd hr0;have HR1:=Hd hr1;have HB0:=Hd hbw;have a0:=(hr0.cell 0).trans HC0.out;have b0:=(hr1.cell 0).trans HC0'.out;clear hr0 hr1 hbw h h' hre;go_enter Tryz.func33,Tryz.ntmps33
 go_wp2_with fail;refine(Xi0 BA BB bn' bn' bc bd x.bytes x.bytes _ B B' (HIN.out _ HB0.out).bs (HIN'.out _ HB0.out).bs (by have:=HBN.out.1;omega) (by have:=HBN.out.1;omega)).mono ?_;rintro e w1 ⟨rfl,k,hw1⟩;simp only[decide_true];have B1:Hid (Below w.heap.size w w1):=Hd (by rw[hw1];exact Go.below_drewN HB0.out k);have R0:Hid (Row w1 w.heap.size 40 ca):=Hd (by rw[hw1];exact HR0.out.drewN k);have R1:Hid (Row w1 (w.heap.size+1) 40 cb):=Hd (by rw[hw1];exact HR1.out.drewN k);clear hw1 a0 b0 HR0 HR1 HB0;go_wp2_with (first
  | ((with_reducible show wpList _ _ _ (⟨some 12,_,_,_,_,_⟩::_) _ _);go_must(refine Xal (by kernel_rfl) 34 (.tmp 11) rfl ⟨w.heap.size,1,none⟩ (t.cells x.tx) _ Tryz.underlying34 rfl HST.out (fun j u hu=>by rw[Xa5,R0.out.cell];exact HCT.out j u hu) ?_ ?_;go_simp))
  | ((with_reducible show wpList _ _ _ (⟨some 14,_,_,_,_,_⟩::_) _ _);go_must(refine Xal (by kernel_rfl) 34 (.tmp 13) rfl ⟨w.heap.size+1,1,none⟩ (t'.cells x.tx) _ Tryz.underlying34 rfl HST'.out (fun j u hu=>by rw[Xa5,R1.out.cell];exact HCT'.out j u hu) ?_ ?_;go_simp)))
 refine(Xup t t' x.tx B B' w1 (HIN.out _ B1.out).tx (Lq hB B1.out.size) (HIN'.out _ B1.out).tx (Lq hB' B1.out.size)).mono ?_;rintro e w2 ⟨rfl,hb⟩;have R02:=Hd (R0.out.below hb R0.out.lt);have R12:=Hd (R1.out.below hb R1.out.lt);have B2:=Hd (B1.out.trans (hb.mono B1.out.size));clear hb R0 R1 B1;have a41:w2.cell? ⟨w.heap.size,41,none⟩=some (.slice RA rn' rc):=(R02.out.cell 41).trans (HL.out 0);have b41:w2.cell? ⟨w.heap.size+1,41,none⟩=some (.slice RB rn' rd):=(R12.out.cell 41).trans (HL'.out 0);go_wp2_with fail;refine(sameR RA RB rn' rc rd _ w2 B B' (HIN.out _ B2.out).rs.cs (HIN'.out _ B2.out).rs.cs (Xiu HRO.out) (by have:=HBN.out.2;omega)).mono ?_;rintro e w3 ⟨rfl,k3,hw3⟩;have B3:Hid (Below w.heap.size w w3):=Hd (by rw[hw3];exact Go.below_drewN B2.out k3);have R03:Hid (Row w3 w.heap.size 40 ca):=Hd (by rw[hw3];exact R02.out.drewN k3);have R13:Hid (Row w3 (w.heap.size+1) 40 cb):=Hd (by rw[hw3];exact R12.out.drewN k3);clear hw3 a41 b41 R02 R12 B2;have a45:w3.cell? ⟨w.heap.size,45,none⟩=some (.int .u64 x.fee):=(R03.out.cell 45).trans (HL.out 4);have b45:w3.cell? ⟨w.heap.size+1,45,none⟩=some (.int .u64 x.fee):=(R13.out.cell 45).trans (HL'.out 4);have a46:w3.cell? ⟨w.heap.size,46,none⟩=some (.int .u64 x.cost):=(R03.out.cell 46).trans (HL.out 5);have b46:w3.cell? ⟨w.heap.size+1,46,none⟩=some (.int .u64 x.cost):=(R13.out.cell 46).trans (HL'.out 5);have a47:w3.cell? ⟨w.heap.size,47,none⟩=some (.int .u64 x.pri):=(R03.out.cell 47).trans (HL.out 6);have b47:w3.cell? ⟨w.heap.size+1,47,none⟩=some (.int .u64 x.pri):=(R13.out.cell 47).trans (HL'.out 6);have HBS:=Hd (Xu9 x.u x.p x.bad);have A42:Hid (∀j v,([.int .u64 x.u,.int .u64 x.p,.int .i64 x.bad]:List Value)[j]?=some v→w3.cell? ((⟨w.heap.size,42,none⟩:Addr).add j)=some v):=Hd fun j v hv=>by
  rw[Xa5,R03.out.cell,show 42+j=41+(j+1) by omega,HL.out];have hj:=(List.getElem?_eq_some_iff.1 hv).1;rcases(show j=0∨j=1∨j=2 by simp at hj;omega)with rfl | rfl | rfl <;> exact hv
 have B42:Hid (∀j v,([.int .u64 x.u,.int .u64 x.p,.int .i64 x.bad]:List Value)[j]?=some v→w3.cell? ((⟨w.heap.size+1,42,none⟩:Addr).add j)=some v):=Hd fun j v hv=>by
  rw[Xa5,R13.out.cell,show 42+j=41+(j+1) by omega,HL'.out];have hj:=(List.getElem?_eq_some_iff.1 hv).1;rcases(show j=0∨j=1∨j=2 by simp at hj;omega)with rfl | rfl | rfl <;> exact hv
 have hbe:=HBE.out;go_wp2_with (first
  | ((with_reducible show wpList _ _ _ (⟨some 26,_,_,_,_,_⟩::_) _ _);go_must(refine Xal (by kernel_rfl) 38 (.tmp 25) rfl ⟨w.heap.size,42,none⟩ [.int .u64 x.u,.int .u64 x.p,.int .i64 x.bad] _ Tryz.underlying38 rfl HBS.out A42.out ?_ ?_;go_simp))
  | ((with_reducible show wpList _ _ _ (⟨some 28,_,_,_,_,_⟩::_) _ _);go_must(refine Xal (by kernel_rfl) 38 (.tmp 27) rfl ⟨w.heap.size+1,42,none⟩ [.int .u64 x.u,.int .u64 x.p,.int .i64 x.bad] _ Tryz.underlying38 rfl HBS.out B42.out ?_ ?_;go_simp)))
 go_ret;exact⟨rfl,B3.out⟩
theorem Xlf(q q':YRaw)(x:LReady)(B:Nat)(w:World)(hT:TwRd w q' x)(h:ReadyIn w B q x)(hB:B≤w.heap.size)(hf:Few15 q x):Calls Tryz.prog 11 #[.agg (q'.cells x).toArray,.agg (q.cells x).toArray] w fun e w'=>e=.returned (.bool true)∧Below w.heap.size w w':=by
 have H32:=Hd h.tx.m.recent;have HF:=Hd hf;have HB:=Hd hB;obtain⟨BA',bn',bc',t',RA',rn',rc'⟩:=q';obtain rfl:bn'=q.bn:=by have h1:=h.bs.len;have h2:=hT.is.bs.len;dsimp only at h2;omega
 obtain rfl:rn'=q.rn:=hT.is.rs.len.symm.trans h.rs.len;obtain⟨gb,b1,b2,_⟩:=hT.b;obtain⟨gr,r1,r2,_⟩:=hT.r;dsimp only at b1 b2 r1 r2
 subst b1 b2 r1 r2;have HTW:=Hd (fun(V:World) (hb:Below w.heap.size w V)=>hT.below hb);have HIN:=Hd (fun(V:World) (hb:Below w.heap.size w V)=>h.below (hb.mono hB));obtain⟨q1,hq1⟩:∃q1:YRaw,q1=⟨some ⟨gb,0,none⟩,q.bn,q.bn+3,t',some ⟨gr,0,none⟩,q.rn,q.rn+3⟩:=⟨_,rfl⟩;have HCT:Hid (∀j u,(t'.cells x.tx)[j]?=some u→(q1.cells x)[1+j]?=some u):=Hd fun j u hu=>by rw[hq1];exact Xeb hu
 have HC0:Hid ((q1.cells x)[0]?=some (.slice (some ⟨gb,0,none⟩) q.bn (q.bn+3))):=Hd (by rw[hq1];rfl);have HC41:Hid ((q1.cells x)[41]?=some (.slice (some ⟨gr,0,none⟩) q.rn (q.rn+3))):=Hd (by rw[hq1];exact Xaj H32.out 0);have HTB:Hid (∀(V:World),Below w.heap.size w V→Row V gb 5 (bv (x.bytes++List.replicate 3 165))):=Hd fun V hb=>by
  obtain⟨g,e,_,hr⟩:=(HTW.out V hb).b;dsimp only at e
  cases e
  exact hr
 have HTR:Hid (∀(V:World),Below w.heap.size w V→Row V gr 93 ((x.roles.map LRole.cells).flatten++rowOf 3 mkR.cells)):=Hd fun V hb=>by
  obtain⟨g,e,_,hr⟩:=(HTW.out V hb).r;dsimp only at e
  cases e
  exact hr
 have HTT:Hid (∀(V:World),Below w.heap.size w V→TwTx V t' x.tx):=Hd fun V hb=>(HTW.out V hb).t
 have HTI:Hid (∀(V:World),Below w.heap.size w V→ReadyIn V V.heap.size q1 x):=Hd fun V hb=>by rw[hq1];exact(HTW.out V hb).is
 rw[←hq1];clear hT h hB hf hq1 HTW;have hb0:=((Br w.heap.size w).alloc (Lr _) (.cells (q1.cells x).toArray 40)).alloc (by simp) (.cells (q.cells x).toArray 40);have R1:=Hd ((Row.new w 40 (q1.cells x)).alloc (.cells (q.cells x).toArray 40));have R2:=Hd (Row.new' (w.alloc (.cells (q1.cells x).toArray 40)) 40 (q.cells x) (g:=w.heap.size+1) (by simp));have HB0:=Hd hb0;obtain⟨g2,hg2⟩:∃g,g=w.heap.size+1:=⟨_,rfl⟩;obtain⟨g1,hg1⟩:∃g,g=w.heap.size:=⟨_,rfl⟩;have HG2:Hid (w.heap.size+1=g2):=Hd hg2.symm;have HG1:Hid (w.heap.size=g1):=Hd hg1.symm;rw[←hg2]at R2;rw[←hg1]at R1;clear hb0 hg2 hg1;have R2':Hid (Row ((w.alloc (.cells (q1.cells x).toArray 40)).alloc (.cells (q.cells x).toArray 40)) g2 40 (q.cells x)):=Hd R2.out;clear R2;generalize hW:(w.alloc (.cells (q1.cells x).toArray 40)).alloc (.cells (q.cells x).toArray 40)=W at *;have HW:=Hd hW;clear hW;go_enter Tryz.func11,Tryz.ntmps11
 go_upto_region 1 with fail
 try rw[HG2.out]
 try rw[HG1.out]
 rw[HW.out];clear HG2 HG1 HW;go_wp2_with (first
  | ((with_reducible show wpList _ _ _ (⟨some 5,_,_,_,_,_⟩::_) _ _);go_must(refine Xa1 rfl 40 (.tmp 2) rfl g1 40 (q1.cells x) _ Tryz.underlying40 rfl (Xb0 H32.out) R1.out ?_ ?_;go_simp))
  | ((with_reducible show wpList _ _ _ (⟨some 6,_,_,_,_,_⟩::_) _ _);go_must(refine Xa1 rfl 40 (.tmp 3) rfl g2 40 (q.cells x) _ Tryz.underlying40 rfl (Xb0 H32.out) R2'.out ?_ ?_;go_simp)))
 refine(Xns q1 q x W.heap.size B W (HTI.out W HB0.out) (Lr _) (HIN.out W HB0.out) (Lq HB.out HB0.out.size)).mono ?_;rintro e w1 ⟨rfl,hb1⟩;have B1:=Hd (HB0.out.trans (hb1.mono HB0.out.size));have R11:=Hd (R1.out.below hb1 R1.out.lt);have R21:=Hd (R2'.out.below hb1 R2'.out.lt);clear hb1 R1 R2' HB0;have a0:w1.cell? ⟨g1,0,none⟩=some (.slice (some ⟨gb,0,none⟩) q.bn (q.bn+3)):=(R11.out.cell 0).trans HC0.out;have b0:w1.cell? ⟨g2,0,none⟩=some (.slice q.BA q.bn q.bc):=R21.out.cell 0;go_wp2_with fail;refine(Xej gb q.BA q.bn q.bc x.bytes w1 B (HTB.out w1 B1.out) (HIN.out w1 B1.out).bs (by have:=HF.out.b;omega)).mono ?_;rintro e w2 ⟨rfl,k2,hw2⟩;have B2:Hid (Below w.heap.size w w2):=Hd (by rw[hw2];exact Go.below_drewN B1.out k2);have R12:Hid (Row w2 g1 40 (q1.cells x)):=Hd (by rw[hw2];exact R11.out.drewN k2);have R22:Hid (Row w2 g2 40 (q.cells x)):=Hd (by rw[hw2];exact R21.out.drewN k2);clear hw2 a0 b0 R11 R21 B1;have HA:Hid (∀j u,(t'.cells x.tx)[j]?=some u→w2.cell? ((⟨g1,1,none⟩:Addr).add j)=some u):=Hd fun j u hu=>by
  rw[Xa5,R12.out.cell];exact HCT.out j u hu
 have HA2:Hid (∀j u,(q.t.cells x.tx)[j]?=some u→w2.cell? ((⟨g2,1,none⟩:Addr).add j)=some u):=Hd fun j u hu=>by
  rw[Xa5,R22.out.cell];exact Xeb hu
 go_wp2_with (first
  | ((with_reducible show wpList _ _ _ (⟨some 17,_,_,_,_,_⟩::_) _ _);go_must(refine Xal (by kernel_rfl) 34 (.tmp 16) rfl ⟨g1,1,none⟩ (t'.cells x.tx) _ Tryz.underlying34 rfl (by rw[Xel,Xbb H32.out]) HA.out ?_ ?_;go_simp))
  | ((with_reducible show wpList _ _ _ (⟨some 19,_,_,_,_,_⟩::_) _ _);go_must(refine Xal (by kernel_rfl) 34 (.tmp 18) rfl ⟨g2,1,none⟩ (q.t.cells x.tx) _ Tryz.underlying34 rfl (by rw[Xel,Xbb H32.out]) HA2.out ?_ ?_;go_simp)))
 refine(leftTx q.t t' x.tx B w2 (HTT.out w2 B2.out) (HIN.out w2 B2.out).tx (Lq HB.out B2.out.size) HF.out.s HF.out.k HF.out.i HF.out.l).mono ?_;rintro e w3 ⟨rfl,hb3⟩;have B3:=Hd (B2.out.trans (hb3.mono B2.out.size));have R13:=Hd (R12.out.below hb3 R12.out.lt);have R23:=Hd (R22.out.below hb3 R22.out.lt);clear hb3 R12 R22 B2 HA HA2;have a41:w3.cell? ⟨g1,41,none⟩=some (.slice (some ⟨gr,0,none⟩) q.rn (q.rn+3)):=(R13.out.cell 41).trans HC41.out;have b41:w3.cell? ⟨g2,41,none⟩=some (.slice q.RA q.rn q.rc):=(R23.out.cell 41).trans (Xaj H32.out 0);go_wp2_with fail;refine(Xri gr q.RA q.rn q.rc B x.roles w3 (HTR.out w3 B3.out) (HIN.out w3 B3.out).rs (Lq HB.out B3.out.size) (by have:=HF.out.r;omega)).mono ?_;rintro e w4 ⟨rfl,hb4⟩;have B4:=Hd (B3.out.trans (hb4.mono B3.out.size));clear hb4;go_wp2_with fail;go_ret;exact⟨rfl,B4.out⟩
theorem Xhd(p base:Nat)(ks:List (Sl × Kd))(y:Sl)(o:LOut)(w0 w:World)(h:Bk w0 p base ks w)(hn:ks.length≤1000000) :
 Calls Tryz.prog 13 #[.pointer (some ⟨p,0,none⟩),.agg (o.cells y.val).toArray] w fun e w'=>e=.returned (.tuple #[])∧Bk w0 p base (ks++[(y,Kd.ho)]) w':=by
 have HB:=Hd (Xnj p base ks y w0 _ (h.alloc (.cells (o.cells y.val).toArray 49)) hn);have c5:(w.alloc (.cells (o.cells y.val).toArray 49)).cell? ⟨w.heap.size,5,none⟩=some y.val:=(Row.new w 49 (o.cells y.val)).cell 5;clear h hn;obtain⟨A,n,c⟩:=y;unfold Sl.val at *;go_enter Tryz.func13,Tryz.ntmps13
 go_wp2_with fail;refine HB.out.mono ?_;rintro e w' ⟨rfl,hb⟩;have HB2:=Hd hb;clear hb;go_wp2_with fail;go_end0
 exact⟨rfl,HB2.out⟩
theorem Xvo{w:World}{p:Nat}(h:Row w p 54 [.slice none 0 0]):Bk w p p [] w:=⟨[],none,0,rfl,by simp,⟨h,World.ownsRow_nil _ _ _ _,ButOne.refl _ _ _,Nat.le_of_lt h.lt,fun _ _ _ _=>rfl⟩⟩
theorem Xjz{w:World}{base n c:Nat}{A:Option Addr}{xs:List Value}(h:w.ownsRow base 74 66 (.slice A n c) n xs):∃y:Sl,.slice A n n=y.val∧SlFit w (y,Kd.ho)∧(∀g,y.A=some g→base≤g∧g<w.heap.size)∧(.slice A n n:Value).ownBlock=y.A:=by
 obtain⟨x,hx,hn,h0,h1⟩:=own_sl h;obtain⟨xA,xn,xc⟩:=x;unfold Sl.val at hx;injection hx with e1 e2 e3
 have e2:n=xn:=e2;have e3:c=xc:=e3;subst e2 e3 e1;refine⟨⟨xA,n,n⟩,rfl,?_,fun g hg=>⟨(h1 g hg).1,(h1 g hg).2.1⟩,by cases xA <;> rfl⟩;cases xA with
 | none=>exact⟨(h0 rfl).1,(h0 rfl).1⟩
 | some g =>
  obtain⟨_,_,_,h4,h5,cur,h6,h7⟩:=h1 g rfl;have h4':n≤c:=h4;have h5':c≤9223372036854775807:=h5;have h7':cur.length=c*66:=h7;refine⟨Lr n,by show n≤9223372036854775807;omega,cur,h6,?_,fun h=>?_⟩
  ·show n*66≤cur.length
   rw[h7'];exact Nat.mul_le_mul_right 66 h4'
  ·have h:(66:Nat)=64:=h;omega
theorem Xmc{w:World}{base n c:Nat}{A:Option Addr}{L:List LHold}(h:w.ownsRow base 74 66 (.slice A n c) n (holC L))(hn:L.length=n)(ho:HolsOk L):CsIn 66 w w.heap.size A n (L.map LHold.cells):=by
 obtain⟨A',c',e,h2,_⟩:=Xbm h;injection e with e _ _
 subst e;exact⟨by rw[List.length_map,hn],fun k hk=>by obtain⟨y,hy,rfl⟩:=List.mem_map.1 hk;exact Xf3 (ho y hy).1 (ho y hy).2,h2⟩
theorem Xna{x:LReady}{l:List LAcc}(hr:∀r ∈ x.roles,r.key.length=32)(hl:∀a ∈ l,AccOk a)(hb:∀a ∈ x.tx.m.ins,AllBytes a.acc∧AllBytes a.dat):HolsOk (run15 x l).1.ch∧(run15 x l).1.ch.length≤l.length:=by
 have hgo:∀(L:List LIn) (k:Nat) (S:S15),(∀y ∈ S.now,AccOk y)→(∀a ∈ L,AllBytes a.acc∧AllBytes a.dat)→(∀y ∈ (go15 x L k S).2.2.now,AccOk y)∧(go15 x L k S).2.2.now.length=S.now.length:=by
  intro L;induction L with
  | nil=>intro k S h _;exact⟨h,rfl⟩
  | cons a r ih =>
   intro k S h hb;have hba:=hb a (List.mem_cons_self ..);have hst:(∀y ∈ (step15 x k a S).2.now,AccOk y)∧(step15 x k a S).2.now.length=S.now.length:=by
    unfold step15;split
    ·exact⟨h,rfl⟩
    ·split
     ·exact⟨h,rfl⟩
     ·split
      ·split
       ·rename_i he
        obtain⟨pa,pb,hwt⟩:=Xi7 h hba.2 hba.1 he;exact⟨hwt.d.ok,hwt.d.len⟩
       ·exact⟨h,rfl⟩
      ·split
       ·exact⟨h,rfl⟩
       ·exact⟨h,rfl⟩
   unfold go15;split
   ·obtain⟨h1,h2⟩:=ih (k+1) _ hst.1 (fun b hb2=>hb b (List.mem_cons_of_mem _ hb2));exact⟨h1,h2.trans hst.2⟩
   ·exact hst
 obtain⟨g1,g2⟩:=hgo x.tx.m.ins 0 ⟨l,0,0⟩ hl hb;unfold run15;split
 ·exact⟨fun y hy=>(by cases hy),Nat.zero_le _⟩
 split
 ·exact⟨fun y hy=>(by cases hy),Nat.zero_le _⟩
 split
 ·exact⟨Xiy _ _ hr fun a ha=>(g1 a ha).o.1,Lq (Xda _ _) (Nat.le_of_eq g2)⟩
 ·exact⟨Xiy _ _ hr fun a ha=>(hl a ha).o.1,Xda _ _⟩
theorem few15{q:YRaw}{x:LReady}{w:World}{B:Nat}(h:ReadyIn w B q x)(hf:Fw15 x):Few15 q x:=by
 have ht:=hf.t;unfold tot15 at ht;have hb:x.bytes.length=q.bn:=by have:=h.bs.len;rwa [bL]at this
 have hr:x.roles.length=q.rn:=h.rs.len;refine⟨by omega,by omega,by omega,⟨by omega,by omega,by omega⟩,fun i hi=>?_,fun l hl=>?_⟩
 ·have:=Xmq hi;omega
 ·have:=Xp3 hl;omega
theorem Xoc(q:YRaw)(x:LReady)(LA:Option Addr)(ln lc:Nat)(l:List LAcc)(w:World)(h:ReadyIn w w.heap.size q x)(hl:AccsIn w w.heap.size LA ln l)(hlc:ln≤lc∧lc≤maxLen)(hwd:Wide15 x)(hlm:ln≤140737488355328)(hok:RdOk15 x)(htw:TypAt w) :
 Calls Tryz.prog 3 #[.agg (q.cells x).toArray,.slice LA ln lc] w fun e w'=>e=.returned (.bool true)∧Below w.heap.size w w':=by
 have hb0:=(Br w.heap.size w).alloc (Lr _) (.cells (q.cells x).toArray 40);have X0:Hid (FW15 w (w.alloc (.cells (q.cells x).toArray 40)) w.heap.size w.heap.size q x LA ln l):=Hd ⟨hb0,Row.new w 40 (q.cells x),h.below hb0,hl.below hb0⟩;have HB:Hid (w.heap.size≤w.heap.size):=Hd (Lr _);have HT:=Hd htw;have HOK:=Hd hok;have HLC:=Hd hlc;have H32:=Hd h.tx.m.recent;have HLL:=Hd hl.len;have HLO:=Hd hl.ok;have HWD:=Hd hwd;have HHO:=Hd (Xna (x:=x) (l:=l) (fun r hr=>(h.rs.ok r hr).1) hl.ok hok.ab);obtain⟨g2,hg2⟩:∃g,g=w.heap.size:=⟨_,rfl⟩;have HG2:Hid (w.heap.size=g2):=Hd hg2.symm;have X0':Hid (FW15 w (w.alloc (.cells (q.cells x).toArray 40)) w.heap.size g2 q x LA ln l):=Hd (by rw[hg2];exact X0.out);clear hb0 h hl hlc hwd hok htw hg2 X0;generalize hW:w.alloc (.cells (q.cells x).toArray 40)=W at *;have HW:=Hd hW;clear hW;go_enter Tryz.func3,Tryz.ntmps3
 go_upto_region 1 with fail
 try rw[HG2.out]
 rw[HW.out];clear HG2 HW;by_cases hlong:300<ln
 ·have hl1:(300:Int)<ln:=by omega
  go_wp2_with fail;refine(Xl1 _ (HT.out.below X0'.out.b HT.out.pos)).mono ?_;rintro e wl ⟨rfl,hbl⟩;have BL:=Hd (X0'.out.b.trans (hbl.mono X0'.out.b.size));clear hbl;go_wp2_with fail;go_ret;exact⟨rfl,BL.out⟩
 have hl1:¬(300:Int)<ln:=by omega
 have hl2:(ln:Int)≤300:=by omega
 have HGR:=Hd (Xv3 q x w.heap.size W X0'.out.rd X0'.out.b.size HWD.out);go_wp2_with (first
  | ((with_reducible show wpList _ _ _ (⟨some 18,_,_,_,_,_⟩::_) _ _);go_must(refine Xal (by kernel_rfl) 40 (.tmp 2) rfl ⟨g2,0,none⟩ (q.cells x) _ Tryz.underlying40 rfl (Xb0 H32.out) (fun j v hv=>by rw[Xa5,X0'.out.r2.cell,Nat.zero_add];exact hv) ?_ ?_;go_simp))
  | fail)
 refine HGR.out.mono ?_;rintro e w1 ⟨⟨bg,rfl,hfew⟩,hb1⟩;have X1:=Hd (X0'.out.below HB.out hb1);clear hb1 X0' HGR HWD;cases bg with
 | true =>
  clear hfew;go_wp2_with fail;refine(Xl1 _ (HT.out.below X1.out.b HT.out.pos)).mono ?_;rintro e wl ⟨rfl,hbl⟩;have BL:=Hd (X1.out.b.trans (hbl.mono X1.out.b.size));clear hbl;go_wp2_with fail;go_ret;exact⟨rfl,BL.out⟩
 | false =>
  have HF:=Hd (hfew rfl);clear hfew hlm;have HFQ:=Hd (few15 X1.out.rd HF.out);have HRL:=Hd X1.out.rd.rs.len;go_wp2_with (first
   | ((with_reducible show wpList _ _ _ (⟨some 22,_,_,_,_,_⟩::_) _ _);go_must(refine Xa1 rfl 40 (.tmp 2) rfl g2 _ (q.cells x) _ Tryz.underlying40 rfl (Xb0 H32.out) X1.out.r2 ?_ ?_;go_simp))
   | fail)
  refine(Xlw q x w.heap.size w1 X1.out.rd X1.out.b.size HFQ.out).mono ?_;rintro e w2 ⟨q',rfl,htr,hb2⟩;have X2:=Hd (X1.out.below HB.out hb2);have TR2:=Hd htr;clear htr hb2 X1;go_upto_region 4 with(first
   | ((with_reducible show wpList _ _ _ (⟨some 5,_,_,_,_,_⟩::_) _ _);go_must(refine Xa0 rfl 40 rfl (zYRaw.cells zReady) Xhh ?_))
   | ((with_reducible show wpList _ _ _ (⟨none,Op.store 40 _ _,_,_,_,_⟩::_) _ _);go_must(refine Xa2 rfl 40 (.tmp 5) (.tmp 23) rfl (q'.cells x) (Xb0 H32.out) Xgl (by rw[List.size_toArray,Xi4,Xc9 H32.out]) ?_ ?_ ?_;go_simp;go_simp;intro w3 hr5 hb5 hz5)))
  have R5:=Hd hr5;have X3:=Hd (X2.out.below HB.out hb5);have TR3:=Hd (TR2.out.below hb5);obtain⟨g5,hg5⟩:∃g,g=w2.heap.size:=⟨_,rfl⟩;rw[←hg5]at R5 ⊢;clear hr5 hb5 hz5 hg5 X2 TR2;go_wp2_with fail;refine(Xkq LA ln lc w.heap.size l w3 X3.out.ac X3.out.b.size (by omega)).mono ?_;rintro e w4 ⟨gu,rfl,hgu,hru,hb4⟩;have X4:=Hd (X3.out.below HB.out hb4);have TR4:=Hd (TR3.out.below hb4);have R54:=Hd (R5.out.below hb4 R5.out.lt);have RU4:=Hd hru;clear hgu hru hb4 X3 TR3 R5;have HRA:=Hd (fun(V:World) (q0:YRaw) (A:Option Addr) (c B0:Nat) (h1:ReadyIn V B0 q0 x) (h2:AccsIn V B0 A ln l) (h3:ln≤c∧c≤maxLen) (h4:B0≤V.heap.size) (h5:TypAt V)=>runC q0 x B0 A ln c l V h1 h2 h3 h4 (by omega) HOK.out.p HOK.out.ab HOK.out.u ⟨by have h6:=h1.tx.m.ins.len;have h7:=HF.out.n;omega,fun a ha=>by have:=(HF.out.acc ha).1;omega⟩ h5);have HLEN:=Hd (show ln≤ln+3∧ln+3≤maxLen from⟨by omega,by unfold maxLen;omega⟩);have HAU:=Hd (fun(V:World) (hr:Row V gu 69 (accsC l++rowOf 3 mkAc.cells))=>Xu0 (n:=ln) hr HLL.out HLO.out hr.lt);go_wp2_with (first
   | ((with_reducible show wpList _ _ _ (⟨some 27,_,_,_,_,_⟩::_) _ _);go_must(refine Xa1 rfl 40 (.tmp 5) rfl g5 _ (q'.cells x) _ Tryz.underlying40 rfl (Xb0 H32.out) R54.out ?_ ?_;go_simp))
   | fail)
  refine(HRA.out w4 q' (some ⟨gu,0,none⟩) (ln+3) w4.heap.size TR4.out.is (HAU.out w4 RU4.out) HLEN.out (Lr _) (HT.out.below X4.out.b HT.out.pos)).mono ?_;rintro e w6 ⟨A1,c1,rfl,ho1,hb6⟩;have X6:=Hd (X4.out.below HB.out hb6);have TR6:=Hd (TR4.out.below hb6);have R56:=Hd (R54.out.below hb6 R54.out.lt);have RU6:=Hd (RU4.out.below hb6 RU4.out.lt);have O16:=Hd (Xbp ho1 X4.out.b.size);clear ho1 hb6 X4 TR4 R54 RU4;obtain⟨o,ho⟩:∃o,o=(run15 x l).1:=⟨_,rfl⟩;obtain⟨er,her⟩:∃o,o=(run15 x l).2:=⟨_,rfl⟩;rw[←ho]at HHO O16;rw[←ho,←her];have HO:=Hd ho;have HER:=Hd her;clear ho her;go_upto_region 6 with(first
   | ((with_reducible show wpList _ _ _ (⟨some 7,_,_,_,_,_⟩::_) _ _);go_must(refine Xa0 rfl 49 rfl (out0.cells (.slice none 0 0)) Xbk ?_))
   | ((with_reducible show wpList _ _ _ (⟨none,Op.store 49 _ _,_,_,_,_⟩::_) _ _);go_must(refine Xa2 rfl 49 (.tmp 7) (.tmp 30) rfl (o.cells (.slice A1 o.ch.length o.ch.length)) (Xag _ _) (Xb5 _ rfl) rfl ?_ ?_ ?_;go_simp;go_simp;intro w7 hr7 hb7 hz7)))
  have R7:=Hd hr7;have X7:=Hd (X6.out.below HB.out hb7);have TR7:=Hd (TR6.out.below hb7);have R57:=Hd (R56.out.below hb7 R56.out.lt);have RU7:=Hd (RU6.out.below hb7 RU6.out.lt);have O17:=Hd (Xas O16.out hb7);obtain⟨g7,hg7⟩:∃g,g=w6.heap.size:=⟨_,rfl⟩;rw[←hg7]at R7 ⊢;clear hr7 hb7 hz7 hg7 X6 TR6 R56 RU6 O16;go_wp2_with (first
   | ((with_reducible show wpList _ _ _ (⟨some 33,_,_,_,_,_⟩::_) _ _);go_must(refine Xa1 rfl 40 (.tmp 2) rfl g2 _ (q.cells x) _ Tryz.underlying40 rfl (Xb0 H32.out) X7.out.r2 ?_ ?_;go_simp))
   | fail)
  refine(Xtt q x w.heap.size LA ln lc l w7 X7.out.rd X7.out.ac HLC.out X7.out.b.size (by omega) HOK.out.p HOK.out.ab HOK.out.u ⟨by have h6:=X7.out.rd.tx.m.ins.len;have h7:=HF.out.n;omega,fun a ha=>by have:=(HF.out.acc ha).1;omega⟩).mono ?_;rintro e w8 ⟨v2,rfl,ho2,hb8⟩;obtain⟨A2,c2,rfl,_⟩:=Xbm ho2;rw[←HO.out]at ho2;rw[←HO.out,←HER.out];have X8:=Hd (X7.out.below HB.out hb8);have TR8:=Hd (TR7.out.below hb8);have R58:=Hd (R57.out.below hb8 R57.out.lt);have R78:=Hd (R7.out.below hb8 R7.out.lt);have RU8:=Hd (RU7.out.below hb8 RU7.out.lt);have O18:=Hd (Xas O17.out hb8);have O28:=Hd (Xbp ho2 X7.out.b.size);clear ho2 hb8 X7 TR7 R57 R7 RU7 O17;go_upto_region 7 with(first
   | ((with_reducible show wpList _ _ _ (⟨some 9,_,_,_,_,_⟩::_) _ _);go_must(refine Xa0 rfl 49 rfl (out0.cells (.slice none 0 0)) Xbk ?_))
   | ((with_reducible show wpList _ _ _ (⟨none,Op.store 49 _ _,_,_,_,_⟩::_) _ _);go_must(refine Xa2 rfl 49 (.tmp 9) (.tmp 36) rfl (o.cells (.slice A2 o.ch.length c2)) (Xag _ _) (Xb5 _ rfl) rfl ?_ ?_ ?_;go_simp;go_simp;intro w9 hr9 hb9 hz9)))
  have R9:=Hd hr9;have X9:=Hd (X8.out.below HB.out hb9);have TR9:=Hd (TR8.out.below hb9);have R59:=Hd (R58.out.below hb9 R58.out.lt);have R79:=Hd (R78.out.below hb9 R78.out.lt);have RU9:=Hd (RU8.out.below hb9 RU8.out.lt);have O19:=Hd (Xas O18.out hb9);have O29:=Hd (Xas O28.out hb9);obtain⟨g9,hg9⟩:∃g,g=w8.heap.size:=⟨_,rfl⟩;rw[←hg9]at R9 ⊢;clear hr9 hb9 hz9 hg9 X8 TR8 R58 R78 RU8 O18 O28;go_wp2_with (first
   | ((with_reducible show wpList _ _ _ (⟨some 39,_,_,_,_,_⟩::_) _ _);go_must(refine Xa1 rfl 40 (.tmp 5) rfl g5 _ (q'.cells x) _ Tryz.underlying40 rfl (Xb0 H32.out) R59.out ?_ ?_;go_simp))
   | fail)
  refine(HRA.out w9 q' (some ⟨gu,0,none⟩) (ln+3) w9.heap.size TR9.out.is (HAU.out w9 RU9.out) HLEN.out (Lr _) (HT.out.below X9.out.b HT.out.pos)).mono ?_;rintro e wa ⟨A3,c3,rfl,ho3,hba⟩;rw[←HO.out]at ho3;rw[←HO.out,←HER.out];have XA:=Hd (X9.out.below HB.out hba);have TRA:=Hd (TR9.out.below hba);have R5A:=Hd (R59.out.below hba R59.out.lt);have R7A:=Hd (R79.out.below hba R79.out.lt);have R9A:=Hd (R9.out.below hba R9.out.lt);have RUA:=Hd (RU9.out.below hba RU9.out.lt);have O1A:=Hd (Xas O19.out hba);have O2A:=Hd (Xas O29.out hba);have O3A:=Hd ho3;have HW9:Hid (w.heap.size≤w9.heap.size):=Hd X9.out.b.size;have HW9A:Hid (w9.heap.size≤wa.heap.size):=Hd hba.size;have H1L:Hid (∀g,(Value.slice A1 o.ch.length c1).ownBlock=some g→w.heap.size≤g∧g<w9.heap.size):=Hd fun g hg=>O19.out.lt g hg
  clear ho3 hba X9 TR9 R59 R79 R9 RU9 O19 O29 HRA HAU HLEN;go_upto_region 8 with(first
   | ((with_reducible show wpList _ _ _ (⟨some 11,_,_,_,_,_⟩::_) _ _);go_must(refine Xa0 rfl 49 rfl (out0.cells (.slice none 0 0)) Xbk ?_))
   | ((with_reducible show wpList _ _ _ (⟨none,Op.store 49 _ _,_,_,_,_⟩::_) _ _);go_must(refine Xa2 rfl 49 (.tmp 11) (.tmp 42) rfl (o.cells (.slice A3 o.ch.length o.ch.length)) (Xag _ _) (Xb5 _ rfl) rfl ?_ ?_ ?_;go_simp;go_simp;intro wb hr11 hb11 hz11)))
  have R11:=Hd hr11;have HW9B:Hid (w9.heap.size≤wb.heap.size):=Hd (Lq HW9A.out hb11.size);have XB:=Hd (XA.out.below HB.out hb11);have TRB:=Hd (TRA.out.below hb11);have R5B:=Hd (R5A.out.below hb11 R5A.out.lt);have R7B:=Hd (R7A.out.below hb11 R7A.out.lt);have R9B:=Hd (R9A.out.below hb11 R9A.out.lt);have RUB:=Hd (RUA.out.below hb11 RUA.out.lt);have O1B:=Hd (Xas O1A.out hb11);have O2B:=Hd (Xas O2A.out hb11);have O3B:=Hd (Xas O3A.out hb11);obtain⟨g11,hg11⟩:∃g,g=wa.heap.size:=⟨_,rfl⟩;rw[←hg11]at R11 ⊢;clear hr11 hb11 hz11 hg11 XA TRA R5A R7A R9A RUA O1A O2A O3A;go_upto_region 9 with fail
  have hbC:=(Br wb.heap.size wb).alloc (Lr _) (.cells #[.slice none 0 0] 54);have RKC:=Hd (Row.new wb 54 [.slice none 0 0]);have XC:=Hd (XB.out.below HB.out hbC);have TRC:=Hd (TRB.out.below hbC);have R5C:=Hd (R5B.out.below hbC R5B.out.lt);have R7D:=Hd (R7B.out.below hbC R7B.out.lt);have R9D:=Hd (R9B.out.below hbC R9B.out.lt);have R11C:=Hd (R11.out.below hbC R11.out.lt);have RUC:=Hd (RUB.out.below hbC RUB.out.lt);have O1C:=Hd (Xas O1B.out hbC);have O2C:=Hd (Xas O2B.out hbC);have O3C:=Hd (Xas O3B.out hbC);have H3L:Hid (∀g,(Value.slice A3 o.ch.length c3).ownBlock=some g→w9.heap.size≤g∧g<wb.heap.size):=Hd fun g hg=>O3B.out.lt g hg
  have HPW:Hid (w.heap.size≤wb.heap.size):=Hd XB.out.b.size;obtain⟨p,hp⟩:∃p,p=wb.heap.size:=⟨_,rfl⟩;have RKC':Hid (Row (wb.alloc (.cells #[.slice none 0 0] 54)) p 54 [.slice none 0 0]):=Hd (by rw[hp];exact RKC.out);have HPN:Hid (p≠g7∧p≠g11∧wb.heap.size=p∧w9.heap.size≤p):=Hd (by have h1:=R7B.out.lt;have h2:=R11.out.lt;have h3:=HW9B.out;omega);try rw[←hp]
  clear hp RKC hbC XB TRB R5B R7B R9B R11 RUB O1B O2B O3B;generalize wb.alloc (.cells #[.slice none 0 0] 54)=wc at *;have HSM:=Hd (Xp6 o A1 A2 o.ch.length o.ch.length c2 wc.heap.size wc.heap.size wc (Xmc O1C.out rfl HHO.out.1) (Lr _) (Xmc O2C.out rfl HHO.out.1) (Lr _) HHO.out.1 (by have h1:=HHO.out.2;have h2:=HLL.out;unfold maxLen;omega));go_wp2_with (first
   | ((with_reducible show wpList _ _ _ (⟨some 49,_,_,_,_,_⟩::_) _ _);go_must(refine Xal (by kernel_rfl) 49 (.tmp 7) rfl ⟨g7,0,none⟩ (o.cells (.slice A1 o.ch.length o.ch.length)) _ Tryz.underlying49 rfl (Xag _ _) (fun j v hv=>by rw[Xa5,R7D.out.cell,Nat.zero_add];exact hv) ?_ ?_;go_simp))
   | ((with_reducible show wpList _ _ _ (⟨some 50,_,_,_,_,_⟩::_) _ _);go_must(refine Xal (by kernel_rfl) 49 (.tmp 9) rfl ⟨g9,0,none⟩ (o.cells (.slice A2 o.ch.length c2)) _ Tryz.underlying49 rfl (Xag _ _) (fun j v hv=>by rw[Xa5,R9D.out.cell,Nat.zero_add];exact hv) ?_ ?_;go_simp))
   | fail)
  refine HSM.out.mono ?_;rintro e we ⟨rfl,hbe⟩;have XE:=Hd (XC.out.below HB.out hbe);have TRE:=Hd (TRC.out.below hbe);have R5E:=Hd (R5C.out.below hbe R5C.out.lt);have R7E:=Hd (R7D.out.below hbe R7D.out.lt);have R11E:=Hd (R11C.out.below hbe R11C.out.lt);have RUE:=Hd (RUC.out.below hbe RUC.out.lt);have RKE:=Hd (RKC'.out.below hbe RKC'.out.lt);have O1E:=Hd (Xas O1C.out hbe);have O3E:=Hd (Xas O3C.out hbe);clear hbe HSM XC TRC R5C R7D R9D R11C RUC RKC' O1C O2C O3C;go_wp2_with (first
   | ((with_reducible show wpList _ _ _ (⟨some 55,_,_,_,_,_⟩::_) _ _);go_must(refine Xal (by kernel_rfl) 40 (.tmp 5) rfl ⟨g5,0,none⟩ (q'.cells x) _ Tryz.underlying40 rfl (Xb0 H32.out) (fun j v hv=>by rw[Xa5,R5E.out.cell,Nat.zero_add];exact hv) ?_ ?_;go_simp))
   | ((with_reducible show wpList _ _ _ (⟨some 56,_,_,_,_,_⟩::_) _ _);go_must(refine Xal (by kernel_rfl) 40 (.tmp 2) rfl ⟨g2,0,none⟩ (q.cells x) _ Tryz.underlying40 rfl (Xb0 H32.out) (fun j v hv=>by rw[Xa5,XE.out.r2.cell,Nat.zero_add];exact hv) ?_ ?_;go_simp))
   | fail)
  refine(Xlf q q' x w.heap.size we TRE.out XE.out.rd XE.out.b.size HFQ.out).mono ?_;rintro e wf ⟨rfl,hbf⟩;have XF:=Hd (XE.out.below HB.out hbf);have R7F:=Hd (R7E.out.below hbf R7E.out.lt);have R11F:=Hd (R11E.out.below hbf R11E.out.lt);have RUF:=Hd (RUE.out.below hbf RUE.out.lt);have RKF:=Hd (RKE.out.below hbf RKE.out.lt);have O1F:=Hd (Xas O1E.out hbf);have O3F:=Hd (Xas O3E.out hbf);clear hbf XE TRE R5E R7E R11E RUE RKE O1E O3E;go_wp2_with fail;refine(Xkb gu LA ln lc w.heap.size l wf RUF.out XF.out.ac XF.out.b.size (by omega)).mono ?_;rintro e wg ⟨rfl,hbg⟩;have XG:=Hd (XF.out.b.trans (hbg.mono XF.out.b.size));have R7G:=Hd (R7F.out.below hbg R7F.out.lt);have R11G:=Hd (R11F.out.below hbg R11F.out.lt);have RKG:=Hd (RKF.out.below hbg RKF.out.lt);have O1G:=Hd (Xas O1F.out hbg);have O3G:=Hd (Xas O3F.out hbg);clear hbg XF R7F R11F RUF RKF O1F O3F;obtain⟨y1,hy1,hf1,_,hq1⟩:=Xjz O1G.out;obtain⟨y3,hy3,hf3,_,hq3⟩:=Xjz O3G.out;have HF1:=Hd hf1;have HF3:=Hd hf3;have HL1:Hid (∀g,y1.A=some g→w.heap.size≤g∧g<w9.heap.size):=Hd fun g hg=>H1L.out g (by rw[Xeg A1 _ c1 o.ch.length,hq1];exact hg)
  have HL3:Hid (∀g,y3.A=some g→w9.heap.size≤g∧g<p):=Hd fun g hg=>by rw[←HPN.out.2.2.1];exact H3L.out g (by rw[Xeg A3 _ c3 o.ch.length,hq3];exact hg)
  have HK1:=Hd (Xhd p p [] y1 o wg wg (Xvo RKG.out) (by simp));rw[←hy1]at HK1;have HY3:=Hd hy3;clear hf1 hf3 hq1 hq3 hy1 hy3 O1G O3G H1L H3L;go_wp2_with (first
   | ((with_reducible show wpList _ _ _ (⟨some 66,_,_,_,_,_⟩::_) _ _);go_must(refine Xa1 rfl 49 (.tmp 7) rfl g7 _ (o.cells (.slice A1 o.ch.length o.ch.length)) _ Tryz.underlying49 rfl (Xag _ _) R7G.out ?_ ?_;go_simp))
   | fail)
  refine HK1.out.mono ?_;rintro e wh ⟨rfl,hk1⟩;have HKH:=Hd hk1;have R11H:=Hd (hk1.row R11G.out (Ne.symm HPN.out.2.1) (by decide));have HK3:=Hd (Xhd p p _ y3 o wg wh hk1 (by simp));rw[←HY3.out]at HK3;clear hk1 HK1;go_wp2_with (first
   | ((with_reducible show wpList _ _ _ (⟨some 68,_,_,_,_,_⟩::_) _ _);go_must(refine Xa1 rfl 49 (.tmp 11) rfl g11 _ (o.cells (.slice A3 o.ch.length o.ch.length)) _ Tryz.underlying49 rfl (Xag _ _) R11H.out ?_ ?_;go_simp))
   | fail)
  refine HK3.out.mono ?_;rintro e wi ⟨rfl,hk3⟩;have HKI:=Hd hk3;have HBI:Hid (Below p wg wi):=Hd (HKI.out.one.below (Lr _) (Lr _));have HPP:Hid (w.heap.size≤p):=Hd (by rw[←HPN.out.2.2.1];exact HPW.out);clear hk3 HK3 HKH;go_wp2_with fail;refine(Xv5 p p w.heap.size _ wg wi HKI.out ?_ ?_ ?_ ?_).mono ?_
  ·intro y hy;simp only[List.nil_append,List.cons_append,List.mem_cons,List.not_mem_nil,or_false]at hy;rcases hy with rfl | rfl
   ·exact HF1.out
   ·exact HF3.out
  ·rw[Xim,List.nil_append];exact Xsf (m:=w9.heap.size) (Xm9 _) (Xm9 _) (fun k hk=>(HL1.out k (Xf0 _ k hk)).2) fun k hk=>(HL3.out k (Xf0 _ k hk)).1
  ·intro k hk;rw[Xim,List.nil_append]at hk;have h9:=HPN.out.2.2.2;have hpp:=HPP.out;have h0:=HW9.out;rcases List.mem_append.1 hk with hk | hk
   ·have e:=HL1.out k (Xf0 _ k hk);omega
   ·have e:=HL3.out k (Xf0 _ k hk);omega
  ·exact Lq HPP.out (Lq (Nat.le_of_lt RKG.out.lt) HBI.out.size)
  ·rintro e wj ⟨rfl,hbj⟩;have DJ:Hid (Below w.heap.size w wj):=Hd ((XG.out.trans (HBI.out.mono HPP.out)).trans hbj);clear hbj;go_wp2_with fail;refine(Xl1 _ (HT.out.below DJ.out HT.out.pos)).mono ?_;rintro e wl ⟨rfl,hbl⟩;have BL:=Hd (DJ.out.trans (hbl.mono DJ.out.size));clear hbl;go_wp2_with fail;go_ret;exact⟨rfl,BL.out⟩
end Go.Proofs.YtaljfbbieefooaaGreatDoor
