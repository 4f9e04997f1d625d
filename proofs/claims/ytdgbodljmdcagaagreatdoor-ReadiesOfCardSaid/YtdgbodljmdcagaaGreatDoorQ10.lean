import Derived.Test.YtdgbodljmdcagaaGreatDoorQ9
import Derived.WideKeyEntry
import Derived.Shelf.SlMaps.Clone
set_option maxRecDepth 100000
set_option maxHeartbeats 16000000
set_option linter.unusedSimpArgs false
set_option linter.unusedVariables false
namespace Go.Proofs.YtdgbodljmdcagaaGreatDoor
open Go.RowKit
def brk(x:LTx):Nat→Bool
 | 0=>b1 x
 | 1=>b2 x.m
 | 2=>b3 x.m
 | 3=>b4 x.m
 | 4=>b5 x.m
 | 5=>b6 x.m
 | _=>false
def err:Nat→Int
 | 0=>6
 | 1=>7
 | 2=>10
 | 3=>3
 | 4=>8
 | _=>9
def okTo(x:LTx)(k:Nat):Prop:=∀j,j<k→brk x j=false
theorem Xbu{x:LTx}{k:Nat}(h:okTo x k)(hk:brk x k=false):okTo x (k+1):=fun j hj=>by
 by_cases e:j=k
 ·rw[e];exact hk
 ·exact h j (by omega)
theorem Xnl{x:LTx}(h:okTo x 6):chk x=0:=by
 have h0:b1 x=false:=h 0 (by omega);have h1:b2 x.m=false:=h 1 (by omega);have h2:b3 x.m=false:=h 2 (by omega);have h3:b4 x.m=false:=h 3 (by omega);have h4:b5 x.m=false:=h 4 (by omega);have h5:b6 x.m=false:=h 5 (by omega);simp[chk,h0,h1,h2,h3,h4,h5]
theorem Xwf{x:LTx}{k:Nat}(h:okTo x k)(hk:brk x k=true)(h6:k<6):chk x=err k:=by
 rcases(show k=0∨k=1∨k=2∨k=3∨k=4∨k=5 by omega)with rfl | rfl | rfl | rfl | rfl | rfl
 ·have h0:b1 x=true:=hk;simp[chk,h0,err]
 ·have h0:b1 x=false:=h 0 (by omega);have h1:b2 x.m=true:=hk;simp[chk,h0,h1,err]
 ·have h0:b1 x=false:=h 0 (by omega);have h1:b2 x.m=false:=h 1 (by omega);have h2:b3 x.m=true:=hk;simp[chk,h0,h1,h2,err]
 ·have h0:b1 x=false:=h 0 (by omega);have h1:b2 x.m=false:=h 1 (by omega);have h2:b3 x.m=false:=h 2 (by omega);have h3:b4 x.m=true:=hk;simp[chk,h0,h1,h2,h3,err]
 ·have h0:b1 x=false:=h 0 (by omega);have h1:b2 x.m=false:=h 1 (by omega);have h2:b3 x.m=false:=h 2 (by omega);have h3:b4 x.m=false:=h 3 (by omega);have h4:b5 x.m=true:=hk;simp[chk,h0,h1,h2,h3,h4,err]
 ·have h0:b1 x=false:=h 0 (by omega);have h1:b2 x.m=false:=h 1 (by omega);have h2:b3 x.m=false:=h 2 (by omega);have h3:b4 x.m=false:=h 3 (by omega);have h4:b5 x.m=false:=h 4 (by omega);have h5:b6 x.m=true:=hk;simp[chk,h0,h1,h2,h3,h4,h5,err]
theorem Xc9{x:LTx}{k:Nat}{c:Int}(h:okTo x k)(hk:brk x k=true)(h6:k<6)(hc:err k=c):Ending.returned (.int .i64 c)=.returned (.int .i64 (chk x)):=by rw[Xwf h hk h6,hc]
theorem check_(s:TRaw)(x:LTx)(B:Nat)(w:World)(hm:TxIn w B s x)(hB:B≤w.heap.size)(hs:Small x.m)(hw:x.m.Wf) :
 Calls Tryz.prog 25 #[.agg (s.cells x).toArray] w fun e w'=>e=.returned (.int .i64 (chk x))∧Below w.heap.size w w':=by
 have hrow:=Row.new w 42 (s.cells x);have hb0:=(Br w.heap.size w).alloc (Lr _) (.cells (s.cells x).toArray 42);have HTS:=Hd (show(Tryz.prog.info? 42).map (·.size)=some (s.cells x).length by rw[Xba,Xac hm.m.recent]);have HM0:=Hd (hm.below (hb0.mono hB));have HRO:=Hd (Xtw s x B _ HM0.out (Lq hB hb0.size) hs hw);generalize s.cells x=cs at *;have HROW:=Hd hrow;have HB0:=Hd hb0;have HS:=Hd hs;have HW:=Hd hw;clear hrow hb0 hm hs hw;go_enter Tryz.func25,Tryz.ntmps25
 go_wp2_with ((with_reducible show wpList _ _ _ (⟨some 5,_,_,_,_,_⟩::_) _ _);go_must(refine Xa0 rfl 42 (.tmp 1) rfl w.heap.size 42 cs _ Tryz.underlying42 rfl HTS.out HROW.out ?_ ?_;go_simp))
 refine HRO.out.mono ?_;rintro e w1 ⟨g,g1,g3,g4,g5,g6,g7,rfl,hr,hmade,hb1⟩;have R:=Hd hr;have MD:=Hd hmade;have HB1:=Hd (HB0.out.trans (hb1.mono HB0.out.size));have HM1:=Hd (HM0.out.below (hb1.mono (Lq hB HB0.out.size)));clear hr hmade hb1 HM0 HRO;go_wp2_with fail;go_loopw [8] (fun i wr=>∃k:Nat,k≤6∧i=.int .i64 k∧okTo x k∧Below w1.heap.size w1 wr) (fun i _=>6 - (intOf i).toNat)
 case atStart=>exact⟨0,Nat.zero_le _,rfl,fun j hj=>by omega,Br _ _⟩
 case round =>
  obtain⟨k,hk,rfl,hok,hbw⟩:=hrel;have HBW:=Hd hbw;have HOK:=Hd hok;have RW:=Hd (R.out.below hbw R.out.lt);have MW:=Hd (MD.out.below hbw);have HBX:=Hd (HB1.out.trans (hbw.mono HB1.out.size));have HMW:=Hd (HM1.out.below (hbw.mono (Lq hB HB1.out.size)));clear hbw hok;by_cases hlt:k<6
  ·rcases(show k=0∨k=1∨k=2∨k=3∨k=4∨k=5 by omega)with rfl | rfl | rfl | rfl | rfl | rfl
   ·have c0:wr.cell? ⟨g,0,none⟩=some (.int .i64 6):=RW.out.cell 0;have c1:wr.cell? ⟨g,1,none⟩=some (.func (.func 107) #[] #[.pointer (some ⟨g5,0,none⟩),.pointer (some ⟨g1,0,none⟩)]):=RW.out.cell 1;have hba:=(Br wr.heap.size wr).alloc (Lr _) (.cells #[Value.int .i64 6,.func (.func 107) #[] #[.pointer (some ⟨g5,0,none⟩),.pointer (some ⟨g1,0,none⟩)]] 122);have r0:=Row.new wr 122 [Value.int .i64 6,.func (.func 107) #[] #[.pointer (some ⟨g5,0,none⟩),.pointer (some ⟨g1,0,none⟩)]];have R0:=Hd r0;have BA:=Hd hba;have HC:=Hd (rule1_ (MW.out.below hba) (HMW.out.below (hba.mono (Lq hB HBX.out.size))));have HBRK:Hid (brk x 0=b1 x):=Hd rfl;clear hba r0;generalize b1 x=bb at *;go_wp2_with fail;refine HC.out.mono ?_;rintro e w2 ⟨rfl,hb2⟩;have r2:=R0.out.below hb2 R0.out.lt;have c2:w2.cell? ⟨wr.heap.size,0,none⟩=some (.int .i64 6):=r2.cell 0;have HB2:=Hd (HBW.out.trans ((BA.out.trans (hb2.mono BA.out.size)).mono HBW.out.size));clear hb2 r2;cases bb
    ·go_wp2_with fail;go_roundw
     case rel=>exact⟨1,by omega,by go_num,Xbu HOK.out HBRK.out,HB2.out⟩
     case measure=>simp[intOf]
    ·go_wp2_with fail;go_ret;exact⟨Xc9 HOK.out HBRK.out (by omega) rfl,HB1.out.trans (HB2.out.mono HB1.out.size)⟩
   ·have c0:wr.cell? ⟨g,2,none⟩=some (.int .i64 7):=RW.out.cell 2;have c1:wr.cell? ⟨g,3,none⟩=some (.func (.func 108) #[] #[.pointer (some ⟨g6,0,none⟩),.pointer (some ⟨g5,0,none⟩),.pointer (some ⟨g7,0,none⟩),.pointer (some ⟨g3,0,none⟩)]):=RW.out.cell 3;have hba:=(Br wr.heap.size wr).alloc (Lr _) (.cells #[Value.int .i64 7,.func (.func 108) #[] #[.pointer (some ⟨g6,0,none⟩),.pointer (some ⟨g5,0,none⟩),.pointer (some ⟨g7,0,none⟩),.pointer (some ⟨g3,0,none⟩)]] 122);have r0:=Row.new wr 122 [Value.int .i64 7,.func (.func 108) #[] #[.pointer (some ⟨g6,0,none⟩),.pointer (some ⟨g5,0,none⟩),.pointer (some ⟨g7,0,none⟩),.pointer (some ⟨g3,0,none⟩)]];have R0:=Hd r0;have BA:=Hd hba;have HC:=Hd (rule2_ (MW.out.below hba) (HMW.out.below (hba.mono (Lq hB HBX.out.size))) HW.out);have HBRK:Hid (brk x 1=b2 x.m):=Hd rfl;clear hba r0;generalize b2 x.m=bb at *;go_wp2_with fail;refine HC.out.mono ?_;rintro e w2 ⟨rfl,hb2⟩;have r2:=R0.out.below hb2 R0.out.lt;have c2:w2.cell? ⟨wr.heap.size,0,none⟩=some (.int .i64 7):=r2.cell 0;have HB2:=Hd (HBW.out.trans ((BA.out.trans (hb2.mono BA.out.size)).mono HBW.out.size));clear hb2 r2;cases bb
    ·go_wp2_with fail;go_roundw
     case rel=>exact⟨2,by omega,by go_num,Xbu HOK.out HBRK.out,HB2.out⟩
     case measure=>simp[intOf]
    ·go_wp2_with fail;go_ret;exact⟨Xc9 HOK.out HBRK.out (by omega) rfl,HB1.out.trans (HB2.out.mono HB1.out.size)⟩
   ·have c0:wr.cell? ⟨g,4,none⟩=some (.int .i64 10):=RW.out.cell 4;have c1:wr.cell? ⟨g,5,none⟩=some (.func (.func 109) #[] #[.pointer (some ⟨g3,0,none⟩)]):=RW.out.cell 5;have hba:=(Br wr.heap.size wr).alloc (Lr _) (.cells #[Value.int .i64 10,.func (.func 109) #[] #[.pointer (some ⟨g3,0,none⟩)]] 122);have r0:=Row.new wr 122 [Value.int .i64 10,.func (.func 109) #[] #[.pointer (some ⟨g3,0,none⟩)]];have R0:=Hd r0;have BA:=Hd hba;have HC:=Hd (rule3_ (MW.out.below hba) (HMW.out.below (hba.mono (Lq hB HBX.out.size))) (Lq hB (Lq HBX.out.size hba.size)) HS.out);have HBRK:Hid (brk x 2=b3 x.m):=Hd rfl;clear hba r0;generalize b3 x.m=bb at *;go_wp2_with fail;refine HC.out.mono ?_;rintro e w2 ⟨rfl,hb2⟩;have r2:=R0.out.below hb2 R0.out.lt;have c2:w2.cell? ⟨wr.heap.size,0,none⟩=some (.int .i64 10):=r2.cell 0;have HB2:=Hd (HBW.out.trans ((BA.out.trans (hb2.mono BA.out.size)).mono HBW.out.size));clear hb2 r2;cases bb
    ·go_wp2_with fail;go_roundw
     case rel=>exact⟨3,by omega,by go_num,Xbu HOK.out HBRK.out,HB2.out⟩
     case measure=>simp[intOf]
    ·go_wp2_with fail;go_ret;exact⟨Xc9 HOK.out HBRK.out (by omega) rfl,HB1.out.trans (HB2.out.mono HB1.out.size)⟩
   ·have c0:wr.cell? ⟨g,6,none⟩=some (.int .i64 3):=RW.out.cell 6;have c1:wr.cell? ⟨g,7,none⟩=some (.func (.func 112) #[] #[.pointer (some ⟨g4,0,none⟩)]):=RW.out.cell 7;have hba:=(Br wr.heap.size wr).alloc (Lr _) (.cells #[Value.int .i64 3,.func (.func 112) #[] #[.pointer (some ⟨g4,0,none⟩)]] 122);have r0:=Row.new wr 122 [Value.int .i64 3,.func (.func 112) #[] #[.pointer (some ⟨g4,0,none⟩)]];have R0:=Hd r0;have BA:=Hd hba;have HC:=Hd (rule4_ (MW.out.below hba));have HBRK:Hid (brk x 3=b4 x.m):=Hd rfl;clear hba r0;generalize b4 x.m=bb at *;go_wp2_with fail;refine HC.out.mono ?_;rintro e w2 ⟨rfl,hb2⟩;have r2:=R0.out.below hb2 R0.out.lt;have c2:w2.cell? ⟨wr.heap.size,0,none⟩=some (.int .i64 3):=r2.cell 0;have HB2:=Hd (HBW.out.trans ((BA.out.trans (hb2.mono BA.out.size)).mono HBW.out.size));clear hb2 r2;cases bb
    ·go_wp2_with fail;go_roundw
     case rel=>exact⟨4,by omega,by go_num,Xbu HOK.out HBRK.out,HB2.out⟩
     case measure=>simp[intOf]
    ·go_wp2_with fail;go_ret;exact⟨Xc9 HOK.out HBRK.out (by omega) rfl,HB1.out.trans (HB2.out.mono HB1.out.size)⟩
   ·have c0:wr.cell? ⟨g,8,none⟩=some (.int .i64 8):=RW.out.cell 8;have c1:wr.cell? ⟨g,9,none⟩=some (.func (.func 113) #[] #[.pointer (some ⟨g3,0,none⟩),.pointer (some ⟨g4,0,none⟩)]):=RW.out.cell 9;have hba:=(Br wr.heap.size wr).alloc (Lr _) (.cells #[Value.int .i64 8,.func (.func 113) #[] #[.pointer (some ⟨g3,0,none⟩),.pointer (some ⟨g4,0,none⟩)]] 122);have r0:=Row.new wr 122 [Value.int .i64 8,.func (.func 113) #[] #[.pointer (some ⟨g3,0,none⟩),.pointer (some ⟨g4,0,none⟩)]];have R0:=Hd r0;have BA:=Hd hba;have HC:=Hd (rule5_ (MW.out.below hba) (HMW.out.below (hba.mono (Lq hB HBX.out.size))) (Lq hB (Lq HBX.out.size hba.size)) HS.out HW.out);have HBRK:Hid (brk x 4=b5 x.m):=Hd rfl;clear hba r0;generalize b5 x.m=bb at *;go_wp2_with fail;refine HC.out.mono ?_;rintro e w2 ⟨rfl,hb2⟩;have r2:=R0.out.below hb2 R0.out.lt;have c2:w2.cell? ⟨wr.heap.size,0,none⟩=some (.int .i64 8):=r2.cell 0;have HB2:=Hd (HBW.out.trans ((BA.out.trans (hb2.mono BA.out.size)).mono HBW.out.size));clear hb2 r2;cases bb
    ·go_wp2_with fail;go_roundw
     case rel=>exact⟨5,by omega,by go_num,Xbu HOK.out HBRK.out,HB2.out⟩
     case measure=>simp[intOf]
    ·go_wp2_with fail;go_ret;exact⟨Xc9 HOK.out HBRK.out (by omega) rfl,HB1.out.trans (HB2.out.mono HB1.out.size)⟩
   ·have c0:wr.cell? ⟨g,10,none⟩=some (.int .i64 9):=RW.out.cell 10;have c1:wr.cell? ⟨g,11,none⟩=some (.func (.func 117) #[] #[.pointer (some ⟨g3,0,none⟩)]):=RW.out.cell 11;have hba:=(Br wr.heap.size wr).alloc (Lr _) (.cells #[Value.int .i64 9,.func (.func 117) #[] #[.pointer (some ⟨g3,0,none⟩)]] 122);have r0:=Row.new wr 122 [Value.int .i64 9,.func (.func 117) #[] #[.pointer (some ⟨g3,0,none⟩)]];have R0:=Hd r0;have BA:=Hd hba;have HC:=Hd (rule6_ (MW.out.below hba) (HMW.out.below (hba.mono (Lq hB HBX.out.size))) (Lq hB (Lq HBX.out.size hba.size)) HS.out HW.out);have HBRK:Hid (brk x 5=b6 x.m):=Hd rfl;clear hba r0;generalize b6 x.m=bb at *;go_wp2_with fail;refine HC.out.mono ?_;rintro e w2 ⟨rfl,hb2⟩;have r2:=R0.out.below hb2 R0.out.lt;have c2:w2.cell? ⟨wr.heap.size,0,none⟩=some (.int .i64 9):=r2.cell 0;have HB2:=Hd (HBW.out.trans ((BA.out.trans (hb2.mono BA.out.size)).mono HBW.out.size));clear hb2 r2;cases bb
    ·go_wp2_with fail;go_roundw
     case rel=>exact⟨6,by omega,by go_num,Xbu HOK.out HBRK.out,HB2.out⟩
     case measure=>simp[intOf]
    ·go_wp2_with fail;go_ret;exact⟨Xc9 HOK.out HBRK.out (by omega) rfl,HB1.out.trans (HB2.out.mono HB1.out.size)⟩
  ·have hk6:k=6:=by omega
   have HE:Hid (chk x=0):=Hd (Xnl (hk6 ▸ HOK.out));clear hk6;go_wp2;go_ret;exact⟨by rw[HE.out];rfl,HBX.out⟩
def xk(a:Int):List Int:=a::List.replicate 31 0
def xSig:List Int:=List.replicate 64 0
def xTx(ks:List (List Int))(p a:Int):LTx:=⟨[xSig],⟨false,1,0,0,ks,zero32,[⟨p,[a],[]⟩],[]⟩⟩
def xRaw(gs gk gi kn kc:Nat):TRaw:=⟨some ⟨gs,0,none⟩,1,1,⟨some ⟨gk,0,none⟩,kn,kc,some ⟨gi,0,none⟩,1,1,none,0,0⟩⟩
def xIn(ga:Nat)(p:Int):List Value:=inCells p (.slice (some ⟨ga,0,none⟩) 1 1) (.slice none 0 0)
theorem x_in{w:World}{gs gk ga gi kn kc:Nat}{ks:List (List Int)}{p a:Int}{ts tk ta ti:TypeId}{rest:List Value}(h1:Row w gs ts (bv xSig))(h2:Row w gk tk (bv ks.flatten++rest))(h3:Row w ga ta (bv [a]))(h4:Row w gi ti (xIn ga p))
 (hk:∀k ∈ ks,k.length=32) (hkn:ks.length=kn) (hkc:kn≤kc∧kc≤maxLen):TxIn w w.heap.size (xRaw gs gk gi kn kc) (xTx ks p a):=by
 refine⟨⟨rfl,fun k hk=>?_,?_⟩,by simp[xRaw,maxLen],⟨rfl,⟨hkn,hk,?_⟩,⟨rfl,?_⟩,⟨rfl,fun i y h=>by simp[xTx]at h⟩,hkc,by simp[xRaw,maxLen],by simp[xRaw,maxLen]⟩⟩
 ·obtain rfl:k=xSig:=by simpa [xTx]using hk
  rfl
 ·have:=h1.sees0;simpa [xTx,xRaw,bL,xSig]using this
 ·show Sees w w.heap.size (some ⟨gk,0,none⟩) (kn*32) (bv ks.flatten)
  exact h2.sees_at (o:=0) (by rw[bL,Xdh ks hk,hkn]) (fun j u hu=>by rw[Nat.zero_add,List.getElem?_append_left (List.getElem?_eq_some_iff.1 hu).1];exact hu)
 ·intro i y hy;have hi:i=0:=by
   have:=(List.getElem?_eq_some_iff.1 hy).1;simp[xTx]at this;exact this
  subst hi;obtain rfl:(⟨p,[a],[]⟩:LIn)=y:=by simpa [xTx]using hy
  refine⟨_,_,_,rfl,h4.lt,(h4.cell 0).trans rfl,(h4.cell 1).trans rfl,(h4.cell 2).trans rfl,⟨_,_,rfl,?_,Lr _,by simp[maxLen]⟩,⟨none,0,rfl,Sees.nil _ _ _,Lr _,by simp[maxLen]⟩⟩;exact h3.sees0
theorem x_wf(ks:List (List Int))(h:∀k ∈ ks,k.length=32∧AllBytes k)(p a:Int)(hp:IsByte p)(ha:IsByte a):(xTx ks p a).m.Wf:=by
 refine⟨⟨by show(0:Int)≤1;omega,by show(1:Int)<256;omega⟩,⟨by show(0:Int)≤0;omega,by show(0:Int)<256;omega⟩,⟨by show(0:Int)≤0;omega,by show(0:Int)<256;omega⟩,h,⟨rfl,fun z hz=>?_⟩,fun i hi=>?_,by simp[xTx]⟩
 ·obtain rfl:z=0:=List.eq_of_mem_replicate hz;constructor <;> decide
 ·obtain rfl:i=⟨p,[a],[]⟩:=by simpa [xTx]using hi
  refine⟨hp,fun z hz=>?_,fun z hz=>by simp at hz⟩;obtain rfl:z=a:=by simpa using hz
  exact ha
theorem xk_ok(a:Int)(h:IsByte a):(xk a).length=32∧AllBytes (xk a):=⟨rfl,fun z hz=>by
 rcases List.mem_cons.1 hz with rfl | hz
 ·exact h
 ·obtain rfl:z=0:=List.eq_of_mem_replicate hz;constructor <;> decide⟩
def xks:List (List Int):=[xk 1,xk 2]
theorem Xvh:∀k ∈ xks,k.length=32∧AllBytes k:=by
 intro k hk;simp only[xks,List.mem_cons,List.not_mem_nil,or_false]at hk;rcases hk with rfl | rfl <;> exact xk_ok _ (by constructor <;> decide)
theorem chk_a:chk (xTx xks 1 0)=0:=by decide +kernel
theorem tot_a:tot (xTx xks 1 0).m=2:=by decide +kernel
theorem Xmq(a:Int):Tryz.prog.built 78 [(0,.int .u8 a)]=some (bv (xk a)).toArray:=by kernel_rfl
theorem Xua(gk gi:Nat):Tryz.prog.built 40 [(1,.agg #[.int .u8 1,.int .u8 0,.int .u8 0]),(2,.slice (some ⟨gk,0,none⟩) 2 2),(4,.slice (some ⟨gi,0,none⟩) 1 1)]=some (Raw.cells (xRaw 0 gk gi 2 2).q (xTx xks 1 0).m).toArray:=by kernel_rfl
section
variable{P:Program}
theorem Xhf{ops:Array Oper}{rest:List Oper}{o:Oper}{a:Act}{w:World}{Q:Exit→Act→World→Prop}(hg:o.guard=none)(t e:TypeId)(y y':Operand)(ho:o.op=.buildSlice t 2 #[(0,y),(1,y')])
 (cs cs':List Value) (z:Value) (size bytes:Nat) (hu:P.underlying t=some (.slice e)) (hi:(P.info? e).map (fun i=>(i.zero,i.size,i.bytes))=some (some z,size,bytes)) (hzs:z.cells.size=size) (hs0:0<size) (hs1:size≤1000)
 (hcs:cs.length=size) (hcs':cs'.length=size) (hy:a.eval y=.agg cs.toArray) (hy':a.eval y'=.agg cs'.toArray)
 (h:wpList P ops Q rest (a.put o.dst (.slice (some ⟨w.heap.size,0,none⟩) 2 2)) (w.alloc (.cells (cs++cs').toArray e))):wpList P ops Q (o::rest) a w:=by
 obtain⟨ie,hie,h1,h2,_⟩:=info_parts hi;subst h2;refine wpList_buildSlice hg t e 2 _ ho (cs++cs').toArray ie z hu hie h1 (by omega) (by omega) ?_ h;have:=Go.Great.fill_whole (s:=ie.size) hs0 [Value.agg cs.toArray,Value.agg cs'.toArray] ((Array.range (2*ie.size)).map (z.cells[· % z.cells.size]!)) (by simp[Value.cells,hcs,hcs']) (by simp);simpa [hy,hy',Value.cells]using this
end
theorem Xx4(n:Nat):(madeCells (Value.agg (zeros 64).toArray).cells (n*64)).toList=bv (List.replicate (n*64) 0):=by
 apply List.ext_getElem?
 intro i;have hz:(Value.agg (zeros 64).toArray).cells.size=64:=by kernel_rfl
 have hv:∀j,j<64→(Value.agg (zeros 64).toArray).cells[j]! = .int .u8 0:=fun j hj=>by
  rw[show(Value.agg (zeros 64).toArray).cells=(zeros 64).toArray from rfl];have hs:j<(zeros 64).toArray.size:=by simp only[List.size_toArray,zeros,List.length_replicate];exact hj
  rw[getElem!_pos (zeros 64).toArray j hs,List.getElem_toArray];exact List.eq_of_mem_replicate (List.getElem_mem _)
 simp only[madeCells,hz,bv,cv,List.map_replicate,Array.toList_map,Array.toList_range];by_cases h:i<n*64
 ·rw[List.getElem?_map,List.getElem?_range h,List.getElem?_replicate_of_lt h];simp[hv (i % 64) (by omega)]
 ·rw[List.getElem?_eq_none (by simp;omega),List.getElem?_eq_none (by simp;omega)]
open Go.RowKit Go.Maps
structure Holds(x:LTx):Prop where
 s:x.m.s≠0∧(x.sigs.length:Int)=x.m.s
 r:x.m.r<x.m.s
 o:x.m.s+x.m.o≤(x.m.keys.length:Int)
 l:∀l ∈ x.m.looks,l.wr.length+l.rd.length≠0
 t:tot x.m≤64
 i:∀i ∈ x.m.ins,(i.p≠0∧i.p<(x.m.keys.length:Int))∧∀a ∈ i.acc,a<(tot x.m:Int)
 n:x.m.keys.Nodup
theorem Xvc{x:LTx}(h:chk x=0):Holds x:=by
 have h1:b1 x=false:=by cases e:b1 x;rfl;simp[chk,e]at h
 have h2:b2 x.m=false:=by cases e:b2 x.m;rfl;simp[chk,h1,e]at h
 have h3:b3 x.m=false:=by cases e:b3 x.m;rfl;simp[chk,h1,h2,e]at h
 have h4:b4 x.m=false:=by cases e:b4 x.m;rfl;simp[chk,h1,h2,h3,e]at h
 have h5:b5 x.m=false:=by cases e:b5 x.m;rfl;simp[chk,h1,h2,h3,h4,e]at h
 have h6:b6 x.m=false:=by cases e:b6 x.m;rfl;simp[chk,h1,h2,h3,h4,h5,e]at h
 have g1:=of_decide_eq_false h1;have g2:=of_decide_eq_false h2;have g4:=of_decide_eq_false h4;have g6:=of_decide_eq_false h6;refine⟨⟨fun e=>g1 (.inl e),Classical.byContradiction fun e=>g1 (.inr e)⟩,by omega,by omega,fun l hl e=>?_,by omega,fun i hi=>⟨⟨fun e=>?_,?_⟩,fun a ha=>?_⟩,Classical.byContradiction g6⟩
 ·have:x.m.looks.any noix=true:=List.any_eq_true.2 ⟨l,hl,by unfold noix ixs;exact decide_eq_true e⟩;unfold b3 at h3;rw[this]at h3;cases h3
 ·have:x.m.ins.any (stray x.m.keys.length (tot x.m))=true:=List.any_eq_true.2 ⟨i,hi,by simp[stray,pstray,e]⟩;unfold b5 at h5;rw[this]at h5;cases h5
 ·refine Classical.byContradiction fun e=>?_
  have:x.m.ins.any (stray x.m.keys.length (tot x.m))=true:=List.any_eq_true.2 ⟨i,hi,by simp[stray,pstray];left;right;omega⟩;unfold b5 at h5;rw[this]at h5;cases h5
 ·refine Classical.byContradiction fun e=>?_
  have:x.m.ins.any (stray x.m.keys.length (tot x.m))=true:=List.any_eq_true.2 ⟨i,hi,by
   unfold stray;rw[Bool.or_eq_true];right
   exact List.any_eq_true.2 ⟨a,ha,decide_eq_true (by omega)⟩⟩
  unfold b5 at h5;rw[this]at h5;cases h5
section
variable{P:Program}{w:World}{base:Nat}{t ty e:TypeId}{i:TypeInfo}{z:Value}{size bytes:Nat}{v:Value}{n m c B:Nat}{A:Option Addr}{xs news:List Value}
theorem Xfd(ht:P.underlying t=some (.slice e))(hi:P.info? e=some i)(hown:w.ownsRow base e size v n xs)(c:Nat) :
 (Builtin.append_ #[t,t] ty #[v,.slice none 0 c]).run P w=.ok v w:=by
 rcases hown.2 with⟨rfl,rfl⟩ | ⟨g,cap,cur,rfl,_,_,hnc,_⟩ <;>
  simp[Builtin.append_,run_underlying ht,sizeOf,typeInfo,Builtin.lenOf,Builtin.firstCells,storeCells, *]
theorem Xd9{o:Oper}{a:Act}{K:Act→World→Prop}{Q:Exit→Act→World→Prop}(s x:Operand)(t e:TypeId)(z:Value)(size bytes:Nat)
 (ho:o.op=.call { callee:=.builtin .append,args:=#[s,x],argTypes:=#[t,t] })
 (ht:P.underlying t=some (.slice e)) (hi:(P.info? e).map (fun i=>(i.zero,i.size,i.bytes))=some (some z,size,bytes)) (hzs:z.cells.size=size) (hs0:0<size)
 (v:Value) (n:Nat) (xs:List Value) (base B:Nat) (A:Option Addr) (m c:Nat) (news:List Value)
 (hs:a.eval s=v) (hown:w.ownsRow base e size v n xs) (hx:a.eval x=.slice A m c) (hr:Sees w B A (m*size) news) (h1:∀u ∈ news,u.oneCell'=true)
 (hnm:n+m≤maxLen) (hbytes:(n+m)*bytes≤140737488355328) (hbase:base≤w.heap.size)
 (h:∀v' w',w'.ownsRow base e size v' (n+m) (xs++news)→Grew w w' v v'→K (a.put o.dst v') w'):o.wp P a w K Q:=by
 obtain⟨i0,hi,hz0,hz1,hz2⟩:=info_parts hi;have hrun:∃v' w',(Builtin.append_ #[t,t] o.type #[v,.slice A m c]).run P w=.ok v' w'∧w'.ownsRow base e size v' (n+m) (xs++news)∧Grew w w' v v':=by
  cases A with
  | none =>
   have hn:news=[]:=by
    cases news with
    | nil=>rfl
    | cons u r =>
     obtain⟨a,h,_⟩:=hr.cell 0 u rfl;cases h
   subst hn;have hl:m*size=0:=by simpa using hr.len.symm
   obtain rfl:m=0:=by
    rcases Nat.mul_eq_zero.1 hl with h | h
    ·exact h
    ·omega
   exact⟨v,w,Xfd ht hi hown c,by simpa using hown,Grew.refl _ _⟩
  | some ad =>
   obtain⟨v',w',hrun,h2,h3,_,h5⟩:=run_append_own_at (P:=P) w base t o.type e i0 z size bytes ht hi hz0 hz1 hz2 hzs hs0 v n xs hown ad m c news hr.len
    (fun j u hu=>by
      obtain⟨a,h,_,hc⟩:=hr.cell j u hu;cases h
      exact hc) h1 hnm hbytes hbase
   refine⟨v',w',hrun,h2,⟨h3,fun k hk=>?_⟩⟩;rcases h5 with h5 | h5
   ·exact .inl (h5 ▸ hk)
   ·rw[h5]at hk;cases hk
    exact .inr (Lr _)
 obtain⟨v',w',hr2,h2,h3⟩:=hrun;unfold Oper.wp execOp;simp only[ho,resolve,invoke,builtin,Sem.run_bind,Sem.run_pure,Result.andThen_ok,List.map_toArray,List.map_cons,List.map_nil,hs,hx,hr2];exact h v' w' h2 h3
theorem Xiq{ops:Array Oper}{rest:List Oper}{o:Oper}{a:Act}{Q:Exit→Act→World→Prop}(hgd:o.guard=none)(s x:Operand)(t e:TypeId)(z:Value)(size bytes:Nat)
 (ho:o.op=.call { callee:=.builtin .append,args:=#[s,x],argTypes:=#[t,t] })
 (ht:P.underlying t=some (.slice e)) (hi:(P.info? e).map (fun i=>(i.zero,i.size,i.bytes))=some (some z,size,bytes)) (hzs:z.cells.size=size) (hs0:0<size)
 (v:Value) (n:Nat) (xs:List Value) (base B:Nat) (A:Option Addr) (m c:Nat) (news:List Value)
 (hs:a.eval s=v) (hown:w.ownsRow base e size v n xs) (hx:a.eval x=.slice A m c) (hr:Sees w B A (m*size) news) (h1:∀u ∈ news,u.oneCell'=true)
 (hnm:n+m≤maxLen) (hbytes:(n+m)*bytes≤140737488355328) (hbase:base≤w.heap.size)
 (h:∀v' w',w'.ownsRow base e size v' (n+m) (xs++news)→Grew w w' v v'→wpList P ops Q rest (a.put o.dst v') w'):wpList P ops Q (o::rest) a w:=
 wpList_plain hgd fun _ hK=>Xd9 s x t e z size bytes ho ht hi hzs hs0 v n xs base B A m c news hs hown hx hr h1 hnm hbytes hbase fun v' w' h2 h3=>hK _ _ (h v' w' h2 h3)
end
theorem Xnr(w:World)(base:Nat)(e:TypeId)(size:Nat):w.ownsRow base e size (.slice none 0 0) 0 []:=World.ownsRow_nil w base e size
theorem Xbs{w:World}{base:Nat}{e:TypeId}{size n:Nat}{v:Value}{xs:List Value}(h:w.ownsRow base e size v n xs):∃A c,v=.slice A n c∧Sees w w.heap.size A (n*size) xs∧n≤c∧c≤maxLen∧(∀g,v.ownBlock=some g→base≤g∧g<w.heap.size):=by
 have hlt:=h.lt;rcases h.2 with⟨rfl,rfl⟩ | ⟨g,cap,cur,rfl,hg,hh,h1,h2,h3,h4⟩
 ·have hx:xs=[]:=List.eq_nil_of_length_eq_zero (by simpa using h.1);subst hx;exact⟨none,0,rfl,by rw[Nat.zero_mul];exact Sees.nil _ _ _,Lr _,by simp[maxLen],hlt⟩
 ·refine⟨_,cap,rfl,⟨h.1,fun j u hu=>⟨_,rfl,(Array.getElem?_eq_some_iff.1 hh).1,h.cells (g:=g) rfl j u hu⟩⟩,h1,h2,hlt⟩
theorem Xfv{w w':World}{base:Nat}{e:TypeId}{size n:Nat}{v:Value}{xs:List Value}(h:w.ownsRow base e size v n xs)(hk:∀g,v.ownBlock=some g→w'.heap[g]?=w.heap[g]?):w'.ownsRow base e size v n xs:=by
 refine⟨h.1,?_⟩;rcases h.2 with h2 | ⟨g,cap,cur,hv,hg,hh,r⟩
 ·exact .inl h2
 ·exact .inr ⟨g,cap,cur,hv,hg,(hk g (by rw[hv];rfl)).trans hh,r⟩
theorem Xpz{w:World}{base:Nat}{e:TypeId}{size n g:Nat}{v:Value}{xs:List Value}(h:w.ownsRow base e size v n xs)(hg:v.ownBlock=some g):∃cur,w.heap[g]?=some (.cells cur e (0,0)):=by
 rcases h.2 with⟨rfl,_⟩ | ⟨g',cap,cur,rfl,_,hh,_⟩
 ·cases hg
 ·cases hg
  exact⟨cur,hh⟩
theorem Xcv{w w':World}{base g:Nat}{e t:TypeId}{size n:Nat}{v:Value}{xs ys:List Value}(h:w.ownsRow base e size v n xs)(hr:Row w g t ys)(hne:e≠t)(ht:Turned w w' g):w'.ownsRow base e size v n xs:=
 Xfv h fun k hk=>ht.block k (fun e1=>by
  obtain⟨cur,hc⟩:=Xpz h hk;rw[e1,hr.is]at hc;injection (Option.some.inj hc)with _ h3 _
  exact hne h3.symm)
structure LTab where
 key:List Int
 keys:List (List Int)
def findT(ts:List LTab)(k:List Int):Option (List (List Int)):=(ts.find? fun t=>decide (t.key=k)).map LTab.keys
def KeyOk(k:List Int):Prop:=k.length=32∧AllBytes k
structure TabOk(t:LTab):Prop where
 key:KeyOk t.key
 keys:∀k ∈ t.keys,k.length=32
 one:1≤t.keys.length
 most:t.keys.length≤256
def TsOk(ts:List LTab):Prop:=∀t ∈ ts,TabOk t
def mayPut(ts:List LTab)(k:List Int)(l:List (List Int)):Int:=if l.length=0∨256<l.length then 1 else if (findT ts k).isSome then 12 else 0
def putT(ts:List LTab)(k:List Int)(l:List (List Int)):List LTab:=if mayPut ts k l=0 then ts++[⟨k,l⟩]else ts
theorem Xgf(ts:List LTab)(t:LTab)(k:List Int):findT (ts++[t]) k=match findT ts k with
 | some l=>some l
 | none=>if t.key=k then some t.keys else none:=by
 unfold findT;rw[List.find?_append];cases h:ts.find? fun t=>decide (t.key=k)with
 | some x=>rfl
 | none =>
  simp only[Option.none_or,Option.map_none];by_cases e:t.key=k
  ·simp[e]
  ·simp[e]
theorem Xlj{ts:List LTab}{k:List Int}{l:List (List Int)}(h:findT ts k=some l):∃t ∈ ts,t.key=k∧t.keys=l:=by
 unfold findT at h;obtain⟨t,ht,rfl⟩:=Option.map_eq_some_iff.1 h;exact⟨t,List.mem_of_find?_eq_some ht,by simpa using List.find?_some ht,rfl⟩
theorem TsOk.find{ts:List LTab}(h:TsOk ts){k:List Int}{l:List (List Int)}(hf:findT ts k=some l):(∀y ∈ l,y.length=32)∧1≤l.length∧l.length≤256:=by
 obtain⟨t,ht,rfl,rfl⟩:=Xlj hf;exact⟨(h t ht).keys,(h t ht).one,(h t ht).most⟩
theorem Xdp(ts:List LTab)(k:List Int)(l:List (List Int)):(mayPut ts k l=1∧(l.length=0∨256<l.length))∨(mayPut ts k l=12∧¬(l.length=0∨256<l.length)∧(findT ts k).isSome=true)∨(mayPut ts k l=0∧¬(l.length=0∨256<l.length)∧findT ts k=none):=by
 unfold mayPut;split
 ·exact .inl ⟨rfl,‹_›⟩
 ·split
  ·exact .inr (.inl ⟨rfl,‹_›,‹_›⟩)
  ·exact .inr (.inr ⟨rfl,‹_›,by cases h:findT ts k <;> simp_all⟩)
theorem TsOk.put{ts:List LTab}(h:TsOk ts){k:List Int}{l:List (List Int)}(hk:KeyOk k)(hl:∀y ∈ l,y.length=32):TsOk (putT ts k l):=by
 unfold putT;rcases Xdp ts k l with⟨e,_⟩ | ⟨e,_⟩ | ⟨e,h1,_⟩ <;> rw[e]
 ·exact h
 ·exact h
 ·intro t ht;rcases List.mem_append.1 ht with ht | ht
  ·exact h t ht
  ·obtain rfl:=List.mem_singleton.1 ht;exact⟨hk,hl,by show 1≤l.length;omega,by show l.length≤256;omega⟩
theorem Xuo(ts:List LTab)(k:List Int)(l:List (List Int)):(putT ts k l).length≤ts.length+1:=by
 unfold putT;split <;> simp
def held1(v:Value):Option (DataW Value × List MemPlace):=some (.held v,[])
def nilK:Value:=.slice none 0 0
def MapIs(w:World)(mb n:Nat)(f:List Int→Option Value):Prop:=
 ∃D,w.ownsMap Tryz.prog 78 held1 mb n D∧∀x,KeyOk x→Go.Maps.has D (KL x)=(f x).isSome∧D.atKey (KL x) (.held nilK)=.held ((f x).getD nilK)
section
variable{w w':World}{mb n:Nat}{f:List Int→Option Value}{x:List Int}
theorem MapIs.made(w:World):MapIs (w.alloc (.map #[] 0)) w.heap.size 0 (fun _=>none):=
 ⟨.map [],World.ownsMap_made _ _ _ _,fun x _=>⟨rfl,rfl⟩⟩
theorem MapIs.kept{row:Option Nat}(h:MapIs w mb n f)(hg:w.grownBy w' row)(hne:some mb≠row):MapIs w' mb n f:=by
 obtain⟨D,h1,h2⟩:=h;exact⟨D,h1.kept hg hne,h2⟩
theorem MapIs.look(h:MapIs w mb n f)(hx:KeyOk x):(Instr.lookup 64 (.map (some mb)) (.agg (bv x).toArray) true).run Tryz.prog w=.ok (.tuple #[(f x).getD nilK,.bool (f x).isSome]) w:=by
 obtain⟨D,h1,h2⟩:=h;obtain⟨e1,e2⟩:=h2 x hx;have hz:(zeroValue 34).run Tryz.prog w=.ok nilK w:=by kernel_rfl
 obtain⟨v,ps,hrun,hv⟩:=h1.look_ok Xdu Tryz.underlying64 hz (zd:=.held nilK) (zp:=[]) rfl (KL_is hx.1 hx.2);rw[e2]at hv;injection hv with hv
 injection hv with hv _
 injection hv with hv
 rw[hrun,e1,hv]
theorem MapIs.put(h:MapIs w mb n f)(hx:KeyOk x)(hn:n<maxLen)(v:Value):∃w',(Instr.mapUpdate 64 (.map (some mb)) (.agg (bv x).toArray) v).run Tryz.prog w=.ok () w'∧MapIs w' mb (n+1) (fun y=>if y=x then some v else f y)∧w.grownBy w' (some mb):=by
 obtain⟨D,h1,h2⟩:=h;obtain⟨w',hrun,h3,h4⟩:=h1.update Xdu Tryz.underlying64 hn (val:=v) (d:=.held v) (ps:=[]) (KL_is hx.1 hx.2) rfl;refine⟨w',hrun,⟨_,h3,fun y hy=>?_⟩,h4⟩;dsimp only
 by_cases e:y=x
 ·subst e;rw[if_pos rfl];exact⟨has_put_same h1.isMap (Xht hx.1 hx.2) _,atKey_put_same h1.isMap (Xht hx.1 hx.2) _ _⟩
 ·rw[if_neg e];have hne:KL y≠KL x:=fun e'=>e (Xqk hy.1 hy.2 hx.1 hx.2 e')
  rw[has_put_other hne,atKey_put_other hne];exact h2 y hy
end
def FT(ts:List LTab)(blk:List Int→Nat)(x:List Int):Option Value:=(findT ts x).map fun l=>.slice (some ⟨blk x,0,none⟩) l.length l.length
structure Reg(w:World)(rb mb hi n:Nat)(ts:List LTab):Prop where
 row:Row w rb 66 [.map (some mb)]
 map:∃blk,MapIs w mb n (FT ts blk)∧∀x l,findT ts x=some l→Row w (blk x) 78 (bv l.flatten)∧blk x<hi
 lt:rb<hi∧mb<hi∧hi≤w.heap.size
 good:TsOk ts
section
variable{w w':World}{rb mb hi n:Nat}{ts:List LTab}
theorem Reg.map_ne(h:Reg w rb mb hi n ts){g t:Nat}{xs:List Value}(hr:Row w g t xs):g≠mb:=by
 obtain⟨blk,⟨D,⟨es,clock,hb,_⟩,_⟩,_⟩:=h.map;rintro rfl;rw[hr.is]at hb;cases hb
theorem Reg.is_map(h:Reg w rb mb hi n ts):∃es cl,w.heap[mb]?=some (.map es cl):=by
 obtain⟨blk,⟨D,⟨es,clock,hb,_⟩,_⟩,_⟩:=h.map;exact⟨es,clock,hb⟩
theorem Reg.below(h:Reg w rb mb hi n ts)(hb:Below hi w w'):Reg w' rb mb hi n ts:=by
 obtain⟨blk,⟨D,⟨es,clock,hm,hr⟩,hd⟩,h2⟩:=h.map;refine⟨h.row.below hb h.lt.1,⟨blk,⟨D,⟨es,clock,(hb.block mb h.lt.2.1).trans hm,hr⟩,hd⟩,fun x l hx=>?_⟩,⟨h.lt.1,h.lt.2.1,Lq h.lt.2.2 hb.size⟩,h.good⟩;obtain⟨a,b⟩:=h2 x l hx;exact⟨a.below hb b,b⟩
theorem Reg.more{hi':Nat}(h:Reg w rb mb hi n ts)(h1:hi≤hi')(h2:hi'≤w.heap.size):Reg w rb mb hi' n ts:=by
 obtain⟨blk,h3,h4⟩:=h.map;exact⟨h.row,⟨blk,h3,fun x l hx=>⟨(h4 x l hx).1,Nat.lt_of_lt_of_le (h4 x l hx).2 h1⟩⟩,⟨Nat.lt_of_lt_of_le h.lt.1 h1,Nat.lt_of_lt_of_le h.lt.2.1 h1,h2⟩,h.good⟩
def seen(ts:List LTab)(x:List Int)(g:Nat):Value:=match findT ts x with | none=>nilK | some l=>.slice (some ⟨g,0,none⟩) l.length l.length
theorem Reg.look_any(h:Reg w rb mb hi n ts){x:List Int}(hx:KeyOk x):∃g,(∀V:World,V.heap[mb]?=w.heap[mb]?→(Instr.lookup 64 (.map (some mb)) (.agg (bv x).toArray) true).run Tryz.prog V=.ok (.tuple #[seen ts x g,.bool (findT ts x).isSome]) V)∧∀l,findT ts x=some l→Row w g 78 (bv l.flatten)∧g<hi:=by
 obtain⟨blk,⟨D,⟨es,clock,hb,hf⟩,hD⟩,h2⟩:=h.map;refine⟨blk x,fun V hV=>?_,fun l hl=>h2 x l hl⟩;have h1:MapIs V mb n (FT ts blk):=⟨D,⟨es,clock,hV.trans hb,hf⟩,hD⟩;have:=h1.look hx;rw[this];unfold FT seen;cases findT ts x <;> rfl
theorem Reg.look(h:Reg w rb mb hi n ts){x:List Int}(hx:KeyOk x):∃g,(∀k,(Instr.lookup 64 (.map (some mb)) (.agg (bv x).toArray) true).run Tryz.prog (w.drewN k)=.ok (.tuple #[seen ts x g,.bool (findT ts x).isSome]) (w.drewN k))∧∀l,findT ts x=some l→Row w g 78 (bv l.flatten)∧g<hi:=by
 obtain⟨g,h1,h2⟩:=h.look_any hx;exact⟨g,fun k=>h1 _ rfl,h2⟩
theorem Reg.grow{n':Nat}(h:Reg w rb mb hi n ts)(hn:n≤n'):Reg w rb mb hi n' ts:=by
 obtain⟨blk,⟨D,h0,hD⟩,h2⟩:=h.map;exact⟨h.row,⟨blk,⟨D,h0.mono hn,hD⟩,h2⟩,h.lt,h.good⟩
structure KeepReg(w w':World)(tb:Nat):Prop where
 size:w.heap.size≤w'.heap.size
 map:∀k es cl,k≠tb→w.heap[k]?=some (.map es cl)→w'.heap[k]?=w.heap[k]?
 row:∀k t xs,k≠tb→(t=78∨t=66)→Row w k t xs→Row w' k t xs
theorem Reg.keepReg{tb:Nat}(h:Reg w rb mb hi n ts)(hk:KeepReg w w' tb)(ht:hi≤tb):Reg w' rb mb w'.heap.size n ts:=by
 obtain⟨blk,⟨D,⟨es,clock,hm,hr⟩,hd⟩,h2⟩:=h.map;have hl:=h.lt;refine⟨hk.row _ _ _ (by omega) (.inr rfl) h.row,⟨blk,⟨D,⟨es,clock,(hk.map mb es clock (by omega) hm).trans hm,hr⟩,hd⟩,fun x l hx=>?_⟩,⟨Nat.lt_of_lt_of_le hl.1 (Lq hl.2.2 hk.size),Nat.lt_of_lt_of_le hl.2.1 (Lq hl.2.2 hk.size),Lr _⟩,h.good⟩;obtain⟨a,b⟩:=h2 x l hx;exact⟨hk.row _ _ _ (by omega) (.inl rfl) a,Nat.lt_of_lt_of_le b (Lq hl.2.2 hk.size)⟩
theorem Reg.put2(h:Reg w rb mb hi n ts){x:List Int}{l:List (List Int)}(hx:KeyOk x)(hl:∀y ∈ l,y.length=32)(hn:n<maxLen)(hm:mayPut ts x l=0){g:Nat}(hr:Row w g 78 (bv l.flatten)) :
 ∃w',(Instr.mapUpdate 64 (.map (some mb)) (.agg (bv x).toArray) (.slice (some ⟨g,0,none⟩) l.length l.length)).run Tryz.prog w=.ok () w'∧Reg w' rb mb w.heap.size (n+1) (putT ts x l)∧w.grownBy w' (some mb) ∧
  ∀tb,hi≤tb→tb≠g→∀w'',KeepReg w' w'' tb→Reg w'' rb mb w''.heap.size (n+1) (putT ts x l):=by
 obtain⟨blk,h1,h2⟩:=h.map;obtain⟨w',hrun,h3,h4⟩:=h1.put hx hn (.slice (some ⟨g,0,none⟩) l.length l.length);have hnone:findT ts x=none:=by
  rcases Xdp ts x l with⟨e,_⟩ | ⟨e,_⟩ | ⟨_,_,e⟩
  ·rw[hm]at e;cases e
  ·rw[hm]at e;cases e
  ·exact e
 have hts:putT ts x l=ts++[⟨x,l⟩]:=by unfold putT;rw[if_pos hm]
 have hkeep:∀{g t:Nat} {xs:List Value},Row w g t xs→Row w' g t xs:=fun hr=>hr.grown h4 (fun e=>h.map_ne hr (Option.some.inj e))
 have hfind:∀y,findT (ts++[⟨x,l⟩]) y=if y=x then some l else findT ts y:=by
  intro y;rw[Xgf];by_cases e:y=x
  ·subst e;simp[hnone]
  ·rw[if_neg e];cases findT ts y with
   | some z=>rfl
   | none=>simp[Ne.symm e]
 have hmap:MapIs w' mb (n+1) (FT (putT ts x l) (fun y=>if y=x then g else blk y)):=by
  obtain⟨D,h5,h6⟩:=h3;refine⟨D,h5,fun y hy=>?_⟩;obtain⟨e1,e2⟩:=h6 y hy;have e3:FT (putT ts x l) (fun y=>if y=x then g else blk y) y=if y=x then some (.slice (some ⟨g,0,none⟩) l.length l.length)else FT ts blk y:=by
   unfold FT;rw[hts,hfind];by_cases e:y=x
   ·simp[e]
   ·simp[e]
  rw[e3];exact⟨e1,e2⟩
 have hrows:∀y m,findT (putT ts x l) y=some m→Row w' (if y=x then g else blk y) 78 (bv m.flatten)∧(if y=x then g else blk y)<w.heap.size∧((if y=x then g else blk y)=g∨(if y=x then g else blk y)<hi):=by
  intro y m hy;rw[hts,hfind]at hy;by_cases e:y=x
  ·rw[if_pos e]at hy;cases hy
   rw[if_pos e];exact⟨hkeep hr,hr.lt,.inl rfl⟩
  ·rw[if_neg e]at hy;rw[if_neg e];obtain⟨a,b⟩:=h2 y m hy;exact⟨hkeep a,Nat.lt_of_lt_of_le b h.lt.2.2,.inr b⟩
 refine⟨w',hrun,⟨hkeep h.row,⟨fun y=>if y=x then g else blk y,hmap,fun y m hy=>⟨(hrows y m hy).1,(hrows y m hy).2.1⟩⟩,⟨Nat.lt_of_lt_of_le h.lt.1 h.lt.2.2,Nat.lt_of_lt_of_le h.lt.2.1 h.lt.2.2,h4.size⟩,h.good.put hx hl⟩,h4,fun tb ht hg w'' hw=>?_⟩;have hlt:=h.lt;obtain⟨D,⟨es,clock,hm,hr'⟩,hd⟩:=hmap;refine⟨hw.row _ _ _ (by omega) (.inr rfl) (hkeep h.row),⟨fun y=>if y=x then g else blk y,⟨D,⟨es,clock,(hw.map mb es clock (by omega) hm).trans hm,hr'⟩,hd⟩,fun y m hy=>?_⟩,⟨?_,?_,Lr _⟩,h.good.put hx hl⟩
 ·obtain⟨a,b,c⟩:=hrows y m hy;exact⟨hw.row _ _ _ (c.elim (fun c e=>hg (e.symm.trans c)) (fun c=>Nat.ne_of_lt (Nat.lt_of_lt_of_le c ht))) (.inl rfl) a,Nat.lt_of_lt_of_le b (Lq h4.size hw.size)⟩
 ·exact Nat.lt_of_lt_of_le hlt.1 (Lq hlt.2.2 (Lq h4.size hw.size))
 ·exact Nat.lt_of_lt_of_le hlt.2.1 (Lq hlt.2.2 (Lq h4.size hw.size))
end
theorem Xjz{P:Program}(w:World)(dT sT ty elem:TypeId)(g dLen dCap size:Nat)(a:Addr)(sLen sCap:Nat)(cur:List Value)(t:TypeId)(cs:List Value)
 (hu:P.underlying dT=some (.slice elem)) (hs:(P.info? elem).map (·.size)=some size) (hg:Row w g t cur) (hn:cs.length=Nat.min sLen dLen*size)
 (hsrc:∀j v,cs[j]?=some v→w.cell? (a.add j)=some v) (hfit:cs.length≤cur.length) (h1:∀v ∈ cs,v.oneCell'=true) :
 (Builtin.copy_ #[dT,sT] ty #[.slice (some ⟨g,0,none⟩) dLen dCap,.slice (some a) sLen sCap]).run P w=.ok (goInt (Nat.min sLen dLen)) (w.setRow g (cs++cur.drop cs.length).toArray):=by
 have hl:=run_loadCells_list (P:=P) w a cs hsrc;have hst:=run_storeCells_at P g 0 t cs 0 cur.toArray w hg.is (by simpa using hfit) h1;cases hq:P.info? elem with
 | none=>simp[hq]at hs
 | some i =>
  have hi:i.size=size:=by simpa [hq]using hs
  simp[Builtin.copy_,run_underlying hu,Builtin.lenOf,Builtin.firstCells,sizeOf,typeInfo,hq,hi,←hn,hl,hst]
theorem Xem{P:Program}{ops:Array Oper}{rest:List Oper}{o:Oper}{a:Act}{w:World}{Q:Exit→Act→World→Prop}(hgd:o.guard=none)(d s:Operand)(dT sT elem:TypeId)
 (ho:o.op=.call { callee:=.builtin .copy,args:=#[d,s],argTypes:=#[dT,sT] }) (hu:P.underlying dT=some (.slice elem)) (size:Nat) (hsz:(P.info? elem).map (·.size)=some size)
 (g n c c':Nat) (ad:Addr) (hd:a.eval d=.slice (some ⟨g,0,none⟩) n c) (hs:a.eval s=.slice (some ad) n c')
 (cur:List Value) (t:TypeId) (hg:Row w g t cur) (cs:List Value) (hn:cs.length=n*size)
 (hsrc:∀j v,cs[j]?=some v→w.cell? (ad.add j)=some v) (hfit:cur.length=cs.length) (h1:∀v ∈ cs,v.oneCell'=true)
 (h:∀w',Row w' g t cs→Turned w w' g→wpList P ops Q rest (a.put o.dst (goInt n)) w'):wpList P ops Q (o::rest) a w:=by
 have hm:Nat.min n n=n:=Nat.min_self n;have hrun:=Xjz (P:=P) w dT sT o.type elem g n c size ad n c' cur t cs hu hsz hg (by rw[hm];exact hn) hsrc (Nat.le_of_eq hfit.symm) h1;rw[List.drop_of_length_le (by omega),List.append_nil,hm]at hrun;refine wpList_plain hgd fun K hK=>?_
 unfold Oper.wp execOp;simp only[ho,resolve,invoke,builtin,Sem.run_bind,Sem.run_pure,Result.andThen_ok,List.map_toArray,List.map_cons,List.map_nil,hd,hs,hrun];exact hK _ _ (h _ (Xgb hg cs) (Xek w g _))
def CopyDone(w:World)(n:Nat)(l:List (List Int))(e:Ending)(w':World):Prop:=
 ∃g,e=.returned (.slice (some ⟨g,0,none⟩) n n)∧w.heap.size≤g∧Row w' g 78 (bv l.flatten)∧Below w.heap.size w w'
theorem Xwo(A:Option Addr)(n c B:Nat)(l:List (List Int))(w:World)(hx:KeysIn w B A n l)(hB:B≤w.heap.size)(h1:1≤n)(hn:n≤256) :
 Calls Tryz.prog 81 #[.slice A n c] w (CopyDone w n l):=by
 obtain⟨a,u,rfl,hab,_,_⟩:=hx.sees.at_ (k:=0) (by omega);have hs:=hx.sees;have HL:=Hd (show(bv l.flatten).length=n*32 by rw[bL,Xdh l hx.each,hx.len]);have H1:=Hd (Xae l.flatten);clear hx;unfold CopyDone;generalize bv l.flatten=cs at *;have HS:=Hd hs;clear hs;have HC:Hid (∀j v,cs[j]?=some v→w.cell? (a.add j)=some v):=Hd fun j v hv=>by
  obtain⟨a',e,_,hc⟩:=HS.out.cell j v hv;cases e
  exact hc
 go_enter Tryz.func81,Tryz.ntmps81
 go_wp2_with (first
  | (at_make;(obtain⟨i0,hi,hz0,hz1,hz2⟩:=info_parts Xaj);go_must(refine wpList_make_full _ rfl (.tmp 5) (.tmp 5) 34 rfl w.heap.size 78 i0 _ 32 Tryz.underlying34 hi hz0 hz1 .i64 .i64 _ _ n rfl rfl (by simp) (by simp) (by rw[hz2];omega) (by unfold maxLen;omega) (Lr _) ?_;intro w1 hown hgrow;have hrow:=Row.of_ownN hown;have hlen:=Xjp (.agg (zeros 32).toArray) (n*32);have hb1:=(Br w.heap.size w).grown hgrow (Lr _) (fun k hk=>by cases hk);have R1:=Hd hrow;have HL1:=Hd hlen;have B1:=Hd hb1;clear hrow hlen hb1 hown hgrow hi hz0 hz1 hz2))
  | ((with_reducible show wpList _ _ _ (⟨some 9,_,_,_,_,_⟩::_) _ _);go_must(refine Xem rfl (.tmp 7) (.tmp 8) 34 34 78 rfl Tryz.underlying34 32 Xab w.heap.size n n c a rfl rfl _ 78 R1.out cs HL.out (fun j v hv=>(B1.out.cell (by rw[Xa7];omega)).trans (HC.out j v hv)) (by rw[HL1.out,HL.out]) H1.out ?_;intro w2 hr2 ht2;have R2:=Hd hr2;have T2:=Hd ht2;clear hr2 ht2)))
 go_ret;exact⟨_,rfl,Lr _,R2.out,B1.out.trans (T2.out.below (Lr _))⟩
theorem Xwb(w:World)(r:Option Nat):(binOp .neq 64 (.map r) (.map none)).run Tryz.prog w=.ok (.bool (!r.isNone)) w:=run_neq_map_nil w _ _ _ r Tryz.underlying64
theorem Xkw(rb mb:Nat)(w:World)(hr:Row w rb 66 [.map (some mb)]) :
 Calls Tryz.prog 80 #[.pointer (some ⟨rb,0,none⟩)] w fun e w'=>e=.returned (.bool true)∧w=w':=by
 have hm:=Xwb;have c0:w.cell? ⟨rb,0,none⟩=some (.map (some mb)):=hr.cell 0;clear hr;go_enter Tryz.func80,Tryz.ntmps80
 go_wp2_with fail;go_ret;exact⟨rfl,rfl⟩
theorem clipK(A:Option Addr)(n c:Nat)(w:World)(hnc:n≤c)(hc:c≤maxLen) :
 Calls Tryz.prog 77 #[.slice A n c] w fun e w'=>e=.returned (.slice A n n)∧w=w':=by
 unfold maxLen at hc;go_enter Tryz.func77,Tryz.ntmps77
 go_wp2;go_ret;exact⟨rfl,rfl⟩
theorem Xq3(w:World):Calls Tryz.prog 33 #[] w fun e w'=>e=.returned (.pointer (some ⟨w.heap.size+1,0,none⟩))∧Reg w' (w.heap.size+1) w.heap.size w'.heap.size 0 []∧Below w.heap.size w w':=by
 have hmm:=@run_makeMap Tryz.prog;have HR:Hid (Reg ((w.alloc (.map #[] 0)).alloc (.cells #[.map (some w.heap.size)] 66)) (w.heap.size+1) w.heap.size ((w.alloc (.map #[] 0)).alloc (.cells #[.map (some w.heap.size)] 66)).heap.size 0 []):=Hd
  ⟨Row.new' _ 66 [.map (some w.heap.size)] (by simp),⟨fun _=>0,(MapIs.made w).kept (World.grownBy_alloc _ _ none) (by simp),fun x l hx=>by cases hx⟩,⟨by simp,by simp;omega,Lr _⟩,fun t ht=>by cases ht⟩
 have HB:=Hd (((Br w.heap.size w).alloc (Lr _) (.map #[] 0)).alloc (by simp) (.cells #[.map (some w.heap.size)] 66));go_enter Tryz.func33,Tryz.ntmps33
 go_wp2_with fail;go_ret;exact⟨rfl,HR.out,HB.out⟩
def PutTDone(w:World)(rb mb n:Nat)(ts:List LTab)(x:List Int)(l:List (List Int))(e:Ending)(w':World):Prop:=
 e=.returned (.int .i64 (mayPut ts x l))∧Reg w' rb mb w'.heap.size (n+1) (putT ts x l)∧w.grownBy w' (some mb)
theorem Xi6{w w':World}{r:Option Nat}(hb:Below w.heap.size w w'):w.grownBy w' r:=⟨hb.os,hb.tape,hb.output,hb.size,fun k hk _=>hb.block k hk⟩
theorem PutTDone.not{w w':World}{rb mb hi n:Nat}{ts:List LTab}{x:List Int}{l:List (List Int)}(h:Reg w rb mb hi n ts)(hb:Below w.heap.size w w'){c:Int}(hm:mayPut ts x l=c)(hc:c≠0):PutTDone w rb mb n ts x l (.returned (.int .i64 c)) w':=by
 have e:putT ts x l=ts:=by unfold putT;rw[if_neg (by rw[hm];exact hc)]
 refine⟨by rw[hm],?_,Xi6 hb⟩;rw[e];exact((h.below (hb.mono h.lt.2.2)).more (Lq h.lt.2.2 hb.size) (Lr _)).grow (Nat.le_succ _)
def PutTDone2(w:World)(rb mb hi n:Nat)(ts:List LTab)(x:List Int)(l:List (List Int))(e:Ending)(w':World):Prop:=
 PutTDone w rb mb n ts x l e w'∧∀tb,hi≤tb→tb<w.heap.size→∀w'',KeepReg w' w'' tb→Reg w'' rb mb w''.heap.size (n+1) (putT ts x l)
theorem PutTDone2.not{w w':World}{rb mb hi n:Nat}{ts:List LTab}{x:List Int}{l:List (List Int)}(h:Reg w rb mb hi n ts)(hb:Below w.heap.size w w'){c:Int}(hm:mayPut ts x l=c)(hc:c≠0):PutTDone2 w rb mb hi n ts x l (.returned (.int .i64 c)) w':=by
 refine⟨PutTDone.not h hb hm hc,fun tb h1 h2 w'' hg=>?_⟩;have e:putT ts x l=ts:=by unfold putT;rw[if_neg (by rw[hm];exact hc)]
 rw[e];have h3:=h.below (hb.mono h.lt.2.2);exact(h3.keepReg hg h1).grow (Nat.le_succ _)
theorem Xwr(rb mb hi n:Nat)(ts:List LTab)(x:List Int)(A:Option Addr)(m c B:Nat)(l:List (List Int))(w:World)(h:Reg w rb mb hi n ts)(hx:KeyOk x)(hl:KeysIn w B A m l)(hB:B≤w.heap.size)(hn:n≤1000000)(hm:m≤maxLen) :
 Calls Tryz.prog 34 #[.pointer (some ⟨rb,0,none⟩),.agg (bv x).toArray,.slice A m c] w (PutTDone2 w rb mb hi n ts x l):=by
 have hlen:=hl.len;have hb0:Below w.heap.size w (w.alloc (.cells (bv x).toArray 78)):=(Br _ _).alloc (Lr _) _;have RX:=Hd (Row.new w 78 (bv x));have HREG:=Hd h;have hW:=h.below (hb0.mono h.lt.2.2);have HW:=Hd hW;have HT:=Hd (Xkw rb mb _ hW.row);have HKX:=Hd (hl.below (hb0.mono hB));have HB0:=Hd hb0;have HSZ:=Hd (show(Tryz.prog.info? 78).map (·.size)=some (bv x).length by rw[bL,hx.1];exact Xab);have c0:(w.alloc (.cells (bv x).toArray 78)).cell? ⟨rb,0,none⟩=some (.map (some mb)):=hW.row.cell 0;have hz:(w.alloc (.cells (bv x).toArray 78)).heap.size=w.heap.size+1:=by simp
 have HZ:=Hd hz;have HL:=Hd hlen;unfold maxLen at hm;obtain⟨g,hlk,hg⟩:=hW.look hx;have HG:=Hd hg;have HX:=Hd hx;have HRL:Hid (rb<w.heap.size):=Hd h.row.lt;have HRM:Hid (rb≠mb):=Hd (h.map_ne h.row);have HBM:Hid (w.heap.size≠mb):=Hd (hW.map_ne RX.out);have HPUT:Hid (∀(V:World) (g':Nat),Reg V rb mb hi n ts→mayPut ts x l=0→Row V g' 78 (bv l.flatten)→∃V',(Instr.mapUpdate 64 (.map (some mb)) (.agg (bv x).toArray) (.slice (some ⟨g',0,none⟩) l.length l.length)).run Tryz.prog V=.ok () V'∧Reg V' rb mb V.heap.size (n+1) (putT ts x l)∧V.grownBy V' (some mb)∧∀tb,hi≤tb→tb≠g'→∀V'',KeepReg V' V'' tb→Reg V'' rb mb V''.heap.size (n+1) (putT ts x l)):=
  Hd fun V g' h1 h2 h3=>h1.put2 hx hl.each (by unfold maxLen;omega) h2 h3
 have hlx:∀y ∈ l,y.length=32:=hl.each;clear hb0 hW hg h hx hl hz hlen;generalize hX:bv x=X at *;clear hX;generalize hWW:w.alloc (.cells X.toArray 78)=W at *;have HWW:=Hd hWW;rcases Xdp ts x l with⟨hm1,hc1⟩ | ⟨hm1,hc1,hs1⟩ | ⟨hm1,hc1,hs1⟩
 ·have hE:Hid (PutTDone2 w rb mb hi n ts x l (.returned (.int .i64 1)) W):=Hd (PutTDone2.not HREG.out HB0.out hm1 (by omega));rw[HL.out]at hc1;clear hm1 hWW hlk hlx;by_cases h0:m=0
  ·subst h0;go_enter Tryz.func34,Tryz.ntmps34
   go_upto_region 1 with fail
   rw[HWW.out];go_wp2_with (go_at_call 80;refine HT.out.mono ?_;rintro e w' ⟨rfl,rfl⟩)
   go_ret;exact hE.out
  ·have h2:256<m:=by omega
   clear hc1;go_enter Tryz.func34,Tryz.ntmps34
   go_upto_region 1 with fail
   rw[HWW.out];go_wp2_with (go_at_call 80;refine HT.out.mono ?_;rintro e w' ⟨rfl,rfl⟩)
   go_ret;exact hE.out
 ·have hE:Hid (∀k,PutTDone2 w rb mb hi n ts x l (.returned (.int .i64 12)) (W.drewN k)):=Hd fun k=>PutTDone2.not (w':=W.drewN k) HREG.out ⟨HB0.out.os,HB0.out.tape,HB0.out.output,HB0.out.size,HB0.out.block⟩ hm1 (by omega)
  rw[HL.out]at hc1;rw[hs1]at hlk;generalize seen ts x g=V at *;have h0:((m:Int)==0)=false:=by simp;omega
  have h2:¬((256:Int)<(m:Int)):=by omega
  clear hm1 hWW hs1 hlx hc1;go_enter Tryz.func34,Tryz.ntmps34
  go_upto_region 1 with fail
  rw[HWW.out];go_wp2_with (go_at_call 80;refine HT.out.mono ?_;rintro e w' ⟨rfl,rfl⟩)
  refine wp_region_quiet_lit (by kernel_rfl) (by kernel_rfl) ?_;repeat (first
   | ((with_reducible show wpQuiet _ _ _ _ (⟨some 25,_,_,_,_,_⟩::_) _);go_must(refine Xa6 (by kernel_rfl) 78 (.tmp 4) rfl ⟨w.heap.size,0,none⟩ X _ Tryz.underlying78 rfl HSZ.out (by rintro _ ⟨nq,rfl⟩ j v hv;exact(by rw[Xa5,Nat.zero_add];exact(RX.out.cell j).trans hv)) ?_ ?_;go_simp;go_simp))
   | go_big_quiet_step (fail))
  refine wpQuiet_nil ?_;intro nq;go_wp2_with fail;go_ret;exact hE.out _
 ·rw[HL.out]at hc1;rw[hs1]at hlk;generalize seen ts x g=V at *;have h0:((m:Int)==0)=false:=by simp;omega
  have h1:1≤m:=by omega
  have h2:¬((256:Int)<(m:Int)):=by omega
  have h3:m≤256:=by omega
  have HM:=Hd hm1;clear hm1 hWW hs1 hlx hc1;go_enter Tryz.func34,Tryz.ntmps34
  go_upto_region 1 with fail
  rw[HWW.out];go_wp2_with (go_at_call 80;refine HT.out.mono ?_;rintro e w' ⟨rfl,rfl⟩)
  refine wp_region_quiet_lit (by kernel_rfl) (by kernel_rfl) ?_;repeat (first
   | ((with_reducible show wpQuiet _ _ _ _ (⟨some 25,_,_,_,_,_⟩::_) _);go_must(refine Xa6 (by kernel_rfl) 78 (.tmp 4) rfl ⟨w.heap.size,0,none⟩ X _ Tryz.underlying78 rfl HSZ.out (by rintro _ ⟨nq,rfl⟩ j v hv;exact(by rw[Xa5,Nat.zero_add];exact(RX.out.cell j).trans hv)) ?_ ?_;go_simp;go_simp))
   | go_big_quiet_step (fail))
  refine wpQuiet_nil ?_;intro nq;go_wp2_with fail;have HS0:Hid ((W.drewN nq).drew.cell? ⟨rb,0,none⟩=some (.map (some mb))∧(∀j u,X[j]?=some u→(W.drewN nq).drew.cell? ((⟨w.heap.size,0,none⟩:Addr).add j)=some u)):=Hd ⟨c0,fun j u hu=>by rw[Xa5,Nat.zero_add];exact(RX.out.cell j).trans hu⟩;have HB1:Hid (Below w.heap.size w (W.drewN nq).drew):=Hd ⟨HB0.out.os,HB0.out.tape,HB0.out.output,HB0.out.size,HB0.out.block⟩;have HR1:Hid (Reg (W.drewN nq).drew rb mb hi n ts):=Hd (HREG.out.below (HB1.out.mono HREG.out.lt.2.2));have HX1:Hid (Row (W.drewN nq).drew w.heap.size 78 X):=Hd ⟨RX.out.is⟩;have HC:=Hd (Xwo A m c B l (W.drewN nq).drew (HKX.out.below ⟨rfl,rfl,rfl,Lr _,fun _ _=>rfl⟩) (Lq hB HB1.out.size) h1 h3);refine wp_region_held_drew (S:=(fun V=>V.cell? ⟨rb,0,none⟩=some (.map (some mb))∧(∀j u,X[j]?=some u→V.cell? ((⟨w.heap.size,0,none⟩:Addr).add j)=some u))) (by kernel_rfl) HS0.out (fun _=>?_);clear HW HKX HT HB0 RX HZ hlk;generalize (W.drewN nq).drew=W1 at *;refine Tk 0 rfl ?_ HS0.out ?_ ⟨?_,rfl⟩
  ·intro w hw;(try dsimp only at hw);go_simp;try with_reducible rfl
  try simp only[nm]
  refine Tk 1 rfl ?_ HS0.out ?_ ⟨?_,rfl⟩
  ·intro w hw;(try dsimp only at hw);go_simp;try with_reducible rfl
  try simp only[nm]
  refine Tk 2 rfl ?_ HS0.out ?_ ⟨?_,rfl⟩
  ·intro w hw;(try dsimp only at hw);go_simp;try with_reducible rfl
  try simp only[nm]
  refine Tk 3 rfl ?_ HS0.out ?_ ⟨?_,rfl⟩
  ·intro w hw;(try dsimp only at hw);obtain⟨q0,q1⟩:=hw;go_simp;try with_reducible rfl
  try simp only[nm]
  refine Tl 4 (v:=.agg X.toArray) rfl (Or.inl ⟨by rfl,fun wz hwz=>Xa8 wz 78 (.tmp 4) rfl ⟨w.heap.size,0,none⟩ X _ Tryz.underlying78 rfl HSZ.out hwz.2 (by go_simp)⟩) HS0.out ?_;try simp only[nm]
  refine Tk 5 rfl ?_ HS0.out ?_ ⟨?_,rfl⟩
  ·intro w hw;(try dsimp only at hw);go_simp;try with_reducible rfl
  try simp only[nm]
  refine Rl 6 rfl fun K hK=>?_
  go_simp;refine HC.out.mono ?_;rintro e w2 ⟨g2,rfl,hg2,hr2,hb2⟩;have HX2:Hid (Row w2 w.heap.size 78 X):=Hd (HX1.out.below hb2 HX1.out.lt);have HR2:Hid (Reg w2 rb mb hi n ts):=Hd (HR1.out.below (hb2.mono HR1.out.lt.2.2));have HS2:Hid (w2.cell? ⟨rb,0,none⟩=some (.map (some mb))∧(∀j u,X[j]?=some u→w2.cell? ((⟨w.heap.size,0,none⟩:Addr).add j)=some u)):=Hd ⟨HR2.out.row.cell 0,fun j u hu=>by rw[Xa5,Nat.zero_add];exact(HX2.out.cell j).trans hu⟩;have HB2:Hid (Below w.heap.size w w2):=Hd (HB1.out.trans (hb2.mono HB1.out.size));obtain⟨w3,hrun,hreg3,hgr3,htb3⟩:=HPUT.out w2 g2 HR2.out HM.out hr2;have HTB3:=Hd htb3;have HGG:=Hd (Lq HB1.out.size hg2);rw[HL.out]at hrun;have HREG3:=Hd hreg3;have HGR3:=Hd hgr3;have HS3:Hid (w3.cell? ⟨rb,0,none⟩=some (.map (some mb))∧(∀j u,X[j]?=some u→w3.cell? ((⟨w.heap.size,0,none⟩:Addr).add j)=some u)):=Hd ⟨hreg3.row.cell 0,fun j u hu=>by rw[Xa5,Nat.zero_add];exact((HX2.out.grown hgr3 (fun e=>HBM.out (Option.some.inj e))).cell j).trans hu⟩;clear hreg3 hgr3 hb2 hr2 htb3;refine hK.out _ _ HS2.out ?_;clear hK K;try simp only[nm]
  refine Rl 7 rfl fun K hK=>?_
  go_simp;refine hK.out _ _ HS3.out ?_;clear hK K;try simp only[nm]
  refine wpAnyH_done (by kernel_rfl) ?_ _;go_wp2_with fail;go_ret;exact⟨⟨by rw[HM.out];rfl,HREG3.out.more (HGR3.out.size) (Lr _),Xax (Xi6 HB2.out) HGR3.out⟩,fun tb h1 h2 w'' hg=>HTB3.out tb h1 (fun e=>by have:=HGG.out;omega) w'' hg⟩
theorem putReg(rb mb hi n:Nat)(ts:List LTab)(x:List Int)(A:Option Addr)(m c B:Nat)(l:List (List Int))(w:World)(h:Reg w rb mb hi n ts)(hx:KeyOk x)(hl:KeysIn w B A m l)(hB:B≤w.heap.size)(hn:n≤1000000)(hm:m≤maxLen) :
 Calls Tryz.prog 34 #[.pointer (some ⟨rb,0,none⟩),.agg (bv x).toArray,.slice A m c] w (PutTDone w rb mb n ts x l):=
 (Xwr rb mb hi n ts x A m c B l w h hx hl hB hn hm).mono fun _ _ h=>h.1
structure KOut(w:World)(lo hi:Nat)(S:Sl)(l:List (List Int)):Prop where
 fit:SlFit w (S,Kd.k)
 keys:KeysIn w hi (S.A.map fun g=>⟨g,0,none⟩) S.n l
 cap:S.n≤S.c∧S.c≤maxLen
 low:∀g,S.A=some g→lo≤g∧g<hi
theorem KOut.nil(w:World)(lo hi:Nat):KOut w lo hi ⟨none,0,0⟩ []:=⟨⟨rfl,rfl⟩,⟨rfl,by simp,Sees.nil _ _ _⟩,⟨Lr _,Nat.zero_le _⟩,fun g e=>by cases e⟩
def fErr(ts:List LTab)(x:List Int):Int:=if (findT ts x).isSome then 0 else 11
def fKeys(ts:List LTab)(x:List Int):List (List Int):=(findT ts x).getD []
theorem zsz6:(Value.agg (zeros 32).toArray).cells.size=32:=by kernel_rfl
def out6(n:Nat)(a:Int):Bool:=decide ((n:Int)≤a)
theorem Xv4(z:Int)(tt tc g:Nat)(TA:Option Addr)(w:World)(h0:0≤z)(h1:z<256)(ct:w.cell? ⟨g,0,none⟩=some (.slice TA tt tc)) :
 Calls Tryz.prog 148 #[.int .u8 z,.pointer (some ⟨g,0,none⟩)] w fun e w'=>e=.returned (.bool (out6 tt z))∧w=w':=by
 by_cases h:(tt:Int)≤z
 ·have hp:Hid (out6 tt z=true):=Hd (by simp[out6,h]);go_enter Tryz.func148,Tryz.ntmps148
  go_wp2;go_ret;exact⟨Xad hp.out.symm,rfl⟩
 ·have hp:Hid (out6 tt z=false):=Hd (by simp[out6];omega);go_enter Tryz.func148,Tryz.ntmps148
  go_wp2;go_ret;exact⟨Xad hp.out.symm,rfl⟩
theorem Xm3(A:Option Addr)(n c B g tt tc:Nat)(TA:Option Addr)(l:List Int)(w:World)(hs:Sees w B A n (bv l))(hb:AllBytes l)(hn:n≤4000)(ct:w.cell? ⟨g,0,none⟩=some (.slice TA tt tc)) :
 Calls Tryz.prog 158 #[.slice A n c,.func (.func 148) #[] #[.pointer (some ⟨g,0,none⟩)]] w fun e w'=>IdxDone (l.any (out6 tt)) e∧w=w':=by
 have hl:l.length=n:=by have:=hs.len;rwa [bL]at this
 have HL:=Hd hl;have HB:=Hd hb;clear hl hb;go_enter Tryz.func158,Tryz.ntmps158
 go_wp2;go_loop [8] (fun i=>∃k:Nat,k≤n∧i=.int .i64 k∧(l.take k).any (out6 tt)=false) (fun i=>n - (intOf i).toNat)
 case atStart=>exact⟨0,Nat.zero_le _,rfl,by simp⟩
 case round =>
  obtain⟨k,hk,rfl,hany⟩:=hrel;have HA:=Hd hany;clear hany;by_cases hlt:k<n
  ·obtain⟨a,rfl,hab,hc⟩:=hs.byte hlt;have hx:=Xgl (l:=l) (k:=k) (by have:=HL.out;omega);have hz:=HB.out _ (List.mem_of_getElem? hx);have h0:=hz.1;have h1:=hz.2;have HX:=Hd hx;generalize l.getD k 0=z at *;have HC:=Hd (Xv4 z tt tc g TA w h0 h1 ct);clear hx hz;by_cases hp:out6 tt z=true
   ·have HP:=Hd hp;go_wp2_with (go_at_call 148;refine HC.out.mono ?_;rintro e w' ⟨rfl,rfl⟩)
    go_ret;exact⟨⟨_,rfl,by constructor;(intro _;exact Xdw HX.out HP.out);(intro _;omega)⟩,rfl⟩
   ·have hp:out6 tt z=false:=by simpa using hp
    have HP:Hid ((l.take (k+1)).any (out6 tt)=false):=Hd (by rw[Xb4 HX.out,HA.out,hp];rfl);go_wp2_with (go_at_call 148;refine HC.out.mono ?_;rintro e w' ⟨rfl,rfl⟩)
    go_round
    case rel=>exact⟨k+1,by omega,by go_num,HP.out⟩
    case measure=>simp[intOf];omega
  ·have hkn:k=n:=by omega
   have HE:Hid (l.any (out6 tt)=false):=Hd (by
    have h1:=HA.out;rwa [hkn,List.take_of_length_le (by rw[HL.out];exact Lr _)]at h1)
   clear hkn;go_wp2;go_ret;exact⟨⟨_,rfl,by rw[HE.out];simp⟩,rfl⟩
theorem Xio(A:Option Addr)(n c B g tt tc:Nat)(TA:Option Addr)(l:List Int)(w:World)(hs:Sees w B A n (bv l))(hb:AllBytes l)(hn:n≤4000)(ct:w.cell? ⟨g,0,none⟩=some (.slice TA tt tc)) :
 Calls Tryz.prog 143 #[.slice A n c,.func (.func 148) #[] #[.pointer (some ⟨g,0,none⟩)]] w fun e w'=>e=.returned (.bool (l.any (out6 tt)))∧w=w':=by
 have HI:=Hd (Xm3 A n c B g tt tc TA l w hs hb hn ct);clear hs hb;go_enter Tryz.func143,Tryz.ntmps143
 go_wp2_with fail;refine HI.out.mono ?_;rintro e w' ⟨⟨r,rfl,hr⟩,rfl⟩;have HR:=Hd hr;clear hr;go_wp2_with fail;go_ret;exact⟨Xad (Xha HR.out),rfl⟩
theorem Xqt(A T:Option Addr)(n c tt tc B:Nat)(l:List Int)(w:World)(hs:Sees w B A n (bv l))(hB:B≤w.heap.size)(hb:AllBytes l)(hn:n≤4000)(ht:tt≤100000) :
 Calls Tryz.prog 128 #[.slice A n c,.slice T tt tc] w fun e w'=>e=.returned (.bool (l.any (out6 tt)))∧Below w.heap.size w w':=by
 have hmf:∀(fn:Fn) (first cap:Array Value) (w:World),(Instr.makeFunc fn first cap).run Tryz.prog w=.ok (.func fn first cap) w:=fun _ _ _ _=>rfl
 have hb0:Below w.heap.size w (w.alloc (.cells #[.slice T tt tc] 34)):=(Br w.heap.size w).alloc (Lr _) _;have HB0:=Hd hb0;have hct:(w.alloc (.cells #[.slice T tt tc] 34)).cell? ⟨w.heap.size,0,none⟩=some (.slice T tt tc):=(Row.new w 34 [.slice T tt tc]).cell 0;have HC:=Hd (Xio A n c B w.heap.size tt tc T l _ (hs.below (hb0.mono hB)) hb hn hct);clear hb0 hct hs hb;go_enter Tryz.func128,Tryz.ntmps128
 go_wp2_with (go_at_call 143;refine HC.out.mono ?_;rintro e w' ⟨rfl,rfl⟩)
 go_ret;exact⟨rfl,HB0.out⟩
def pickK(l:List (List Int))(ix:List Int):List (List Int):=ix.map fun i=>l.getD i.toNat []
theorem Xgm{l:List (List Int)}{ix:List Int}{k:Nat}{z:Int}(h:ix[k]?=some z):pickK l (ix.take (k+1))=pickK l (ix.take k)++[l.getD z.toNat []]:=by
 unfold pickK;rw[List.take_add_one,h,List.map_append];rfl
theorem Xks{l:List (List Int)}{ix:List Int}(h:∀y ∈ l,y.length=32)(hi:ix.any (out6 l.length)=false)(hb:AllBytes ix):∀y ∈ pickK l ix,y.length=32:=by
 intro y hy;obtain⟨i,hi',rfl⟩:=List.mem_map.1 hy;have h1:out6 l.length i=false:=by
  cases e:out6 l.length i with
  | false=>rfl
  | true=>rw[List.any_eq_true.2 ⟨i,hi',e⟩]at hi;cases hi
 have h2:¬((l.length:Int)≤i):=by simpa [out6]using h1
 have h3:=(hb i hi').1;have h4:i.toNat<l.length:=by omega
 rw[List.getD_eq_getElem?_getD,List.getElem?_eq_getElem h4];exact h _ (List.getElem_mem h4)
def PickDone(w:World)(base:Nat)(v:Value)(n m:Nat)(xs:List Value)(ks:List (List Int))(e:Ending)(w':World):Prop:=
 ∃v',e=.returned v'∧w'.ownsRow base 78 32 v' (n+m) (xs++bv ks.flatten)∧Grew w w' v v'
theorem pick_(base B:Nat)(v:Value)(n:Nat)(xs:List Value)(A C:Option Addr)(tt tc k c:Nat)(l:List (List Int))(ix:List Int)(w:World)
 (hown:w.ownsRow base 78 32 v n xs) (hbase:base≤w.heap.size) (hl:KeysIn w B A tt l) (hx:Sees w B C k (bv ix)) (hB:B≤base) (hb:AllBytes ix) (hs:ix.any (out6 l.length)=false) (hn:n+k≤1000000) (ht:tt≤256) :
 Calls Tryz.prog 129 #[v,.slice A tt tc,.slice C k c] w (PickDone w base v n k xs (pickK l ix)):=by
 have hkl:ix.length=k:=by have:=hx.len;rwa [bL]at this
 have HKL:=Hd hkl;have HL:=Hd hl;have HLL:=Hd hl.len;have HX:=Hd hx;have HO:=Hd hown;have HS:=Hd hs;have HBY:=Hd hb;clear hown hl hx hs hb hkl;go_enter Tryz.func129,Tryz.ntmps129
 go_wp2_with fail;go_loopw [0,11] (fun u i wr=>∃j:Nat,j≤k∧i=.int .i64 j∧wr.ownsRow base 78 32 u (n+j) (xs++bv (pickK l (ix.take j)).flatten)∧Grew w wr v u) (fun u i _=>k - (intOf i).toNat)
 case atStart=>exact⟨0,Nat.zero_le _,rfl,by simpa [pickK,bv,cv]using HO.out,Grew.refl _ _⟩
 case round =>
  obtain⟨j,hj,rfl,hown,hgr⟩:=hrel;have HOW:=Hd hown;have HGR:=Hd hgr;have HSZ:=Hd hgr.size;by_cases hlt:j<k
  ·have hbl:=hgr.below HO.out hbase;have hbB:Below B w wr:=hbl.mono hB;obtain⟨a,rfl,hab,hca⟩:=(HX.out.below hbB).byte hlt;have hxz:=Xgl (l:=ix) (k:=j) (by rw[HKL.out];exact hlt);have hz:=HBY.out _ (List.mem_of_getElem? hxz);have HXZ:=Hd hxz;generalize ix.getD j 0=z at *;obtain⟨z0,z1⟩:=hz;have hst:¬((tt:Int)≤z):=by
    intro h;have:ix.any (out6 l.length)=true:=Xdw hxz (by rw[HLL.out];simpa [out6]using h);rw[HS.out]at this;cases this
   obtain⟨q,rfl⟩:∃q:Nat,z=q:=⟨z.toNat,by omega⟩;obtain⟨b,y,rfl,hbb,hy,hat⟩:=(HL.out.below hbB).get (k:=q) (by omega);have HCS:=Hd (show(bv y).length=32 by rw[bL,hat.len]);have HSX:=Hd (show(Tryz.prog.info? 78).map (·.size)=some (bv y).length by rw[bL,hat.len];exact Xab);have CA:Hid (∀j u,(bv y)[j]?=some u→wr.cell? ((b.add (q*32)).add j)=some u):=Hd hat.cells;have H1:=Hd (Xae y);have HNX:Hid (xs++bv (pickK l (ix.take (j+1))).flatten=(xs++bv (pickK l (ix.take j)).flatten)++bv y):=Hd (by
    rw[Xgm HXZ.out,show l.getD ((q:Nat):Int).toNat []=y by rw[List.getD_eq_getElem?_getD,show((q:Nat):Int).toNat=q from rfl,hy];rfl,List.flatten_append,Xbt];simp)
   clear hbl hbB hxz hy hat hown hgr;generalize hY:bv y=Y at *;generalize hZ:xs++bv (pickK l (ix.take j)).flatten=Z at *;clear hY hZ;go_wp2_with (first
    | ((with_reducible show wpList _ _ _ (⟨some 19,_,_,_,_,_⟩::_) _ _);go_must(refine Xa3 rfl 78 (.tmp 18) rfl (b.add (q*32)) Y _ Tryz.underlying78 rfl HSX.out CA.out ?_ ?_;go_simp))
    | (with_reducible show wpList _ _ _ (⟨some 20,_,_,_,_,_⟩::_) _ _;go_must(refine Xaa rfl 34 78 (.tmp 19) rfl Y _ 32 32 Tryz.underlying34 Xaj zsz6 (by omega) (by omega) HCS.out ?_ ?_;go_simp))
    | (at_builtin;go_must(refine Xag rfl (.tmp 15) (.tmp 20) 34 rfl base 78 _ 32 32 Tryz.underlying34 Xaj zsz6 (by omega) _ (n+j) Z Y 1 HCS.out H1.out rfl ?_ HOW.out ?_ (by have:=HSZ.out;omega) (by unfold maxLen;omega) (by omega) ?_;go_simp;go_simp;intro v4 w4 ho4 hg4;have HO4:=Hd ho4;have HG4:=Hd (HGR.out.trans hg4);clear ho4 hg4)))
   go_roundw
   case rel=>exact⟨j+1,by omega,by go_num,by rw[HNX.out];exact HO4.out,HG4.out⟩
   case measure=>simp[intOf];omega
  ·have hjk:j=k:=by omega
   have HD:Hid (PickDone w base v n k xs (pickK l ix) (.returned _) wr):=Hd ⟨_,rfl,by
    have:=HOW.out;rw[hjk,List.take_of_length_le (by rw[HKL.out];exact Lr _)]at this;exact this,HGR.out⟩
   clear hjk hown hgr;go_wp2_with fail;go_ret;exact HD.out
end Go.Proofs.YtdgbodljmdcagaaGreatDoor
