import Derived.Test.YtdgbodljmdcagaaGreatDoorQ8
import Derived.Laws.EntriesVeiled
import Derived.Deep.RegionHeld3
import Derived.Maps.OwnSet
import Derived.DeepKeys4
import Derived.WideKeyArr
set_option maxRecDepth 100000
set_option maxHeartbeats 16000000
set_option linter.unusedSimpArgs false
set_option linter.unusedVariables false
namespace Go.Proofs.YtdgbodljmdcagaaGreatDoor
open Go.RowKit
theorem Xx8{P:Program}{L:List Oper}{Q:Exit→Act→World→Prop}{md:Region.Mode}{S:World→Prop}{i j k:Nat}{o o' o'':Oper}{fuel:Nat}{listed:Array Bool}{a:Act}{w:World}(ho:L[i]?=some o)(ho':L[j]?=some o')(ho'':L[k]?=some o'')(hr:Region.ready md L.toArray listed=[i,j,k])
 (hw:Region.wanted o (yielded L.toArray a.tmps)=true) (hw':Region.wanted o' (yielded L.toArray a.tmps)=true) (hw'':Region.wanted o'' (yielded L.toArray a.tmps)=true)
 (h:∀K':Act→World→Prop,Shut (∀a w,S w→wpAnyH P md L.toArray Q S fuel (listed.setIfInBounds i true) a w→K' a w)→Oper.wp P o a w K' Q)
 (h':∀K':Act→World→Prop,Shut (∀a w,S w→wpAnyH P md L.toArray Q S fuel (listed.setIfInBounds j true) a w→K' a w)→Oper.wp P o' a w K' Q)
 (h'':∀K':Act→World→Prop,Shut (∀a w,S w→wpAnyH P md L.toArray Q S fuel (listed.setIfInBounds k true) a w→K' a w)→Oper.wp P o'' a w K' Q):wpAnyH P md L.toArray Q S (fuel+1) listed a w:=
 wpAnyH_ready hr (by simp) (allL ho hw h (allL ho' hw' h' (allL ho'' hw'' h'' AllReadyH.nil)))
structure Reg1(w0 w:World)(g3 g4 g1:Nat)(cs ms:List Value)(n:Nat):Prop where
 m:Row w g3 40 ms
 t:Row w g4 3 [.int .i64 n]
 tx:Row w g1 42 cs
 b:Below w0.heap.size w0 w
structure Made(w:World)(g1 g3 g4 g5 g6 g7:Nat)(s:TRaw)(x:LTx):Prop where
 tx:Row w g1 42 (s.cells x)
 m:Row w g3 40 (s.q.cells x.m)
 t:Row w g4 3 [.int .i64 (tot x.m:Nat)]
 s:Row w g5 3 [.int .i64 x.m.s]
 r:Row w g6 3 [.int .i64 x.m.r]
 o:Row w g7 3 [.int .i64 x.m.o]
theorem Made.below{w w':World}{g1 g3 g4 g5 g6 g7:Nat}{s:TRaw}{x:LTx}(h:Made w g1 g3 g4 g5 g6 g7 s x)(hb:Below w.heap.size w w'):Made w' g1 g3 g4 g5 g6 g7 s x:=
 ⟨h.tx.below hb h.tx.lt,h.m.below hb h.m.lt,h.t.below hb h.t.lt,h.s.below hb h.s.lt,h.r.below hb h.r.lt,h.o.below hb h.o.lt⟩
def ruleCells(g1 g3 g4 g5 g6 g7:Nat):List Value:=
 [.int .i64 6,.func (.func 107) #[] #[.pointer (some ⟨g5,0,none⟩),.pointer (some ⟨g1,0,none⟩)],
  .int .i64 7,.func (.func 108) #[] #[.pointer (some ⟨g6,0,none⟩),.pointer (some ⟨g5,0,none⟩),.pointer (some ⟨g7,0,none⟩),.pointer (some ⟨g3,0,none⟩)],
  .int .i64 10,.func (.func 109) #[] #[.pointer (some ⟨g3,0,none⟩)],
  .int .i64 3,.func (.func 112) #[] #[.pointer (some ⟨g4,0,none⟩)],
  .int .i64 8,.func (.func 113) #[] #[.pointer (some ⟨g3,0,none⟩),.pointer (some ⟨g4,0,none⟩)],
  .int .i64 9,.func (.func 117) #[] #[.pointer (some ⟨g3,0,none⟩)]]
def RulesOfDone(w:World)(s:TRaw)(x:LTx)(e:Ending)(w':World):Prop:=
 ∃g g1 g3 g4 g5 g6 g7,e=.returned (.slice (some ⟨g,0,none⟩) 6 6)∧Row w' g 122 (ruleCells g1 g3 g4 g5 g6 g7)∧Made w' g1 g3 g4 g5 g6 g7 s x∧Below w.heap.size w w'
theorem Xtw(s:TRaw)(x:LTx)(B:Nat)(w:World)(hm:TxIn w B s x)(hB:B≤w.heap.size)(hs:Small x.m)(hw:x.m.Wf) :
 Calls Tryz.prog 67 #[.agg (s.cells x).toArray] w (RulesOfDone w s x):=by
 have hmf:∀(fn:Fn) (first cap:Array Value) (w:World),(Instr.makeFunc fn first cap).run Tryz.prog w=.ok (.func fn first cap) w:=fun _ _ _ _=>rfl
 have HT:=Hd (fun(V:World) (h:TxIn V B s x) (hz:B≤V.heap.size)=>total_ s x B V h hz hs);have HTS:=Hd (show(Tryz.prog.info? 42).map (·.size)=some (s.cells x).length by rw[Xba,Xac hm.m.recent]);have HSM:=Hd (show(Tryz.prog.info? 40).map (·.size)=some (s.q.cells x.m).length by rw[Xat,Xaq hm.m.recent]);have H39:=Hd (show(s.q.cells x.m).length=39 from Xaq hm.m.recent);have HONE:=Hd (Xcz (q:=s.q) (m:=x.m));have HCM:=Hd (Xc1 (s:=s) (x:=x));have hrow:=Row.new w 42 (s.cells x);have hb0:=(Br w.heap.size w).alloc (Lr _) (.cells (s.cells x).toArray 42);have HM0:=Hd (hm.below (hb0.mono hB));have HZ0:Hid ((w.alloc (.cells (s.cells x).toArray 42)).heap.size=w.heap.size+1):=Hd (by simp);have C1:=Hd (Xjr (q:=s.q) (m:=x.m));have C2:=Hd (Xjm (q:=s.q) (m:=x.m));have C3:=Hd (Xka (q:=s.q) (m:=x.m));have HS:=Hd (show 0≤x.m.s∧x.m.s<256 from hw.s);have HR:=Hd (show 0≤x.m.r∧x.m.r<256 from hw.r);have HO:=Hd (show 0≤x.m.o∧x.m.o<256 from hw.o);have HD:Hid (∀g g1 g3 g4 g5 g6 g7 (w':World),Row w' g 122 (ruleCells g1 g3 g4 g5 g6 g7)→Row w' g1 42 (s.cells x)→Row w' g3 40 (s.q.cells x.m)→Row w' g4 3 [.int .i64 (tot x.m:Nat)]→Row w' g5 3 [.int .i64 x.m.s]→Row w' g6 3 [.int .i64 x.m.r]→Row w' g7 3 [.int .i64 x.m.o]→Below w.heap.size w w'→RulesOfDone w s x (.returned (.slice (some ⟨g,0,none⟩) 6 6)) w'):=
  Hd fun g g1 g3 g4 g5 g6 g7 w' a b c d e f h i=>⟨g,g1,g3,g4,g5,g6,g7,rfl,a,⟨b,c,d,e,f,h⟩,i⟩
 generalize RulesOfDone w s x=RD at *;generalize s.cells x=cs at *;generalize s.q.cells x.m=ms at *;generalize x.m.s=ss at *;generalize x.m.r=rr at *;generalize x.m.o=oo at *;have HROW:=Hd hrow;have HB0:=Hd hb0;clear hrow hb0 hm hs hw;go_enter Tryz.func67,Tryz.ntmps67
 go_upto_region 1 with fail
 generalize w.alloc (.cells cs.toArray 42)=W0 at *;go_cut [3,4] (fun s3 s4 wx=>∃g3 g4:Nat,s3=.pointer (some ⟨g3,0,none⟩)∧s4=.pointer (some ⟨g4,0,none⟩)∧Reg1 W0 wx g3 g4 w.heap.size cs ms (tot x.m))
 case first =>
  have HSS:Hid (∀V:World,Row V w.heap.size 42 cs→V.rangeAt w.heap.size 0 cs∧V.rangeAt w.heap.size 1 ms):=Hd fun V h=>⟨fun j u hu=>by rw[h.cell,Nat.zero_add];exact hu,fun j u hu=>by rw[h.cell,HCM.out];exact hu⟩
  have HD0:=Hd (HROW.out.drew);have BD0:Hid (Below W0.heap.size W0 W0.drew):=Hd ((Br _ _).drew);have MD0:Hid (TxIn W0.drew B s x):=Hd (HM0.out.keep fun p hp=>rfl);refine wp_region_held_drew (S:=(fun V=>V.rangeAt w.heap.size 0 cs∧V.rangeAt w.heap.size 1 ms)) (by kernel_rfl) (HSS.out _ HD0.out) (fun _=>?_);have HS0:=Hd (HSS.out _ HD0.out);generalize W0.drew=V0 at *;refine Tk 0 rfl ?_ HS0.out ?_ ⟨?_,rfl⟩
  ·intro w hw;(try dsimp only at hw);go_simp;try with_reducible rfl
  try simp only[nm]
  refine Tl 1 (v:=.agg (ms).toArray) rfl (yieldsIf_load_mid (by kernel_rfl) 40 (.tmp 8) rfl w.heap.size 1 (by go_simp) (ms) _ (fun w hw=>hw.2) Tryz.underlying40 rfl HSM.out) HS0.out ?_;try simp only[nm]
  refine Tl 2 (v:=.agg (cs).toArray) rfl (yieldsIf_load_mid (by kernel_rfl) 42 (.tmp 1) rfl w.heap.size 0 (by go_simp) (cs) _ (fun w hw=>hw.1) Tryz.underlying42 rfl HTS.out) HS0.out ?_;try simp only[nm]
  refine Xx8 (i:=3) (j:=4) (k:=5) rfl rfl rfl (by kernel_rfl) (by kernel_rfl) (by kernel_rfl) (by kernel_rfl) (fun K hK=>?_) (fun K hK=>?_) (fun K hK=>?_)
  ·go_simp;refine(HT.out V0 MD0.out (Lq hB (Lq HB0.out.size BD0.out.size))).mono ?_;rintro e V1 ⟨rfl,hb⟩;simp only[];have HD1:=Hd (HD0.out.below hb HD0.out.lt);have BD1:=Hd (BD0.out.trans (hb.mono BD0.out.size));have MD1:=Hd (MD0.out.below (hb.mono (Lq hB (Lq HB0.out.size BD0.out.size))));clear hb;have HS1:=Hd (HSS.out _ HD1.out);refine hK.out _ _ HS1.out ?_;clear hK K;try simp only[nm]
   refine Xc8 (i:=4) (j:=5) rfl rfl (by kernel_rfl) (by kernel_rfl) (by kernel_rfl) (fun K hK=>?_) (fun K hK=>?_)
   ·have GEN1:=Hd (BD1.out.size);go_simp;have hb:=(Br V1.heap.size V1).alloc (Lr _) (.cells (mzero:List Value).toArray 40);have HD2:=Hd (HD1.out.below hb HD1.out.lt);have BD2:=Hd (BD1.out.trans (hb.mono BD1.out.size));have MD2:=Hd (MD1.out.below (hb.mono (Lq hB (Lq HB0.out.size BD1.out.size))));have A3:=Hd (Row.new V1 40 (mzero:List Value));clear hb;have hX:∀c,c=(mzero:List Value).toArray→V1.alloc (.cells c 40)=V1.alloc (.cells (mzero:List Value).toArray 40):=by rintro _ rfl;rfl
    rw[hX];rotate_left
    ·kernel_rfl
    clear hX;generalize V1.alloc (.cells (mzero:List Value).toArray 40)=V2 at *;generalize V1.heap.size=h1 at *;have HS2:=Hd (HSS.out _ HD2.out);have GE3:=Hd (show W0.heap.size≤h1 from GEN1.out);clear GEN1;refine hK.out _ _ HS2.out ?_;clear hK K;try simp only[nm]
    refine Rl 5 rfl fun K hK=>?_
    have GEN2:=Hd (BD2.out.size);go_simp;have hb:=(Br V2.heap.size V2).alloc (Lr _) (.cells ([.int .i64 0]:List Value).toArray 3);have HD3:=Hd (HD2.out.below hb HD2.out.lt);have BD3:=Hd (BD2.out.trans (hb.mono BD2.out.size));have MD3:=Hd (MD2.out.below (hb.mono (Lq hB (Lq HB0.out.size BD2.out.size))));have A3:=Hd (A3.out.below hb A3.out.lt);have A4:=Hd (Row.new V2 3 ([.int .i64 0]:List Value));clear hb;try rw[show(#[Value.int .i64 0]:Array Value)=([.int .i64 0]:List Value).toArray from rfl]
    generalize V2.alloc (.cells ([.int .i64 0]:List Value).toArray 3)=V3 at *;generalize V2.heap.size=h2 at *;have HS3:=Hd (HSS.out _ HD3.out);have GE4:=Hd (show W0.heap.size≤h2 from GEN2.out);clear GEN2;refine hK.out _ _ HS3.out ?_;clear hK K;try simp only[nm]
    refine Rl 6 rfl fun K hK=>?_
    refine Xbo 40 (.tmp 3) (.tmp 9) rfl h1 40 0 mzero ms A3.out HSM.out (by rw[H39.out];exact Lr _) HONE.out ?_ ?_ ?_
    ·go_simp
    ·go_simp
    intro V6 hr6 ht6;have e6:mzero.take 0++ms++mzero.drop (0+ms.length)=ms:=by rw[List.drop_of_length_le (by rw[H39.out];exact Lr _)];simp
    rw[e6]at hr6;clear e6;have A36:=Hd hr6;have hne:h1≠h2:=by
     intro e;have h1:=A3.out.is;have h2:=A4.out.is;rw[e]at h1;rw[h1]at h2;injection (Option.some.inj h2)with _ h3 _
     cases h3
    have hn1:w.heap.size≠h1:=by
     intro e;have h1:=A3.out.is;have h2:=HD3.out.is;rw[e]at h2;rw[h1]at h2;injection (Option.some.inj h2)with _ h3 _
     cases h3
    have hn2:w.heap.size≠h2:=by
     intro e;have h1:=A4.out.is;have h2:=HD3.out.is;rw[e]at h2;rw[h1]at h2;injection (Option.some.inj h2)with _ h3 _
     cases h3
    have A46:=Hd (ht6.row A4.out (Ne.symm hne));have HD6:=Hd (ht6.row HD3.out hn1);have BD6:=Hd (BD3.out.trans (ht6.below GE3.out));have HSX:=Hd (HSS.out _ HD6.out);clear hr6 ht6;refine hK.out _ _ HSX.out ?_;clear hK K;try simp only[Act.put]
    have c4:=A46.out.cell 0;have c4:V6.cell? ⟨h2,0,none⟩=some (.int .i64 0):=c4;have f4:=A46.out.frozen 0;refine Rl 7 rfl fun K hK=>?_
    go_simp;have HD7:=Hd (HD6.out.far (p:=⟨h2,0,none⟩) hn2 (.int .i64 (tot x.m:Nat)));have HSY:=Hd (HSS.out _ HD7.out);refine hK.out _ _ HSY.out ?_;clear hK K;try simp only[nm]
    refine wpAnyH_done (by kernel_rfl) ?_ _;go_wp2_with fail;go_meet
    exact⟨h1,h2,rfl,rfl,⟨A36.out.far (p:=⟨h2,0,none⟩) hne _,A46.out.set_ 0 _,HD7.out,BD6.out.setCell GE4.out _⟩⟩
   ·have GEN1:=Hd (BD1.out.size);go_simp;have hb:=(Br V1.heap.size V1).alloc (Lr _) (.cells ([.int .i64 0]:List Value).toArray 3);have HD2:=Hd (HD1.out.below hb HD1.out.lt);have BD2:=Hd (BD1.out.trans (hb.mono BD1.out.size));have MD2:=Hd (MD1.out.below (hb.mono (Lq hB (Lq HB0.out.size BD1.out.size))));have A4:=Hd (Row.new V1 3 ([.int .i64 0]:List Value));clear hb;try rw[show(#[Value.int .i64 0]:Array Value)=([.int .i64 0]:List Value).toArray from rfl]
    generalize V1.alloc (.cells ([.int .i64 0]:List Value).toArray 3)=V2 at *;generalize V1.heap.size=h1 at *;have HS2:=Hd (HSS.out _ HD2.out);have GE4:=Hd (show W0.heap.size≤h1 from GEN1.out);clear GEN1;refine hK.out _ _ HS2.out ?_;clear hK K;try simp only[nm]
    refine Rl 4 rfl fun K hK=>?_
    have GEN2:=Hd (BD2.out.size);go_simp;have hb:=(Br V2.heap.size V2).alloc (Lr _) (.cells (mzero:List Value).toArray 40);have HD3:=Hd (HD2.out.below hb HD2.out.lt);have BD3:=Hd (BD2.out.trans (hb.mono BD2.out.size));have MD3:=Hd (MD2.out.below (hb.mono (Lq hB (Lq HB0.out.size BD2.out.size))));have A4:=Hd (A4.out.below hb A4.out.lt);have A3:=Hd (Row.new V2 40 (mzero:List Value));clear hb;have hX:∀c,c=(mzero:List Value).toArray→V2.alloc (.cells c 40)=V2.alloc (.cells (mzero:List Value).toArray 40):=by rintro _ rfl;rfl
    rw[hX];rotate_left
    ·kernel_rfl
    clear hX;generalize V2.alloc (.cells (mzero:List Value).toArray 40)=V3 at *;generalize V2.heap.size=h2 at *;have HS3:=Hd (HSS.out _ HD3.out);have GE3:=Hd (show W0.heap.size≤h2 from GEN2.out);clear GEN2;refine hK.out _ _ HS3.out ?_;clear hK K;try simp only[nm]
    refine Rl 6 rfl fun K hK=>?_
    refine Xbo 40 (.tmp 3) (.tmp 9) rfl h2 40 0 mzero ms A3.out HSM.out (by rw[H39.out];exact Lr _) HONE.out ?_ ?_ ?_
    ·go_simp
    ·go_simp
    intro V6 hr6 ht6;have e6:mzero.take 0++ms++mzero.drop (0+ms.length)=ms:=by rw[List.drop_of_length_le (by rw[H39.out];exact Lr _)];simp
    rw[e6]at hr6;clear e6;have A36:=Hd hr6;have hne:h2≠h1:=by
     intro e;have h1:=A3.out.is;have h2:=A4.out.is;rw[e]at h1;rw[h1]at h2;injection (Option.some.inj h2)with _ h3 _
     cases h3
    have hn1:w.heap.size≠h2:=by
     intro e;have h1:=A3.out.is;have h2:=HD3.out.is;rw[e]at h2;rw[h1]at h2;injection (Option.some.inj h2)with _ h3 _
     cases h3
    have hn2:w.heap.size≠h1:=by
     intro e;have h1:=A4.out.is;have h2:=HD3.out.is;rw[e]at h2;rw[h1]at h2;injection (Option.some.inj h2)with _ h3 _
     cases h3
    have A46:=Hd (ht6.row A4.out (Ne.symm hne));have HD6:=Hd (ht6.row HD3.out hn1);have BD6:=Hd (BD3.out.trans (ht6.below GE3.out));have HSX:=Hd (HSS.out _ HD6.out);clear hr6 ht6;refine hK.out _ _ HSX.out ?_;clear hK K;try simp only[Act.put]
    have c4:=A46.out.cell 0;have c4:V6.cell? ⟨h1,0,none⟩=some (.int .i64 0):=c4;have f4:=A46.out.frozen 0;refine Rl 7 rfl fun K hK=>?_
    go_simp;have HD7:=Hd (HD6.out.far (p:=⟨h1,0,none⟩) hn2 (.int .i64 (tot x.m:Nat)));have HSY:=Hd (HSS.out _ HD7.out);refine hK.out _ _ HSY.out ?_;clear hK K;try simp only[nm]
    refine wpAnyH_done (by kernel_rfl) ?_ _;go_wp2_with fail;go_meet
    exact⟨h2,h1,rfl,rfl,⟨A36.out.far (p:=⟨h1,0,none⟩) hne _,A46.out.set_ 0 _,HD7.out,BD6.out.setCell GE4.out _⟩⟩
  ·have GEN0:=Hd (BD0.out.size);go_simp;have hb:=(Br V0.heap.size V0).alloc (Lr _) (.cells (mzero:List Value).toArray 40);have HD1:=Hd (HD0.out.below hb HD0.out.lt);have BD1:=Hd (BD0.out.trans (hb.mono BD0.out.size));have MD1:=Hd (MD0.out.below (hb.mono (Lq hB (Lq HB0.out.size BD0.out.size))));have A3:=Hd (Row.new V0 40 (mzero:List Value));clear hb;have hX:∀c,c=(mzero:List Value).toArray→V0.alloc (.cells c 40)=V0.alloc (.cells (mzero:List Value).toArray 40):=by rintro _ rfl;rfl
   rw[hX];rotate_left
   ·kernel_rfl
   clear hX;generalize V0.alloc (.cells (mzero:List Value).toArray 40)=V1 at *;generalize V0.heap.size=h0 at *;have HS1:=Hd (HSS.out _ HD1.out);have GE3:=Hd (show W0.heap.size≤h0 from GEN0.out);clear GEN0;refine hK.out _ _ HS1.out ?_;clear hK K;try simp only[nm]
   refine Xc8 (i:=3) (j:=5) rfl rfl (by kernel_rfl) (by kernel_rfl) (by kernel_rfl) (fun K hK=>?_) (fun K hK=>?_)
   ·go_simp;refine(HT.out V1 MD1.out (Lq hB (Lq HB0.out.size BD1.out.size))).mono ?_;rintro e V2 ⟨rfl,hb⟩;simp only[];have HD2:=Hd (HD1.out.below hb HD1.out.lt);have BD2:=Hd (BD1.out.trans (hb.mono BD1.out.size));have MD2:=Hd (MD1.out.below (hb.mono (Lq hB (Lq HB0.out.size BD1.out.size))));have A3:=Hd (A3.out.below hb A3.out.lt);clear hb;have HS2:=Hd (HSS.out _ HD2.out);refine hK.out _ _ HS2.out ?_;clear hK K;try simp only[nm]
    refine Rl 5 rfl fun K hK=>?_
    have GEN2:=Hd (BD2.out.size);go_simp;have hb:=(Br V2.heap.size V2).alloc (Lr _) (.cells ([.int .i64 0]:List Value).toArray 3);have HD3:=Hd (HD2.out.below hb HD2.out.lt);have BD3:=Hd (BD2.out.trans (hb.mono BD2.out.size));have MD3:=Hd (MD2.out.below (hb.mono (Lq hB (Lq HB0.out.size BD2.out.size))));have A3:=Hd (A3.out.below hb A3.out.lt);have A4:=Hd (Row.new V2 3 ([.int .i64 0]:List Value));clear hb;try rw[show(#[Value.int .i64 0]:Array Value)=([.int .i64 0]:List Value).toArray from rfl]
    generalize V2.alloc (.cells ([.int .i64 0]:List Value).toArray 3)=V3 at *;generalize V2.heap.size=h2 at *;have HS3:=Hd (HSS.out _ HD3.out);have GE4:=Hd (show W0.heap.size≤h2 from GEN2.out);clear GEN2;refine hK.out _ _ HS3.out ?_;clear hK K;try simp only[nm]
    refine Rl 6 rfl fun K hK=>?_
    refine Xbo 40 (.tmp 3) (.tmp 9) rfl h0 40 0 mzero ms A3.out HSM.out (by rw[H39.out];exact Lr _) HONE.out ?_ ?_ ?_
    ·go_simp
    ·go_simp
    intro V6 hr6 ht6;have e6:mzero.take 0++ms++mzero.drop (0+ms.length)=ms:=by rw[List.drop_of_length_le (by rw[H39.out];exact Lr _)];simp
    rw[e6]at hr6;clear e6;have A36:=Hd hr6;have hne:h0≠h2:=by
     intro e;have h1:=A3.out.is;have h2:=A4.out.is;rw[e]at h1;rw[h1]at h2;injection (Option.some.inj h2)with _ h3 _
     cases h3
    have hn1:w.heap.size≠h0:=by
     intro e;have h1:=A3.out.is;have h2:=HD3.out.is;rw[e]at h2;rw[h1]at h2;injection (Option.some.inj h2)with _ h3 _
     cases h3
    have hn2:w.heap.size≠h2:=by
     intro e;have h1:=A4.out.is;have h2:=HD3.out.is;rw[e]at h2;rw[h1]at h2;injection (Option.some.inj h2)with _ h3 _
     cases h3
    have A46:=Hd (ht6.row A4.out (Ne.symm hne));have HD6:=Hd (ht6.row HD3.out hn1);have BD6:=Hd (BD3.out.trans (ht6.below GE3.out));have HSX:=Hd (HSS.out _ HD6.out);clear hr6 ht6;refine hK.out _ _ HSX.out ?_;clear hK K;try simp only[Act.put]
    have c4:=A46.out.cell 0;have c4:V6.cell? ⟨h2,0,none⟩=some (.int .i64 0):=c4;have f4:=A46.out.frozen 0;refine Rl 7 rfl fun K hK=>?_
    go_simp;have HD7:=Hd (HD6.out.far (p:=⟨h2,0,none⟩) hn2 (.int .i64 (tot x.m:Nat)));have HSY:=Hd (HSS.out _ HD7.out);refine hK.out _ _ HSY.out ?_;clear hK K;try simp only[nm]
    refine wpAnyH_done (by kernel_rfl) ?_ _;go_wp2_with fail;go_meet
    exact⟨h0,h2,rfl,rfl,⟨A36.out.far (p:=⟨h2,0,none⟩) hne _,A46.out.set_ 0 _,HD7.out,BD6.out.setCell GE4.out _⟩⟩
   ·have GEN1:=Hd (BD1.out.size);go_simp;have hb:=(Br V1.heap.size V1).alloc (Lr _) (.cells ([.int .i64 0]:List Value).toArray 3);have HD2:=Hd (HD1.out.below hb HD1.out.lt);have BD2:=Hd (BD1.out.trans (hb.mono BD1.out.size));have MD2:=Hd (MD1.out.below (hb.mono (Lq hB (Lq HB0.out.size BD1.out.size))));have A3:=Hd (A3.out.below hb A3.out.lt);have A4:=Hd (Row.new V1 3 ([.int .i64 0]:List Value));clear hb;try rw[show(#[Value.int .i64 0]:Array Value)=([.int .i64 0]:List Value).toArray from rfl]
    generalize V1.alloc (.cells ([.int .i64 0]:List Value).toArray 3)=V2 at *;generalize V1.heap.size=h1 at *;have HS2:=Hd (HSS.out _ HD2.out);have GE4:=Hd (show W0.heap.size≤h1 from GEN1.out);clear GEN1;refine hK.out _ _ HS2.out ?_;clear hK K;try simp only[nm]
    refine Rl 3 rfl fun K hK=>?_
    go_simp;refine(HT.out V2 MD2.out (Lq hB (Lq HB0.out.size BD2.out.size))).mono ?_;rintro e V3 ⟨rfl,hb⟩;simp only[];have HD3:=Hd (HD2.out.below hb HD2.out.lt);have BD3:=Hd (BD2.out.trans (hb.mono BD2.out.size));have MD3:=Hd (MD2.out.below (hb.mono (Lq hB (Lq HB0.out.size BD2.out.size))));have A3:=Hd (A3.out.below hb A3.out.lt);have A4:=Hd (A4.out.below hb A4.out.lt);clear hb;have HS3:=Hd (HSS.out _ HD3.out);refine hK.out _ _ HS3.out ?_;clear hK K;try simp only[nm]
    refine Rl 6 rfl fun K hK=>?_
    refine Xbo 40 (.tmp 3) (.tmp 9) rfl h0 40 0 mzero ms A3.out HSM.out (by rw[H39.out];exact Lr _) HONE.out ?_ ?_ ?_
    ·go_simp
    ·go_simp
    intro V6 hr6 ht6;have e6:mzero.take 0++ms++mzero.drop (0+ms.length)=ms:=by rw[List.drop_of_length_le (by rw[H39.out];exact Lr _)];simp
    rw[e6]at hr6;clear e6;have A36:=Hd hr6;have hne:h0≠h1:=by
     intro e;have h1:=A3.out.is;have h2:=A4.out.is;rw[e]at h1;rw[h1]at h2;injection (Option.some.inj h2)with _ h3 _
     cases h3
    have hn1:w.heap.size≠h0:=by
     intro e;have h1:=A3.out.is;have h2:=HD3.out.is;rw[e]at h2;rw[h1]at h2;injection (Option.some.inj h2)with _ h3 _
     cases h3
    have hn2:w.heap.size≠h1:=by
     intro e;have h1:=A4.out.is;have h2:=HD3.out.is;rw[e]at h2;rw[h1]at h2;injection (Option.some.inj h2)with _ h3 _
     cases h3
    have A46:=Hd (ht6.row A4.out (Ne.symm hne));have HD6:=Hd (ht6.row HD3.out hn1);have BD6:=Hd (BD3.out.trans (ht6.below GE3.out));have HSX:=Hd (HSS.out _ HD6.out);clear hr6 ht6;refine hK.out _ _ HSX.out ?_;clear hK K;try simp only[Act.put]
    have c4:=A46.out.cell 0;have c4:V6.cell? ⟨h1,0,none⟩=some (.int .i64 0):=c4;have f4:=A46.out.frozen 0;refine Rl 7 rfl fun K hK=>?_
    go_simp;have HD7:=Hd (HD6.out.far (p:=⟨h1,0,none⟩) hn2 (.int .i64 (tot x.m:Nat)));have HSY:=Hd (HSS.out _ HD7.out);refine hK.out _ _ HSY.out ?_;clear hK K;try simp only[nm]
    refine wpAnyH_done (by kernel_rfl) ?_ _;go_wp2_with fail;go_meet
    exact⟨h0,h1,rfl,rfl,⟨A36.out.far (p:=⟨h1,0,none⟩) hne _,A46.out.set_ 0 _,HD7.out,BD6.out.setCell GE4.out _⟩⟩
  ·have GEN0:=Hd (BD0.out.size);go_simp;have hb:=(Br V0.heap.size V0).alloc (Lr _) (.cells ([.int .i64 0]:List Value).toArray 3);have HD1:=Hd (HD0.out.below hb HD0.out.lt);have BD1:=Hd (BD0.out.trans (hb.mono BD0.out.size));have MD1:=Hd (MD0.out.below (hb.mono (Lq hB (Lq HB0.out.size BD0.out.size))));have A4:=Hd (Row.new V0 3 ([.int .i64 0]:List Value));clear hb;try rw[show(#[Value.int .i64 0]:Array Value)=([.int .i64 0]:List Value).toArray from rfl]
   generalize V0.alloc (.cells ([.int .i64 0]:List Value).toArray 3)=V1 at *;generalize V0.heap.size=h0 at *;have HS1:=Hd (HSS.out _ HD1.out);have GE4:=Hd (show W0.heap.size≤h0 from GEN0.out);clear GEN0;refine hK.out _ _ HS1.out ?_;clear hK K;try simp only[nm]
   refine Xc8 (i:=3) (j:=4) rfl rfl (by kernel_rfl) (by kernel_rfl) (by kernel_rfl) (fun K hK=>?_) (fun K hK=>?_)
   ·go_simp;refine(HT.out V1 MD1.out (Lq hB (Lq HB0.out.size BD1.out.size))).mono ?_;rintro e V2 ⟨rfl,hb⟩;simp only[];have HD2:=Hd (HD1.out.below hb HD1.out.lt);have BD2:=Hd (BD1.out.trans (hb.mono BD1.out.size));have MD2:=Hd (MD1.out.below (hb.mono (Lq hB (Lq HB0.out.size BD1.out.size))));have A4:=Hd (A4.out.below hb A4.out.lt);clear hb;have HS2:=Hd (HSS.out _ HD2.out);refine hK.out _ _ HS2.out ?_;clear hK K;try simp only[nm]
    refine Rl 4 rfl fun K hK=>?_
    have GEN2:=Hd (BD2.out.size);go_simp;have hb:=(Br V2.heap.size V2).alloc (Lr _) (.cells (mzero:List Value).toArray 40);have HD3:=Hd (HD2.out.below hb HD2.out.lt);have BD3:=Hd (BD2.out.trans (hb.mono BD2.out.size));have MD3:=Hd (MD2.out.below (hb.mono (Lq hB (Lq HB0.out.size BD2.out.size))));have A4:=Hd (A4.out.below hb A4.out.lt);have A3:=Hd (Row.new V2 40 (mzero:List Value));clear hb;have hX:∀c,c=(mzero:List Value).toArray→V2.alloc (.cells c 40)=V2.alloc (.cells (mzero:List Value).toArray 40):=by rintro _ rfl;rfl
    rw[hX];rotate_left
    ·kernel_rfl
    clear hX;generalize V2.alloc (.cells (mzero:List Value).toArray 40)=V3 at *;generalize V2.heap.size=h2 at *;have HS3:=Hd (HSS.out _ HD3.out);have GE3:=Hd (show W0.heap.size≤h2 from GEN2.out);clear GEN2;refine hK.out _ _ HS3.out ?_;clear hK K;try simp only[nm]
    refine Rl 6 rfl fun K hK=>?_
    refine Xbo 40 (.tmp 3) (.tmp 9) rfl h2 40 0 mzero ms A3.out HSM.out (by rw[H39.out];exact Lr _) HONE.out ?_ ?_ ?_
    ·go_simp
    ·go_simp
    intro V6 hr6 ht6;have e6:mzero.take 0++ms++mzero.drop (0+ms.length)=ms:=by rw[List.drop_of_length_le (by rw[H39.out];exact Lr _)];simp
    rw[e6]at hr6;clear e6;have A36:=Hd hr6;have hne:h2≠h0:=by
     intro e;have h1:=A3.out.is;have h2:=A4.out.is;rw[e]at h1;rw[h1]at h2;injection (Option.some.inj h2)with _ h3 _
     cases h3
    have hn1:w.heap.size≠h2:=by
     intro e;have h1:=A3.out.is;have h2:=HD3.out.is;rw[e]at h2;rw[h1]at h2;injection (Option.some.inj h2)with _ h3 _
     cases h3
    have hn2:w.heap.size≠h0:=by
     intro e;have h1:=A4.out.is;have h2:=HD3.out.is;rw[e]at h2;rw[h1]at h2;injection (Option.some.inj h2)with _ h3 _
     cases h3
    have A46:=Hd (ht6.row A4.out (Ne.symm hne));have HD6:=Hd (ht6.row HD3.out hn1);have BD6:=Hd (BD3.out.trans (ht6.below GE3.out));have HSX:=Hd (HSS.out _ HD6.out);clear hr6 ht6;refine hK.out _ _ HSX.out ?_;clear hK K;try simp only[Act.put]
    have c4:=A46.out.cell 0;have c4:V6.cell? ⟨h0,0,none⟩=some (.int .i64 0):=c4;have f4:=A46.out.frozen 0;refine Rl 7 rfl fun K hK=>?_
    go_simp;have HD7:=Hd (HD6.out.far (p:=⟨h0,0,none⟩) hn2 (.int .i64 (tot x.m:Nat)));have HSY:=Hd (HSS.out _ HD7.out);refine hK.out _ _ HSY.out ?_;clear hK K;try simp only[nm]
    refine wpAnyH_done (by kernel_rfl) ?_ _;go_wp2_with fail;go_meet
    exact⟨h2,h0,rfl,rfl,⟨A36.out.far (p:=⟨h0,0,none⟩) hne _,A46.out.set_ 0 _,HD7.out,BD6.out.setCell GE4.out _⟩⟩
   ·have GEN1:=Hd (BD1.out.size);go_simp;have hb:=(Br V1.heap.size V1).alloc (Lr _) (.cells (mzero:List Value).toArray 40);have HD2:=Hd (HD1.out.below hb HD1.out.lt);have BD2:=Hd (BD1.out.trans (hb.mono BD1.out.size));have MD2:=Hd (MD1.out.below (hb.mono (Lq hB (Lq HB0.out.size BD1.out.size))));have A4:=Hd (A4.out.below hb A4.out.lt);have A3:=Hd (Row.new V1 40 (mzero:List Value));clear hb;have hX:∀c,c=(mzero:List Value).toArray→V1.alloc (.cells c 40)=V1.alloc (.cells (mzero:List Value).toArray 40):=by rintro _ rfl;rfl
    rw[hX];rotate_left
    ·kernel_rfl
    clear hX;generalize V1.alloc (.cells (mzero:List Value).toArray 40)=V2 at *;generalize V1.heap.size=h1 at *;have HS2:=Hd (HSS.out _ HD2.out);have GE3:=Hd (show W0.heap.size≤h1 from GEN1.out);clear GEN1;refine hK.out _ _ HS2.out ?_;clear hK K;try simp only[nm]
    refine Rl 3 rfl fun K hK=>?_
    go_simp;refine(HT.out V2 MD2.out (Lq hB (Lq HB0.out.size BD2.out.size))).mono ?_;rintro e V3 ⟨rfl,hb⟩;simp only[];have HD3:=Hd (HD2.out.below hb HD2.out.lt);have BD3:=Hd (BD2.out.trans (hb.mono BD2.out.size));have MD3:=Hd (MD2.out.below (hb.mono (Lq hB (Lq HB0.out.size BD2.out.size))));have A3:=Hd (A3.out.below hb A3.out.lt);have A4:=Hd (A4.out.below hb A4.out.lt);clear hb;have HS3:=Hd (HSS.out _ HD3.out);refine hK.out _ _ HS3.out ?_;clear hK K;try simp only[nm]
    refine Rl 6 rfl fun K hK=>?_
    refine Xbo 40 (.tmp 3) (.tmp 9) rfl h1 40 0 mzero ms A3.out HSM.out (by rw[H39.out];exact Lr _) HONE.out ?_ ?_ ?_
    ·go_simp
    ·go_simp
    intro V6 hr6 ht6;have e6:mzero.take 0++ms++mzero.drop (0+ms.length)=ms:=by rw[List.drop_of_length_le (by rw[H39.out];exact Lr _)];simp
    rw[e6]at hr6;clear e6;have A36:=Hd hr6;have hne:h1≠h0:=by
     intro e;have h1:=A3.out.is;have h2:=A4.out.is;rw[e]at h1;rw[h1]at h2;injection (Option.some.inj h2)with _ h3 _
     cases h3
    have hn1:w.heap.size≠h1:=by
     intro e;have h1:=A3.out.is;have h2:=HD3.out.is;rw[e]at h2;rw[h1]at h2;injection (Option.some.inj h2)with _ h3 _
     cases h3
    have hn2:w.heap.size≠h0:=by
     intro e;have h1:=A4.out.is;have h2:=HD3.out.is;rw[e]at h2;rw[h1]at h2;injection (Option.some.inj h2)with _ h3 _
     cases h3
    have A46:=Hd (ht6.row A4.out (Ne.symm hne));have HD6:=Hd (ht6.row HD3.out hn1);have BD6:=Hd (BD3.out.trans (ht6.below GE3.out));have HSX:=Hd (HSS.out _ HD6.out);clear hr6 ht6;refine hK.out _ _ HSX.out ?_;clear hK K;try simp only[Act.put]
    have c4:=A46.out.cell 0;have c4:V6.cell? ⟨h0,0,none⟩=some (.int .i64 0):=c4;have f4:=A46.out.frozen 0;refine Rl 7 rfl fun K hK=>?_
    go_simp;have HD7:=Hd (HD6.out.far (p:=⟨h0,0,none⟩) hn2 (.int .i64 (tot x.m:Nat)));have HSY:=Hd (HSS.out _ HD7.out);refine hK.out _ _ HSY.out ?_;clear hK K;try simp only[nm]
    refine wpAnyH_done (by kernel_rfl) ?_ _;go_wp2_with fail;go_meet
    exact⟨h1,h0,rfl,rfl,⟨A36.out.far (p:=⟨h0,0,none⟩) hne _,A46.out.set_ 0 _,HD7.out,BD6.out.setCell GE4.out _⟩⟩
 case rest =>
  obtain⟨g3,g4,rfl,rfl,hreg⟩:=hcut;have R1:=Hd hreg;have i1:wc.cell? ⟨g3,1,none⟩=some (.int .u8 ss):=(hreg.m.cell 1).trans C1.out;have i2:=HS.out.1;have i3:=HS.out.2;clear hreg;go_upto_region 3 with fail
  clear i1 i2 i3;obtain⟨g5,hg5⟩:∃g,g=wc.heap.size:=⟨_,rfl⟩;rw[←hg5];have hbu:=(Br wc.heap.size wc).alloc (Lr _) (.cells #[Value.int .i64 ss] 3);have M2:=Hd (R1.out.m.below hbu R1.out.m.lt);have T2:=Hd (R1.out.t.below hbu R1.out.t.lt);have X2:=Hd (R1.out.tx.below hbu R1.out.tx.lt);have S2:Hid (Row (wc.alloc (.cells #[Value.int .i64 ss] 3)) g5 3 [.int .i64 ss]):=Hd (Row.new' wc 3 [.int .i64 ss] hg5.symm);have BW:Hid (Below w.heap.size w (wc.alloc (.cells #[Value.int .i64 ss] 3))):=Hd ((HB0.out.trans (R1.out.b.mono HB0.out.size)).trans (hbu.mono (HB0.out.trans (R1.out.b.mono HB0.out.size)).size));clear hbu R1 hg5;generalize wc.alloc (.cells #[Value.int .i64 ss] 3)=U at *;go_cut [6,7] (fun s6 s7 wx=>∃g6 g7:Nat,s6=.pointer (some ⟨g6,0,none⟩)∧s7=.pointer (some ⟨g7,0,none⟩)∧Row wx g6 3 [.int .i64 rr]∧Row wx g7 3 [.int .i64 oo]∧Below U.heap.size U wx)
  case first =>
   have HSS:Hid (∀V:World,Row V g3 40 ms→V.cell? ⟨g3,2,none⟩=some (.int .u8 rr)∧V.cell? ⟨g3,3,none⟩=some (.int .u8 oo)):=Hd fun V h=>⟨(h.cell 2).trans C2.out,(h.cell 3).trans C3.out⟩
   have MV0:=Hd (M2.out.drew);have BV0:Hid (Below U.heap.size U U.drew):=Hd ((Br _ _).drew);have r1:=HR.out.1;have r2:=HR.out.2;have o1:=HO.out.1;have o2:=HO.out.2;have wr1:IntKind.i64.wrap rr=rr:=IntWalk.i64_in _ (by omega);have wr2:IntKind.i64.wrap oo=oo:=IntWalk.i64_in _ (by omega);refine wp_region_held_drew (S:=(fun V=>V.cell? ⟨g3,2,none⟩=some (.int .u8 rr)∧V.cell? ⟨g3,3,none⟩=some (.int .u8 oo))) (by kernel_rfl) (HSS.out _ MV0.out) (fun _=>?_);have HS0:=Hd (HSS.out _ MV0.out);generalize U.drew=V0 at *;refine Tk 0 rfl ?_ HS0.out ?_ ⟨?_,rfl⟩
   ·intro w hw;(try dsimp only at hw);obtain⟨q0,q1⟩:=hw;go_simp;try with_reducible rfl
   try simp only[nm]
   refine Tk 1 rfl ?_ HS0.out ?_ ⟨?_,rfl⟩
   ·intro w hw;(try dsimp only at hw);obtain⟨q0,q1⟩:=hw;go_simp;try with_reducible rfl
   try simp only[nm]
   refine Tk 2 rfl ?_ HS0.out ?_ ⟨?_,rfl⟩
   ·intro w hw;(try dsimp only at hw);obtain⟨q0,q1⟩:=hw;go_simp;try with_reducible rfl
   try simp only[nm]
   refine Tk 3 rfl ?_ HS0.out ?_ ⟨?_,rfl⟩
   ·intro w hw;(try dsimp only at hw);obtain⟨q0,q1⟩:=hw;go_simp;try with_reducible rfl
   try simp only[nm]
   refine Tk 4 rfl ?_ HS0.out ?_ ⟨?_,rfl⟩
   ·intro w hw;(try dsimp only at hw);obtain⟨q0,q1⟩:=hw;go_simp;try with_reducible rfl
   try simp only[nm]
   refine Tk 5 rfl ?_ HS0.out ?_ ⟨?_,rfl⟩
   ·intro w hw;(try dsimp only at hw);obtain⟨q0,q1⟩:=hw;go_simp;try with_reducible rfl
   try simp only[nm]
   refine Tk 6 rfl ?_ HS0.out ?_ ⟨?_,rfl⟩
   ·intro w hw;(try dsimp only at hw);obtain⟨q0,q1⟩:=hw;go_simp;try with_reducible rfl
   try simp only[nm]
   refine Tk 7 rfl ?_ HS0.out ?_ ⟨?_,rfl⟩
   ·intro w hw;(try dsimp only at hw);obtain⟨q0,q1⟩:=hw;go_simp;try with_reducible rfl
   try simp only[nm]
   refine Xc8 (i:=8) (j:=9) rfl rfl (by kernel_rfl) (by kernel_rfl) (by kernel_rfl) (fun K hK=>?_) (fun K hK=>?_)
   ·go_simp;have hb:=(Br V0.heap.size V0).alloc (Lr _) (.cells ([.int .i64 0]:List Value).toArray 3);have MV1:=Hd (MV0.out.below hb MV0.out.lt);have BV1:=Hd (BV0.out.trans (hb.mono BV0.out.size));have A:=Hd (Row.new V0 3 ([.int .i64 0]:List Value));have G0:=Hd BV0.out.size;clear hb;rw[show(#[Value.int .i64 0]:Array Value)=([.int .i64 0]:List Value).toArray from rfl];generalize V0.alloc (.cells ([.int .i64 0]:List Value).toArray 3)=V1 at *;generalize V0.heap.size=h0 at *;have LT0:Hid (h0<V1.heap.size):=Hd A.out.lt;have HS1:=Hd (HSS.out _ MV1.out);refine hK.out _ _ HS1.out ?_;clear hK K;try simp only[nm]
    refine Rl 9 rfl fun K hK=>?_
    go_simp;have hb:=(Br V1.heap.size V1).alloc (Lr _) (.cells ([.int .i64 0]:List Value).toArray 3);have MV2:=Hd (MV1.out.below hb MV1.out.lt);have BV2:=Hd (BV1.out.trans (hb.mono BV1.out.size));have A2:=Hd (A.out.below hb A.out.lt);have C:=Hd (Row.new V1 3 ([.int .i64 0]:List Value));have G1:=Hd BV1.out.size;clear hb;have NE:Hid (h0<V1.heap.size):=Hd LT0.out;rw[show(#[Value.int .i64 0]:Array Value)=([.int .i64 0]:List Value).toArray from rfl];generalize V1.alloc (.cells ([.int .i64 0]:List Value).toArray 3)=V2 at *;generalize V1.heap.size=h1 at *;have HS2:=Hd (HSS.out _ MV2.out);refine hK.out _ _ HS2.out ?_;clear hK K;try simp only[nm]
    have hne:h0≠h1:=by have:=NE.out;omega
    have n6:g3≠h0:=by
     intro e;have h1:=A2.out.is;have h2:=MV2.out.is;rw[e]at h2;rw[h1]at h2;injection (Option.some.inj h2)with _ h3 _
     cases h3
    have n7:g3≠h1:=by
     intro e;have h1:=C.out.is;have h2:=MV2.out.is;rw[e]at h2;rw[h1]at h2;injection (Option.some.inj h2)with _ h3 _
     cases h3
    have c6:V2.cell? ⟨h0,0,none⟩=some (.int .i64 0):=A2.out.cell 0;have f6:=A2.out.frozen 0;refine Rl 10 rfl fun K hK=>?_
    go_simp;have MV3:=Hd (MV2.out.far (p:=⟨h0,0,none⟩) n6 (.int .i64 rr));have HS3:=Hd (HSS.out _ MV3.out);refine hK.out _ _ HS3.out ?_;clear hK K;try simp only[nm]
    have c7:(V2.setCell ⟨h0,0,none⟩ (.int .i64 rr)).cell? ⟨h1,0,none⟩=some (.int .i64 0):=(C.out.far (p:=⟨h0,0,none⟩) (Ne.symm hne) _).cell 0;have f7:=(C.out.far (p:=⟨h0,0,none⟩) (Ne.symm hne) (.int .i64 rr)).frozen 0;refine Rl 11 rfl fun K hK=>?_
    go_simp;have MV4:=Hd (MV3.out.far (p:=⟨h1,0,none⟩) n7 (.int .i64 oo));have HS4:=Hd (HSS.out _ MV4.out);refine hK.out _ _ HS4.out ?_;clear hK K;try simp only[nm]
    refine wpAnyH_done (by kernel_rfl) ?_ _;go_wp2_with fail;go_meet
    exact⟨h0,h1,rfl,rfl,(A2.out.set_ 0 _).far (p:=⟨h1,0,none⟩) hne _,(C.out.far (p:=⟨h0,0,none⟩) (Ne.symm hne) _).set_ 0 _,(BV2.out.setCell G0.out _).setCell G1.out _⟩
   ·go_simp;have hb:=(Br V0.heap.size V0).alloc (Lr _) (.cells ([.int .i64 0]:List Value).toArray 3);have MV1:=Hd (MV0.out.below hb MV0.out.lt);have BV1:=Hd (BV0.out.trans (hb.mono BV0.out.size));have A:=Hd (Row.new V0 3 ([.int .i64 0]:List Value));have G0:=Hd BV0.out.size;clear hb;rw[show(#[Value.int .i64 0]:Array Value)=([.int .i64 0]:List Value).toArray from rfl];generalize V0.alloc (.cells ([.int .i64 0]:List Value).toArray 3)=V1 at *;generalize V0.heap.size=h0 at *;have LT0:Hid (h0<V1.heap.size):=Hd A.out.lt;have HS1:=Hd (HSS.out _ MV1.out);refine hK.out _ _ HS1.out ?_;clear hK K;try simp only[nm]
    refine Rl 8 rfl fun K hK=>?_
    go_simp;have hb:=(Br V1.heap.size V1).alloc (Lr _) (.cells ([.int .i64 0]:List Value).toArray 3);have MV2:=Hd (MV1.out.below hb MV1.out.lt);have BV2:=Hd (BV1.out.trans (hb.mono BV1.out.size));have A2:=Hd (A.out.below hb A.out.lt);have C:=Hd (Row.new V1 3 ([.int .i64 0]:List Value));have G1:=Hd BV1.out.size;clear hb;have NE:Hid (h0<V1.heap.size):=Hd LT0.out;rw[show(#[Value.int .i64 0]:Array Value)=([.int .i64 0]:List Value).toArray from rfl];generalize V1.alloc (.cells ([.int .i64 0]:List Value).toArray 3)=V2 at *;generalize V1.heap.size=h1 at *;have HS2:=Hd (HSS.out _ MV2.out);refine hK.out _ _ HS2.out ?_;clear hK K;try simp only[nm]
    have hne:h1≠h0:=by have:=NE.out;omega
    have n6:g3≠h1:=by
     intro e;have h1:=C.out.is;have h2:=MV2.out.is;rw[e]at h2;rw[h1]at h2;injection (Option.some.inj h2)with _ h3 _
     cases h3
    have n7:g3≠h0:=by
     intro e;have h1:=A2.out.is;have h2:=MV2.out.is;rw[e]at h2;rw[h1]at h2;injection (Option.some.inj h2)with _ h3 _
     cases h3
    have c6:V2.cell? ⟨h1,0,none⟩=some (.int .i64 0):=C.out.cell 0;have f6:=C.out.frozen 0;refine Rl 10 rfl fun K hK=>?_
    go_simp;have MV3:=Hd (MV2.out.far (p:=⟨h1,0,none⟩) n6 (.int .i64 rr));have HS3:=Hd (HSS.out _ MV3.out);refine hK.out _ _ HS3.out ?_;clear hK K;try simp only[nm]
    have c7:(V2.setCell ⟨h1,0,none⟩ (.int .i64 rr)).cell? ⟨h0,0,none⟩=some (.int .i64 0):=(A2.out.far (p:=⟨h1,0,none⟩) (Ne.symm hne) _).cell 0;have f7:=(A2.out.far (p:=⟨h1,0,none⟩) (Ne.symm hne) (.int .i64 rr)).frozen 0;refine Rl 11 rfl fun K hK=>?_
    go_simp;have MV4:=Hd (MV3.out.far (p:=⟨h0,0,none⟩) n7 (.int .i64 oo));have HS4:=Hd (HSS.out _ MV4.out);refine hK.out _ _ HS4.out ?_;clear hK K;try simp only[nm]
    refine wpAnyH_done (by kernel_rfl) ?_ _;go_wp2_with fail;go_meet
    exact⟨h1,h0,rfl,rfl,(C.out.set_ 0 _).far (p:=⟨h0,0,none⟩) hne _,(A2.out.far (p:=⟨h1,0,none⟩) (Ne.symm hne) _).set_ 0 _,(BV2.out.setCell G1.out _).setCell G0.out _⟩
  case rest =>
   obtain⟨g6,g7,rfl,rfl,h6,h7,hbx⟩:=hcut;have R6:=Hd h6;have R7:=Hd h7;have BX:=Hd hbx;clear h6 h7 hbx;go_wp2_with fail;have hl:=(Br wc.heap.size wc).alloc (Lr _) (.cells (ruleCells w.heap.size g3 g4 g5 g6 g7).toArray 122);exact HD.out wc.heap.size w.heap.size g3 g4 g5 g6 g7 _ (Row.new wc 122 (ruleCells w.heap.size g3 g4 g5 g6 g7)) ((X2.out.below BX.out X2.out.lt).alloc _) ((M2.out.below BX.out M2.out.lt).alloc _) ((T2.out.below BX.out T2.out.lt).alloc _) ((S2.out.below BX.out S2.out.lt).alloc _) (R6.out.alloc _) (R7.out.alloc _) ((BW.out.trans (BX.out.mono BW.out.size)).trans (hl.mono (BW.out.trans (BX.out.mono BW.out.size)).size))
def IdxDone(p:Bool)(e:Ending):Prop:=∃r:Int,e=.returned (.int .i64 r)∧(0≤r↔p=true)
theorem Xha{r:Int}{p:Bool}(h:0≤r↔p=true):decide (0≤r)=p:=by
 rw[Bool.eq_iff_iff,decide_eq_true_iff];exact h
theorem Xad{p q:Bool}(h:p=q):Ending.returned (.bool p)=.returned (.bool q):=by rw[h]
theorem Xub(z:Int)(tt g:Nat)(w:World)(h0:0≤z)(h1:z<256)(ct:w.cell? ⟨g,0,none⟩=some (.int .i64 tt)) :
 Calls Tryz.prog 144 #[.int .u8 z,.pointer (some ⟨g,0,none⟩)] w fun e w'=>e=.returned (.bool (astray tt z))∧w=w':=by
 by_cases h:(tt:Int)≤z
 ·have hp:Hid (astray tt z=true):=Hd (by simp[astray,h]);go_enter Tryz.func144,Tryz.ntmps144
  go_wp2;go_ret;exact⟨Xad hp.out.symm,rfl⟩
 ·have hp:Hid (astray tt z=false):=Hd (by simp[astray];omega);go_enter Tryz.func144,Tryz.ntmps144
  go_wp2;go_ret;exact⟨Xad hp.out.symm,rfl⟩
theorem Xb4{α:Type}{p:α→Bool}{l:List α}{k:Nat}{x:α}(h:l[k]?=some x):(l.take (k+1)).any p=((l.take k).any p||p x):=by
 rw[List.take_add_one,h];simp
theorem Xdw{α:Type}{p:α→Bool}{l:List α}{k:Nat}{x:α}(h:l[k]?=some x)(hp:p x=true):l.any p=true:=
 List.any_eq_true.2 ⟨x,List.mem_of_getElem? h,hp⟩
theorem Xgl{l:List Int}{k:Nat}(h:k<l.length):l[k]?=some (l.getD k 0):=by
 rw[List.getD_eq_getElem?_getD,List.getElem?_eq_getElem h];rfl
theorem Xoa(A:Option Addr)(n c B g tt:Nat)(l:List Int)(w:World)(hs:Sees w B A n (bv l))(hb:AllBytes l)(hn:n≤4000)(ct:w.cell? ⟨g,0,none⟩=some (.int .i64 tt)) :
 Calls Tryz.prog 158 #[.slice A n c,.func (.func 144) #[] #[.pointer (some ⟨g,0,none⟩)]] w fun e w'=>IdxDone (l.any (astray tt)) e∧w=w':=by
 have hl:l.length=n:=by have:=hs.len;rwa [bL]at this
 have HL:=Hd hl;have HB:=Hd hb;clear hl hb;go_enter Tryz.func158,Tryz.ntmps158
 go_wp2;go_loop [8] (fun i=>∃k:Nat,k≤n∧i=.int .i64 k∧(l.take k).any (astray tt)=false) (fun i=>n - (intOf i).toNat)
 case atStart=>exact⟨0,Nat.zero_le _,rfl,by simp⟩
 case round =>
  obtain⟨k,hk,rfl,hany⟩:=hrel;have HA:=Hd hany;clear hany;by_cases hlt:k<n
  ·obtain⟨a,rfl,hab,hc⟩:=hs.byte hlt;have hx:=Xgl (l:=l) (k:=k) (by have:=HL.out;omega);have hz:=HB.out _ (List.mem_of_getElem? hx);have h0:=hz.1;have h1:=hz.2;have HX:=Hd hx;generalize l.getD k 0=z at *;have HC:=Hd (Xub z tt g w h0 h1 ct);clear hx hz;by_cases hp:astray tt z=true
   ·have HP:=Hd hp;go_wp2_with (go_at_call 144;refine HC.out.mono ?_;rintro e w' ⟨rfl,rfl⟩)
    go_ret;exact⟨⟨_,rfl,by constructor;(intro _;exact Xdw HX.out HP.out);(intro _;omega)⟩,rfl⟩
   ·have hp:astray tt z=false:=by simpa using hp
    have HP:Hid ((l.take (k+1)).any (astray tt)=false):=Hd (by rw[Xb4 HX.out,HA.out,hp];rfl);go_wp2_with (go_at_call 144;refine HC.out.mono ?_;rintro e w' ⟨rfl,rfl⟩)
    go_round
    case rel=>exact⟨k+1,by omega,by go_num,HP.out⟩
    case measure=>simp[intOf];omega
  ·have hkn:k=n:=by omega
   have HE:Hid (l.any (astray tt)=false):=Hd (by
    have h1:=HA.out;rwa [hkn,List.take_of_length_le (by rw[HL.out];exact Lr _)]at h1)
   clear hkn;go_wp2;go_ret;exact⟨⟨_,rfl,by rw[HE.out];simp⟩,rfl⟩
theorem Xjv(A:Option Addr)(n c B g tt:Nat)(l:List Int)(w:World)(hs:Sees w B A n (bv l))(hb:AllBytes l)(hn:n≤4000)(ct:w.cell? ⟨g,0,none⟩=some (.int .i64 tt)) :
 Calls Tryz.prog 143 #[.slice A n c,.func (.func 144) #[] #[.pointer (some ⟨g,0,none⟩)]] w fun e w'=>e=.returned (.bool (l.any (astray tt)))∧w=w':=by
 have HI:=Hd (Xoa A n c B g tt l w hs hb hn ct);clear hs hb;go_enter Tryz.func143,Tryz.ntmps143
 go_wp2_with fail;refine HI.out.mono ?_;rintro e w' ⟨⟨r,rfl,hr⟩,rfl⟩;have HR:=Hd hr;clear hr;go_wp2_with fail;go_ret;exact⟨Xad (Xha HR.out),rfl⟩
theorem Xx0(x:LIn)(own tt:Nat)(A1 A2:Option Addr)(c1 c2 B:Nat)(w:World)(hp:IsByte x.p)(hs:Sees w B A1 x.acc.length (bv x.acc))(hB:B≤w.heap.size)(hb:AllBytes x.acc)(hn:x.acc.length≤4000)(ho:own≤8000)(ht:tt≤8000)(m:Nat) :
 Calls Tryz.prog 116 #[.agg #[.int .u8 x.p,.slice A1 x.acc.length c1,.slice A2 m c2],.int .i64 own,.int .i64 tt] w fun e w'=>e=.returned (.bool (stray own tt x))∧Below w.heap.size w w':=by
 have hmf:∀(fn:Fn) (first cap:Array Value) (w:World),(Instr.makeFunc fn first cap).run Tryz.prog w=.ok (.func fn first cap) w:=fun _ _ _ _=>rfl
 have hb0:=((Br w.heap.size w).alloc (Lr _) (.cells #[.int .u8 x.p,.slice A1 x.acc.length c1,.slice A2 m c2] 131)).alloc (by simp) (.cells #[.int .i64 tt] 3);have HB0:=Hd hb0;have hct:((w.alloc (.cells #[.int .u8 x.p,.slice A1 x.acc.length c1,.slice A2 m c2] 131)).alloc (.cells #[.int .i64 tt] 3)).cell? ⟨w.heap.size+1,0,none⟩=some (.int .i64 tt):=(Row.new' _ 3 [.int .i64 tt] (by simp)).cell 0;have HC:=Hd (Xjv A1 x.acc.length c1 B (w.heap.size+1) tt x.acc _ (hs.below (hb0.mono hB)) hb hn hct);obtain⟨h0,h1⟩:=hp;obtain⟨p,hpp⟩:∃p,p=x.p:=⟨_,rfl⟩;have HPP:=Hd hpp;rw[←hpp]at h0 h1 HC HB0 ⊢;clear hpp hb0 hct hs hb;by_cases hz:p=0
 ·have hq:Hid (stray own tt x=true):=Hd (by rw[stray,←HPP.out,hz];simp[pstray]);have e1:(p==0)=true:=by simp[hz]
  clear hz;go_enter Tryz.func116,Tryz.ntmps116
  go_wp2;go_ret;exact⟨Xad hq.out.symm,HB0.out⟩
 have e1:(p==0)=false:=by simp[hz]
 by_cases hov:(own:Int)≤p
 ·have hq:Hid (stray own tt x=true):=Hd (by rw[stray,←HPP.out];simp[pstray,hov]);clear hz;go_enter Tryz.func116,Tryz.ntmps116
  go_wp2;go_ret;exact⟨Xad hq.out.symm,HB0.out⟩
 ·have hq:Hid (stray own tt x=x.acc.any (astray tt)):=Hd (by rw[stray,←HPP.out];simp[pstray,hz,hov]);clear hz;go_enter Tryz.func116,Tryz.ntmps116
  go_wp2_with (go_at_call 143;refine HC.out.mono ?_;rintro e w' ⟨rfl,rfl⟩)
  go_ret;exact⟨Xad hq.out.symm,HB0.out⟩
theorem Xwn(x:LLook)(A1 A2:Option Addr)(c1 c2:Nat)(w:World)(ht:x.tab.length=32)(h1:x.wr.length≤4000)(h2:x.rd.length≤4000) :
 Calls Tryz.prog 111 #[.agg (bv x.tab++[Value.slice A1 x.wr.length c1,Value.slice A2 x.rd.length c2]).toArray] w fun e w'=>e=.returned (.bool (noix x))∧Below w.heap.size w w':=by
 have hr:=Row.new w 124 (bv x.tab++[Value.slice A1 x.wr.length c1,Value.slice A2 x.rd.length c2]);have hb0:=(Br w.heap.size w).alloc (Lr _) (.cells (bv x.tab++[Value.slice A1 x.wr.length c1,Value.slice A2 x.rd.length c2]).toArray 124);have HI:=Hd (fun w=>Xn2 x A1 A2 c1 c2 w ht h1 h2);have HL:=Hd (Xdm ht (Value.slice A1 x.wr.length c1) (Value.slice A2 x.rd.length c2));generalize (bv x.tab++[Value.slice A1 x.wr.length c1,Value.slice A2 x.rd.length c2])=cs at *;have HB:=Hd hb0;have R:=Hd hr;clear hr hb0 ht;go_enter Tryz.func111,Tryz.ntmps111
 go_wp2_with ((with_reducible show wpList _ _ _ (⟨some 3,_,_,_,_,_⟩::_) _ _);go_must(refine Xa0 rfl 124 (.tmp 1) rfl w.heap.size 124 cs _ Tryz.underlying124 rfl HL.out R.out ?_ ?_;go_simp))
 refine(HI.out _).mono ?_;rintro e w2 ⟨rfl,hb2⟩;have HB2:=Hd (HB.out.trans (hb2.mono HB.out.size));clear hb2;by_cases h:ixs x=0
 ·have hq:Hid (noix x=true):=Hd (by simp[noix,h]);have e1:(((ixs x:Nat):Int)==0)=true:=by simp[h]
  clear h;go_wp2_with fail;go_ret;exact⟨Xad hq.out.symm,HB2.out⟩
 ·have hq:Hid (noix x=false):=Hd (by simp[noix,h]);have e1:(((ixs x:Nat):Int)==0)=false:=by simp;omega
  clear h;go_wp2_with fail;go_ret;exact⟨Xad hq.out.symm,HB2.out⟩
theorem Xo6(A:Option Addr)(n c B:Nat)(l:List LLook)(w:World)(hs:LooksIn w B A n l)(hB:B≤w.heap.size)(hn:n≤4000)(hsz:∀y ∈ l,y.wr.length≤4000∧y.rd.length≤4000) :
 Calls Tryz.prog 141 #[.slice A n c,.func (.func 111) #[] #[]] w fun e w'=>IdxDone (l.any noix) e∧Below w.heap.size w w':=by
 have HL:=Hd hs.len;have HIN:=Hd hs;have HSZ:=Hd hsz;clear hs hsz;go_enter Tryz.func141,Tryz.ntmps141
 go_wp2;go_loopw [8] (fun i wr=>∃k:Nat,k≤n∧i=.int .i64 k∧(l.take k).any noix=false∧Below w.heap.size w wr) (fun i _=>n - (intOf i).toNat)
 case atStart=>exact⟨0,Nat.zero_le _,rfl,by simp,Br _ _⟩
 case round =>
  obtain⟨k,hk,rfl,hany,hbw⟩:=hrel;have HA:=Hd hany;have HBW:=Hd hbw;clear hany hbw;by_cases hlt:k<n
  ·obtain⟨a,y,va,vd,rfl,hab,hx,hat⟩:=(HIN.out.below (HBW.out.mono hB)).get hlt;have hx2:=HSZ.out y (List.mem_of_getElem? hx);obtain⟨A1,c1,rfl,_,_,_⟩:=hat.wr.is;obtain⟨A2,c2,rfl,_,_,_⟩:=hat.rd.is;have HI:=Hd (fun w=>Xwn y A1 A2 c1 c2 w hat.len hx2.1 hx2.2);have HLK:=Hd (Xdm hat.len (Value.slice A1 y.wr.length c1) (Value.slice A2 y.rd.length c2));have HAT:=Hd hat.cells;have HX:=Hd hx;generalize (bv y.tab++[Value.slice A1 y.wr.length c1,Value.slice A2 y.rd.length c2])=lc' at *;clear hx hat hx2;by_cases hp:noix y=true
   ·have HP:=Hd hp;go_wp2_with ((with_reducible show wpList _ _ _ (⟨some 15,_,_,_,_,_⟩::_) _ _);go_must(refine Xa3 rfl 124 (.tmp 14) rfl (a.add (k*34)) lc' _ Tryz.underlying124 rfl HLK.out HAT.out ?_ ?_;go_simp))
    refine(HI.out _).mono ?_;rintro e w2 ⟨rfl,hb2⟩;have HB2:=Hd (HBW.out.trans (hb2.mono HBW.out.size));clear hb2;go_wp2_with fail;go_ret;exact⟨⟨_,rfl,by constructor;(intro _;exact Xdw HX.out HP.out);(intro _;omega)⟩,HB2.out⟩
   ·have hp:noix y=false:=by simpa using hp
    have HP:Hid ((l.take (k+1)).any noix=false):=Hd (by rw[Xb4 HX.out,HA.out,hp];rfl);go_wp2_with ((with_reducible show wpList _ _ _ (⟨some 15,_,_,_,_,_⟩::_) _ _);go_must(refine Xa3 rfl 124 (.tmp 14) rfl (a.add (k*34)) lc' _ Tryz.underlying124 rfl HLK.out HAT.out ?_ ?_;go_simp))
    refine(HI.out _).mono ?_;rintro e w2 ⟨rfl,hb2⟩;have HB2:=Hd (HBW.out.trans (hb2.mono HBW.out.size));clear hb2;go_wp2_with fail;go_roundw
    case rel=>exact⟨k+1,by omega,by go_num,HP.out,HB2.out⟩
    case measure=>simp[intOf];omega
  ·have hkn:k=n:=by omega
   have HE:Hid (l.any noix=false):=Hd (by
    have h1:=HA.out;rwa [hkn,List.take_of_length_le (by rw[HL.out];exact Lr _)]at h1)
   clear hkn;go_wp2;go_ret;exact⟨⟨_,rfl,by rw[HE.out];simp⟩,HBW.out⟩
theorem Xjt(A:Option Addr)(n c B:Nat)(l:List LLook)(w:World)(hs:LooksIn w B A n l)(hB:B≤w.heap.size)(hn:n≤4000)(hsz:∀y ∈ l,y.wr.length≤4000∧y.rd.length≤4000) :
 Calls Tryz.prog 110 #[.slice A n c,.func (.func 111) #[] #[]] w fun e w'=>e=.returned (.bool (l.any noix))∧Below w.heap.size w w':=by
 have HI:=Hd (Xo6 A n c B l w hs hB hn hsz);clear hs hsz;go_enter Tryz.func110,Tryz.ntmps110
 go_wp2_with fail;refine HI.out.mono ?_;rintro e w' ⟨⟨r,rfl,hr⟩,hb⟩;have HR:=Hd hr;have HB:=Hd hb;clear hr hb;go_wp2_with fail;go_ret;exact⟨Xad (Xha HR.out),HB.out⟩
structure Caps(w:World)(gm gt:Nat)(KA:Option Addr)(own kc tt:Nat):Prop where
 keys:w.cell? ⟨gm,4,none⟩=some (.slice KA own kc)
 tot:w.cell? ⟨gt,0,none⟩=some (.int .i64 tt)
 lt:gm<w.heap.size∧gt<w.heap.size
theorem Caps.below{w w':World}{gm gt own kc tt:Nat}{KA:Option Addr}(h:Caps w gm gt KA own kc tt)(hb:Below w.heap.size w w'):Caps w' gm gt KA own kc tt:=
 ⟨(hb.cell (p:=⟨gm,4,none⟩) h.lt.1).trans h.keys,(hb.cell (p:=⟨gt,0,none⟩) h.lt.2).trans h.tot,by have:=hb.size;have:=h.lt;omega⟩
theorem Xwl(x:LIn)(own tt kc gm gt:Nat)(KA A1 A2:Option Addr)(c1 c2 m B:Nat)(w:World)(hp:IsByte x.p)(hs:Sees w B A1 x.acc.length (bv x.acc))(hB:B≤w.heap.size)(hb:AllBytes x.acc)(hn:x.acc.length≤4000)(ho:own≤8000)(ht:tt≤8000)
 (hc:Caps w gm gt KA own kc tt) :
 Calls Tryz.prog 115 #[.agg (inCells x.p (.slice A1 x.acc.length c1) (.slice A2 m c2)).toArray,.pointer (some ⟨gm,0,none⟩),.pointer (some ⟨gt,0,none⟩)] w fun e w'=>e=.returned (.bool (stray own tt x))∧Below w.heap.size w w':=by
 have hr:=Row.new w 131 (inCells x.p (.slice A1 x.acc.length c1) (.slice A2 m c2));have hb0:=(Br w.heap.size w).alloc (Lr _) (.cells (inCells x.p (.slice A1 x.acc.length c1) (.slice A2 m c2)).toArray 131);have HST:=Hd (Xx0 x own tt A1 A2 c1 c2 B _ hp (hs.below (hb0.mono hB)) (Lq hB hb0.size) hb hn ho ht m);obtain⟨d4,d0,_⟩:=hc.below hb0;have HL:=Hd (Xbj x.p (.slice A1 x.acc.length c1) (.slice A2 m c2));rw[show(#[Value.int .u8 x.p,.slice A1 x.acc.length c1,.slice A2 m c2]:Array Value)=(inCells x.p (.slice A1 x.acc.length c1) (.slice A2 m c2)).toArray from rfl]at HST;generalize inCells x.p (.slice A1 x.acc.length c1) (.slice A2 m c2)=cs at *;have R:=Hd hr;have HB:=Hd hb0;clear hr hb0 hs hb hc hp;go_enter Tryz.func115,Tryz.ntmps115
 go_wp2_with ((with_reducible show wpList _ _ _ (⟨some 5,_,_,_,_,_⟩::_) _ _);go_must(refine Xa0 rfl 131 (.tmp 3) rfl w.heap.size 131 cs _ Tryz.underlying131 rfl HL.out R.out ?_ ?_;go_simp))
 refine HST.out.mono ?_;rintro e w2 ⟨rfl,hb2⟩;have HB2:=Hd (HB.out.trans (hb2.mono HB.out.size));clear hb2;go_wp2_with fail;go_ret;exact⟨rfl,HB2.out⟩
theorem Xrb(A:Option Addr)(n c B own tt kc gm gt:Nat)(KA:Option Addr)(l:List LIn)(w:World)(hs:InsIn w B A n l)(hB:B≤w.heap.size)(hn:n≤4000)(hsz:∀y ∈ l,IsByte y.p∧AllBytes y.acc∧y.acc.length≤4000)(ho:own≤8000)(ht:tt≤8000)
 (hc:Caps w gm gt KA own kc tt) :
 Calls Tryz.prog 142 #[.slice A n c,.func (.func 115) #[] #[.pointer (some ⟨gm,0,none⟩),.pointer (some ⟨gt,0,none⟩)]] w fun e w'=>IdxDone (l.any (stray own tt)) e∧Below w.heap.size w w':=by
 have HL:=Hd hs.len;have HIN:=Hd hs;have HSZ:=Hd hsz;have HC:=Hd hc;clear hs hsz hc;go_enter Tryz.func142,Tryz.ntmps142
 go_wp2;go_loopw [8] (fun i wr=>∃k:Nat,k≤n∧i=.int .i64 k∧(l.take k).any (stray own tt)=false∧Below w.heap.size w wr) (fun i _=>n - (intOf i).toNat)
 case atStart=>exact⟨0,Nat.zero_le _,rfl,by simp,Br _ _⟩
 case round =>
  obtain⟨k,hk,rfl,hany,hbw⟩:=hrel;have HA:=Hd hany;have HBW:=Hd hbw;clear hany hbw;by_cases hlt:k<n
  ·obtain⟨a,y,va,vd,rfl,hab,hx,hat⟩:=(HIN.out.below (HBW.out.mono hB)).get hlt;have hx2:=HSZ.out y (List.mem_of_getElem? hx);obtain⟨A1,c1,rfl,hs1,_,_⟩:=hat.acc.is;obtain⟨A2,c2,rfl,_,_,_⟩:=hat.dat.is;have HI:=Hd (Xwl y own tt kc gm gt KA A1 A2 c1 c2 y.dat.length B _ hx2.1 hs1 (Lq hB HBW.out.size) hx2.2.1 hx2.2.2 ho ht (HC.out.below HBW.out));have HLK:=Hd (Xbj y.p (Value.slice A1 y.acc.length c1) (Value.slice A2 y.dat.length c2));have HAT:=Hd hat.cells;have HX:=Hd hx;generalize inCells y.p (Value.slice A1 y.acc.length c1) (Value.slice A2 y.dat.length c2)=lc' at *;clear hx hat hx2 hs1;by_cases hp:stray own tt y=true
   ·have HP:=Hd hp;go_wp2_with ((with_reducible show wpList _ _ _ (⟨some 15,_,_,_,_,_⟩::_) _ _);go_must(refine Xa3 rfl 131 (.tmp 14) rfl (a.add (k*3)) lc' _ Tryz.underlying131 rfl HLK.out HAT.out ?_ ?_;go_simp))
    refine HI.out.mono ?_;rintro e w2 ⟨rfl,hb2⟩;have HB2:=Hd (HBW.out.trans (hb2.mono HBW.out.size));clear hb2;go_wp2_with fail;go_ret;exact⟨⟨_,rfl,by constructor;(intro _;exact Xdw HX.out HP.out);(intro _;omega)⟩,HB2.out⟩
   ·have hp:stray own tt y=false:=by simpa using hp
    have HP:Hid ((l.take (k+1)).any (stray own tt)=false):=Hd (by rw[Xb4 HX.out,HA.out,hp];rfl);go_wp2_with ((with_reducible show wpList _ _ _ (⟨some 15,_,_,_,_,_⟩::_) _ _);go_must(refine Xa3 rfl 131 (.tmp 14) rfl (a.add (k*3)) lc' _ Tryz.underlying131 rfl HLK.out HAT.out ?_ ?_;go_simp))
    refine HI.out.mono ?_;rintro e w2 ⟨rfl,hb2⟩;have HB2:=Hd (HBW.out.trans (hb2.mono HBW.out.size));clear hb2;go_wp2_with fail;go_roundw
    case rel=>exact⟨k+1,by omega,by go_num,HP.out,HB2.out⟩
    case measure=>simp[intOf];omega
  ·have hkn:k=n:=by omega
   have HE:Hid (l.any (stray own tt)=false):=Hd (by
    have h1:=HA.out;rwa [hkn,List.take_of_length_le (by rw[HL.out];exact Lr _)]at h1)
   clear hkn;go_wp2;go_ret;exact⟨⟨_,rfl,by rw[HE.out];simp⟩,HBW.out⟩
theorem Xkv(A:Option Addr)(n c B own tt kc gm gt:Nat)(KA:Option Addr)(l:List LIn)(w:World)(hs:InsIn w B A n l)(hB:B≤w.heap.size)(hn:n≤4000)(hsz:∀y ∈ l,IsByte y.p∧AllBytes y.acc∧y.acc.length≤4000)(ho:own≤8000)(ht:tt≤8000)
 (hc:Caps w gm gt KA own kc tt) :
 Calls Tryz.prog 114 #[.slice A n c,.func (.func 115) #[] #[.pointer (some ⟨gm,0,none⟩),.pointer (some ⟨gt,0,none⟩)]] w fun e w'=>e=.returned (.bool (l.any (stray own tt)))∧Below w.heap.size w w':=by
 have HI:=Hd (Xrb A n c B own tt kc gm gt KA l w hs hB hn hsz ho ht hc);clear hs hsz hc;go_enter Tryz.func114,Tryz.ntmps114
 go_wp2_with fail;refine HI.out.mono ?_;rintro e w' ⟨⟨r,rfl,hr⟩,hb⟩;have HR:=Hd hr;have HB:=Hd hb;clear hr hb;go_wp2_with fail;go_ret;exact⟨Xad (Xha HR.out),HB.out⟩
open Go.RowKit Go.Maps
theorem Xjn:WideMaps.ArrKey Tryz.prog 78 5 32:=⟨Tryz.underlying78,by kernel_rfl,by kernel_rfl,by kernel_rfl⟩
theorem Xdu:Keyed Tryz.prog 78:=Keyed.of_law Xjn.law
theorem Xl8{α β:Type}{f:α→Option β}{g:α→β}:∀(l:List α),(∀x ∈ l,f x=some (g x))→l.mapM f=some (l.map g)
 | [],_=>rfl
 | x::r,h=>by
  rw[List.mapM_cons,h x (by simp),Xl8 r (fun y hy=>h y (by simp[hy]))];rfl
def KL(x:List Int):Lit:=.string (keyBytes ((List.range 32).map fun i=>[Lit.int .u8 (x.getD i 0)]).flatten)
theorem KL_is{x:List Int}(h:x.length=32)(hb:AllBytes x):Go.keyOf Tryz.prog 78 (.agg (bv x).toArray)=some (KL x):=by
 have hkt:Tryz.prog.keyType 78=true:=by kernel_rfl
 have e:(Tryz.prog.keyLits (Tryz.prog.types.size+1) 78 (bv x))=some ((List.range 32).map fun i=>[Lit.int .u8 (x.getD i 0)]).flatten:=by
  obtain⟨m,hm⟩:∃m,Tryz.prog.types.size=m+1:=⟨Tryz.prog.types.size - 1,by kernel_rfl⟩;unfold Program.keyLits;simp only[Tryz.underlying78];rw[if_pos (by rw[bL,h];exact Xjn.size.symm),Xl8 (g:=fun i=>[Lit.int .u8 (x.getD i 0)])]
  ·rfl
  intro i hi;have hi:i<32:=by simpa using hi
  rw[Xjn.one,Nat.mul_one,hm];have hx:x[i]?=some (x.getD i 0):=by rw[List.getD_eq_getElem?_getD,List.getElem?_eq_getElem (by omega)];rfl
  have hc:((bv x).drop i).take 1=[.int .u8 (x.getD i 0)]:=by
   rw[List.take_one,List.head?_drop,bv_getElem?,hx];rfl
  obtain⟨z0,z1⟩:=hb _ (List.mem_of_getElem? hx);rw[hc];unfold Program.keyLits;simp only[Tryz.underlying5];have hwf:(Lit.int .u8 (x.getD i 0)).wf=true:=by
   show(decide ((0:Int)≤x.getD i 0)&&decide (x.getD i 0≤255))=true
   rw[decide_eq_true z0,decide_eq_true (by omega)];rfl
  rw[if_pos ⟨trivial,hwf⟩]
 unfold KL Go.keyOf;simp only[Tryz.underlying78];rw[if_pos (by simp[hkt,Value.formed,Tryz.underlying78,Xjn.size,bL,h]),show(Value.agg (bv x).toArray).cells.toList=bv x by simp[Value.cells],e];rfl
theorem Xqk{x y:List Int}(hx:x.length=32)(bx:AllBytes x)(hy:y.length=32)(by_:AllBytes y)(h:KL x=KL y):x=y:=by
 have:=Xdu.inj (KL_is hx bx) (h ▸ KL_is hy by_);have h2:bv x=bv y:=by simpa using this
 unfold bv cv at h2;exact(List.map_inj_right (fun a b hab=>by injection hab)).1 h2
theorem Xht{x:List Int}(h:x.length=32)(hb:AllBytes x):WideAt.IsKeyLit (KL x):=Xdu.key (KL_is h hb)
def KSet(u:DataW Unit)(ks:List (List Int)):DataW Unit:=setOf u (ks.map KL)
theorem Xib(u:DataW Unit)(ks:List (List Int))(x:List Int):KSet u (ks++[x])=(KSet u ks).put (KL x) u:=by
 unfold KSet;rw[List.map_append,List.map_singleton,setOf_snoc]
theorem Xpa(u:DataW Unit)(ks:List (List Int))(h:∀k ∈ ks,k.length=32∧AllBytes k):Tidy (KSet u ks):=tidy_setOf u _ (fun x hx=>by
 obtain⟨k,hk,rfl⟩:=List.mem_map.1 hx;exact Xht (h k hk).1 (h k hk).2)
theorem Xvb(u:DataW Unit)(ks:List (List Int))(h:∀k ∈ ks,k.length=32∧AllBytes k)(x:List Int)(hx:x.length=32∧AllBytes x):Go.Maps.has (KSet u ks) (KL x)=decide (x ∈ ks):=by
 unfold KSet;rw[has_setOf u _ _ (fun y hy=>by
  obtain⟨k,hk,rfl⟩:=List.mem_map.1 hy;exact Xht (h k hk).1 (h k hk).2),List.any_map,Bool.eq_iff_iff,List.any_eq_true,decide_eq_true_iff]
 constructor
 ·rintro⟨k,hk,he⟩;have:KL k=KL x:=by
   apply Classical.byContradiction
   intro hne;have:=sameKey_ne hne;simp only[Function.comp_apply]at he;rw[this]at he;cases he
  have:=Xqk (h k hk).1 (h k hk).2 hx.1 hx.2 this;exact this ▸ hk
 ·intro hk;refine⟨x,hk,?_⟩;have h1:=has_setOf (H:=Unit) (.lit (.bool true)) (KL x) [KL x] (fun y hy=>by rw[List.mem_singleton.1 hy];exact Xht hx.1 hx.2);have h2:Go.Maps.has (setOf (.lit (.bool true):DataW Unit) [KL x]) (KL x)=true:=by
   show Go.Maps.has ((DataW.map []).put (KL x) _) (KL x)=true
   exact has_put_same isMap_empty (Xht hx.1 hx.2) _
  rw[h2]at h1;simpa using h1.symm
theorem Xse(u z:DataW Unit):∀(ks:List (List Int)),(∀k ∈ ks,k.length=32∧AllBytes k)→∀x:List Int,x.length=32∧AllBytes x→(KSet u ks).atKey (KL x) z=if x ∈ ks then u else z:=by
 intro ks h x hx;obtain⟨n,hn⟩:∃n,ks.length=n:=⟨_,rfl⟩;induction n generalizing ks with
 | zero =>
  have:ks=[]:=List.length_eq_zero_iff.1 hn;subst this;rw[if_neg (by simp)];exact atKey_of_not_has (by rw[Xvb u [] (by simp) x hx];simp) z
 | succ n ih =>
  have hne:ks≠[]:=fun e=>by rw[e]at hn;cases hn
  obtain⟨l,y,rfl⟩:∃l y,ks=l++[y]:=⟨ks.dropLast,ks.getLast hne,(List.dropLast_concat_getLast hne).symm⟩;have hl:=fun k hk=>h k (List.mem_append_left _ hk)
  have hy:=h y (by simp);rw[Xib];by_cases e:x=y
  ·subst e;rw[if_pos (by simp),atKey_put_same (Xpa u l hl).isMap (Xht hx.1 hx.2)]
  ·rw[atKey_put_other (fun e'=>e (Xqk hx.1 hx.2 hy.1 hy.2 e')),ih l hl (by simpa using hn)];simp[e]
theorem Xb9{H:Type}{P:Program}(w:World){ops:Array Oper}{rest:List Oper}{o:Oper}{a:Act}{Q:Exit→Act→World→Prop}
 (hg:o.guard=none) (m x:Operand) (t:TypeId) (hop:o.op=Op.lookup t m x false)
 (k e:TypeId) (K:Keyed P k) (ht:P.underlying t=some (.map k e)) (he:P.underlying e=some .bool) (hz:(zeroValue e).run P w=.ok (.bool false) w) (b n:Nat) (D:DataW H)
 (hm:a.eval m=.map (some b)) (hown:w.ownsMap P k (plainElem P e) b n D) (key:Value) (kl:Lit) (hx:a.eval x=key) (hkey:Go.keyOf P k key=some kl) (c:Bool) (hat:D.atKey kl (.lit (.bool false))=.lit (.bool c))
 (hK:wpList P ops Q rest (a.put o.dst (.bool c)) w) :
 wpList P ops Q (o::rest) a w:=by
 refine wpList_plain hg fun K' hK'=>?_
 obtain⟨v,ps,hrun,hv⟩:=hown.lookup K ht hz (plainElem_bool he false) hkey;rw[hat]at hv;have hvc:v=.bool c:=by
  unfold plainElem at hv;rw[he]at hv;cases v <;> simp at hv
  exact congrArg Value.bool hv.1
 subst hvc;unfold Oper.wp;simp[execOp,hop,hm,hx,hrun,Result.andThen];exact hK' _ _ hK
theorem Xda{w w':World}(hb:Below w.heap.size w w'):w.grownBy w' none:=⟨hb.os,hb.tape,hb.output,hb.size,fun k hk _=>hb.block k hk⟩
theorem Xbx{α:Type}{l:List α}{k:Nat}{x:α}(h:l[k]?=some x):(l.take (k+1)).Nodup↔(l.take k).Nodup∧x ∉ l.take k:=by
 rw[List.take_add_one,h,Option.toList_some,List.nodup_append];simp only[List.mem_singleton];constructor
 ·rintro⟨h1,_,h3⟩;exact⟨h1,fun hm=>h3 x hm x rfl rfl⟩
 ·rintro⟨h1,h2⟩;exact⟨h1,by simp,fun a ha b hb e=>h2 (by rw[←hb,←e];exact ha)⟩
theorem Xg4{α:Type}{l:List α}{k:Nat}{x:α}(h:l[k]?=some x)(hm:x ∈ l.take k):¬l.Nodup:=fun hd =>
 ((Xbx h).1 ((List.take_sublist _ _).nodup hd)).2 hm
def bT:DataW Unit:=.lit (.bool true)
theorem Xi9(w:World):(zeroValue 4).run Tryz.prog w=.ok (.bool false) w:=by kernel_rfl
theorem twice_(A:Option Addr)(n c B:Nat)(l:List (List Int))(w:World)(hs:KeysIn w B A n l)(hB:B≤w.heap.size)(hn:n≤8000)(hb:∀k ∈ l,k.length=32∧AllBytes k) :
 Calls Tryz.prog 118 #[.slice A n c] w fun e w'=>e=.returned (.bool (decide (¬l.Nodup)))∧Below w.heap.size w w':=by
 have hmm:=@run_makeMap Tryz.prog;have HL:=Hd hs.len;have HIN:=Hd hs;have HKB:=Hd hb;clear hs hb;go_enter Tryz.func118,Tryz.ntmps118
 go_wp2;go_loopw [9] (fun i wr=>∃k:Nat,k≤n∧i=.int .i64 k∧(l.take k).Nodup∧wr.ownsMap Tryz.prog 78 (plainElem Tryz.prog 4) w.heap.size k (KSet bT (l.take k))∧Below w.heap.size w wr) (fun i _=>n - (intOf i).toNat)
 case atStart=>exact⟨0,Nat.zero_le _,rfl,by simp,World.ownsMap_made _ _ _ _,(Br _ _).alloc (Lr _) _⟩
 case round =>
  obtain⟨k,hk,rfl,hnd,hown,hbw⟩:=hrel;have HND:=Hd hnd;have HO:=Hd hown;have HBW:=Hd hbw;clear hnd hown hbw;by_cases hlt:k<n
  ·obtain⟨a,y,rfl,hab,hx,hat⟩:=(HIN.out.below (HBW.out.mono hB)).get hlt;have hyb:=HKB.out y (List.mem_of_getElem? hx);have HX:=Hd hx;have HSZ:=Hd (show(Tryz.prog.info? 78).map (·.size)=some (bv y).length by rw[bL,hat.len];exact Xab);have HYL:=Hd (show(bv y).length=32 by rw[bL,hat.len]);have HCE:Hid (∀j u,(bv y)[j]?=some u→wr.cell? ((a.add (k*32)).add j)=some u):=Hd hat.cells;have HKL:=Hd (KL_is hyb.1 hyb.2);have HYB:=Hd hyb;have hle:∀z ∈ l.take k,z.length=32∧AllBytes z:=fun z hz=>HKB.out z (List.mem_of_mem_take hz)
   have hatk:=Xse bT (.lit (.bool false)) (l.take k) hle y hyb;have HTK:=Hd (show(l.take (k+1))=l.take k++[y] by rw[List.take_add_one,hx];rfl);have H1:=Hd (Xae y);generalize hcs:bv y=cs at *;clear hcs;by_cases hm:y ∈ l.take k
   ·have HC:Hid ((KSet bT (l.take k)).atKey (KL y) (.lit (.bool false))=.lit (.bool true)):=Hd (by rw[hatk,if_pos hm];rfl);have HQ:Hid (decide (¬l.Nodup)=true):=Hd (decide_eq_true (Xg4 hx hm));clear hatk hm hle hyb hx hat;go_wp2_with (first
     | ((with_reducible show wpList _ _ _ (⟨some 12,_,_,_,_,_⟩::_) _ _);go_must(refine Xa3 rfl 78 (.tmp 11) rfl (a.add (k*32)) cs _ Tryz.underlying78 rfl HSZ.out HCE.out ?_ ?_;go_simp))
     | ((with_reducible show wpList _ _ _ (⟨none,Op.store 78 _ _,_,_,_,_⟩::_) _ _);go_must(refine Xa1 rfl 78 (.tmp 5) (.tmp 12) rfl cs HSZ.out H1.out (by rw[HYL.out];rfl) ?_ ?_ ?_;go_simp;go_simp;intro w1 hr1 hb1 hz1;have R1:=Hd hr1;have B1:=Hd hb1;clear hr1 hb1 hz1))
     | ((with_reducible show wpList _ _ _ (⟨some 14,_,_,_,_,_⟩::_) _ _);go_must(refine Xa0 rfl 78 (.tmp 5) rfl _ 78 cs _ Tryz.underlying78 rfl HSZ.out R1.out ?_ ?_;go_simp))
     | (at_lookup;go_must(refine Xb9 _ rfl _ _ 213 rfl 78 4 Xdu Tryz.underlying213 Tryz.underlying4 (Xi9 _) w.heap.size k _ rfl (HO.out.kept (Xda B1.out) (by simp)) _ _ rfl HKL.out true HC.out ?_)))
    go_ret;exact⟨Xad HQ.out.symm,HBW.out.trans (B1.out.mono HBW.out.size)⟩
   ·have HC:Hid ((KSet bT (l.take k)).atKey (KL y) (.lit (.bool false))=.lit (.bool false)):=Hd (by rw[hatk,if_neg hm]);have HQ:Hid ((l.take (k+1)).Nodup):=Hd ((Xbx hx).2 ⟨HND.out,hm⟩);clear hatk hm hle hyb hx hat;go_wp2_with (first
     | ((with_reducible show wpList _ _ _ (⟨some 12,_,_,_,_,_⟩::_) _ _);go_must(refine Xa3 rfl 78 (.tmp 11) rfl (a.add (k*32)) cs _ Tryz.underlying78 rfl HSZ.out HCE.out ?_ ?_;go_simp))
     | ((with_reducible show wpList _ _ _ (⟨none,Op.store 78 _ _,_,_,_,_⟩::_) _ _);go_must(refine Xa1 rfl 78 (.tmp 5) (.tmp 12) rfl cs HSZ.out H1.out (by rw[HYL.out];rfl) ?_ ?_ ?_;go_simp;go_simp;intro w1 hr1 hb1 hz1;have R1:=Hd hr1;have B1:=Hd hb1;clear hr1 hb1 hz1))
     | ((with_reducible show wpList _ _ _ (⟨some 14,_,_,_,_,_⟩::_) _ _);go_must(refine Xa0 rfl 78 (.tmp 5) rfl _ 78 cs _ Tryz.underlying78 rfl HSZ.out R1.out ?_ ?_;go_simp))
     | ((with_reducible show wpList _ _ _ (⟨some 17,_,_,_,_,_⟩::_) _ _);go_must(refine Xa0 rfl 78 (.tmp 5) rfl _ 78 cs _ Tryz.underlying78 rfl HSZ.out R1.out ?_ ?_;go_simp))
     | (at_lookup;go_must(refine Xb9 _ rfl _ _ 213 rfl 78 4 Xdu Tryz.underlying213 Tryz.underlying4 (Xi9 _) w.heap.size k _ rfl (HO.out.kept (Xda B1.out) (by simp)) _ _ rfl HKL.out false HC.out ?_))
     | (at_mapUpdate;go_must(refine wpList_mapUpdate_own _ rfl _ _ _ 213 rfl 78 4 Xdu Tryz.underlying213 _ w.heap.size k _ rfl (HO.out.kept (Xda B1.out) (by simp)) (by unfold maxLen;omega) _ _ _ rfl rfl HKL.out bT [] (plainElem_bool Tryz.underlying4 true) ?_);intro w2 hown2 hgr2;have O2:=Hd hown2;have G2:=Hd hgr2;clear hown2 hgr2))
    go_roundw
    case rel=>exact⟨k+1,by omega,by go_num,HQ.out,by rw[HTK.out,Xib];exact O2.out,(HBW.out.trans (B1.out.mono HBW.out.size)).grown G2.out (HBW.out.trans (B1.out.mono HBW.out.size)).size (fun j hj=>by cases hj;exact Lr _)⟩
    case measure=>simp[intOf];omega
  ·have hkn:k=n:=by omega
   have HE:Hid (decide (¬l.Nodup)=false):=Hd (by
    have h1:=HND.out;rw[hkn,List.take_of_length_le (by rw[HL.out];exact Lr _)]at h1;exact decide_eq_false (fun h=>h h1))
   clear hkn;go_wp2;go_ret;exact⟨Xad HE.out.symm,HBW.out⟩
section
variable{w:World}{g1 g3 g4 g5 g6 g7 B:Nat}{s:TRaw}{x:LTx}
theorem rule1_(h:Made w g1 g3 g4 g5 g6 g7 s x)(hm:TxIn w B s x) :
 Calls Tryz.prog 107 #[.pointer (some ⟨g5,0,none⟩),.pointer (some ⟨g1,0,none⟩)] w fun e w'=>e=.returned (.bool (b1 x))∧Below w.heap.size w w':=by
 have c5:w.cell? ⟨g5,0,none⟩=some (.int .i64 x.m.s):=h.s.cell 0;have c1:w.cell? ⟨g1,0,none⟩=some (.slice s.SA s.sn s.sc):=(h.tx.cell 0).trans rfl;have hl:=hm.sigs.len;have hx:=hm.sn;have hb:=Br w.heap.size w;have HB1:Hid (b1 x=decide (x.m.s=0∨(s.sn:Int)≠x.m.s)):=Hd (by unfold b1;rw[hl]);obtain⟨SA,sn,sc,q⟩:=s;dsimp only at c1 HB1 hx
 unfold maxLen at hx;generalize b1 x=bb at *;generalize x.m.s=v at *;clear hl hm h;have HB:=Hd hb;clear hb;by_cases hz:v=0
 ·have HQ:Hid (bb=true):=Hd (by rw[HB1.out];simp[hz]);have e1:(v==0)=true:=by simp[hz]
  clear hz;go_enter Tryz.func107,Tryz.ntmps107
  go_wp2;go_ret;exact⟨Xad HQ.out.symm,HB.out⟩
 have e1:(v==0)=false:=by simp[hz]
 by_cases hn:(sn:Int)=v
 ·have HQ:Hid (bb=false):=Hd (by rw[HB1.out];simp[hz,hn]);have e2:((sn:Int) != v)=false:=by simp[hn]
  clear hz hn;go_enter Tryz.func107,Tryz.ntmps107
  go_wp2;go_ret;exact⟨Xad HQ.out.symm,HB.out⟩
 ·have HQ:Hid (bb=true):=Hd (by rw[HB1.out];simp[hn]);have e2:((sn:Int) != v)=true:=by simp[hn]
  clear hz hn;go_enter Tryz.func107,Tryz.ntmps107
  go_wp2;go_ret;exact⟨Xad HQ.out.symm,HB.out⟩
theorem rule2_(h:Made w g1 g3 g4 g5 g6 g7 s x)(hm:TxIn w B s x)(hw:x.m.Wf) :
 Calls Tryz.prog 108 #[.pointer (some ⟨g6,0,none⟩),.pointer (some ⟨g5,0,none⟩),.pointer (some ⟨g7,0,none⟩),.pointer (some ⟨g3,0,none⟩)] w fun e w'=>e=.returned (.bool (b2 x.m))∧Below w.heap.size w w':=by
 have c5:w.cell? ⟨g5,0,none⟩=some (.int .i64 x.m.s):=h.s.cell 0;have c6:w.cell? ⟨g6,0,none⟩=some (.int .i64 x.m.r):=h.r.cell 0;have c7:w.cell? ⟨g7,0,none⟩=some (.int .i64 x.m.o):=h.o.cell 0;have c3:w.cell? ⟨g3,4,none⟩=some (.slice s.q.KA s.q.kn s.q.kc):=(h.m.cell 4).trans rfl;have hl:=hm.m.keys.len;have hx:=hm.m.kn;have hb:=Br w.heap.size w;have HB1:Hid (b2 x.m=decide (x.m.s≤x.m.r∨(s.q.kn:Int)<x.m.s+x.m.o)):=Hd (by unfold b2;rw[hl]);obtain⟨s0,s1⟩:0≤x.m.s∧x.m.s<256:=hw.s;obtain⟨o0,o1⟩:0≤x.m.o∧x.m.o<256:=hw.o;obtain⟨SA,sn,sc,KA,kn,kc,IA,n,ic,LA,ln,lc⟩:=s;dsimp only at c3 HB1 hx
 unfold maxLen at hx;generalize b2 x.m=bb at *;generalize x.m.s=v at *;generalize x.m.r=r at *;generalize x.m.o=o at *;clear hl hm h hw;have HB:=Hd hb;clear hb;by_cases hz:v≤r
 ·have HQ:Hid (bb=true):=Hd (by rw[HB1.out];simp[hz]);go_enter Tryz.func108,Tryz.ntmps108
  go_wp2;go_ret;exact⟨Xad HQ.out.symm,HB.out⟩
 by_cases hn:(kn:Int)<v+o
 ·have HQ:Hid (bb=true):=Hd (by rw[HB1.out];simp[hn]);go_enter Tryz.func108,Tryz.ntmps108
  go_wp2;go_ret;exact⟨Xad HQ.out.symm,HB.out⟩
 ·have HQ:Hid (bb=false):=Hd (by rw[HB1.out];simp;omega);go_enter Tryz.func108,Tryz.ntmps108
  go_wp2;go_ret;exact⟨Xad HQ.out.symm,HB.out⟩
theorem rule3_(h:Made w g1 g3 g4 g5 g6 g7 s x)(hm:TxIn w B s x)(hB:B≤w.heap.size)(hs:Small x.m) :
 Calls Tryz.prog 109 #[.pointer (some ⟨g3,0,none⟩)] w fun e w'=>e=.returned (.bool (b3 x.m))∧Below w.heap.size w w':=by
 have c3:w.cell? ⟨g3,38,none⟩=some (.slice s.q.LA s.q.ln s.q.lc):=(h.m.cell 38).trans (Xdo hm.m.recent);have HC:=Hd (Xjt s.q.LA s.q.ln s.q.lc B x.m.looks w hm.m.looks hB (by have:=hm.m.looks.len;have:=hs.looks;omega) fun y hy=>hs.wr hy);have HQ:Hid (x.m.looks.any noix=b3 x.m):=Hd rfl;clear hm h hs;go_enter Tryz.func109,Tryz.ntmps109
 go_wp2_with fail;refine HC.out.mono ?_;rintro e w' ⟨rfl,hb⟩;have HB:=Hd hb;clear hb;go_wp2_with fail;go_ret;exact⟨Xad HQ.out,HB.out⟩
theorem rule4_(h:Made w g1 g3 g4 g5 g6 g7 s x) :
 Calls Tryz.prog 112 #[.pointer (some ⟨g4,0,none⟩)] w fun e w'=>e=.returned (.bool (b4 x.m))∧Below w.heap.size w w':=by
 have c3:w.cell? ⟨g4,0,none⟩=some (.int .i64 (tot x.m:Nat)):=h.t.cell 0;have HB1:Hid (b4 x.m=decide (64<tot x.m)):=Hd rfl;have hb:=Br w.heap.size w;have HB:=Hd hb;clear hb h;generalize tot x.m=t at *;by_cases hn:(64:Int)<t
 ·have HQ:Hid (b4 x.m=true):=Hd (by rw[HB1.out];simp;omega);go_enter Tryz.func112,Tryz.ntmps112
  go_wp2;go_ret;exact⟨Xad HQ.out.symm,HB.out⟩
 ·have HQ:Hid (b4 x.m=false):=Hd (by rw[HB1.out];simp;omega);go_enter Tryz.func112,Tryz.ntmps112
  go_wp2;go_ret;exact⟨Xad HQ.out.symm,HB.out⟩
theorem Made.caps(h:Made w g1 g3 g4 g5 g6 g7 s x):Caps w g3 g4 s.q.KA s.q.kn s.q.kc (tot x.m):=⟨(h.m.cell 4).trans rfl,h.t.cell 0,h.m.lt,h.t.lt⟩
theorem rule5_(h:Made w g1 g3 g4 g5 g6 g7 s x)(hm:TxIn w B s x)(hB:B≤w.heap.size)(hs:Small x.m)(hw:x.m.Wf) :
 Calls Tryz.prog 113 #[.pointer (some ⟨g3,0,none⟩),.pointer (some ⟨g4,0,none⟩)] w fun e w'=>e=.returned (.bool (b5 x.m))∧Below w.heap.size w w':=by
 have hmf:∀(fn:Fn) (first cap:Array Value) (w:World),(Instr.makeFunc fn first cap).run Tryz.prog w=.ok (.func fn first cap) w:=fun _ _ _ _=>rfl
 have c3:w.cell? ⟨g3,37,none⟩=some (.slice s.q.IA s.q.n s.q.ic):=(h.m.cell 37).trans (Xds hm.m.recent);have HC:=Hd (Xkv s.q.IA s.q.n s.q.ic B s.q.kn (tot x.m) s.q.kc g3 g4 s.q.KA x.m.ins w hm.m.ins hB (by have:=hm.m.ins.len;have:=hs.ins;omega) (fun y hy=>⟨(hw.ins y hy).1,(hw.ins y hy).2.1,hs.acc y hy⟩) (by have:=hm.m.keys.len;have:=hs.keys;omega) hs.tot h.caps);have HQ:Hid (x.m.ins.any (stray s.q.kn (tot x.m))=b5 x.m):=Hd (by unfold b5;rw[hm.m.keys.len]);clear hm h hs hw;go_enter Tryz.func113,Tryz.ntmps113
 go_wp2_with fail;refine HC.out.mono ?_;rintro e w' ⟨rfl,hb⟩;have HB:=Hd hb;clear hb;go_wp2_with fail;go_ret;exact⟨Xad HQ.out,HB.out⟩
theorem rule6_(h:Made w g1 g3 g4 g5 g6 g7 s x)(hm:TxIn w B s x)(hB:B≤w.heap.size)(hs:Small x.m)(hw:x.m.Wf) :
 Calls Tryz.prog 117 #[.pointer (some ⟨g3,0,none⟩)] w fun e w'=>e=.returned (.bool (b6 x.m))∧Below w.heap.size w w':=by
 have c3:w.cell? ⟨g3,4,none⟩=some (.slice s.q.KA s.q.kn s.q.kc):=(h.m.cell 4).trans rfl;have hc:=twice_ s.q.KA s.q.kn s.q.kc B x.m.keys w hm.m.keys hB (by have:=hm.m.keys.len;have:=hs.keys;omega) hw.keys;rw[show decide (¬x.m.keys.Nodup)=b6 x.m from rfl]at hc;have HC:=Hd hc;clear hc;clear hm h hs hw;go_enter Tryz.func117,Tryz.ntmps117
 go_wp2_with fail;refine HC.out.mono ?_;rintro e w' ⟨rfl,hb⟩;have HB:=Hd hb;clear hb;go_wp2_with fail;go_ret;exact⟨rfl,HB.out⟩
end
end Go.Proofs.YtdgbodljmdcagaaGreatDoor
