import Derived.Test.YtaljfbbieefooaaGreatDoorM15
set_option maxRecDepth 100000
set_option maxHeartbeats 16000000
set_option linter.unusedSimpArgs false
set_option linter.unusedVariables false
namespace Go.Proofs.YtaljfbbieefooaaGreatDoor
open Go.RowKit
theorem Xf8:Tryz.prog.built 49 []=some (out0.cells (.slice none 0 0)).toArray:=by kernel_rfl
theorem Xdo{q:YRaw}{x:LReady}(h:x.tx.m.recent.length=32):(q.cells x)[39]?=some (.slice q.t.q.IA q.t.q.n q.t.q.ic):=Xeb (j:=38) ((Xe1 37).trans (Xev h))
structure RX(w V:World)(B g2 g4:Nat)(q:YRaw)(x:LReady)(LA:Option Addr)(ln:Nat)(l:List LAcc):Prop where
 b:Below w.heap.size w V
 r2:Row V g2 40 (q.cells x)
 r4:Row V g4 49 (out0.cells (.slice none 0 0))
 rd:ReadyIn V B q x
 ac:AccsIn V B LA ln l
theorem RX.below{w V V':World}{B g2 g4 ln:Nat}{q:YRaw}{x:LReady}{LA:Option Addr}{l:List LAcc}(h:RX w V B g2 g4 q x LA ln l)(hB:B≤w.heap.size)(hb:Below V.heap.size V V'):RX w V' B g2 g4 q x LA ln l:=
 ⟨h.b.trans (hb.mono h.b.size),h.r2.below hb h.r2.lt,h.r4.below hb h.r4.lt,h.rd.below (hb.mono (Lq hB h.b.size)),h.ac.below (hb.mono (Lq hB h.b.size))⟩
def RunDone(w:World)(R:LOut × Int)(e:Ending)(w':World):Prop:=∃v,e=.returned (.tuple #[.agg (R.1.cells v).toArray,.int .i64 R.2])∧w'.ownsRow w.heap.size 74 66 v R.1.ch.length (holC R.1.ch)∧Below w.heap.size w w'
theorem Xkv{w w':World}{R:LOut × Int}(h:R=(out0,1))(hb:Below w.heap.size w w'):RunDone w R (.returned (.tuple #[.agg (out0.cells (.slice none 0 0)).toArray,.int .i64 1])) w':=by
 subst h;exact⟨_,rfl,Xaq _ _ _ _,hb⟩
theorem arg15{x:LReady}{l:List LAcc}(h:l.length≠x.roles.length):run15 x l=(out0,1):=by unfold run15;rw[if_pos h]
theorem Xif{x:LReady}{l:List LAcc}(h:∃a ∈ x.tx.m.ins,(x.roles.length:Int)≤a.p):run15 x l=(out0,1):=by
 unfold run15;split
 ·rfl
 ·first
  | rfl
  | rw[if_pos h]
theorem Xu7{w:World}{base n:Nat}{v:Value}{L:List LAcc}(h:w.ownsRow base 69 34 v n (accsC L))(hn:L.length=n)(ho:∀x ∈ L,AccOk x):OA14 w base v L:=by
 subst hn;obtain⟨A,c,rfl,_,h1,h2,_⟩:=Xbm h;exact⟨⟨A,c,c,rfl,h1,Lr _,h⟩,ho⟩
theorem Xdb(f a u fee:Int)(A:Option Addr)(n c:Nat):Tryz.prog.built 49 [(0,.int .i64 f),(1,.int .i64 a),(2,.int .u64 u),(3,.int .u64 fee),(5,.slice A n c)]=some [Value.int .i64 f,.int .i64 a,.int .u64 u,.int .u64 fee,.int .u64 0,.slice A n c].toArray:=by kernel_rfl
theorem Xju(u fee s:Int)(A:Option Addr)(n c:Nat):Tryz.prog.built 49 [(1,.int .i64 (-1)),(2,.int .u64 u),(3,.int .u64 fee),(4,.int .u64 s),(5,.slice A n c)]=some [Value.int .i64 0,.int .i64 (-1),.int .u64 u,.int .u64 fee,.int .u64 s,.slice A n c].toArray:=by kernel_rfl
theorem Xcz{w w':World}{x:LReady}{l:List LAcc}{R:LOut}{v:Value}(h:run15 x l=(R,0))(ho:w'.ownsRow w.heap.size 74 66 v R.ch.length (holC R.ch))(hb:Below w.heap.size w w'):RunDone w (run15 x l) (.returned (.tuple #[.agg (R.cells v).toArray,.int .i64 0])) w':=by
 rw[h];exact⟨v,rfl,ho,hb⟩
theorem Xiq:(Tryz.prog.info? 61).map (·.zero)=some (some (.agg (insC 0 none 0 0 none 0 0).toArray)):=by kernel_rfl
theorem Xh6{p:Int}{IA D:Option Addr}{n c dn dc:Nat}:∀u ∈ insC p IA n c D dn dc,u.oneCell'=true:=by
 intro u hu;simp only[insC,List.mem_cons,List.not_mem_nil,or_false]at hu;rcases hu with rfl | rfl | rfl <;> rfl
theorem Xob:(Tryz.prog.info? 62).map (·.zero)=some (some (.agg (bv k0).toArray)):=by kernel_rfl
theorem Xtb(l:List Int):∀u ∈ bv l,u.oneCell'=true:=by
 intro u hu;obtain⟨z,_,rfl⟩:=List.mem_map.1 hu;rfl
theorem Xk9{w:World}{B B':Nat}{p:Int}{IA:Option Addr}{n c:Nat}{D:Option Addr}{dn dc:Nat}{acc dat:List Int}(h:InsAt14 w B p IA n c D dn dc acc dat)(hB:B≤B'):InsAt14 w B' p IA n c D dn dc acc dat:=
 ⟨h.aSees.more hB,h.dSees.more hB,h.ab,h.db,h.ac,h.dc⟩
theorem Xje{w:World}{base base':Nat}{v:Value}{L:List LAcc}(h:OA14 w base v L)(hb:base'≤base):OA14 w base' v L:=by
 obtain⟨A,c,c',h1,h2,h3,h4⟩:=h.is;exact⟨⟨A,c,c',h1,h2,h3,Xbp h4 hb⟩,h.ok⟩
theorem Xpp(q:YRaw)(x:LReady)(B:Nat)(LA:Option Addr)(ln lc:Nat)(l:List LAcc)(w:World)(h:ReadyIn w B q x)(hl:AccsIn w B LA ln l)(hlc:ln≤lc∧lc≤maxLen)(hB:B≤w.heap.size)(hln:ln≤100000)(hpb:∀a ∈ x.tx.m.ins,IsByte a.p)(hab:∀a ∈ x.tx.m.ins,AllBytes a.acc∧AllBytes a.dat)(hu:0≤x.u∧x.u<18446744073709551616)(hsm:q.t.q.n≤65535∧∀a ∈ x.tx.m.ins,a.acc.length≤65535)(hne:ln≠q.rn) :
 Calls Tryz.prog 9 #[.agg (q.cells x).toArray,.slice LA ln lc] w (RunDone w (run15 x l)):=by
 have HD:Hid (run15 x l=(out0,1)):=Hd (arg15 (by rw[hl.len,h.rs.len];exact hne));have hne':¬(ln:Int)=(q.rn:Int):=fun e=>hne (by exact_mod_cast e)
 clear hne;have HB:=Hd hB;have H32:=Hd h.tx.m.recent;have HRL:=Hd h.rs.len;have HLL:=Hd hl.len;have HNL:=Hd h.tx.m.ins.len;have HPB:=Hd hpb;have HAB:=Hd hab;have HU:=Hd hu;have HSM:=Hd hsm;have HRM:=Hd h.rn;have HNM:=Hd h.tx.m.n;have hbw:=((Br w.heap.size w).alloc (Lr _) (.cells (q.cells x).toArray 40)).alloc (by simp) (.cells (out0.cells (.slice none 0 0)).toArray 49);have R2:=Hd ((Row.new w 40 (q.cells x)).alloc (.cells (out0.cells (.slice none 0 0)).toArray 49));have R4:=Hd (Row.new' (w.alloc (.cells (q.cells x).toArray 40)) 49 (out0.cells (.slice none 0 0)) (g:=w.heap.size+1) (by simp));have X0:Hid (RX w ((w.alloc (.cells (q.cells x).toArray 40)).alloc (.cells (out0.cells (.slice none 0 0)).toArray 49)) B w.heap.size (w.heap.size+1) q x LA ln l):=Hd ⟨hbw,R2.out,R4.out,h.below (hbw.mono hB),hl.below (hbw.mono hB)⟩;clear hbw h hl R2 R4;obtain⟨g4,hg4⟩:∃g,g=w.heap.size+1:=⟨_,rfl⟩;have HG4:Hid ((w.alloc (.cells (q.cells x).toArray 40)).heap.size=g4):=Hd (by rw[hg4];simp);have HG42:Hid (w.heap.size+1=g4):=Hd hg4.symm;obtain⟨g2,hg2⟩:∃g,g=w.heap.size:=⟨_,rfl⟩;have HG2:Hid (w.heap.size=g2):=Hd hg2.symm;rw[←hg4,←hg2]at X0;have HGL:Hid (w.heap.size≤g2∧w.heap.size≤g4):=Hd (by omega);have HGN:Hid (g2≠g4):=Hd (by omega);clear hg2 hg4;generalize hW0:w.alloc (.cells (q.cells x).toArray 40)=W0 at *;generalize hW:W0.alloc (.cells (out0.cells (.slice none 0 0)).toArray 49)=W at *;have HW0:=Hd hW0;have HW:=Hd hW;clear hW hW0 hpb hab hu hsm;go_enter Tryz.func9,Tryz.ntmps9
 go_upto_region 1 with((with_reducible show wpList _ _ _ (⟨some 4,_,_,_,_,_⟩::_) _ _);go_must(refine Xa0 rfl 49 rfl (out0.cells (.slice none 0 0)) Xbk ?_))
 rw[HW0.out];rw[HW.out];try rw[HG4.out]
 try rw[HG42.out]
 try rw[HG2.out]
 clear HG2 HG4 HG42 HW0 HW;have c41:W.cell? ⟨g2,41,none⟩=some (.slice q.RA q.rn q.rc):=(X0.out.r2.cell 41).trans (Xaj H32.out 0);go_wp2_with (first
  | ((with_reducible show wpList _ _ _ (⟨some 23,_,_,_,_,_⟩::_) _ _);go_must(refine wpList_plain rfl fun K hK=>Xae _ _ _ rfl (by simp only[List.map_toArray,List.map_nil];exact Xf8) (hK _ _ ?_)))
  | ((with_reducible show wpList _ _ _ (⟨none,Op.store 49 _ _,_,_,_,_⟩::_) _ _);go_must(refine Xab rfl 49 (.tmp 4) (.tmp 23) rfl g4 (out0.cells (.slice none 0 0)) (out0.cells (.slice none 0 0)) X0.out.r4 (Xag _ _) rfl (Xb5 _ rfl) ?_ ?_ ?_;go_simp;go_simp;intro w5 hr5 ht5)))
 have R5:=Hd hr5;have B5:=Hd (X0.out.b.trans (ht5.below HGL.out.2));clear hr5 ht5;refine bodyPost_ret (Xaa (h:=rfl) _ w5 ⟨g4,0,none⟩ _ _ (by rfl) (by rfl) (run_loadVar_row w5 g4 49 49 (out0.cells (.slice none 0 0)).toArray (0,0) _ R5.out.is Tryz.underlying49 rfl (by rw[List.size_toArray];exact Xag _ _))) rfl ?_;exact Xkv HD.out B5.out
theorem Xtt(q:YRaw)(x:LReady)(B:Nat)(LA:Option Addr)(ln lc:Nat)(l:List LAcc)(w:World)(h:ReadyIn w B q x)(hl:AccsIn w B LA ln l)(hlc:ln≤lc∧lc≤maxLen)(hB:B≤w.heap.size)(hln:ln≤100000)(hpb:∀a ∈ x.tx.m.ins,IsByte a.p)(hab:∀a ∈ x.tx.m.ins,AllBytes a.acc∧AllBytes a.dat)(hu:0≤x.u∧x.u<18446744073709551616)(hsm:q.t.q.n≤65535∧∀a ∈ x.tx.m.ins,a.acc.length≤65535)  :
 Calls Tryz.prog 9 #[.agg (q.cells x).toArray,.slice LA ln lc] w (RunDone w (run15 x l)):=by
 by_cases hne:ln≠q.rn
 ·exact Xpp q x B LA ln lc l w h hl hlc hB hln hpb hab hu hsm hne
 have heq:ln=q.rn:=by omega
 have heq':(ln:Int)=(q.rn:Int):=by exact_mod_cast heq
 have HEQ:=Hd heq;clear hne heq;have HB:=Hd hB;have H32:=Hd h.tx.m.recent;have HRL:=Hd h.rs.len;have HLL:=Hd hl.len;have HNL:=Hd h.tx.m.ins.len;have HPB:=Hd hpb;have HAB:=Hd hab;have HU:=Hd hu;have HSM:=Hd hsm;have HRM:=Hd h.rn;have HNM:=Hd h.tx.m.n;have hbw:=((Br w.heap.size w).alloc (Lr _) (.cells (q.cells x).toArray 40)).alloc (by simp) (.cells (out0.cells (.slice none 0 0)).toArray 49);have R2:=Hd ((Row.new w 40 (q.cells x)).alloc (.cells (out0.cells (.slice none 0 0)).toArray 49));have R4:=Hd (Row.new' (w.alloc (.cells (q.cells x).toArray 40)) 49 (out0.cells (.slice none 0 0)) (g:=w.heap.size+1) (by simp));have X0:Hid (RX w ((w.alloc (.cells (q.cells x).toArray 40)).alloc (.cells (out0.cells (.slice none 0 0)).toArray 49)) B w.heap.size (w.heap.size+1) q x LA ln l):=Hd ⟨hbw,R2.out,R4.out,h.below (hbw.mono hB),hl.below (hbw.mono hB)⟩;clear hbw h hl R2 R4;obtain⟨g4,hg4⟩:∃g,g=w.heap.size+1:=⟨_,rfl⟩;have HG4:Hid ((w.alloc (.cells (q.cells x).toArray 40)).heap.size=g4):=Hd (by rw[hg4];simp);have HG42:Hid (w.heap.size+1=g4):=Hd hg4.symm;obtain⟨g2,hg2⟩:∃g,g=w.heap.size:=⟨_,rfl⟩;have HG2:Hid (w.heap.size=g2):=Hd hg2.symm;rw[←hg4,←hg2]at X0;have HGL:Hid (w.heap.size≤g2∧w.heap.size≤g4):=Hd (by omega);have HGN:Hid (g2≠g4):=Hd (by omega);clear hg2 hg4;generalize hW0:w.alloc (.cells (q.cells x).toArray 40)=W0 at *;generalize hW:W0.alloc (.cells (out0.cells (.slice none 0 0)).toArray 49)=W at *;have HW0:=Hd hW0;have HW:=Hd hW;clear hW hW0 hpb hab hu hsm;go_enter Tryz.func9,Tryz.ntmps9
 go_upto_region 1 with((with_reducible show wpList _ _ _ (⟨some 4,_,_,_,_,_⟩::_) _ _);go_must(refine Xa0 rfl 49 rfl (out0.cells (.slice none 0 0)) Xbk ?_))
 rw[HW0.out];rw[HW.out];try rw[HG4.out]
 try rw[HG42.out]
 try rw[HG2.out]
 clear HG2 HG4 HG42 HW0 HW;have c41:W.cell? ⟨g2,41,none⟩=some (.slice q.RA q.rn q.rc):=(X0.out.r2.cell 41).trans (Xaj H32.out 0);have c39:W.cell? ⟨g2,39,none⟩=some (.slice q.t.q.IA q.t.q.n q.t.q.ic):=(X0.out.r2.cell 39).trans (Xdo H32.out);go_upto_region 4 with fail
 clear c39 c41;obtain⟨nn,hnn⟩:∃nn,nn=q.t.q.n:=⟨_,rfl⟩;have HNN:=Hd hnn;have hnm:nn≤maxLen:=by rw[hnn];exact Lq HNM.out.1 HNM.out.2
 unfold maxLen at hnm;clear hnn;go_wp2_with fail;go_loopw [6] (fun i wr=>∃k:Nat,k≤nn∧i=.int .i64 k∧RX w wr B g2 g4 q x LA ln l∧Hid (∀a ∈ x.tx.m.ins.take k,a.p<(x.roles.length:Int))) (fun i _=>nn - (intOf i).toNat)
 case atStart=>exact⟨0,Nat.zero_le _,rfl,X0.out,Hd (by simp)⟩
 case round =>
  clear X0;obtain⟨k,hk,rfl,hx,HI⟩:=hrel;have XV:=Hd hx;clear hx;rename World=>V
  have c39:V.cell? ⟨g2,39,none⟩=some (.slice q.t.q.IA nn q.t.q.ic):=by rw[HNN.out];exact(XV.out.r2.cell 39).trans (Xdo H32.out)
  have c41:V.cell? ⟨g2,41,none⟩=some (.slice q.RA q.rn q.rc):=(XV.out.r2.cell 41).trans (Xaj H32.out 0);by_cases hlt:k<nn
  ·have hlt':(k:Int)<nn:=by omega
   obtain⟨ia,a,va,vd,hia,hib,ha,hat⟩:=XV.out.rd.tx.m.ins.get (k:=k) (by rw[←HNN.out];exact hlt);have cp:V.cell? (ia.add (k*3))=some (.int .u8 a.p):=by simpa [Addr.add]using hat.cells 0 _ rfl
   have hpb:=HPB.out a (List.mem_of_getElem? ha);have hp0:=hpb.1;have hp1:=hpb.2;rw[hia]at c39;have HA:=Hd ha;clear hat hib ha hpb;have hrm:q.rn≤9223372036854775807:=by have h1:=HRM.out.1;have h2:=HRM.out.2;unfold maxLen at h2;omega
   go_upto_region 6 with fail
   by_cases hbad:(q.rn:Int)≤a.p
   ·have hbad':decide ((q.rn:Int)≤a.p)=true:=decide_eq_true hbad;have HD:Hid (run15 x l=(out0,1)):=Hd (Xif ⟨a,List.mem_of_getElem? HA.out,by rw[HRL.out];exact hbad⟩);go_quiet (fail)
    clear c39 c41 cp;have XN:=Hd (XV.out.below HB.out ⟨rfl,rfl,rfl,Lr _,fun _ _=>rfl⟩:RX w (V.drewN nq) B g2 g4 q x LA ln l);generalize V.drewN nq=V1 at *;go_wp2_with (first
     | ((with_reducible show wpList _ _ _ (⟨some 46,_,_,_,_,_⟩::_) _ _);go_must(refine wpList_plain rfl fun K hK=>Xae _ _ _ rfl (by simp only[List.map_toArray,List.map_nil];exact Xf8) (hK _ _ ?_)))
     | ((with_reducible show wpList _ _ _ (⟨none,Op.store 49 _ _,_,_,_,_⟩::_) _ _);go_must(refine Xab rfl 49 (.tmp 4) (.tmp 46) rfl g4 (out0.cells (.slice none 0 0)) (out0.cells (.slice none 0 0)) XN.out.r4 (Xag _ _) rfl (Xb5 _ rfl) ?_ ?_ ?_;go_simp;go_simp;intro w5 hr5 ht5)))
    have R5:=Hd hr5;have B5:=Hd (XN.out.b.trans (ht5.below HGL.out.2));clear hr5 ht5;refine bodyPost_ret (Xaa (h:=rfl) _ w5 ⟨g4,0,none⟩ _ _ (by rfl) (by rfl) (run_loadVar_row w5 g4 49 49 (out0.cells (.slice none 0 0)).toArray (0,0) _ R5.out.is Tryz.underlying49 rfl (by rw[List.size_toArray];exact Xag _ _))) rfl ?_;exact Xkv HD.out B5.out
   ·have hgood:¬(q.rn:Int)≤a.p:=hbad;have HI2:Hid (∀a ∈ x.tx.m.ins.take (k+1),a.p<(x.roles.length:Int)):=Hd fun b hb=>by
     rw[List.take_add_one,HA.out]at hb;rcases List.mem_append.1 hb with hb | hb
     ·exact HI.out b hb
     ·obtain rfl:b=a:=by simpa using hb
      rw[HRL.out];omega
    go_quiet (fail)
    clear c39 c41 cp;have XN:=Hd (XV.out.below HB.out ⟨rfl,rfl,rfl,Lr _,fun _ _=>rfl⟩:RX w (V.drewN nq) B g2 g4 q x LA ln l);generalize V.drewN nq=V1 at *;go_wp2_with fail;go_roundw
    case rel=>exact⟨k+1,by omega,by go_num,XN.out,HI2⟩
    case measure=>simp[intOf];omega
  ·have hlt':¬(k:Int)<nn:=by omega
   have hkn:k=nn:=by omega
   have HG:Hid (∀a ∈ x.tx.m.ins,a.p<(x.roles.length:Int)):=Hd fun a ha=>HI.out a (by rw[hkn,HNN.out,←HNL.out,List.take_length];exact ha)
   clear HI hkn hlt;have HLS:=Hd XV.out.ac.sees;have HLO:=Hd XV.out.ac.ok;go_wp2_with ((with_reducible show wpList _ _ _ (⟨some 48,_,_,_,_,_⟩::_) _ _);go_must(refine Xap rfl (.const (.slice none 0 0)) (.tmp 47) 41 69 _ 34 48 rfl Tryz.underlying41 Xbf Xbw (by omega) (.slice none 0 0) 0 [] V.heap.size B LA ln lc (accsC l) rfl (Xaq _ _ _ _) ?_ HLS.out (Xb9 _) (by unfold maxLen;omega) (by omega) (Lr _) ?_;go_simp;intro v4 w4 ho4 hg4))
   rw[Nat.zero_add,List.nil_append]at ho4;have hb4:=hg4.below (Xaq V V.heap.size 69 34) (Lr _);have X4:=Hd (XV.out.below HB.out hb4);have O4:=Hd (Xu7 (Xbp ho4 XV.out.b.size) HLL.out HLO.out);clear ho4 hg4 hb4 HLS c39 c41 XV;have HGS:=Hd (Xik (x:=x) HLL.out HU.out.1);go_loopw [7,8,9,10] (fun nv un sp i wr=>∃(k:Nat) (S:S15),k≤nn∧i=.int .i64 k∧un=.int .u64 S.units∧sp=.int .u64 S.space∧RX w wr B g2 g4 q x LA ln l∧OA14 wr w.heap.size nv S.now∧Go15 x l ln k S) (fun _ _ _ i _=>nn - (intOf i).toNat)
   case atStart=>exact⟨0,⟨l,0,0⟩,Nat.zero_le _,rfl,rfl,rfl,X4.out,O4.out,HGS.out⟩
   case round =>
    clear X4 O4 HGS;obtain⟨k,S,hk,rfl,rfl,rfl,hx,ho,hgo⟩:=hrel;obtain⟨NA,nc,hv,hnc,hncm⟩:=ho.form;rw[hgo.len]at hv hnc;subst hv;have XU:=Hd hx;have OU:=Hd ho;have GO:=Hd hgo;have HNC:=Hd hnc;have HNCM:=Hd hncm;clear hx ho hgo hnc hncm;rename World=>U
    have c39:U.cell? ⟨g2,39,none⟩=some (.slice q.t.q.IA nn q.t.q.ic):=by rw[HNN.out];exact(XU.out.r2.cell 39).trans (Xdo H32.out)
    by_cases hlt:k<nn
    ·have hlt':(k:Int)<nn:=by omega
     obtain⟨ia,a,va,vd,hia,hib,ha,hat⟩:=XU.out.rd.tx.m.ins.get (k:=k) (by rw[←HNN.out];exact hlt);obtain⟨AA,ac,rfl,ha1,ha2,ha3⟩:=hat.acc.is;obtain⟨DD,dc,rfl,hd1,hd2,hd3⟩:=hat.dat.is;rw[hia]at c39;have HCE:=Hd hat.cells;have hmm:=List.mem_of_getElem? ha;have IA0:Hid (InsAt14 U B a.p AA a.acc.length ac DD a.dat.length dc a.acc a.dat):=Hd ⟨ha1,hd1,(HAB.out a hmm).1,(HAB.out a hmm).2,⟨ha2,ha3⟩,⟨hd2,hd3⟩⟩;have HA:=Hd ha;clear hia hat hib ha ha1 ha2 ha3 hd1 hd2 hd3 hmm;go_upto_region 15 with(first
      | ((with_reducible show wpList _ _ _ (⟨some 64,_,_,_,_,_⟩::_) _ _);go_must(refine Xa3 rfl 61 (.tmp 63) rfl (ia.add (k*3)) (insC a.p AA a.acc.length ac DD a.dat.length dc) _ Tryz.underlying61 rfl (by kernel_rfl) HCE.out ?_ ?_;go_simp))
      | ((with_reducible show wpList _ _ _ (⟨some 11,_,_,_,_,_⟩::_) _ _);go_must(refine Xa0 rfl 61 rfl (insC 0 none 0 0 none 0 0) Xiq ?_))
      | ((with_reducible show wpList _ _ _ (⟨none,Op.store 61 _ _,_,_,_,_⟩::_) _ _);go_must(refine Xa2 rfl 61 (.tmp 11) (.tmp 64) rfl (insC a.p AA a.acc.length ac DD a.dat.length dc) (by kernel_rfl) Xh6 rfl ?_ ?_ ?_;go_simp;go_simp;intro w2 hr2 hb2 hz2)))
     have R11:=Hd hr2;have X2:=Hd (XU.out.below HB.out hb2);have O2:=Hd (OU.out.below hb2);have IA2:=Hd (IA0.out.below (hb2.mono (Lq HB.out XU.out.b.size)));have HG11:=Hd XU.out.b.size;obtain⟨g11,hg11⟩:∃g,g=U.heap.size:=⟨_,rfl⟩;rw[←hg11]at R11 HG11 ⊢;clear hr2 hb2 hz2 hg11 XU OU IA0 c39 HCE;have c42:w2.cell? ⟨g2,42,none⟩=some (.int .u64 x.u):=(X2.out.r2.cell 42).trans (Xaj H32.out 1);have hu0:=HU.out.1;have hu1:=HU.out.2;have hs0:=GO.out.u.1;have hs1:=GO.out.u.2;by_cases hu:x.u<150
     ·have hud:decide (x.u<150)=true:=decide_eq_true hu;have HR:Hid (run15 x l=(LOut.mk 20 k x.u x.fee 0 (chg15 x.roles l),0)):=Hd (by
       have hr:=GO.out.bad HA.out (Xde (Or.inl hu)) (by decide) (by rw[HLL.out,HRL.out,HEQ.out]) HG.out;exact hr)
      go_upto_region 32 with fail
      clear c42;refine wp_region_held_drew (S:=fun V=>Row V g2 40 (q.cells x)) (by kernel_rfl) (X2.out.below HB.out (Br _ _).drew).r2 (fun _=>?_);have XD:=Hd (X2.out.below HB.out (Br _ _).drew);generalize w2.drew=wd at *;have RD:=Hd XD.out.r2;refine Tk 0 rfl ?_ RD.out ?_ ⟨?_,rfl⟩
      ·intro w hw;(try dsimp only at hw);go_simp;try with_reducible rfl
      try simp only[nm]
      refine Tk 1 rfl ?_ RD.out ?_ ⟨?_,rfl⟩
      ·intro w hw;(try dsimp only at hw);go_simp;try with_reducible rfl
      try simp only[nm]
      refine Tk 2 rfl ?_ RD.out ?_ ⟨?_,rfl⟩
      ·intro w hw;(try dsimp only at hw);go_simp;try with_reducible rfl
      try simp only[nm]
      refine Tk 3 rfl ?_ RD.out ?_ ⟨?_,rfl⟩
      ·intro w hw;(try dsimp only at hw);go_simp;try with_reducible rfl
      try simp only[nm]
      refine Tk 4 rfl ?_ RD.out ?_ ⟨?_,rfl⟩
      ·intro w hw;try dsimp only at hw
       have c45:w.cell? ⟨g2,45,none⟩=some (.int .u64 x.fee):=(hw.cell 45).trans (Xaj H32.out 4);go_simp;try with_reducible rfl
      try simp only[nm]
      refine Tl 5 (v:=.agg (q.cells x).toArray) rfl (Or.inl ⟨by rfl,fun wz hwz=>Xa4 wz 40 (.tmp 2) rfl ⟨g2,0,none⟩ (q.cells x) _ Tryz.underlying40 rfl (Xb0 H32.out) (fun j u hu=>by rw[Xa5,Nat.zero_add,hwz.cell];exact hu) (by go_simp)⟩) RD.out ?_;try simp only[nm]
      refine Tk 6 rfl ?_ RD.out ?_ ⟨?_,rfl⟩
      ·intro w hw;(try dsimp only at hw);go_simp;try with_reducible rfl
      try simp only[nm]
      refine Rl 7 rfl fun K hK=>?_
      go_simp;refine(Xf7 q x B LA ln lc l wd XD.out.rd XD.out.ac hlc.1 HEQ.out (Lq HB.out XD.out.b.size) hln).mono ?_;rintro e6 w6 ⟨v6,rfl,ho6,hb6⟩;have X6:=Hd (XD.out.below HB.out hb6);obtain⟨A6,c6,rfl,_,_,_,_⟩:=Xbm ho6;have O6:=Hd ho6;clear ho6 hb6;refine hK.out _ _ X6.out.r2 ?_;clear hK K;try simp only[nm]
      refine Tl 8 (v:=.agg (LOut.cells (LOut.mk 20 k x.u x.fee 0 (chg15 x.roles l)) (.slice A6 (chg15 x.roles l).length c6)).toArray) rfl (Or.inl ⟨by rfl,fun wz hwz=>Xa9 wz _ _ _ rfl (by simp only[List.map_toArray,List.map_cons,List.map_nil];exact Xdb _ _ _ _ _ _ _)⟩) X6.out.r2 ?_;try simp only[nm]
      refine Rl 9 rfl fun K hK=>?_
      refine Xb4 49 (.tmp 4) (.tmp 129) rfl g4 (out0.cells (.slice none 0 0)) (LOut.cells (LOut.mk 20 k x.u x.fee 0 (chg15 x.roles l)) (.slice A6 (chg15 x.roles l).length c6)) X6.out.r4 (Xag _ _) rfl (Xb5 _ rfl) (by go_simp) (by go_simp) (fun w5 hr5 ht5=>?_);have R5:=Hd hr5;have RR:=Hd (ht5.row X6.out.r2 HGN.out);have B5:=Hd (X6.out.b.trans (ht5.below HGL.out.2));have O5:=Hd (Xbp (Xcu O6.out fun g hg=>ht5.block g (by have h1:=(O6.out.lt g hg).1;have h2:=XD.out.r4.lt;omega)) XD.out.b.size);clear hr5 ht5;refine hK.out _ _ RR.out ?_;clear hK K;try simp only[Act.put]
      refine Tk 10 rfl ?_ RR.out ?_ ⟨?_,rfl⟩
      ·intro w hw;(try dsimp only at hw);go_simp;try with_reducible rfl
      try simp only[nm]
      refine wpAnyH_done (by kernel_rfl) ?_ _;go_wp2_with fail;refine bodyPost_ret (Xaa (h:=rfl) _ w5 ⟨g4,0,none⟩ _ _ (by rfl) (by rfl) (run_loadVar_row w5 g4 49 49 (LOut.cells (LOut.mk 20 k x.u x.fee 0 (chg15 x.roles l)) (.slice A6 (chg15 x.roles l).length c6)).toArray (0,0) _ R5.out.is Tryz.underlying49 rfl (by rw[List.size_toArray];exact Xag _ _))) rfl ?_;exact Xcz HR.out O5.out B5.out
     ·have hud:decide (x.u<150)=false:=decide_eq_false hu;have hsub0:0≤x.u - 150:=by omega
      have hsub1:x.u - 150<18446744073709551616:=by omega
      by_cases hu2:x.u - 150<S.units
      ·have hud2:decide (x.u - 150<S.units)=true:=decide_eq_true hu2;have HR:Hid (run15 x l=(LOut.mk 20 k x.u x.fee 0 (chg15 x.roles l),0)):=Hd (by
        have hr:=GO.out.bad HA.out (Xde (Or.inr hu2)) (by decide) (by rw[HLL.out,HRL.out,HEQ.out]) HG.out;exact hr)
       go_upto_region 32 with fail
       clear c42;refine wp_region_held_drew (S:=fun V=>Row V g2 40 (q.cells x)) (by kernel_rfl) (X2.out.below HB.out (Br _ _).drew).r2 (fun _=>?_);have XD:=Hd (X2.out.below HB.out (Br _ _).drew);generalize w2.drew=wd at *;have RD:=Hd XD.out.r2;refine Tk 0 rfl ?_ RD.out ?_ ⟨?_,rfl⟩
       ·intro w hw;(try dsimp only at hw);go_simp;try with_reducible rfl
       try simp only[nm]
       refine Tk 1 rfl ?_ RD.out ?_ ⟨?_,rfl⟩
       ·intro w hw;(try dsimp only at hw);go_simp;try with_reducible rfl
       try simp only[nm]
       refine Tk 2 rfl ?_ RD.out ?_ ⟨?_,rfl⟩
       ·intro w hw;(try dsimp only at hw);go_simp;try with_reducible rfl
       try simp only[nm]
       refine Tk 3 rfl ?_ RD.out ?_ ⟨?_,rfl⟩
       ·intro w hw;(try dsimp only at hw);go_simp;try with_reducible rfl
       try simp only[nm]
       refine Tk 4 rfl ?_ RD.out ?_ ⟨?_,rfl⟩
       ·intro w hw;try dsimp only at hw
        have c45:w.cell? ⟨g2,45,none⟩=some (.int .u64 x.fee):=(hw.cell 45).trans (Xaj H32.out 4);go_simp;try with_reducible rfl
       try simp only[nm]
       refine Tl 5 (v:=.agg (q.cells x).toArray) rfl (Or.inl ⟨by rfl,fun wz hwz=>Xa4 wz 40 (.tmp 2) rfl ⟨g2,0,none⟩ (q.cells x) _ Tryz.underlying40 rfl (Xb0 H32.out) (fun j u hu=>by rw[Xa5,Nat.zero_add,hwz.cell];exact hu) (by go_simp)⟩) RD.out ?_;try simp only[nm]
       refine Tk 6 rfl ?_ RD.out ?_ ⟨?_,rfl⟩
       ·intro w hw;(try dsimp only at hw);go_simp;try with_reducible rfl
       try simp only[nm]
       refine Rl 7 rfl fun K hK=>?_
       go_simp;refine(Xf7 q x B LA ln lc l wd XD.out.rd XD.out.ac hlc.1 HEQ.out (Lq HB.out XD.out.b.size) hln).mono ?_;rintro e6 w6 ⟨v6,rfl,ho6,hb6⟩;have X6:=Hd (XD.out.below HB.out hb6);obtain⟨A6,c6,rfl,_,_,_,_⟩:=Xbm ho6;have O6:=Hd ho6;clear ho6 hb6;refine hK.out _ _ X6.out.r2 ?_;clear hK K;try simp only[nm]
       refine Tl 8 (v:=.agg (LOut.cells (LOut.mk 20 k x.u x.fee 0 (chg15 x.roles l)) (.slice A6 (chg15 x.roles l).length c6)).toArray) rfl (Or.inl ⟨by rfl,fun wz hwz=>Xa9 wz _ _ _ rfl (by simp only[List.map_toArray,List.map_cons,List.map_nil];exact Xdb _ _ _ _ _ _ _)⟩) X6.out.r2 ?_;try simp only[nm]
       refine Rl 9 rfl fun K hK=>?_
       refine Xb4 49 (.tmp 4) (.tmp 129) rfl g4 (out0.cells (.slice none 0 0)) (LOut.cells (LOut.mk 20 k x.u x.fee 0 (chg15 x.roles l)) (.slice A6 (chg15 x.roles l).length c6)) X6.out.r4 (Xag _ _) rfl (Xb5 _ rfl) (by go_simp) (by go_simp) (fun w5 hr5 ht5=>?_);have R5:=Hd hr5;have RR:=Hd (ht5.row X6.out.r2 HGN.out);have B5:=Hd (X6.out.b.trans (ht5.below HGL.out.2));have O5:=Hd (Xbp (Xcu O6.out fun g hg=>ht5.block g (by have h1:=(O6.out.lt g hg).1;have h2:=XD.out.r4.lt;omega)) XD.out.b.size);clear hr5 ht5;refine hK.out _ _ RR.out ?_;clear hK K;try simp only[Act.put]
       refine Tk 10 rfl ?_ RR.out ?_ ⟨?_,rfl⟩
       ·intro w hw;(try dsimp only at hw);go_simp;try with_reducible rfl
       try simp only[nm]
       refine wpAnyH_done (by kernel_rfl) ?_ _;go_wp2_with fail;refine bodyPost_ret (Xaa (h:=rfl) _ w5 ⟨g4,0,none⟩ _ _ (by rfl) (by rfl) (run_loadVar_row w5 g4 49 49 (LOut.cells (LOut.mk 20 k x.u x.fee 0 (chg15 x.roles l)) (.slice A6 (chg15 x.roles l).length c6)).toArray (0,0) _ R5.out.is Tryz.underlying49 rfl (by rw[List.size_toArray];exact Xag _ _))) rfl ?_;exact Xcz HR.out O5.out B5.out
      ·have hud2:decide (x.u - 150<S.units)=false:=decide_eq_false hu2;have HNU:Hid (¬(x.u<150∨x.u - 150<S.units)):=Hd (fun h=>h.elim hu hu2);have hub:S.units+150<18446744073709551616:=by omega
       have hub0:0≤S.units+150:=by omega
       have c41:w2.cell? ⟨g2,41,none⟩=some (.slice q.RA q.rn q.rc):=(X2.out.r2.cell 41).trans (Xaj H32.out 0);have c110:w2.cell? ⟨g11,0,none⟩=some (.int .u8 a.p):=R11.out.cell 0;obtain⟨pn,hpn⟩:=Int.eq_ofNat_of_zero_le (HPB.out a (List.mem_of_getElem? HA.out)).1;have hpr:(pn:Int)<q.rn:=by have h1:=HG.out a (List.mem_of_getElem? HA.out);rw[HRL.out]at h1;omega
       have hpk:pn<q.rn:=by omega
       have hp256:(pn:Int)<256:=by have:=(HPB.out a (List.mem_of_getElem? HA.out)).2;omega
       obtain⟨ra,y,hra,hrb,hy,hyo,hyc⟩:=X2.out.rd.rs.get hpk;have HPG:Hid (prog15 x a=y.key):=Hd (by unfold prog15;rw[Xgn hpn hy]);rw[hra]at c41;rw[hpn]at c110;have HYO:=Hd hyo;have HKC:Hid (∀j u,(bv y.key)[j]?=some u→w2.cell? ((ra.add (pn*34)).add j)=some u):=Hd fun j u hu=>hyc j u (by unfold LRole.cells;rw[List.getElem?_append_left (List.getElem?_eq_some_iff.1 hu).1];exact hu)
       have HRA:=Hd hra;clear hyo hyc hy hrb hra hpn hpk;go_upto_region 21 with(first
        | ((with_reducible show wpList _ _ _ (⟨some 88,_,_,_,_,_⟩::_) _ _);go_must(refine Xa3 rfl 62 (.tmp 87) rfl (ra.add (pn*34)) (bv y.key) _ Tryz.underlying62 rfl (by rw[Xan,bL,HYO.out.1]) HKC.out ?_ ?_;go_simp))
        | ((with_reducible show wpList _ _ _ (⟨some 13,_,_,_,_,_⟩::_) _ _);go_must(refine Xa0 rfl 62 rfl (bv k0) Xob ?_))
        | ((with_reducible show wpList _ _ _ (⟨none,Op.store 62 _ _,_,_,_,_⟩::_) _ _);go_must(refine Xa2 rfl 62 (.tmp 13) (.tmp 88) rfl (bv y.key) (by rw[Xan,bL,HYO.out.1]) (Xtb _) (by rw[List.size_toArray,bL,bL,HYO.out.1];rfl) ?_ ?_ ?_;go_simp;go_simp;intro w3 hr3 hb3 hz3)))
       have R13:=Hd hr3;have X3:=Hd (X2.out.below HB.out hb3);have O3:=Hd (O2.out.below hb3);have R113:=Hd (R11.out.below hb3 R11.out.lt);have IA3:=Hd (IA2.out.below (hb3.mono (Lq HB.out X2.out.b.size)));obtain⟨g13,hg13⟩:∃g,g=w2.heap.size:=⟨_,rfl⟩;rw[←hg13]at R13 ⊢;clear hr3 hb3 hz3 hg13 X2 O2 R11 IA2 c41 c110 HKC hud hud2 hsub0 hsub1 hu hu2 hpr hp256;have c44:w3.cell? ⟨g2,44,none⟩=some (.int .i64 x.bad):=(X3.out.r2.cell 44).trans (Xaj H32.out 3);by_cases hbad:(k:Int)=x.bad
       ·have hbd:decide ((k:Int)=x.bad)=true:=decide_eq_true hbad;have HR:Hid (run15 x l=(LOut.mk 21 x.bad (S.units+150) x.fee 0 (chg15 x.roles l),0)):=Hd (by
         have hr:=GO.out.bad HA.out (Xgk HNU.out hbad) (by decide) (by rw[HLL.out,HRL.out,HEQ.out]) HG.out;rw[hbad]at hr;exact hr)
        go_upto_region 32 with fail
        clear c42 c44;refine wp_region_held_drew (S:=fun V=>Row V g2 40 (q.cells x)) (by kernel_rfl) (X3.out.below HB.out (Br _ _).drew).r2 (fun _=>?_);have XD:=Hd (X3.out.below HB.out (Br _ _).drew);generalize w3.drew=wd at *;have RD:=Hd XD.out.r2;refine Tk 0 rfl ?_ RD.out ?_ ⟨?_,rfl⟩
        ·intro w hw;(try dsimp only at hw);go_simp;try with_reducible rfl
        try simp only[nm]
        refine Tk 1 rfl ?_ RD.out ?_ ⟨?_,rfl⟩
        ·intro w hw;(try dsimp only at hw);go_simp;try with_reducible rfl
        try simp only[nm]
        refine Tk 2 rfl ?_ RD.out ?_ ⟨?_,rfl⟩
        ·intro w hw;(try dsimp only at hw);go_simp;try with_reducible rfl
        try simp only[nm]
        refine Tk 3 rfl ?_ RD.out ?_ ⟨?_,rfl⟩
        ·intro w hw;(try dsimp only at hw);go_simp;try with_reducible rfl
        try simp only[nm]
        refine Tk 4 rfl ?_ RD.out ?_ ⟨?_,rfl⟩
        ·intro w hw;try dsimp only at hw
         have c45:w.cell? ⟨g2,45,none⟩=some (.int .u64 x.fee):=(hw.cell 45).trans (Xaj H32.out 4);go_simp;try with_reducible rfl
        try simp only[nm]
        refine Tl 5 (v:=.agg (q.cells x).toArray) rfl (Or.inl ⟨by rfl,fun wz hwz=>Xa4 wz 40 (.tmp 2) rfl ⟨g2,0,none⟩ (q.cells x) _ Tryz.underlying40 rfl (Xb0 H32.out) (fun j u hu=>by rw[Xa5,Nat.zero_add,hwz.cell];exact hu) (by go_simp)⟩) RD.out ?_;try simp only[nm]
        refine Tk 6 rfl ?_ RD.out ?_ ⟨?_,rfl⟩
        ·intro w hw;(try dsimp only at hw);go_simp;try with_reducible rfl
        try simp only[nm]
        refine Rl 7 rfl fun K hK=>?_
        go_simp;refine(Xf7 q x B LA ln lc l wd XD.out.rd XD.out.ac hlc.1 HEQ.out (Lq HB.out XD.out.b.size) hln).mono ?_;rintro e6 w6 ⟨v6,rfl,ho6,hb6⟩;have X6:=Hd (XD.out.below HB.out hb6);obtain⟨A6,c6,rfl,_,_,_,_⟩:=Xbm ho6;have O6:=Hd ho6;clear ho6 hb6;refine hK.out _ _ X6.out.r2 ?_;clear hK K;try simp only[nm]
        refine Tl 8 (v:=.agg (LOut.cells (LOut.mk 21 x.bad (S.units+150) x.fee 0 (chg15 x.roles l)) (.slice A6 (chg15 x.roles l).length c6)).toArray) rfl (Or.inl ⟨by rfl,fun wz hwz=>Xa9 wz _ _ _ rfl (by simp only[List.map_toArray,List.map_cons,List.map_nil];exact Xdb _ _ _ _ _ _ _)⟩) X6.out.r2 ?_;try simp only[nm]
        refine Rl 9 rfl fun K hK=>?_
        refine Xb4 49 (.tmp 4) (.tmp 129) rfl g4 (out0.cells (.slice none 0 0)) (LOut.cells (LOut.mk 21 x.bad (S.units+150) x.fee 0 (chg15 x.roles l)) (.slice A6 (chg15 x.roles l).length c6)) X6.out.r4 (Xag _ _) rfl (Xb5 _ rfl) (by go_simp) (by go_simp) (fun w5 hr5 ht5=>?_);have R5:=Hd hr5;have RR:=Hd (ht5.row X6.out.r2 HGN.out);have B5:=Hd (X6.out.b.trans (ht5.below HGL.out.2));have O5:=Hd (Xbp (Xcu O6.out fun g hg=>ht5.block g (by have h1:=(O6.out.lt g hg).1;have h2:=XD.out.r4.lt;omega)) XD.out.b.size);clear hr5 ht5;refine hK.out _ _ RR.out ?_;clear hK K;try simp only[Act.put]
        refine Tk 10 rfl ?_ RR.out ?_ ⟨?_,rfl⟩
        ·intro w hw;(try dsimp only at hw);go_simp;try with_reducible rfl
        try simp only[nm]
        refine wpAnyH_done (by kernel_rfl) ?_ _;go_wp2_with fail;refine bodyPost_ret (Xaa (h:=rfl) _ w5 ⟨g4,0,none⟩ _ _ (by rfl) (by rfl) (run_loadVar_row w5 g4 49 49 (LOut.cells (LOut.mk 21 x.bad (S.units+150) x.fee 0 (chg15 x.roles l)) (.slice A6 (chg15 x.roles l).length c6)).toArray (0,0) _ R5.out.is Tryz.underlying49 rfl (by rw[List.size_toArray];exact Xag _ _))) rfl ?_;exact Xcz HR.out O5.out B5.out
       ·have hbd:decide ((k:Int)=x.bad)=false:=decide_eq_false hbad;go_upto_region 23 with fail
        clear c42 c44;cases hs:decide (y.key=k0)with
        | true =>
         have HK0:=Hd (of_decide_eq_true hs);have NK:=fun w=>Xg7 (x:=y.key) (y:=k0) HYO.out.1 rfl w
         simp only[hs]at NK;refine wp_region_held_drew (S:=fun V=>Row V g13 62 (bv y.key)) (by kernel_rfl) (R13.out.below (Br _ _).drew R13.out.lt) (fun _=>?_);have XD:=Hd (X3.out.below HB.out (Br _ _).drew);have OD:=Hd (O3.out.below (Br _ _).drew);have RD11:=Hd (R113.out.below (Br _ _).drew R113.out.lt);have ID:=Hd (IA3.out.below (Br _ _).drew);have RD13:=Hd (R13.out.below (Br _ _).drew R13.out.lt);generalize w3.drew=wd at *;refine Tl 0 (v:=.agg (bv y.key).toArray) rfl (Or.inl ⟨by rfl,fun wz hwz=>Xa4 wz 62 (.tmp 13) rfl ⟨g13,0,none⟩ (bv y.key) _ Tryz.underlying62 rfl (by rw[Xan,bL,HYO.out.1]) (fun j u hu=>by rw[Xa5,Nat.zero_add,hwz.cell];exact hu) (by go_simp)⟩) RD13.out ?_;try simp only[nm]
         refine Rl 1 rfl fun K hK=>?_
         go_simp;refine(Xhv _).mono ?_;rintro e9 w9 ⟨rfl,hb9⟩;have X4:=Hd (XD.out.below HB.out hb9);have O4:=Hd (OD.out.below hb9);have R114:=Hd (RD11.out.below hb9 RD11.out.lt);have IA4:=Hd (ID.out.below (hb9.mono (Lq HB.out XD.out.b.size)));have R134:=Hd (RD13.out.below hb9 RD13.out.lt);clear hb9 XD OD RD11 ID RD13;rename World=>w4
         refine hK.out _ _ R134.out ?_;clear hK K;try simp only[nm]
         refine Tk 2 rfl ?_ R134.out ?_ ⟨?_,rfl⟩
         ·intro w hw;(try dsimp only at hw);go_simp;try with_reducible rfl
         try simp only[nm]
         refine Tk 3 rfl ?_ R134.out ?_ ⟨?_,rfl⟩
         ·intro w hw;(try dsimp only at hw);go_simp;try with_reducible rfl
         try simp only[nm]
         refine wpAnyH_done (by kernel_rfl) ?_ _;clear NK;have c41:w4.cell? ⟨g2,41,none⟩=some (.slice q.RA q.rn q.rc):=(X4.out.r2.cell 41).trans (Xaj H32.out 0);have hac:a.acc.length≤100000:=Lq (HSM.out.2 a (List.mem_of_getElem? HA.out)) (by omega);have hrn:q.rn≤100000:=by rw[←HEQ.out];exact hln
         have HDO:=Hd (Xv9 S.now x.roles a.p AA a.acc.length ac DD a.dat.length dc a.acc a.dat NA ln nc q.RA q.rn q.rc w4.heap.size w4 (O4.out.accs GO.out.len.symm) HNC.out (X4.out.rd.rs.more (Lq HB.out X4.out.b.size)) (Xk9 IA4.out (Lq HB.out X4.out.b.size)) (Lr _) hac hln hrn);obtain⟨R,hR⟩:∃R,R=do14 S.now x.roles a.acc a.dat:=⟨_,rfl⟩;rw[←hR]at HDO;have HRD:=Hd hR;have HBD:=Hd hbad;have R11:=R114;clear hR hac hrn;rw[HRA.out]at HDO;rw[HRA.out]at c41;go_wp2_with ((with_reducible show wpList _ _ _ (⟨some 103,_,_,_,_,_⟩::_) _ _);go_must(refine Xa1 rfl 61 (.tmp 11) rfl g11 61 (insC a.p AA a.acc.length ac DD a.dat.length dc) _ Tryz.underlying61 rfl (by kernel_rfl) R11.out ?_ ?_;go_simp))
         refine HDO.out.mono ?_;rintro e5 w5 ⟨v5,rfl,ho5,hb5⟩;have X5:=Hd (X4.out.below HB.out hb5);have O5:=Hd (Xje ho5 X4.out.b.size);clear ho5 hb5 HDO c41;by_cases he:R.e=0
         ·obtain⟨pa,pb,hw⟩:=Xi7 O4.out.ok (HAB.out a (List.mem_of_getElem? HA.out)).2 (HAB.out a (List.mem_of_getElem? HA.out)).1 (by rw[←HRD.out];exact he);have hn0:=hw.d.lim.1;have hn1:=hw.d.lim.2;have HLE:=Hd hw.d.len;rw[←HRD.out]at hn0 hn1 HLE;clear hw;have hed:(R.e==0)=true:=by rw[he];rfl
          have hed2:(R.e != 0)=false:=by rw[he];rfl
          have HE:=Hd he;clear he;have hsp0:=GO.out.s.1;have hsp1:=GO.out.s.2;have hnn:=HSM.out.1;rw[←HNN.out]at hnn;have hsum:S.space+R.n<18446744073709551616:=by omega
          have hsum0:0≤S.space+R.n:=by omega
          go_wp2_with fail;go_roundw
          case rel =>
           exact⟨k+1,⟨R.l,S.units+150,S.space+R.n⟩,by omega,by go_num,rfl,rfl,X5.out,O5.out,GO.out.next HA.out (by
            have h:=Xgd HNU.out HBD.out (HPG.out.trans HK0.out) (by rw[←HRD.out];exact HE.out);rw[←HRD.out]at h;exact h) (by rw[HLE.out];exact GO.out.len) ⟨by dsimp only;omega,by have hnu:=HNU.out;dsimp only;omega⟩ ⟨hsum0,by dsimp only;omega⟩⟩
          case measure=>simp[intOf];omega
         ·have HRE:Hid (step15 x k a S=(R.e,⟨S.now,S.units+150,S.space⟩)):=Hd (by
           have h:=Xdu HNU.out HBD.out (HPG.out.trans HK0.out) (by rw[←HRD.out];exact he);rw[←HRD.out]at h;exact h)
          have hed:(R.e==0)=false:=beq_false_of_ne he;have hed2:(R.e != 0)=true:=by rw[bne,hed];rfl
          have HR:Hid (run15 x l=(LOut.mk R.e k (S.units+150) x.fee 0 (chg15 x.roles l),0)):=Hd (by
           have hr:=GO.out.bad HA.out (HRE.out) he (by rw[HLL.out,HRL.out,HEQ.out]) HG.out;exact hr)
          go_upto_region 32 with fail
          skip
          refine wp_region_held_drew (S:=fun V=>Row V g2 40 (q.cells x)) (by kernel_rfl) (X5.out.below HB.out (Br _ _).drew).r2 (fun _=>?_);have XD:=Hd (X5.out.below HB.out (Br _ _).drew);generalize w5.drew=wd at *;have RD:=Hd XD.out.r2;refine Tk 0 rfl ?_ RD.out ?_ ⟨?_,rfl⟩
          ·intro w hw;(try dsimp only at hw);go_simp;try with_reducible rfl
          try simp only[nm]
          refine Tk 1 rfl ?_ RD.out ?_ ⟨?_,rfl⟩
          ·intro w hw;(try dsimp only at hw);go_simp;try with_reducible rfl
          try simp only[nm]
          refine Tk 2 rfl ?_ RD.out ?_ ⟨?_,rfl⟩
          ·intro w hw;(try dsimp only at hw);go_simp;try with_reducible rfl
          try simp only[nm]
          refine Tk 3 rfl ?_ RD.out ?_ ⟨?_,rfl⟩
          ·intro w hw;(try dsimp only at hw);go_simp;try with_reducible rfl
          try simp only[nm]
          refine Tk 4 rfl ?_ RD.out ?_ ⟨?_,rfl⟩
          ·intro w hw;try dsimp only at hw
           have c45:w.cell? ⟨g2,45,none⟩=some (.int .u64 x.fee):=(hw.cell 45).trans (Xaj H32.out 4);go_simp;try with_reducible rfl
          try simp only[nm]
          refine Tl 5 (v:=.agg (q.cells x).toArray) rfl (Or.inl ⟨by rfl,fun wz hwz=>Xa4 wz 40 (.tmp 2) rfl ⟨g2,0,none⟩ (q.cells x) _ Tryz.underlying40 rfl (Xb0 H32.out) (fun j u hu=>by rw[Xa5,Nat.zero_add,hwz.cell];exact hu) (by go_simp)⟩) RD.out ?_;try simp only[nm]
          refine Tk 6 rfl ?_ RD.out ?_ ⟨?_,rfl⟩
          ·intro w hw;(try dsimp only at hw);go_simp;try with_reducible rfl
          try simp only[nm]
          refine Rl 7 rfl fun K hK=>?_
          go_simp;refine(Xf7 q x B LA ln lc l wd XD.out.rd XD.out.ac hlc.1 HEQ.out (Lq HB.out XD.out.b.size) hln).mono ?_;rintro e6 w6 ⟨v6,rfl,ho6,hb6⟩;have X6:=Hd (XD.out.below HB.out hb6);obtain⟨A6,c6,rfl,_,_,_,_⟩:=Xbm ho6;have O6:=Hd ho6;clear ho6 hb6;refine hK.out _ _ X6.out.r2 ?_;clear hK K;try simp only[nm]
          refine Tl 8 (v:=.agg (LOut.cells (LOut.mk R.e k (S.units+150) x.fee 0 (chg15 x.roles l)) (.slice A6 (chg15 x.roles l).length c6)).toArray) rfl (Or.inl ⟨by rfl,fun wz hwz=>Xa9 wz _ _ _ rfl (by simp only[List.map_toArray,List.map_cons,List.map_nil];exact Xdb _ _ _ _ _ _ _)⟩) X6.out.r2 ?_;try simp only[nm]
          refine Rl 9 rfl fun K hK=>?_
          refine Xb4 49 (.tmp 4) (.tmp 129) rfl g4 (out0.cells (.slice none 0 0)) (LOut.cells (LOut.mk R.e k (S.units+150) x.fee 0 (chg15 x.roles l)) (.slice A6 (chg15 x.roles l).length c6)) X6.out.r4 (Xag _ _) rfl (Xb5 _ rfl) (by go_simp) (by go_simp) (fun w5 hr5 ht5=>?_);have R5:=Hd hr5;have RR:=Hd (ht5.row X6.out.r2 HGN.out);have B5:=Hd (X6.out.b.trans (ht5.below HGL.out.2));have O5:=Hd (Xbp (Xcu O6.out fun g hg=>ht5.block g (by have h1:=(O6.out.lt g hg).1;have h2:=XD.out.r4.lt;omega)) XD.out.b.size);clear hr5 ht5;refine hK.out _ _ RR.out ?_;clear hK K;try simp only[Act.put]
          refine Tk 10 rfl ?_ RR.out ?_ ⟨?_,rfl⟩
          ·intro w hw;(try dsimp only at hw);go_simp;try with_reducible rfl
          try simp only[nm]
          refine wpAnyH_done (by kernel_rfl) ?_ _;go_wp2_with fail;refine bodyPost_ret (Xaa (h:=rfl) _ w5 ⟨g4,0,none⟩ _ _ (by rfl) (by rfl) (run_loadVar_row w5 g4 49 49 (LOut.cells (LOut.mk R.e k (S.units+150) x.fee 0 (chg15 x.roles l)) (.slice A6 (chg15 x.roles l).length c6)).toArray (0,0) _ R5.out.is Tryz.underlying49 rfl (by rw[List.size_toArray];exact Xag _ _))) rfl ?_;exact Xcz HR.out O5.out B5.out
        | false =>
         have HK0:=Hd (of_decide_eq_false hs);have NK:=fun w=>Xg7 (x:=y.key) (y:=k0) HYO.out.1 rfl w
         simp only[hs]at NK;refine wp_region_held_drew (S:=fun V=>Row V g13 62 (bv y.key)) (by kernel_rfl) (R13.out.below (Br _ _).drew R13.out.lt) (fun _=>?_);have XD:=Hd (X3.out.below HB.out (Br _ _).drew);have OD:=Hd (O3.out.below (Br _ _).drew);have RD11:=Hd (R113.out.below (Br _ _).drew R113.out.lt);have ID:=Hd (IA3.out.below (Br _ _).drew);have RD13:=Hd (R13.out.below (Br _ _).drew R13.out.lt);generalize w3.drew=wd at *;refine Tl 0 (v:=.agg (bv y.key).toArray) rfl (Or.inl ⟨by rfl,fun wz hwz=>Xa4 wz 62 (.tmp 13) rfl ⟨g13,0,none⟩ (bv y.key) _ Tryz.underlying62 rfl (by rw[Xan,bL,HYO.out.1]) (fun j u hu=>by rw[Xa5,Nat.zero_add,hwz.cell];exact hu) (by go_simp)⟩) RD13.out ?_;try simp only[nm]
         refine Rl 1 rfl fun K hK=>?_
         go_simp;refine(Xhv _).mono ?_;rintro e9 w9 ⟨rfl,hb9⟩;have X4:=Hd (XD.out.below HB.out hb9);have O4:=Hd (OD.out.below hb9);have R114:=Hd (RD11.out.below hb9 RD11.out.lt);have IA4:=Hd (ID.out.below (hb9.mono (Lq HB.out XD.out.b.size)));have R134:=Hd (RD13.out.below hb9 RD13.out.lt);clear hb9 XD OD RD11 ID RD13;rename World=>w4
         refine hK.out _ _ R134.out ?_;clear hK K;try simp only[nm]
         refine Tk 2 rfl ?_ R134.out ?_ ⟨?_,rfl⟩
         ·intro w hw;(try dsimp only at hw);go_simp;try with_reducible rfl
         try simp only[nm]
         refine Tk 3 rfl ?_ R134.out ?_ ⟨?_,rfl⟩
         ·intro w hw;(try dsimp only at hw);go_simp;try with_reducible rfl
         try simp only[nm]
         refine wpAnyH_done (by kernel_rfl) ?_ _;clear NK;have HBD:=Hd hbad;go_upto_region 29 with fail
         cases hs2:decide (y.key=k3)with
         | true =>
          have HK3:=Hd (of_decide_eq_true hs2);have NK:=fun w=>Xgj (x:=y.key) (y:=k3) HYO.out.1 rfl w
          simp only[hs2,Bool.not_true]at NK;refine wp_region_held_drew (S:=fun V=>Row V g13 62 (bv y.key)) (by kernel_rfl) (R134.out.below (Br _ _).drew R134.out.lt) (fun _=>?_);have XD:=Hd (X4.out.below HB.out (Br _ _).drew);have OD:=Hd (O4.out.below (Br _ _).drew);have RD11:=Hd (R114.out.below (Br _ _).drew R114.out.lt);have ID:=Hd (IA4.out.below (Br _ _).drew);have RD13:=Hd (R134.out.below (Br _ _).drew R134.out.lt);generalize w4.drew=wd at *;refine Tl 0 (v:=.agg (bv y.key).toArray) rfl (Or.inl ⟨by rfl,fun wz hwz=>Xa4 wz 62 (.tmp 13) rfl ⟨g13,0,none⟩ (bv y.key) _ Tryz.underlying62 rfl (by rw[Xan,bL,HYO.out.1]) (fun j u hu=>by rw[Xa5,Nat.zero_add,hwz.cell];exact hu) (by go_simp)⟩) RD13.out ?_;try simp only[nm]
          refine Rl 1 rfl fun K hK=>?_
          go_simp;refine(Xi5 _).mono ?_;rintro e9 w9 ⟨rfl,hb9⟩;have X5:=Hd (XD.out.below HB.out hb9);have O5:=Hd (OD.out.below hb9);have R115:=Hd (RD11.out.below hb9 RD11.out.lt);have IA5:=Hd (ID.out.below (hb9.mono (Lq HB.out XD.out.b.size)));have R135:=Hd (RD13.out.below hb9 RD13.out.lt);clear hb9 XD OD RD11 ID RD13;rename World=>w5
          refine hK.out _ _ R135.out ?_;clear hK K;try simp only[nm]
          refine Tk 2 rfl ?_ R135.out ?_ ⟨?_,rfl⟩
          ·intro w hw;(try dsimp only at hw);go_simp;try with_reducible rfl
          try simp only[nm]
          refine Tk 3 rfl ?_ R135.out ?_ ⟨?_,rfl⟩
          ·intro w hw;(try dsimp only at hw);go_simp;try with_reducible rfl
          try simp only[nm]
          refine wpAnyH_done (by kernel_rfl) ?_ _;clear NK;go_wp2_with fail;go_roundw
          case rel =>
           exact⟨k+1,⟨S.now,S.units+150,S.space⟩,by omega,by go_num,rfl,rfl,X5.out,O5.out,GO.out.next HA.out (Xgh HNU.out HBD.out (fun h=>HK0.out (HPG.out.symm.trans h)) (HPG.out.trans HK3.out)) GO.out.len ⟨by dsimp only;omega,by have hnu:=HNU.out;dsimp only;omega⟩ ⟨GO.out.s.1,by dsimp only;omega⟩⟩
          case measure=>simp[intOf];omega
         | false =>
          have HK3:=Hd (of_decide_eq_false hs2);have NK:=fun w=>Xgj (x:=y.key) (y:=k3) HYO.out.1 rfl w
          simp only[hs2,Bool.not_false]at NK;refine wp_region_held_drew (S:=fun V=>Row V g13 62 (bv y.key)) (by kernel_rfl) (R134.out.below (Br _ _).drew R134.out.lt) (fun _=>?_);have XD:=Hd (X4.out.below HB.out (Br _ _).drew);have OD:=Hd (O4.out.below (Br _ _).drew);have RD11:=Hd (R114.out.below (Br _ _).drew R114.out.lt);have ID:=Hd (IA4.out.below (Br _ _).drew);have RD13:=Hd (R134.out.below (Br _ _).drew R134.out.lt);generalize w4.drew=wd at *;refine Tl 0 (v:=.agg (bv y.key).toArray) rfl (Or.inl ⟨by rfl,fun wz hwz=>Xa4 wz 62 (.tmp 13) rfl ⟨g13,0,none⟩ (bv y.key) _ Tryz.underlying62 rfl (by rw[Xan,bL,HYO.out.1]) (fun j u hu=>by rw[Xa5,Nat.zero_add,hwz.cell];exact hu) (by go_simp)⟩) RD13.out ?_;try simp only[nm]
          refine Rl 1 rfl fun K hK=>?_
          go_simp;refine(Xi5 _).mono ?_;rintro e9 w9 ⟨rfl,hb9⟩;have X5:=Hd (XD.out.below HB.out hb9);have O5:=Hd (OD.out.below hb9);have R115:=Hd (RD11.out.below hb9 RD11.out.lt);have IA5:=Hd (ID.out.below (hb9.mono (Lq HB.out XD.out.b.size)));have R135:=Hd (RD13.out.below hb9 RD13.out.lt);clear hb9 XD OD RD11 ID RD13;rename World=>w5
          refine hK.out _ _ R135.out ?_;clear hK K;try simp only[nm]
          refine Tk 2 rfl ?_ R135.out ?_ ⟨?_,rfl⟩
          ·intro w hw;(try dsimp only at hw);go_simp;try with_reducible rfl
          try simp only[nm]
          refine Tk 3 rfl ?_ R135.out ?_ ⟨?_,rfl⟩
          ·intro w hw;(try dsimp only at hw);go_simp;try with_reducible rfl
          try simp only[nm]
          refine wpAnyH_done (by kernel_rfl) ?_ _;clear NK;have HR:Hid (run15 x l=(LOut.mk 19 k (S.units+150) x.fee 0 (chg15 x.roles l),0)):=Hd (by
           have hr:=GO.out.bad HA.out (Xfg HNU.out HBD.out (fun h=>HK0.out (HPG.out.symm.trans h)) (fun h=>HK3.out (HPG.out.symm.trans h))) (by decide) (by rw[HLL.out,HRL.out,HEQ.out]) HG.out;exact hr)
          go_upto_region 32 with fail
          skip
          refine wp_region_held_drew (S:=fun V=>Row V g2 40 (q.cells x)) (by kernel_rfl) (X5.out.below HB.out (Br _ _).drew).r2 (fun _=>?_);have XD:=Hd (X5.out.below HB.out (Br _ _).drew);generalize w5.drew=wd at *;have RD:=Hd XD.out.r2;refine Tk 0 rfl ?_ RD.out ?_ ⟨?_,rfl⟩
          ·intro w hw;(try dsimp only at hw);go_simp;try with_reducible rfl
          try simp only[nm]
          refine Tk 1 rfl ?_ RD.out ?_ ⟨?_,rfl⟩
          ·intro w hw;(try dsimp only at hw);go_simp;try with_reducible rfl
          try simp only[nm]
          refine Tk 2 rfl ?_ RD.out ?_ ⟨?_,rfl⟩
          ·intro w hw;(try dsimp only at hw);go_simp;try with_reducible rfl
          try simp only[nm]
          refine Tk 3 rfl ?_ RD.out ?_ ⟨?_,rfl⟩
          ·intro w hw;(try dsimp only at hw);go_simp;try with_reducible rfl
          try simp only[nm]
          refine Tk 4 rfl ?_ RD.out ?_ ⟨?_,rfl⟩
          ·intro w hw;try dsimp only at hw
           have c45:w.cell? ⟨g2,45,none⟩=some (.int .u64 x.fee):=(hw.cell 45).trans (Xaj H32.out 4);go_simp;try with_reducible rfl
          try simp only[nm]
          refine Tl 5 (v:=.agg (q.cells x).toArray) rfl (Or.inl ⟨by rfl,fun wz hwz=>Xa4 wz 40 (.tmp 2) rfl ⟨g2,0,none⟩ (q.cells x) _ Tryz.underlying40 rfl (Xb0 H32.out) (fun j u hu=>by rw[Xa5,Nat.zero_add,hwz.cell];exact hu) (by go_simp)⟩) RD.out ?_;try simp only[nm]
          refine Tk 6 rfl ?_ RD.out ?_ ⟨?_,rfl⟩
          ·intro w hw;(try dsimp only at hw);go_simp;try with_reducible rfl
          try simp only[nm]
          refine Rl 7 rfl fun K hK=>?_
          go_simp;refine(Xf7 q x B LA ln lc l wd XD.out.rd XD.out.ac hlc.1 HEQ.out (Lq HB.out XD.out.b.size) hln).mono ?_;rintro e6 w6 ⟨v6,rfl,ho6,hb6⟩;have X6:=Hd (XD.out.below HB.out hb6);obtain⟨A6,c6,rfl,_,_,_,_⟩:=Xbm ho6;have O6:=Hd ho6;clear ho6 hb6;refine hK.out _ _ X6.out.r2 ?_;clear hK K;try simp only[nm]
          refine Tl 8 (v:=.agg (LOut.cells (LOut.mk 19 k (S.units+150) x.fee 0 (chg15 x.roles l)) (.slice A6 (chg15 x.roles l).length c6)).toArray) rfl (Or.inl ⟨by rfl,fun wz hwz=>Xa9 wz _ _ _ rfl (by simp only[List.map_toArray,List.map_cons,List.map_nil];exact Xdb _ _ _ _ _ _ _)⟩) X6.out.r2 ?_;try simp only[nm]
          refine Rl 9 rfl fun K hK=>?_
          refine Xb4 49 (.tmp 4) (.tmp 129) rfl g4 (out0.cells (.slice none 0 0)) (LOut.cells (LOut.mk 19 k (S.units+150) x.fee 0 (chg15 x.roles l)) (.slice A6 (chg15 x.roles l).length c6)) X6.out.r4 (Xag _ _) rfl (Xb5 _ rfl) (by go_simp) (by go_simp) (fun w5 hr5 ht5=>?_);have R5:=Hd hr5;have RR:=Hd (ht5.row X6.out.r2 HGN.out);have B5:=Hd (X6.out.b.trans (ht5.below HGL.out.2));have O5:=Hd (Xbp (Xcu O6.out fun g hg=>ht5.block g (by have h1:=(O6.out.lt g hg).1;have h2:=XD.out.r4.lt;omega)) XD.out.b.size);clear hr5 ht5;refine hK.out _ _ RR.out ?_;clear hK K;try simp only[Act.put]
          refine Tk 10 rfl ?_ RR.out ?_ ⟨?_,rfl⟩
          ·intro w hw;(try dsimp only at hw);go_simp;try with_reducible rfl
          try simp only[nm]
          refine wpAnyH_done (by kernel_rfl) ?_ _;go_wp2_with fail;refine bodyPost_ret (Xaa (h:=rfl) _ w5 ⟨g4,0,none⟩ _ _ (by rfl) (by rfl) (run_loadVar_row w5 g4 49 49 (LOut.cells (LOut.mk 19 k (S.units+150) x.fee 0 (chg15 x.roles l)) (.slice A6 (chg15 x.roles l).length c6)).toArray (0,0) _ R5.out.is Tryz.underlying49 rfl (by rw[List.size_toArray];exact Xag _ _))) rfl ?_;exact Xcz HR.out O5.out B5.out
    ·have hlt':¬(k:Int)<nn:=by omega
     have HR:Hid (run15 x l=(LOut.mk 0 (-1) S.units x.fee S.space (chg15 x.roles S.now),0)):=Hd (GO.out.done (by rw[HNL.out,←HNN.out];omega) (by rw[HLL.out,HRL.out,HEQ.out]) HG.out);go_upto_region 33 with fail
     clear c39;refine wp_region_held_drew (S:=fun V=>Row V g2 40 (q.cells x)) (by kernel_rfl) (XU.out.below HB.out (Br _ _).drew).r2 (fun _=>?_);have XD:=Hd (XU.out.below HB.out (Br _ _).drew);have OD:=Hd (OU.out.below (Br _ _).drew);generalize U.drew=wd at *;have RD:=Hd XD.out.r2;refine Tk 0 rfl ?_ RD.out ?_ ⟨?_,rfl⟩
     ·intro w hw;(try dsimp only at hw);go_simp;try with_reducible rfl
     try simp only[nm]
     refine Tk 1 rfl ?_ RD.out ?_ ⟨?_,rfl⟩
     ·intro w hw;(try dsimp only at hw);go_simp;try with_reducible rfl
     try simp only[nm]
     refine Tk 2 rfl ?_ RD.out ?_ ⟨?_,rfl⟩
     ·intro w hw;try dsimp only at hw
      have c45:w.cell? ⟨g2,45,none⟩=some (.int .u64 x.fee):=(hw.cell 45).trans (Xaj H32.out 4);go_simp;try with_reducible rfl
     try simp only[nm]
     refine Tk 3 rfl ?_ RD.out ?_ ⟨?_,rfl⟩
     ·intro w hw;(try dsimp only at hw);go_simp;try with_reducible rfl
     try simp only[nm]
     refine Tl 4 (v:=.agg (q.cells x).toArray) rfl (Or.inl ⟨by rfl,fun wz hwz=>Xa4 wz 40 (.tmp 2) rfl ⟨g2,0,none⟩ (q.cells x) _ Tryz.underlying40 rfl (Xb0 H32.out) (fun j u hu=>by rw[Xa5,Nat.zero_add,hwz.cell];exact hu) (by go_simp)⟩) RD.out ?_;try simp only[nm]
     refine Tk 5 rfl ?_ RD.out ?_ ⟨?_,rfl⟩
     ·intro w hw;(try dsimp only at hw);go_simp;try with_reducible rfl
     try simp only[nm]
     refine Rl 6 rfl fun K hK=>?_
     go_simp;refine(Xf7 q x wd.heap.size NA ln nc S.now wd (XD.out.rd.more (Lq HB.out XD.out.b.size)) (OD.out.accs GO.out.len.symm) HNC.out HEQ.out (Lr _) hln).mono ?_;rintro e6 w6 ⟨v6,rfl,ho6,hb6⟩;have X6:=Hd (XD.out.below HB.out hb6);obtain⟨A6,c6,rfl,_,_,_,_⟩:=Xbm ho6;have O6:=Hd ho6;clear ho6 hb6;refine hK.out _ _ X6.out.r2 ?_;clear hK K;try simp only[nm]
     refine Tl 7 (v:=.agg (LOut.cells (LOut.mk 0 (-1) S.units x.fee S.space (chg15 x.roles S.now)) (.slice A6 (chg15 x.roles S.now).length c6)).toArray) rfl (Or.inl ⟨by rfl,fun wz hwz=>Xa9 wz _ _ _ rfl (by simp only[List.map_toArray,List.map_cons,List.map_nil];exact Xju _ _ _ _ _ _)⟩) X6.out.r2 ?_;try simp only[nm]
     refine Rl 8 rfl fun K hK=>?_
     refine Xb4 49 (.tmp 4) (.tmp 137) rfl g4 (out0.cells (.slice none 0 0)) (LOut.cells (LOut.mk 0 (-1) S.units x.fee S.space (chg15 x.roles S.now)) (.slice A6 (chg15 x.roles S.now).length c6)) X6.out.r4 (Xag _ _) rfl (Xb5 _ rfl) (by go_simp) (by go_simp) (fun w5 hr5 ht5=>?_);have R5:=Hd hr5;have RR:=Hd (ht5.row X6.out.r2 HGN.out);have B5:=Hd (X6.out.b.trans (ht5.below HGL.out.2));have O5:=Hd (Xbp (Xcu O6.out fun g hg=>ht5.block g (by have h1:=(O6.out.lt g hg).1;have h2:=XD.out.r4.lt;omega)) XD.out.b.size);clear hr5 ht5;refine hK.out _ _ RR.out ?_;clear hK K;try simp only[Act.put]
     refine Tk 9 rfl ?_ RR.out ?_ ⟨?_,rfl⟩
     ·intro w hw;(try dsimp only at hw);go_simp;try with_reducible rfl
     try simp only[nm]
     refine wpAnyH_done (by kernel_rfl) ?_ _;go_wp2_with fail;refine bodyPost_ret (Xaa (h:=rfl) _ w5 ⟨g4,0,none⟩ _ _ (by rfl) (by rfl) (run_loadVar_row w5 g4 49 49 (LOut.cells (LOut.mk 0 (-1) S.units x.fee S.space (chg15 x.roles S.now)) (.slice A6 (chg15 x.roles S.now).length c6)).toArray (0,0) _ R5.out.is Tryz.underlying49 rfl (by rw[List.size_toArray];exact Xag _ _))) rfl ?_;exact Xcz HR.out O5.out B5.out
end Go.Proofs.YtaljfbbieefooaaGreatDoor
