import Derived.Test.YtaljfbbieefooaaGreatDoorM5
import Derived.Maps.OwnSet
import Derived.DeepKeys4
import Derived.WideKeyArr
import Derived.Laws.EntriesVeiled
import Derived.Deep.RegionHeld3
import Derived.WideKeyEntry
import Derived.WalkMore
set_option maxRecDepth 100000
set_option maxHeartbeats 16000000
set_option linter.unusedSimpArgs false
set_option linter.unusedVariables false
namespace Go.Proofs.YtaljfbbieefooaaGreatDoor
open Go.RowKit
def InsT(w:World)(A:Option Addr)(l:List LIn):Prop:=
 ∀i x,l[i]?=some x→∃g g1 g2,A=some ⟨g,0,none⟩∧g<w.heap.size∧w.cell? ⟨g,i*3+1,none⟩=some (.slice (some ⟨g1,0,none⟩) x.acc.length (x.acc.length+3))∧w.cell? ⟨g,i*3+2,none⟩=some (.slice (some ⟨g2,0,none⟩) x.dat.length (x.dat.length+3)) ∧
  Row w g1 5 (bv (x.acc++List.replicate 3 165))∧Row w g2 5 (bv (x.dat++List.replicate 3 165))
def LooksT(w:World)(A:Option Addr)(l:List LLook):Prop:=
 ∀i x,l[i]?=some x→∃g g1 g2,A=some ⟨g,0,none⟩∧g<w.heap.size∧w.cell? ⟨g,i*34+32,none⟩=some (.slice (some ⟨g1,0,none⟩) x.wr.length (x.wr.length+3))∧w.cell? ⟨g,i*34+33,none⟩=some (.slice (some ⟨g2,0,none⟩) x.rd.length (x.rd.length+3)) ∧
  Row w g1 5 (bv (x.wr++List.replicate 3 165))∧Row w g2 5 (bv (x.rd++List.replicate 3 165))
structure TwIn(w:World)(q:Raw)(m:LMsg):Prop where
 msg:MsgIn w w.heap.size q m
 key:∃g,q.KA=some ⟨g,0,none⟩∧q.kc=q.kn+3∧Row w g 62 (bv m.keys.flatten++keyRow 3 mk0)
 ins:InsT w q.IA m.ins
 looks:LooksT w q.LA m.looks
section
variable{w w':World}{q:Raw}{m:LMsg}
theorem InsT.below{A:Option Addr}{l:List LIn}(h:InsT w A l)(hb:Below w.heap.size w w'):InsT w' A l:=fun i x hx=>by
 obtain⟨g,g1,g2,h1,h2,h3,h4,h5,h6⟩:=h i x hx;exact⟨g,g1,g2,h1,Nat.lt_of_lt_of_le h2 hb.size,(hb.cell (p:=⟨g,i*3+1,none⟩) h2).trans h3,(hb.cell (p:=⟨g,i*3+2,none⟩) h2).trans h4,h5.below hb h5.lt,h6.below hb h6.lt⟩
theorem LooksT.below{A:Option Addr}{l:List LLook}(h:LooksT w A l)(hb:Below w.heap.size w w'):LooksT w' A l:=fun i x hx=>by
 obtain⟨g,g1,g2,h1,h2,h3,h4,h5,h6⟩:=h i x hx;exact⟨g,g1,g2,h1,Nat.lt_of_lt_of_le h2 hb.size,(hb.cell (p:=⟨g,i*34+32,none⟩) h2).trans h3,(hb.cell (p:=⟨g,i*34+33,none⟩) h2).trans h4,h5.below hb h5.lt,h6.below hb h6.lt⟩
theorem TwIn.below(h:TwIn w q m)(hb:Below w.heap.size w w'):TwIn w' q m:=by
 obtain⟨g,h1,h2,h3⟩:=h.key;exact⟨(h.msg.below hb).more hb.size,⟨g,h1,h2,h3.below hb h3.lt⟩,h.ins.below hb,h.looks.below hb⟩
theorem InsT.drewN{A:Option Addr}{l:List LIn}(h:InsT w A l)(n:Nat):InsT (w.drewN n) A l:=h.below (below_drewN (Br _ _) n)
theorem LooksT.drewN{A:Option Addr}{l:List LLook}(h:LooksT w A l)(n:Nat):LooksT (w.drewN n) A l:=h.below (below_drewN (Br _ _) n)
theorem LVR.insT{lo hi:Nat}{A:Option Addr}{n c:Nat}{l:List LIn}(h:LVR InT 61 3 w lo hi (.slice A n c) l)(hhi:hi≤w.heap.size):InsT w A l:=fun i x hx=>by
 obtain⟨_,_,h3⟩:=h.at_ Xcg (fun w lo hi cs x hx=>by obtain⟨_,_,_,rfl,_⟩:=hx;rfl);obtain⟨g,cs,L,R,e,hg,hc,hL,hR,va,vd,mid,rfl,h4,h5,⟨_,g1,rfl,_,_,r1⟩,⟨_,g2,rfl,_,_,r2⟩⟩:=h3 i x hx;exact⟨g,g1,g2,e,by omega,hc 1 _ rfl,hc 2 _ rfl,r1,r2⟩
theorem LVR.looksT{lo hi:Nat}{A:Option Addr}{n c:Nat}{l:List LLook}(h:LVR LookT 64 34 w lo hi (.slice A n c) l)(hhi:hi≤w.heap.size):LooksT w A l:=fun i x hx=>by
 obtain⟨_,_,h3⟩:=h.at_ Xbq (fun w lo hi cs x hx=>by obtain⟨_,_,_,rfl,h,_⟩:=hx;simp[bL,h]);obtain⟨g,cs,L,R,e,hg,hc,hL,hR,va,vd,mid,rfl,h0,h4,h5,⟨_,g1,rfl,_,_,r1⟩,⟨_,g2,rfl,_,_,r2⟩⟩:=h3 i x hx;exact⟨g,g1,g2,e,by omega,hc 32 _ (by rw[List.getElem?_append_right (by rw[bL,h0];exact Lr _),bL,h0];rfl),hc 33 _ (by rw[List.getElem?_append_right (by rw[bL,h0];omega),bL,h0];rfl),r1,r2⟩
end
theorem TwinDone.parts{w w':World}{q:Raw}{m:LMsg}{e:Ending}(h:TwinDone w q m e w')(h32:m.recent.length=32)(hs:m.keys.length≤65535∧m.ins.length≤65535∧m.looks.length≤65535) :
 ∃q' gk,e=.returned (.agg (q'.cells m).toArray)∧w.heap.size≤gk∧MsgV w' gk w'.heap.size q' m∧TwIn w' q' m∧Below w.heap.size w w':=by
 obtain⟨gk,q',a1,b1,b2,rfl,e1,e2,e3,h1,h2,hr,h3,h4,h5,hk,hi,hl,hb⟩:=h;have hv:MsgV w' gk w'.heap.size q' m:=⟨h32,hs,gk,a1,a1,b1,b1,b2,by omega,hk,hi.imp fun _ _ _ _ _ h=>h.inV,hl.imp fun _ _ _ _ _ h=>h.lookV⟩;exact⟨q',gk,rfl,h1,hv,⟨hv.in_,⟨gk,e1,by rw[e3,e2],hr⟩,hi.insT (by omega),hl.looksT (by omega)⟩,hb⟩
theorem Xvr(q q':Raw)(m:LMsg)(B:Nat)(w:World)(hT:TwIn w q' m)(h:MsgIn w B q m)(hB:B≤w.heap.size)
 (hk:m.keys.length≤65535) (hi:m.ins.length≤65535) (hl:m.looks.length≤65535) (hix:∀i ∈ m.ins,i.acc.length≤65535∧i.dat.length≤65535) (hlx:∀l ∈ m.looks,l.wr.length≤65535∧l.rd.length≤65535) :
 Calls Tryz.prog 67 #[.agg (q'.cells m).toArray,.agg (q.cells m).toArray] w fun e w'=>e=.returned (.bool true)∧Below w.heap.size w w':=by
 obtain⟨KA,kn,kc,IA,n,ic,LA,ln,lc⟩:=q';obtain⟨KB,kn',kd,IB,n',id,LB,ln',ld⟩:=q;obtain⟨e1,e2,e3⟩:=lens hT.msg h;dsimp only at e1 e2 e3
 obtain rfl:=e1.symm;obtain rfl:=e2.symm;obtain rfl:=e3.symm;obtain⟨gk,ek,ec,hrk⟩:=hT.key;dsimp only at ek ec
 subst ek;subst ec;have hr0:=(Row.new w 32 (Raw.cells ⟨some ⟨gk,0,none⟩,kn,kn+3,IA,n,ic,LA,ln,lc⟩ m)).alloc (.cells (Raw.cells ⟨KB,kn,kd,IB,n,id,LB,ln,ld⟩ m).toArray 32);have hr1:Row ((w.alloc (.cells (Raw.cells ⟨some ⟨gk,0,none⟩,kn,kn+3,IA,n,ic,LA,ln,lc⟩ m).toArray 32)).alloc (.cells (Raw.cells ⟨KB,kn,kd,IB,n,id,LB,ln,ld⟩ m).toArray 32)) (w.heap.size+1) 32 (Raw.cells ⟨KB,kn,kd,IB,n,id,LB,ln,ld⟩ m):=by
  have:=Row.new (w.alloc (.cells (Raw.cells ⟨some ⟨gk,0,none⟩,kn,kn+3,IA,n,ic,LA,ln,lc⟩ m).toArray 32)) 32 (Raw.cells ⟨KB,kn,kd,IB,n,id,LB,ln,ld⟩ m);simpa using this
 have hbw:=(((Br w.heap.size w).alloc (Lr _) (.cells (Raw.cells ⟨some ⟨gk,0,none⟩,kn,kn+3,IA,n,ic,LA,ln,lc⟩ m).toArray 32)).alloc (by simp) (.cells (Raw.cells ⟨KB,kn,kd,IB,n,id,LB,ln,ld⟩ m).toArray 32));have hw:=hT.below hbw;have hw':MsgIn _ B _ m:=h.below (hbw.mono hB);have k1:=hT.msg.kn;have k2:=hT.msg.n;have k3:=hT.msg.ln;have hkn:=hT.msg.keys.len;have hin:=hT.msg.ins.len;have hln:=hT.msg.looks.len;dsimp only at k1 k2 k3 hkn hin hln
 rw[hkn]at hk;rw[hin]at hi;rw[hln]at hl;have hrec:=h.recent;have c4:(Raw.cells ⟨some ⟨gk,0,none⟩,kn,kn+3,IA,n,ic,LA,ln,lc⟩ m)[4]?=some (.slice (some ⟨gk,0,none⟩) kn (kn+3)):=rfl;have c37:(Raw.cells ⟨some ⟨gk,0,none⟩,kn,kn+3,IA,n,ic,LA,ln,lc⟩ m)[37]?=some (.slice IA n ic):=Xev hrec;have c38:(Raw.cells ⟨some ⟨gk,0,none⟩,kn,kn+3,IA,n,ic,LA,ln,lc⟩ m)[38]?=some (.slice LA ln lc):=Xfv hrec;have d4:(Raw.cells ⟨KB,kn,kd,IB,n,id,LB,ln,ld⟩ m)[4]?=some (.slice KB kn kd):=rfl;have d37:(Raw.cells ⟨KB,kn,kd,IB,n,id,LB,ln,ld⟩ m)[37]?=some (.slice IB n id):=Xev hrec;have d38:(Raw.cells ⟨KB,kn,kd,IB,n,id,LB,ln,ld⟩ m)[38]?=some (.slice LB ln ld):=Xfv hrec;have HSA:=Hd (show(Tryz.prog.info? 32).map (·.size)=some (Raw.cells ⟨some ⟨gk,0,none⟩,kn,kn+3,IA,n,ic,LA,ln,lc⟩ m).length by rw[Xcv,Xby hrec]);have HSB:=Hd (show(Tryz.prog.info? 32).map (·.size)=some (Raw.cells ⟨KB,kn,kd,IB,n,id,LB,ln,ld⟩ m).length by rw[Xcv,Xby hrec]);have HSM:=Hd (Xm6 ⟨some ⟨gk,0,none⟩,kn,kn+3,IA,n,ic,LA,ln,lc⟩ ⟨KB,kn,kd,IB,n,id,LB,ln,ld⟩ m _ B _ hw.msg (Lr _) hw' (Lq hB hbw.size));have C4:=Hd (And.intro c4 (And.intro c37 c38));have D4:=Hd (And.intro d4 (And.intro d37 d38));clear c4 c37 c38 d4 d37 d38;generalize Raw.cells ⟨some ⟨gk,0,none⟩,kn,kn+3,IA,n,ic,LA,ln,lc⟩ m=ca at *;generalize Raw.cells ⟨KB,kn,kd,IB,n,id,LB,ln,ld⟩ m=cb at *;have HR0:=Hd hr0;have HR1:=Hd hr1;have HB:=Hd hbw;have HW:=Hd hw;have HW':=Hd hw';have HX:=Hd (And.intro hix hlx);unfold maxLen at k1 k2 k3;clear hr0 hr1 hbw hw hw' h hT hrec hrk hix hlx hkn hin hln;go_enter Tryz.func67,Tryz.ntmps67
 go_upto_region 1 with fail
 generalize (w.alloc (.cells ca.toArray 32)).alloc (.cells cb.toArray 32)=W at *;go_wp2_with (first
  | ((with_reducible show wpList _ _ _ (⟨some 7,_,_,_,_,_⟩::_) _ _);go_must(refine Xa1 rfl 32 (.tmp 2) rfl w.heap.size 32 ca _ Tryz.underlying32 rfl HSA.out HR0.out ?_ ?_;go_simp))
  | ((with_reducible show wpList _ _ _ (⟨some 8,_,_,_,_,_⟩::_) _ _);go_must(refine Xa1 rfl 32 (.tmp 3) rfl (w.heap.size+1) 32 cb _ Tryz.underlying32 rfl HSB.out HR1.out ?_ ?_;go_simp)))
 refine HSM.out.mono ?_;rintro e w1 ⟨rfl,hb1⟩;have hr0:=HR0.out.below hb1 HR0.out.lt;have hr1:=HR1.out.below hb1 HR1.out.lt;have g4:w1.cell? ⟨w.heap.size,4,none⟩=some (.slice (some ⟨gk,0,none⟩) kn (kn+3)):=(hr0.cell 4).trans C4.out.1;have g4':w1.cell? ⟨w.heap.size+1,4,none⟩=some (.slice KB kn kd):=(hr1.cell 4).trans D4.out.1;have R0:=Hd hr0;have R1:=Hd hr1;have HB1:=Hd hb1;have hw1:=HW.out.below hb1;have HW1:=Hd hw1;have hB1:B≤W.heap.size:=Lq hB HB.out.size;have HW1':=Hd (HW'.out.below (hb1.mono hB1));obtain⟨gk',ek,_,hrk⟩:=hw1.key;dsimp only at ek
 cases ek
 have HLK:=Hd (Xso gk KB kn kd m.keys w1 B hrk HW1'.out.keys (Lq hB1 hb1.size) (by omega));clear hr0 hr1 hb1 hw1 hrk HR0 HR1 HSM HW HW';go_wp2_with fail;refine HLK.out.mono ?_;rintro e w5 ⟨rfl,hb5⟩;have hr5:=R0.out.below hb5 R0.out.lt;have hr5':=R1.out.below hb5 R1.out.lt;have g37:w5.cell? ⟨w.heap.size,37,none⟩=some (.slice IA n ic):=(hr5.cell 37).trans C4.out.2.1;have g38:w5.cell? ⟨w.heap.size,38,none⟩=some (.slice LA ln lc):=(hr5.cell 38).trans C4.out.2.2;have g37':w5.cell? ⟨w.heap.size+1,37,none⟩=some (.slice IB n id):=(hr5'.cell 37).trans D4.out.2.1;have g38':w5.cell? ⟨w.heap.size+1,38,none⟩=some (.slice LB ln ld):=(hr5'.cell 38).trans D4.out.2.2;have ht5:=HW1.out.below hb5;have hm5:=HW1'.out.below (hb5.mono (Lq hB1 HB1.out.size));have HI:=Hd ht5.ins;have HI':=Hd hm5.ins;have HL:=Hd ht5.looks;have HL':=Hd hm5.looks;have HB5:Hid (Below w.heap.size w w5):=Hd ((HB.out.trans (HB1.out.mono HB.out.size)).trans (hb5.mono (Lq HB.out.size HB1.out.size)));have HE:=Hd (And.intro (show m.ins.length=n from ht5.msg.ins.len) (show m.looks.length=ln from ht5.msg.looks.len));clear hr5 hr5' ht5 hm5 hb5 g4 g4' C4 D4 HB HB1 HW1 HW1' HLK R0 R1;go_wp2_with fail;go_loopw [5] (fun i wr=>∃k j:Nat,k≤n∧i=.int .i64 k∧wr=w5.drewN j) (fun i _=>n - (intOf i).toNat)
 case atStart=>exact⟨0,0,Nat.zero_le _,rfl,rfl⟩
 case round =>
  obtain⟨k,j,hk,rfl,rfl⟩:=hrel;by_cases hlt:k<n
  ·obtain⟨b,y,vb,ve,rfl,hb,hyl,hyb⟩:=HI'.out.get hlt;obtain⟨g,g1,g2,rfl,hg,p1,p2,q1,q2⟩:=HI.out k y hyl;have r1:w5.cell? ⟨(b.add (k*3)).block,(b.add (k*3)).off+1,none⟩=some vb:=hyb.cells 1 _ rfl;have r2:w5.cell? ⟨(b.add (k*3)).block,(b.add (k*3)).off+2,none⟩=some ve:=hyb.cells 2 _ rfl;have hyx:=HX.out.1 y (List.mem_of_getElem? hyl);have sb:=hyb.acc;have se:=hyb.dat;obtain⟨A3,m3,rfl,s3,s3a,s3b⟩:=sb.is;obtain⟨A4,m4,rfl,s4,s4a,s4b⟩:=se.is;have T1:=Hd (fun nn=>Xej g1 A3 _ m3 y.acc (w5.drewN nn) B (q1.drewN nn) (s3.drewN nn) (by omega));have T2:=Hd (fun nn=>Xej g2 A4 _ m4 y.dat (w5.drewN nn) B (q2.drewN nn) (s4.drewN nn) (by omega));clear s3 s4 sb se hyl hyb q1 q2 hyx;go_wp2_with fail;refine wp_region_quiet_lit (by kernel_rfl) (by kernel_rfl) ?_;repeat (go_big_quiet_step (first | (go_at_call 34;with_reducible refine Xc8 (T1.out _)) | (go_at_call 34;with_reducible refine Xc8 (T2.out _))))
   refine wpQuiet_nil ?_;intro _ hwq;obtain⟨nq,hwq'⟩:=hwq;subst hwq';go_wp2_with fail;go_roundw
   case rel=>exact⟨k+1,j+nq,by omega,by go_num,by simp⟩
   case measure=>simp[intOf];omega
  ·go_wp2_with fail;obtain⟨w6,hw6⟩:∃w6,w6=w5.drewN j:=⟨_,rfl⟩;have h38:w6.cell? ⟨w.heap.size,38,none⟩=some (.slice LA ln lc):=by rw[hw6];exact g38
   have h38':w6.cell? ⟨w.heap.size+1,38,none⟩=some (.slice LB ln ld):=by rw[hw6];exact g38'
   have HL6:Hid (LooksT w6 LA m.looks):=by rw[hw6];exact Hd (HL.out.drewN j)
   have HL6':Hid (LooksIn w6 B LB ln m.looks):=by rw[hw6];exact Hd (HL'.out.keep fun p hp=>rfl)
   have HB6:Hid (Below w.heap.size w w6):=by rw[hw6];exact Hd (below_drewN HB5.out j)
   rw[←hw6];clear hw6 HL HL' HB5 g38 g38' HI HI' g37 g37';go_loopw [6] (fun i wr=>∃k j:Nat,k≤ln∧i=.int .i64 k∧wr=w6.drewN j) (fun i _=>ln - (intOf i).toNat)
   case atStart=>exact⟨0,0,Nat.zero_le _,rfl,rfl⟩
   case round =>
    obtain⟨k,j,hk,rfl,rfl⟩:=hrel;by_cases hlt:k<ln
    ·obtain⟨b,y,vb,ve,rfl,hb,hyl,hyb⟩:=HL6'.out.get hlt;obtain⟨g,g1,g2,rfl,hg,p1,p2,q1,q2⟩:=HL6.out k y hyl;have r1:w6.cell? ⟨(b.add (k*34)).block,(b.add (k*34)).off+32,none⟩=some vb:=hyb.cell32;have r2:w6.cell? ⟨(b.add (k*34)).block,(b.add (k*34)).off+33,none⟩=some ve:=hyb.cell33;have hyx:=HX.out.2 y (List.mem_of_getElem? hyl);have sb:=hyb.wr;have se:=hyb.rd;obtain⟨A3,m3,rfl,s3,s3a,s3b⟩:=sb.is;obtain⟨A4,m4,rfl,s4,s4a,s4b⟩:=se.is;have T1:=Hd (fun nn=>Xej g1 A3 _ m3 y.wr (w6.drewN nn) B (q1.drewN nn) (s3.drewN nn) (by omega));have T2:=Hd (fun nn=>Xej g2 A4 _ m4 y.rd (w6.drewN nn) B (q2.drewN nn) (s4.drewN nn) (by omega));clear s3 s4 sb se hyl hyb q1 q2 hyx;go_wp2_with fail;refine wp_region_quiet_lit (by kernel_rfl) (by kernel_rfl) ?_;repeat (go_big_quiet_step (first | (go_at_call 34;with_reducible refine Xc8 (T1.out _)) | (go_at_call 34;with_reducible refine Xc8 (T2.out _))))
     refine wpQuiet_nil ?_;intro _ hwq;obtain⟨nq,hwq'⟩:=hwq;subst hwq';go_wp2_with fail;go_roundw
     case rel=>exact⟨k+1,j+nq,by omega,by go_num,by simp⟩
     case measure=>simp[intOf];omega
    ·go_wp2_with fail;go_ret;exact⟨rfl,below_drewN HB6.out j⟩
theorem Xp5(m:List Value)(h:m.length=39)(A:Option Addr)(n c:Nat):Tryz.prog.built 34 [(0,.slice A n c),(1,.agg m.toArray)]=some (.slice A n c::m).toArray:=by
 obtain⟨f,rfl⟩:∃f:Fin 39→Value,m=List.ofFn f:=⟨fun i=>m.getD i undef,by
  refine List.ext_getElem (by simpa using h) fun i h1 h2=>?_
  rw[List.getElem_ofFn,List.getD_eq_getElem?_getD,List.getElem?_eq_getElem h1];rfl⟩
 kernel_rfl
theorem Xoo{xs cs:List Value}(hx:xs.length=40)(hc:cs.length=40):xs.take 0++cs++xs.drop (0+cs.length)=cs:=by
 rw[List.drop_of_length_le (by omega)];simp
structure TwTx(w:World)(s:TRaw)(x:LTx):Prop where
 tx:TxIn w w.heap.size s x
 sig:∃g,s.SA=some ⟨g,0,none⟩∧s.sc=s.sn+3∧Row w g 117 (bv x.sigs.flatten++keyRow 3 mk64)
 m:TwIn w s.q x.m
theorem TwTx.below{w w':World}{s:TRaw}{x:LTx}(h:TwTx w s x)(hb:Below w.heap.size w w'):TwTx w' s x:=by
 obtain⟨g,h1,h2,h3⟩:=h.sig;exact⟨(h.tx.below hb).more hb.size,⟨g,h1,h2,h3.below hb h3.lt⟩,h.m.below hb⟩
theorem TwinDone.late{w w':World}{q:Raw}{m:LMsg}{e:Ending}(h:TwinDone w q m e w')(h32:m.recent.length=32)(hs:m.keys.length≤65535∧m.ins.length≤65535∧m.looks.length≤65535) :
 ∃q' gk,e=.returned (.agg (q'.cells m).toArray)∧w.heap.size≤gk∧gk<w'.heap.size∧Below w.heap.size w w'∧∀w'':World,w'.heap.size≤w''.heap.size→(∀k,gk≤k→k<w'.heap.size→w''.heap[k]?=w'.heap[k]?)→MsgV w'' gk w''.heap.size q' m∧TwIn w'' q' m:=by
 obtain⟨gk,q',a1,b1,b2,rfl,e1,e2,e3,h1,h2,hr,h3,h4,h5,hk,hi,hl,hb⟩:=h;refine⟨q',gk,rfl,h1,hr.lt,hb,fun w'' hz hq=>?_⟩;have hk':=hk.stay hz fun k a b=>hq k a (by omega)
 have hi':=hi.stay hz fun k a b=>hq k (by omega) (by omega)
 have hl':=hl.stay hz fun k a b=>hq k (by omega) (by omega)
 have hv:MsgV w'' gk w''.heap.size q' m:=⟨h32,hs,gk,a1,a1,b1,b1,b2,by omega,hk',hi'.imp fun _ _ _ _ _ h=>h.inV,hl'.imp fun _ _ _ _ _ h=>h.lookV⟩;exact⟨hv,hv.in_,⟨gk,e1,by rw[e3,e2],⟨(hq gk (Lr _) hr.lt).trans hr.is⟩⟩,hi'.insT (by omega),hl'.looksT (by omega)⟩
def TwinTxLate(w:World)(x:LTx)(e:Ending)(w':World):Prop:=
 ∃s lo,e=.returned (.agg (TRaw.cells s x).toArray)∧w.heap.size≤lo∧lo<w'.heap.size∧Below w.heap.size w w'∧∀w'':World,w'.heap.size≤w''.heap.size→(∀k,lo≤k→k<w'.heap.size→w''.heap[k]?=w'.heap[k]?)→TxV w'' lo w''.heap.size s x∧TwTx w'' s x
theorem Xu5{w:World}{g n lo hi:Nat}{l:List (List Int)}(hr:Row w g 117 (bv l.flatten++keyRow 3 mk64))(hn:l.length=n)(h64:∀k ∈ l,k.length=64)(hlo:lo≤g)(hhi:g<hi)(hm:n+3≤maxLen) :
 SigsV w lo hi (.slice (some ⟨g,0,none⟩) n (n+3)) l:=by
 have hf:(bv l.flatten).length=n*64:=by rw[bL,Xcb l h64,hn]
 have hk:=Xg6 3 Xit;refine⟨?_,fun g' hg'=>?_,h64⟩
 ·rw[hn];refine⟨hf,.inr ⟨g,n+3,_,rfl,hlo,hr.is,by omega,hm,?_,?_⟩⟩
  ·rw[List.size_toArray,List.length_append,hf,hk,Nat.add_mul]
  ·simp only[];rw[List.take_left' hf]
 ·cases hg'
  exact hhi
theorem Xoi(s:TRaw)(x:LTx)(B:Nat)(w:World)(hm:TxIn w B s x)(hB:B≤w.heap.size)(hsg:x.sigs.length≤65535)
 (hk:x.m.keys.length≤65535∧x.m.ins.length≤65535∧x.m.looks.length≤65535) (hix:∀i ∈ x.m.ins,i.acc.length≤65535∧i.dat.length≤65535) (hlx:∀l ∈ x.m.looks,l.wr.length≤65535∧l.rd.length≤65535) :
 Calls Tryz.prog 20 #[.agg (s.cells x).toArray] w (TwinTxLate w x):=by
 obtain⟨SA,sn,sc,q⟩:=s;have hsl:=hm.sigs.len;dsimp only at hsl
 have hrow:=Row.new w 34 (TRaw.cells ⟨SA,sn,sc,q⟩ x);have hb0:=(Br w.heap.size w).alloc (Lr _) (.cells (TRaw.cells ⟨SA,sn,sc,q⟩ x).toArray 34);have H32:=Hd hm.m.recent;have HCM:=Hd (Xe1 (s:=⟨SA,sn,sc,q⟩) (x:=x));have hc0:(TRaw.cells ⟨SA,sn,sc,q⟩ x)[0]?=some (.slice SA sn sc):=rfl;dsimp only at HCM
 generalize TRaw.cells ⟨SA,sn,sc,q⟩ x=cs at *;obtain⟨W0,hW0⟩:∃W0,W0=w.alloc (.cells cs.toArray 34):=⟨_,rfl⟩;have hz0:W0.heap.size=w.heap.size+1:=by rw[hW0];simp
 rw[←hW0]at hrow hb0;obtain⟨W,hW⟩:∃W,W=W0.alloc (.cells tzero.toArray 34):=⟨_,rfl⟩;have rz:Row W (w.heap.size+1) 34 tzero:=by rw[hW,←hz0];exact Row.new _ _ _
 have r0:Row W w.heap.size 34 cs:=by rw[hW];exact hrow.alloc _
 have b0:Below w.heap.size w W:=by rw[hW];exact hb0.alloc (by omega) _
 have hz:W.heap.size=w.heap.size+2:=by rw[hW];simp[hz0]
 have hm0:=hm.below (b0.mono hB);have HSM:=Hd (show(Tryz.prog.info? 32).map (·.size)=some (q.cells x.m).length by rw[Xcv,Xby hm.m.recent]);obtain⟨C,hC⟩:∃C,C=(bv mk64).toArray:=⟨_,rfl⟩;have HMK:Hid (∀w:World,Calls Tryz.prog 46 #[] w fun e w'=>e=.returned (.agg C)∧Below w.heap.size w w'):=Hd (by rw[hC];exact Xqv);have HTS:Hid (∀w':World,SigsIn w' B SA sn x.sigs→B≤w'.heap.size→Calls Tryz.prog 45 #[.slice SA sn sc,.agg C] w' fun e w''=>∃g,e=.returned (.slice (some ⟨g,0,none⟩) sn (sn+3))∧w'.heap.size≤g∧Row w'' g 117 (bv x.sigs.flatten++keyRow 3 mk64)∧Below w'.heap.size w' w''):=Hd (by rw[hC];exact fun w' h h'=>twinS SA sn sc x.sigs mk64 w' B h h' (by omega) Xit);have HTM:Hid (∀w':World,MsgIn w' B q x.m→B≤w'.heap.size→Calls Tryz.prog 47 #[.agg (q.cells x.m).toArray] w' (TwinDone w' q x.m)):=Hd fun w' h h'=>Xl4 q x.m B w' h h' hk.1 hk.2.1 hk.2.2 hix hlx
 have R0:=Hd r0;have RZ:=Hd rz;have B0:=Hd b0;have HZ:=Hd hz;have HM0:=Hd hm0;have HK:=Hd hk;have HSL:=Hd (And.intro hsl hsg);have HC0:=Hd hc0;clear r0 rz b0 hz hm0 hm hrow hb0 hC hk hix hlx hsl hsg hc0;go_enter Tryz.func20,Tryz.ntmps20
 go_upto_region 1 with fail
 rw[←hW0];have hX:∀c,c=tzero.toArray→W0.alloc (.cells c 34)=W:=by rintro _ rfl;exact hW.symm
 rw[hX];rotate_left
 ·kernel_rfl
 clear hX hW hW0 hz0;obtain⟨V,hV⟩:∃V,V=W.drew:=⟨_,rfl⟩;have RV:Hid (Row V w.heap.size 34 cs):=Hd (by rw[hV];exact R0.out.drew);have ZV:Hid (Row V (w.heap.size+1) 34 tzero):=Hd (by rw[hV];exact RZ.out.drew);have BV:Hid (Below w.heap.size w V):=Hd (by rw[hV];exact B0.out.drew);have MV:Hid (TxIn V B ⟨SA,sn,sc,q⟩ x):=Hd (by rw[hV];exact HM0.out.keep fun p hp=>rfl);have SV:Hid (V.heap.size=w.heap.size+2):=Hd (by rw[hV];exact HZ.out);have HSS:Hid (∀V':World,Row V' w.heap.size 34 cs→V'.cell? ⟨w.heap.size,0,none⟩=some (.slice SA sn sc)∧V'.rangeAt w.heap.size 1 (q.cells x.m)):=Hd fun V' h=>⟨(h.cell 0).trans HC0.out,fun j u hu=>by rw[h.cell,HCM.out];exact hu⟩
 have HS:=Hd (HSS.out V RV.out);refine wp_region_held_drew (S:=fun V=>V.cell? ⟨w.heap.size,0,none⟩=some (.slice SA sn sc)∧V.rangeAt w.heap.size 1 (q.cells x.m)) (by kernel_rfl) (by rw[←hV];exact HS.out) (fun _=>?_);rw[←hV];clear hV HM0 R0 RZ B0 HZ;refine Tk 0 rfl ?_ HS.out ?_ ⟨?_,rfl⟩
 ·intro w hw;(try dsimp only at hw);go_simp;try with_reducible rfl
 try simp only[nm]
 refine Tk 1 rfl ?_ HS.out ?_ ⟨?_,rfl⟩
 ·intro w hw;(try dsimp only at hw);obtain⟨q0,q1⟩:=hw;go_simp;try with_reducible rfl
 try simp only[nm]
 refine Tk 4 rfl ?_ HS.out ?_ ⟨?_,rfl⟩
 ·intro w hw;(try dsimp only at hw);go_simp;try with_reducible rfl
 try simp only[nm]
 refine Tl 5 (v:=.agg (q.cells x.m).toArray) rfl (yieldsIf_load_mid (by kernel_rfl) 32 (.tmp 7) rfl w.heap.size 1 (by go_simp) (q.cells x.m) _ (fun w hw=>hw.2) Tryz.underlying32 rfl HSM.out) HS.out ?_;try simp only[nm]
 refine Rl 2 rfl fun K hK=>?_
 go_simp;refine(HMK.out V).mono ?_;rintro e w1 ⟨rfl,hb1⟩;simp only[];have R1:=Hd (RV.out.below hb1 RV.out.lt);have Z1:=Hd (ZV.out.below hb1 ZV.out.lt);have B1:=Hd (BV.out.trans (hb1.mono BV.out.size));have M1:=Hd (MV.out.below (hb1.mono (Lq hB BV.out.size)));have S1:=Hd (show w.heap.size+2≤w1.heap.size by have:=SV.out;have:=hb1.size;omega);have HS1:=Hd (HSS.out w1 R1.out);clear hb1 RV ZV BV MV SV;refine hK.out _ _ HS1.out ?_;clear hK K;try simp only[nm]
 refine Rl 3 rfl fun K hK=>?_
 go_simp;refine(HTS.out w1 M1.out.sigs (Lq hB B1.out.size)).mono ?_;rintro e w2 ⟨gs,rfl,hgs,hrs,hb2⟩;simp only[];have R2:=Hd (R1.out.below hb2 R1.out.lt);have Z2:=Hd (Z1.out.below hb2 Z1.out.lt);have B2:=Hd (B1.out.trans (hb2.mono B1.out.size));have M2:=Hd (M1.out.below (hb2.mono (Lq hB B1.out.size)));have G2:=Hd hrs;have S2:=Hd (show w.heap.size+2≤gs∧gs<w2.heap.size by have:=S1.out;have:=hrs.lt;omega);have HS2:=Hd (HSS.out w2 R2.out);clear hb2 hrs hgs R1 Z1 B1 M1 S1;refine hK.out _ _ HS2.out ?_;clear hK K;try simp only[nm]
 refine Rl 6 rfl fun K hK=>?_
 go_simp;refine(HTM.out w2 M2.out.m (Lq hB B2.out.size)).mono ?_;rintro e w3 hd;obtain⟨q',gk,rfl,hgk,hgk2,hb3,hlate⟩:=hd.late H32.out HK.out;simp only[];have R3:=Hd (R2.out.below hb3 R2.out.lt);have Z3:=Hd (Z2.out.below hb3 Z2.out.lt);have B3:=Hd (B2.out.trans (hb3.mono B2.out.size));have M3:=Hd (M2.out.below (hb3.mono (Lq hB B2.out.size)));have G3:=Hd (G2.out.below hb3 G2.out.lt);have T3:=Hd hlate;have S3:=Hd (show w.heap.size+2≤gs∧gs<gk∧gs<w3.heap.size by have:=S2.out;have:=hb3.size;omega);have HS3:=Hd (HSS.out w3 R3.out);have HL39:=Hd (Xby (q:=q') (m:=x.m) H32.out);clear hd hgk hgk2 hlate hb3 R2 Z2 B2 M2 G2 S2;refine hK.out _ _ HS3.out ?_;clear hK K;try simp only[nm]
 refine Tl 7 (v:=.agg (TRaw.cells ⟨some ⟨gs,0,none⟩,sn,sn+3,q'⟩ x).toArray) rfl (Or.inl ⟨by rfl,fun w _=>?_⟩) HS3.out ?_
 ·exact Xa9 w _ _ _ rfl (by simp only[List.map_toArray,List.map_cons,List.map_nil];exact Xp5 _ HL39.out _ _ _)
 try simp only[nm]
 have hl40:(TRaw.cells ⟨some ⟨gs,0,none⟩,sn,sn+3,q'⟩ x).length=40:=Xbb (s:=⟨some ⟨gs,0,none⟩,sn,sn+3,q'⟩) (x:=x) H32.out;have hone:=Xf6 (s:=⟨some ⟨gs,0,none⟩,sn,sn+3,q'⟩) (x:=x);obtain⟨dc,hdc⟩:∃dc,dc=TRaw.cells ⟨some ⟨gs,0,none⟩,sn,sn+3,q'⟩ x:=⟨_,rfl⟩;rw[←hdc]at hl40 hone ⊢;have HDC:=Hd hdc;have HDL:=Hd hl40;have HDO:=Hd hone;clear hdc hl40 hone;refine Rl 8 rfl fun K hK=>?_
 refine Xao 34 (.tmp 2) (.tmp 10) rfl (w.heap.size+1) 34 0 _ dc Z3.out (by rw[Xel,HDL.out]) (by rw[HDL.out];exact Lr _) HDO.out ?_ ?_ ?_
 ·go_simp
 ·go_simp
 intro V2 hr2 ht2;rw[Xoo rfl HDL.out]at hr2;have HS4:=Hd (HSS.out V2 (ht2.row R3.out (show w.heap.size≠w.heap.size+1 by omega)));have HR4:=Hd hr2;have HT4:=Hd ht2;clear hr2 ht2;refine hK.out _ _ HS4.out ?_;clear hK K;try simp only[Act.put]
 refine wpAnyH_done (by kernel_rfl) ?_ _;go_wp2_with fail;refine bodyPost_ret (results_cell_row (h:=rfl) _ V2 (w.heap.size+1) 34 _ (0,0) _ (by rfl) HR4.out.is Tryz.underlying34 rfl (by rw[List.size_toArray,HDL.out];exact Xel)) rfl ?_;have h3:=S3.out;have hgl:=(HT4.out.row G3.out (show gs≠w.heap.size+1 by omega)).lt;refine⟨⟨some ⟨gs,0,none⟩,sn,sn+3,q'⟩,gs,by rw[HDC.out],by omega,hgl,B3.out.trans (HT4.out.below (by omega)),fun V3 hz3 hq3=>?_⟩;obtain⟨hv2,ht2⟩:=T3.out V3 (Lq (Nat.le_of_eq HT4.out.size.symm) hz3) fun k a b=>(hq3 k (by omega) (by rw[HT4.out.size];exact b)).trans (HT4.out.block k (by omega))
 have hg2:Row V3 gs 117 (bv x.sigs.flatten++keyRow 3 mk64):=⟨(hq3 gs (Lr _) hgl).trans (HT4.out.row G3.out (show gs≠w.heap.size+1 by omega)).is⟩;have hsv:=Xu5 (lo:=gs) (hi:=gk) hg2 HSL.out.1 M3.out.sigs.each (Lr _) h3.2.1 (by have:=HSL.out;unfold maxLen;omega);have htv:TxV V3 gs V3.heap.size ⟨some ⟨gs,0,none⟩,sn,sn+3,q'⟩ x:=⟨HSL.out.2,gk,by omega,by obtain⟨a1,b1,a2,b2,a3,b3,h,_⟩:=hv2.is;omega,hsv,hv2⟩;exact⟨htv,htv.in_,⟨gs,rfl,rfl,hg2⟩,ht2⟩
def IdxDone(p:Bool)(e:Ending):Prop:=∃r:Int,e=.returned (.int .i64 r)∧(0≤r↔p=true)
theorem Xtw{r:Int}{p:Bool}(h:0≤r↔p=true):decide (0≤r)=p:=by
 rw[Bool.eq_iff_iff,decide_eq_true_iff];exact h
theorem Xco{p q:Bool}(h:p=q):Ending.returned (.bool p)=.returned (.bool q):=by rw[h]
theorem Xjg{α:Type}{p:α→Bool}{l:List α}{k:Nat}{x:α}(h:l[k]?=some x):(l.take (k+1)).any p=((l.take k).any p||p x):=by
 rw[List.take_add_one,h];simp
theorem Xux{α:Type}{p:α→Bool}{l:List α}{k:Nat}{x:α}(h:l[k]?=some x)(hp:p x=true):l.any p=true:=
 List.any_eq_true.2 ⟨x,List.mem_of_getElem? h,hp⟩
theorem Xqf{l:List Int}{k:Nat}(h:k<l.length):l[k]?=some (l.getD k 0):=by
 rw[List.getD_eq_getElem?_getD,List.getElem?_eq_getElem h];rfl
open Go.RowKit Go.Maps
theorem Xix:WideMaps.ArrKey Tryz.prog 62 5 32:=⟨Tryz.underlying62,by kernel_rfl,by kernel_rfl,by kernel_rfl⟩
theorem Xbh:Keyed Tryz.prog 62:=Keyed.of_law Xix.law
theorem Xk7{α β:Type}{f:α→Option β}{g:α→β}:∀(l:List α),(∀x ∈ l,f x=some (g x))→l.mapM f=some (l.map g)
 | [],_=>rfl
 | x::r,h=>by
  rw[List.mapM_cons,h x (by simp),Xk7 r (fun y hy=>h y (by simp[hy]))];rfl
def KL(x:List Int):Lit:=.string (keyBytes ((List.range 32).map fun i=>[Lit.int .u8 (x.getD i 0)]).flatten)
theorem KL_is{x:List Int}(h:x.length=32)(hb:AllBytes x):Go.keyOf Tryz.prog 62 (.agg (bv x).toArray)=some (KL x):=by
 have hkt:Tryz.prog.keyType 62=true:=by kernel_rfl
 have e:(Tryz.prog.keyLits (Tryz.prog.types.size+1) 62 (bv x))=some ((List.range 32).map fun i=>[Lit.int .u8 (x.getD i 0)]).flatten:=by
  obtain⟨m,hm⟩:∃m,Tryz.prog.types.size=m+1:=⟨Tryz.prog.types.size - 1,by kernel_rfl⟩;unfold Program.keyLits;simp only[Tryz.underlying62];rw[if_pos (by rw[bL,h];exact Xix.size.symm),Xk7 (g:=fun i=>[Lit.int .u8 (x.getD i 0)])]
  ·rfl
  intro i hi;have hi:i<32:=by simpa using hi
  rw[Xix.one,Nat.mul_one,hm];have hx:x[i]?=some (x.getD i 0):=by rw[List.getD_eq_getElem?_getD,List.getElem?_eq_getElem (by omega)];rfl
  have hc:((bv x).drop i).take 1=[.int .u8 (x.getD i 0)]:=by
   rw[List.take_one,List.head?_drop,bv_getElem?,hx];rfl
  obtain⟨z0,z1⟩:=hb _ (List.mem_of_getElem? hx);rw[hc];unfold Program.keyLits;simp only[Tryz.underlying5];have hwf:(Lit.int .u8 (x.getD i 0)).wf=true:=by
   show(decide ((0:Int)≤x.getD i 0)&&decide (x.getD i 0≤255))=true
   rw[decide_eq_true z0,decide_eq_true (by omega)];rfl
  rw[if_pos ⟨trivial,hwf⟩]
 unfold KL Go.keyOf;simp only[Tryz.underlying62];rw[if_pos (by simp[hkt,Value.formed,Tryz.underlying62,Xix.size,bL,h]),show(Value.agg (bv x).toArray).cells.toList=bv x by simp[Value.cells],e];rfl
theorem Xfd{x y:List Int}(hx:x.length=32)(bx:AllBytes x)(hy:y.length=32)(by_:AllBytes y)(h:KL x=KL y):x=y:=by
 have:=Xbh.inj (KL_is hx bx) (h ▸ KL_is hy by_);have h2:bv x=bv y:=by simpa using this
 unfold bv cv at h2;exact(List.map_inj_right (fun a b hab=>by injection hab)).1 h2
theorem Xka{x:List Int}(h:x.length=32)(hb:AllBytes x):WideAt.IsKeyLit (KL x):=Xbh.key (KL_is h hb)
def xk(a:Int):List Int:=a::List.replicate 31 0
section
variable{P:Program}{w:World}{base:Nat}{t ty e:TypeId}{i:TypeInfo}{z:Value}{size bytes:Nat}{v:Value}{n m c B:Nat}{A:Option Addr}{xs news:List Value}
theorem Xfk(ht:P.underlying t=some (.slice e))(hi:P.info? e=some i)(hown:w.ownsRow base e size v n xs)(c:Nat) :
 (Builtin.append_ #[t,t] ty #[v,.slice none 0 c]).run P w=.ok v w:=by
 rcases hown.2 with⟨rfl,rfl⟩ | ⟨g,cap,cur,rfl,_,_,hnc,_⟩ <;>
  simp[Builtin.append_,run_underlying ht,sizeOf,typeInfo,Builtin.lenOf,Builtin.firstCells,storeCells, *]
theorem Xmw{o:Oper}{a:Act}{K:Act→World→Prop}{Q:Exit→Act→World→Prop}(s x:Operand)(t e:TypeId)(z:Value)(size bytes:Nat)
 (ho:o.op=.call { callee:=.builtin .append,args:=#[s,x],argTypes:=#[t,t] })
 (ht:P.underlying t=some (.slice e)) (hi:(P.info? e).map (fun i=>(i.zero,i.size,i.bytes))=some (some z,size,bytes)) (hzs:z.cells.size=size) (hs0:0<size)
 (v:Value) (n:Nat) (xs:List Value) (base B:Nat) (A:Option Addr) (m c:Nat) (news:List Value)
 (hs:a.eval s=v) (hown:w.ownsRow base e size v n xs) (hx:a.eval x=.slice A m c) (hr:Sees w B A (m*size) news) (h1:∀u ∈ news,u.oneCell'=true)
 (hnm:n+m≤maxLen) (hbytes:(n+m)*bytes≤140737488355328) (hbase:base≤w.heap.size)
 (h:∀v' w',w'.ownsRow base e size v' (n+m) (xs++news)→Grew w w' v v'→K (a.put o.dst v') w'):o.wp P a w K Q:=by
 obtain⟨i0,hi,hz0,hz1,hz2⟩:=info_parts hi;have hrun:∃v' w',(Builtin.append_ #[t,t] o.type #[v,.slice A m c]).run P w=.ok v' w'∧w'.ownsRow base e size v' (n+m) (xs++news)∧Grew w w' v v':=by
  cases A with
  | none =>
   have hn:news=[]:=by
    cases news with
    | nil=>rfl
    | cons u r =>
     obtain⟨a,h,_⟩:=hr.cell 0 u rfl;cases h
   subst hn;have hl:m*size=0:=by simpa using hr.len.symm
   obtain rfl:m=0:=by
    rcases Nat.mul_eq_zero.1 hl with h | h
    ·exact h
    ·omega
   exact⟨v,w,Xfk ht hi hown c,by simpa using hown,Grew.refl _ _⟩
  | some ad =>
   obtain⟨v',w',hrun,h2,h3,_,h5⟩:=run_append_own_at (P:=P) w base t o.type e i0 z size bytes ht hi hz0 hz1 hz2 hzs hs0 v n xs hown ad m c news hr.len
    (fun j u hu=>by
      obtain⟨a,h,_,hc⟩:=hr.cell j u hu;cases h
      exact hc) h1 hnm hbytes hbase
   refine⟨v',w',hrun,h2,⟨h3,fun k hk=>?_⟩⟩;rcases h5 with h5 | h5
   ·exact .inl (h5 ▸ hk)
   ·rw[h5]at hk;cases hk
    exact .inr (Lr _)
 obtain⟨v',w',hr2,h2,h3⟩:=hrun;unfold Oper.wp execOp;simp only[ho,resolve,invoke,builtin,Sem.run_bind,Sem.run_pure,Result.andThen_ok,List.map_toArray,List.map_cons,List.map_nil,hs,hx,hr2];exact h v' w' h2 h3
theorem Xap{ops:Array Oper}{rest:List Oper}{o:Oper}{a:Act}{Q:Exit→Act→World→Prop}(hgd:o.guard=none)(s x:Operand)(t e:TypeId)(z:Value)(size bytes:Nat)
 (ho:o.op=.call { callee:=.builtin .append,args:=#[s,x],argTypes:=#[t,t] })
 (ht:P.underlying t=some (.slice e)) (hi:(P.info? e).map (fun i=>(i.zero,i.size,i.bytes))=some (some z,size,bytes)) (hzs:z.cells.size=size) (hs0:0<size)
 (v:Value) (n:Nat) (xs:List Value) (base B:Nat) (A:Option Addr) (m c:Nat) (news:List Value)
 (hs:a.eval s=v) (hown:w.ownsRow base e size v n xs) (hx:a.eval x=.slice A m c) (hr:Sees w B A (m*size) news) (h1:∀u ∈ news,u.oneCell'=true)
 (hnm:n+m≤maxLen) (hbytes:(n+m)*bytes≤140737488355328) (hbase:base≤w.heap.size)
 (h:∀v' w',w'.ownsRow base e size v' (n+m) (xs++news)→Grew w w' v v'→wpList P ops Q rest (a.put o.dst v') w'):wpList P ops Q (o::rest) a w:=
 wpList_plain hgd fun _ hK=>Xmw s x t e z size bytes ho ht hi hzs hs0 v n xs base B A m c news hs hown hx hr h1 hnm hbytes hbase fun v' w' h2 h3=>hK _ _ (h v' w' h2 h3)
end
theorem Xaq(w:World)(base:Nat)(e:TypeId)(size:Nat):w.ownsRow base e size (.slice none 0 0) 0 []:=World.ownsRow_nil w base e size
theorem Xbm{w:World}{base:Nat}{e:TypeId}{size n:Nat}{v:Value}{xs:List Value}(h:w.ownsRow base e size v n xs):∃A c,v=.slice A n c∧Sees w w.heap.size A (n*size) xs∧n≤c∧c≤maxLen∧(∀g,v.ownBlock=some g→base≤g∧g<w.heap.size):=by
 have hlt:=h.lt;rcases h.2 with⟨rfl,rfl⟩ | ⟨g,cap,cur,rfl,hg,hh,h1,h2,h3,h4⟩
 ·have hx:xs=[]:=List.eq_nil_of_length_eq_zero (by simpa using h.1);subst hx;exact⟨none,0,rfl,by rw[Nat.zero_mul];exact Sees.nil _ _ _,Lr _,by simp[maxLen],hlt⟩
 ·refine⟨_,cap,rfl,⟨h.1,fun j u hu=>⟨_,rfl,(Array.getElem?_eq_some_iff.1 hh).1,h.cells (g:=g) rfl j u hu⟩⟩,h1,h2,hlt⟩
structure InsCells(w:World)(B:Nat)(l:List LIn)(news:List Value):Prop where
 len:news.length=l.length*3
 at_:∀i x,l[i]?=some x→∃va vd,news[i*3]?=some (.int .u8 x.p)∧news[i*3+1]?=some va∧news[i*3+2]?=some vd∧BytesIn w B va x.acc∧BytesIn w B vd x.dat
 one:∀u ∈ news,u.oneCell'=true
theorem BytesIn.one{w:World}{B:Nat}{v:Value}{l:List Int}(h:BytesIn w B v l):v.oneCell'=true:=by
 obtain⟨A,c,rfl,_⟩:=h.is;rfl
theorem InsIn.cells{w:World}{B n:Nat}{A:Option Addr}{l:List LIn}(h:InsIn w B A n l):∃news,InsCells w B l news∧Sees w B A (n*3) news:=by
 obtain⟨ps,hps,hp⟩:∃ps:List (Value × Value),ps.length=l.length∧∀i x p,l[i]?=some x→ps[i]?=some p→∃a,A=some a∧a.block<B∧w.cell? (a.add (i*3))=some (.int .u8 x.p)∧w.cell? (a.add (i*3+1))=some p.1∧w.cell? (a.add (i*3+2))=some p.2∧BytesIn w B p.1 x.acc∧BytesIn w B p.2 x.dat:=by
  obtain⟨ps,h1,h2⟩:=Xd4 (α:=Value × Value) (p:=fun i p=>∀x,l[i]?=some x→∃a,A=some a∧a.block<B∧w.cell? (a.add (i*3))=some (.int .u8 x.p)∧w.cell? (a.add (i*3+1))=some p.1∧w.cell? (a.add (i*3+2))=some p.2∧BytesIn w B p.1 x.acc∧BytesIn w B p.2 x.dat) l.length fun i hi=>by
   obtain⟨a,va,vd,e1,e2,e3,e4,e5,e6,e7⟩:=h.at_ i _ (List.getElem?_eq_getElem hi);refine⟨(va,vd),fun x hx=>?_⟩;rw[List.getElem?_eq_getElem hi]at hx;obtain rfl:=Option.some.inj hx;exact⟨a,e1,e2,e3,e4,e5,e6,e7⟩
  exact⟨ps,h1,fun i x p hx hp=>h2 i p hp x hx⟩
 let f:Nat→Value:=fun j=>if j % 3=0 then .int .u8 ((l.getD (j / 3) ⟨0,[],[]⟩).p)else if j % 3=1 then(ps.getD (j / 3) (undef,undef)).1 else(ps.getD (j / 3) (undef,undef)).2
 have hf:∀i x,l[i]?=some x→∃p,ps[i]?=some p∧f (i*3)=.int .u8 x.p∧f (i*3+1)=p.1∧f (i*3+2)=p.2:=by
  intro i x hx;have hi:=(List.getElem?_eq_some_iff.1 hx).1;obtain⟨p,hpi⟩:∃p,ps[i]?=some p:=⟨_,List.getElem?_eq_getElem (by omega)⟩;have hl:l.getD i ⟨0,[],[]⟩=x:=by rw[List.getD_eq_getElem?_getD,hx];rfl
  have hq:ps.getD i (undef,undef)=p:=by rw[List.getD_eq_getElem?_getD,hpi];rfl
  refine⟨p,hpi,?_,?_,?_⟩
  ·show(if i*3 % 3=0 then _ else _)=_
   rw[if_pos (by omega),show i*3 / 3=i by omega,hl]
  ·show(if (i*3+1) % 3=0 then _ else _)=_
   rw[if_neg (by omega),if_pos (by omega),show(i*3+1) / 3=i by omega,hq]
  ·show(if (i*3+2) % 3=0 then _ else _)=_
   rw[if_neg (by omega),if_neg (by omega),show(i*3+2) / 3=i by omega,hq]
 have hget:∀j,j<l.length*3→((List.range (l.length*3)).map f)[j]?=some (f j):=fun j hj=>by rw[List.getElem?_map,List.getElem?_range hj];rfl
 have hall:∀j,j<l.length*3→∃a,A=some a∧a.block<B∧w.cell? (a.add j)=some (f j)∧(f j).oneCell'=true:=by
  intro j hj;have hx:=List.getElem?_eq_getElem (l:=l) (i:=j / 3) (by omega);obtain⟨p,hpi,f0,f1,f2⟩:=hf _ _ hx;obtain⟨a,e1,e2,e3,e4,e5,e6,e7⟩:=hp _ _ _ hx hpi;refine⟨a,e1,e2,?_⟩;rcases(show j=j / 3*3∨j=j / 3*3+1∨j=j / 3*3+2 by omega)with h | h | h
  ·rw[←h]at f0 e3;rw[e3,f0];exact⟨rfl,rfl⟩
  ·rw[←h]at f1 e4;rw[e4,f1];exact⟨rfl,e6.one⟩
  ·rw[←h]at f2 e5;rw[e5,f2];exact⟨rfl,e7.one⟩
 refine⟨(List.range (l.length*3)).map f,⟨by simp,fun i x hx=>?_,fun u hu=>?_⟩,⟨by rw[List.length_map,List.length_range,h.len],fun j u hu=>?_⟩⟩
 ·have hi:=(List.getElem?_eq_some_iff.1 hx).1;obtain⟨p,hpi,f0,f1,f2⟩:=hf _ _ hx;obtain⟨a,e1,e2,e3,e4,e5,e6,e7⟩:=hp _ _ _ hx hpi;exact⟨p.1,p.2,by rw[hget _ (by omega),f0],by rw[hget _ (by omega),f1],by rw[hget _ (by omega),f2],e6,e7⟩
 ·obtain⟨j,hj,rfl⟩:=List.mem_map.1 hu;obtain⟨_,_,_,_,h1⟩:=hall j (by simpa using hj);exact h1
 ·have hj:=(List.getElem?_eq_some_iff.1 hu).1;rw[List.length_map,List.length_range]at hj;rw[hget j hj]at hu;obtain⟨a,e1,e2,e3,_⟩:=hall j hj;exact⟨a,e1,e2,by rw[e3,Option.some.inj hu]⟩
theorem InsCells.below{w w':World}{B:Nat}{l:List LIn}{news:List Value}(h:InsCells w B l news)(hb:Below B w w'):InsCells w' B l news:=
 ⟨h.len,fun i x hx=>by
  obtain⟨va,vd,e1,e2,e3,e4,e5⟩:=h.at_ i x hx;exact⟨va,vd,e1,e2,e3,e4.below hb,e5.below hb⟩,h.one⟩
theorem InsCells.more{w:World}{B B':Nat}{l:List LIn}{news:List Value}(h:InsCells w B l news)(hb:B≤B'):InsCells w B' l news:=
 ⟨h.len,fun i x hx=>by
  obtain⟨va,vd,e1,e2,e3,e4,e5⟩:=h.at_ i x hx;exact⟨va,vd,e1,e2,e3,e4.more hb,e5.more hb⟩,h.one⟩
theorem InsCells.in_{w:World}{B n:Nat}{A:Option Addr}{l:List LIn}{news:List Value}(h:InsCells w B l news)(hs:Sees w B A (n*3) news)(hn:l.length=n):InsIn w B A n l:=
 ⟨hn,fun i x hx=>by
  obtain⟨va,vd,e1,e2,e3,e4,e5⟩:=h.at_ i x hx;obtain⟨a,ha,hb,c0⟩:=hs.cell _ _ e1;obtain⟨a1,ha1,_,c1⟩:=hs.cell _ _ e2;obtain⟨a2,ha2,_,c2⟩:=hs.cell _ _ e3;rw[ha]at ha1 ha2;obtain rfl:=Option.some.inj ha1;obtain rfl:=Option.some.inj ha2;exact⟨a,va,vd,ha,hb,c0,c1,c2,e4,e5⟩⟩
theorem InsCells.snoc{w:World}{B:Nat}{l:List LIn}{news:List Value}(h:InsCells w B l news){y:LIn}{va vd:Value}(hb:IsByte y.p)(ha:BytesIn w B va y.acc)(hd:BytesIn w B vd y.dat):InsCells w B (l++[y]) (news++inCells y.p va vd):=by
 refine⟨by rw[List.length_append,h.len,List.length_append];simp[inCells];omega,fun i x hx=>?_,fun u hu=>?_⟩
 ·by_cases hi:i<l.length
  ·rw[List.getElem?_append_left hi]at hx;obtain⟨va,vd,e1,e2,e3,e4,e5⟩:=h.at_ i x hx;exact⟨va,vd,by rw[List.getElem?_append_left (by rw[h.len];omega)];exact e1,by rw[List.getElem?_append_left (by rw[h.len];omega)];exact e2,by rw[List.getElem?_append_left (by rw[h.len];omega)];exact e3,e4,e5⟩
  ·have hlen:=(List.getElem?_eq_some_iff.1 hx).1;rw[List.length_append,List.length_singleton]at hlen;obtain rfl:i=l.length:=by omega
   rw[List.getElem?_append_right (Lr _),Nat.sub_self]at hx;obtain rfl:y=x:=by simpa using hx
   exact⟨va,vd,by rw[List.getElem?_append_right (by rw[h.len];omega),h.len,Nat.sub_self];rfl,by rw[List.getElem?_append_right (by rw[h.len];omega),h.len,show l.length*3+1 - l.length*3=1 by omega];rfl,by rw[List.getElem?_append_right (by rw[h.len];omega),h.len,show l.length*3+2 - l.length*3=2 by omega];rfl,ha,hd⟩
 ·rcases List.mem_append.1 hu with hu | hu
  ·exact h.one u hu
  ·exact Xlj ha hd u hu
def i1:DataW Unit:=.lit (.int .i64 1)
theorem Sees.far{w:World}{B n:Nat}{A:Option Addr}{xs:List Value}(h:Sees w B A n xs){p:Addr}(hp:∀a,A=some a→a.block≠p.block)(u:Value):Sees (w.setCell p u) B A n xs:=
 ⟨h.len,fun i v hv=>by
  obtain⟨a,ha,hb,hc⟩:=h.cell i v hv;exact⟨a,ha,hb,(World.cell?_setCell_other w p _ u (fun e=>hp a ha (by rw[e,Xad]))).trans hc⟩⟩
theorem Xo1{w:World}{base g c:Nat}{e:TypeId}{size n:Nat}{xs rest:List Value}(h:Row w g e (xs++rest))(hl:xs.length=n*size)(hc:(xs++rest).length=c*size)(h1:n≤c)(h2:c≤maxLen)(hb:base≤g) :
 w.ownsRow base e size (.slice (some ⟨g,0,none⟩) n c) n xs:=
 ⟨hl,.inr ⟨g,c,(xs++rest).toArray,rfl,hb,h.is,h1,h2,by simpa using hc,by rw[←hl];simp⟩⟩
theorem Xcu{w w':World}{base:Nat}{e:TypeId}{size n:Nat}{v:Value}{xs:List Value}(h:w.ownsRow base e size v n xs)(hk:∀g,v.ownBlock=some g→w'.heap[g]?=w.heap[g]?):w'.ownsRow base e size v n xs:=by
 refine⟨h.1,?_⟩;rcases h.2 with h2 | ⟨g,cap,cur,hv,hg,hh,r⟩
 ·exact .inl h2
 ·exact .inr ⟨g,cap,cur,hv,hg,(hk g (by rw[hv];rfl)).trans hh,r⟩
theorem own_is{w:World}{base:Nat}{e:TypeId}{size n g:Nat}{v:Value}{xs:List Value}(h:w.ownsRow base e size v n xs)(hg:v.ownBlock=some g):∃cur,w.heap[g]?=some (.cells cur e (0,0)):=by
 rcases h.2 with⟨rfl,_⟩ | ⟨g',cap,cur,rfl,_,hh,_⟩
 ·cases hg
 ·cases hg
  exact⟨cur,hh⟩
def pa(i:LIn):Int × List Int:=(i.p,i.acc)
theorem Xfp{P:Program}{o:Oper}{a:Act}{w:World}{K:Act→World→Prop}{Q:Exit→Act→World→Prop}(d s:Operand)(dT sT elem:TypeId)
 (ho:o.op=.call { callee:=.builtin .copy,args:=#[d,s],argTypes:=#[dT,sT] }) (hu:P.underlying dT=some (.slice elem)) (hsz:(P.info? elem).map (·.size)=some 1)
 (g off dLen dCap:Nat) (ad:Addr) (sLen sCap:Nat) (hd:a.eval d=.slice (some ⟨g,off,none⟩) dLen dCap) (hs:a.eval s=.slice (some ad) sLen sCap)
 (cur:List Value) (t:TypeId) (hg:Row w g t cur) (cs:List Value) (hn:cs.length=Nat.min sLen dLen)
 (hsrc:∀j v,cs[j]?=some v→w.cell? (ad.add j)=some v) (hfit:off+cs.length≤cur.length) (h1:∀v ∈ cs,v.oneCell'=true)
 (h:∀w',Row w' g t (cur.take off++cs++cur.drop (off+cs.length))→Turned w w' g→K (a.put o.dst (goInt cs.length)) w'):o.wp P a w K Q:=by
 have hrun:=run_copy_row (P:=P) w dT sT o.type elem g off dLen dCap ad sLen sCap cur.toArray t cs hu hsz hg.is hn hsrc (by simpa using hfit) h1;unfold Oper.wp execOp;simp only[ho,resolve,invoke,builtin,Sem.run_bind,Sem.run_pure,Result.andThen_ok,List.map_toArray,List.map_cons,List.map_nil,hd,hs,hrun];exact h _ (by simpa using Xgc hg (cur.take off++cs++cur.drop (off+cs.length))) (by simpa using Xe4 w g _)
theorem Xcd{P:Program}{o:Oper}{a:Act}{w:World}{K:Act→World→Prop}{Q:Exit→Act→World→Prop}(t:TypeId)(ho:o.op=.alloc t)(z:List Value)
 (hi:(P.info? t).map (·.zero)=some (some (.agg z.toArray))) (h:K (a.put o.dst (.pointer (some ⟨w.heap.size,0,none⟩))) (w.alloc (.cells z.toArray t))):o.wp P a w K Q:=by
 cases hq:P.info? t with
 | none=>simp[hq]at hi
 | some i =>
  have hz:i.zero=some (.agg z.toArray):=by simpa [hq]using hi
  unfold Oper.wp execOp;simp[ho,Instr.alloc,zeroValue,typeInfo,hq,hz,newVar,newRow,Value.cells];exact h
theorem Xa0{P:Program}{ops:Array Oper}{rest:List Oper}{o:Oper}{a:Act}{w:World}{Q:Exit→Act→World→Prop}(hg:o.guard=none)(t:TypeId)(ho:o.op=.alloc t)(z:List Value)
 (hi:(P.info? t).map (·.zero)=some (some (.agg z.toArray))) (h:wpList P ops Q rest (a.put o.dst (.pointer (some ⟨w.heap.size,0,none⟩))) (w.alloc (.cells z.toArray t))):wpList P ops Q (o::rest) a w:=
 wpList_plain hg fun K hK=>Xcd t ho z hi (hK _ _ h)
theorem Xsg{w V V':World}{row:Option Nat}(hg:w.grownBy V row)(hb:Below V.heap.size V V'):w.grownBy V' row:=
 ⟨hb.os.trans hg.os,hb.tape.trans hg.tape,hb.output.trans hg.output,Lq hg.size hb.size,fun k hk hr=>(hb.block k (Nat.lt_of_lt_of_le hk hg.size)).trans (hg.block k hk hr)⟩
theorem gb_of{w V:World}(row:Option Nat)(hb:Below w.heap.size w V):w.grownBy V row:=⟨hb.os,hb.tape,hb.output,hb.size,fun k hk _=>hb.block k hk⟩
theorem Xpm{L:List LAcc}(h:∀x ∈ L,AccOk x):∀k ∈ L.map LAcc.cells,IsAc k:=fun k hk=>by
 obtain⟨x,hx,rfl⟩:=List.mem_map.1 hk;exact Xud (h x hx).o.1
def accsC(L:List LAcc):List Value:=(L.map LAcc.cells).flatten
theorem Xha{L:List LAcc}(h:∀x ∈ L,AccOk x):∀k ∈ L.map LAcc.cells,k.length=34:=fun k hk=>by
 obtain⟨x,hx,rfl⟩:=List.mem_map.1 hk;exact Xbt (h x hx).o.1
theorem Xb9(L:List LAcc):∀u ∈ accsC L,u.oneCell'=true:=fun u hu=>by
 obtain⟨c,hc,hu⟩:=List.mem_flatten.1 hu;obtain⟨x,_,rfl⟩:=List.mem_map.1 hc;exact Xee x u hu
theorem Xep{L:List LAcc}(h:∀x ∈ L,AccOk x):(accsC L).length=L.length*34:=by
 unfold accsC;rw[Xc3 (Xha h),List.length_map]
structure AccsIn(w:World)(B:Nat)(A:Option Addr)(n:Nat)(L:List LAcc):Prop where
 len:L.length=n
 ok:∀x ∈ L,AccOk x
 sees:Sees w B A (n*34) (accsC L)
section
variable{n B B':Nat}{w w':World}{A:Option Addr}{L:List LAcc}
theorem AccsIn.cs(h:AccsIn w B A n L):CsIn 34 w B A n (L.map LAcc.cells):=⟨by rw[List.length_map,h.len],Xha h.ok,h.sees⟩
theorem AccsIn.keep(h:AccsIn w B A n L)(hk:∀p:Addr,p.block<B→w'.cell? p=w.cell? p):AccsIn w' B A n L:=⟨h.len,h.ok,h.sees.keep hk⟩
theorem AccsIn.below(h:AccsIn w B A n L)(hb:Below B w w'):AccsIn w' B A n L:=⟨h.len,h.ok,h.sees.below hb⟩
theorem AccsIn.more(h:AccsIn w B A n L)(hB:B≤B'):AccsIn w B' A n L:=⟨h.len,h.ok,h.sees.more hB⟩
theorem AccsIn.get(h:AccsIn w B A n L){k:Nat}(hk:k<n):∃a x,A=some a∧a.block<B∧L[k]?=some x∧AccOk x∧∀j u,x.cells[j]?=some u→w.cell? ((a.add (k*34)).add j)=some u:=by
 obtain⟨a,x,e,hb,hx,_,hcell⟩:=h.cs.get hk (by omega);rw[List.getElem?_map]at hx;obtain⟨r,hr,rfl⟩:=Option.map_eq_some_iff.1 hx;exact⟨a,r,e,hb,hr,h.ok r (List.mem_of_getElem? hr),hcell⟩
theorem Xtc{base c:Nat}(h:w.ownsRow base 69 34 (.slice A n c) L.length (accsC L))(ho:∀x ∈ L,AccOk x)(hn:n=L.length):AccsIn w w.heap.size A n L:=by
 subst hn;obtain⟨A',c',h1,h2,_⟩:=Xbm h;cases h1
 exact⟨rfl,ho,h2⟩
theorem Xu0{g t:Nat}{ys:List Value}(hr:Row w g t (accsC L++ys))(hn:L.length=n)(he:∀r ∈ L,AccOk r)(hB:g<B):AccsIn w B (some ⟨g,0,none⟩) n L:=
 ⟨hn,he,(Xh0 (sz:=34) (l:=L.map LAcc.cells) hr (by rw[List.length_map,hn]) (Xha he) hB).sees⟩
end
structure OA14(w:World)(base:Nat)(v:Value)(L:List LAcc):Prop where
 is:∃A c c',v=.slice A L.length c∧L.length≤c∧c≤c'∧w.ownsRow base 69 34 (.slice A L.length c') L.length (accsC L)
 ok:∀x ∈ L,AccOk x
theorem Xeg(A:Option Addr)(n c c':Nat):(Value.slice A n c).ownBlock=(Value.slice A n c').ownBlock:=by cases A <;> rfl
section
variable{w w':World}{base c n:Nat}{v:Value}{A:Option Addr}{L:List LAcc}
theorem OA14.keep(h:OA14 w base v L)(hk:∀g,v.ownBlock=some g→w'.heap[g]?=w.heap[g]?):OA14 w' base v L:=by
 obtain⟨A,c,c',rfl,h1,h2,h3⟩:=h.is;exact⟨⟨A,c,c',rfl,h1,h2,Xcu h3 fun g hg=>hk g ((Xeg A _ c c').trans hg)⟩,h.ok⟩
theorem OA14.lt(h:OA14 w base v L):∀g,v.ownBlock=some g→base≤g∧g<w.heap.size:=fun g hg=>by
 obtain⟨A,c,c',rfl,h1,h2,h3⟩:=h.is;exact h3.lt g ((Xeg A _ c' c).trans hg)
theorem OA14.below(h:OA14 w base v L)(hb:Below w.heap.size w w'):OA14 w' base v L:=h.keep fun g hg=>hb.block g (h.lt g hg).2
theorem OA14.cells(h:OA14 w base v L):∀g,v.ownBlock=some g→∃cur,w.heap[g]?=some (.cells cur 69 (0,0)):=fun g hg=>by
 obtain⟨A,c,c',rfl,h1,h2,h3⟩:=h.is;exact own_is h3 ((Xeg A _ c' c).trans hg)
theorem OA14.accs(h:OA14 w base (.slice A n c) L)(hn:n=L.length):AccsIn w w.heap.size A n L:=by
 subst hn;obtain⟨A',c1,c',e,h1,h2,h3⟩:=h.is;injection e with e _ _
 subst e;exact Xtc h3 h.ok rfl
theorem OA14.form(h:OA14 w base v L):∃A c,v=.slice A L.length c∧L.length≤c∧c≤maxLen:=by
 obtain⟨A',c1,c',rfl,h1,h2,h3⟩:=h.is;obtain⟨_,_,e,_,_,hm,_⟩:=Xbm h3;injection e with _ _ e
 exact⟨_,_,rfl,h1,by omega⟩
end
def mkAc:LAcc:=acS 42330 0
theorem Xgb:IsAc mkAc.cells:=Xud rfl
theorem Xnh:Tryz.prog.built 69 [(0,.int .u64 42330)]=some mkAc.cells.toArray:=by kernel_rfl
theorem Xi2(w:World):Calls Tryz.prog 23 #[] w fun e w'=>e=.returned (.agg mkAc.cells.toArray)∧Below w.heap.size w w':=by
 go_enter Tryz.func23,Tryz.ntmps23
 go_wp2_with (first
  | ((with_reducible show wpList _ _ _ (⟨some 0,_,_,_,_,_⟩::_) _ _);go_must(refine Xa0 rfl 69 rfl blank13.cells Xiw ?_))
  | ((with_reducible show wpList _ _ _ (⟨some 1,_,_,_,_,_⟩::_) _ _);go_must(refine wpList_plain rfl fun K hK=>Xae _ _ _ rfl (by simp only[List.map_toArray,List.map_cons,List.map_nil];exact Xnh) (hK _ _ ?_)))
  | ((with_reducible show wpList _ _ _ (⟨none,Op.store 69 _ _,_,_,_,_⟩::_) _ _);go_must(refine Xa2 rfl 69 (.tmp 0) (.tmp 1) rfl mkAc.cells Xgb.size Xgb.one (by rw[List.size_toArray,Xgb.len];rfl) ?_ ?_ ?_;go_simp;go_simp;intro w3 hr3 hb3 hz3;have R3:=Hd hr3;have B3:=Hd hb3;clear hr3 hb3 hz3)))
 refine bodyPost_ret (results_cell_row (h:=rfl) _ w3 w.heap.size 69 _ (0,0) _ (by rfl) R3.out.is Tryz.underlying69 rfl Xgb.size) rfl ?_;exact⟨rfl,B3.out⟩
theorem Xkq(A:Option Addr)(n c B:Nat)(l:List LAcc)(w:World)(hx:AccsIn w B A n l)(hB:B≤w.heap.size)(hn:n≤1000000) :
 Calls Tryz.prog 7 #[.slice A n c] w fun e w'=>∃g,e=.returned (.slice (some ⟨g,0,none⟩) n (n+3))∧w.heap.size≤g∧Row w' g 69 (accsC l++rowOf 3 mkAc.cells)∧Below w.heap.size w w':=by
 have HX:=Hd hx;clear hx;go_enter Tryz.func7,Tryz.ntmps7
 go_wp2_with fail;refine(Xi2 _).mono ?_;rintro e w1 ⟨rfl,hb1⟩;have H:=Hd (twinAc A n c (l.map LAcc.cells) mkAc.cells w1 B (HX.out.cs.below (hb1.mono hB)) (Xpm HX.out.ok) (Lq hB hb1.size) (by omega) Xgb);have B1:=Hd hb1;clear hb1;go_wp2_with fail;refine H.out.mono ?_;rintro e w2 ⟨g,rfl,hg,hr,hb2⟩;have R2:=Hd hr;have HG:=Hd (Lq B1.out.size hg);have B2:=Hd (B1.out.trans (hb2.mono B1.out.size));clear hr hb2 hg;go_wp2_with fail;go_ret;exact⟨g,rfl,HG.out,R2.out,B2.out⟩
theorem Xkb(g:Nat)(A:Option Addr)(n d B:Nat)(l:List LAcc)(w:World)(hr:Row w g 69 (accsC l++rowOf 3 mkAc.cells))(hx:AccsIn w B A n l)(hB:B≤w.heap.size)(hn:n≤1000000) :
 Calls Tryz.prog 12 #[.slice (some ⟨g,0,none⟩) n (n+3),.slice A n d] w fun e w'=>e=.returned (.bool true)∧Below w.heap.size w w':=by
 have HX:=Hd hx;have HR:=Hd hr;clear hx hr;go_enter Tryz.func12,Tryz.ntmps12
 go_wp2_with fail;refine(Xi2 _).mono ?_;rintro e w1 ⟨rfl,hb1⟩;have H:=Hd (leftAc g A n d (l.map LAcc.cells) mkAc.cells w1 B (HR.out.below hb1 HR.out.lt) (HX.out.cs.below (hb1.mono hB)) (Xpm HX.out.ok) (Lq hB hb1.size) (by omega) Xgb);have B1:=Hd hb1;clear hb1;generalize mkAc.cells=M at *;go_wp2_with fail;refine H.out.mono ?_;rintro e w2 ⟨rfl,hb2⟩;have B2:=Hd (B1.out.trans (hb2.mono B1.out.size));clear hb2;go_wp2_with fail;go_ret;exact⟨rfl,B2.out⟩
theorem Xnt{zs:List Int}(hb:Bytes zs)(j:Nat):Bytes (zs.drop j):=by
 intro i;have:=hb (j+i);simpa [List.getD_eq_getElem?_getD]using this
theorem Xu4(zs:List Int)(hb:Bytes zs)(k j:Nat)(hk:k+1+j≤8) :
 IntKind.u64.wrap (IntKind.u64.wrap (256*num (zs.drop (k+1)) j)+IntKind.u64.wrap (zs.getD k 0))=num (zs.drop k) (j+1):=by
 have h:=hb k;have hn:=Xhe (zs.drop (k+1)) (Xnt hb _) j;have e:num (zs.drop k) (j+1)=zs.getD k 0+256*num (zs.drop (k+1)) j:=by
  rw[Xox,List.drop_drop];simp[List.getD_eq_getElem?_getD]
 rw[e];have hp:(256:Int) ^ j≤72057594037927936:=by
  have h1:(256:Nat) ^ j≤256 ^ 7:=Nat.pow_le_pow_right (by omega) (by omega);have h2:((256 ^ j:Nat):Int)=(256:Int) ^ j:=by simp
  omega
 generalize num (zs.drop (k+1)) j=p at *;generalize zs.getD k 0=z at *;rw[u64_in (256*p) (by omega) (by omega),u64_in z (by omega) (by omega),u64_in _ (by omega) (by omega)];omega
theorem Xfe(A:Option Addr)(n c:Nat)(zs:List Int)(m:Int)(w:World)(S:Nat)
 (hx:Sees w S A n (bv zs)) (hn:n≤maxLen) (hb:Bytes zs) :
 Calls Tryz.prog 82 #[.slice A n c,.int .i64 m] w fun e w'=>e=.returned (.tuple #[.int .u64 (getN zs m).1,.int .i64 (getN zs m).2])∧w=w':=by
 unfold maxLen at hn;have lx:=Hd (show zs.length=n by have:=hx.len;rwa [bL]at this);by_cases hm:m<1∨8<m
 ·have hg:getN zs m=(0,1):=by simp[getN,hm]
  have HG:=Hd hg;clear hg;rcases hm with hm | hm
  ·go_enter Tryz.func82,Tryz.ntmps82
   go_wp2;go_ret2
   exact⟨Xfr HG.out,rfl⟩
  ·have h2:¬m<1:=by omega
   go_enter Tryz.func82,Tryz.ntmps82
   go_wp2;go_ret2
   exact⟨Xfr HG.out,rfl⟩
 ·have hm1:¬m<1:=by omega
  have hm2:¬8<m:=by omega
  by_cases hl:(n:Int)<m
  ·have hg:getN zs m=(0,5):=by simp[getN,hm];rw[lx.out];exact hl
   have HG:=Hd hg;clear hg hm;go_enter Tryz.func82,Tryz.ntmps82
   go_wp2;go_ret2
   exact⟨Xfr HG.out,rfl⟩
  ·obtain⟨mm,rfl⟩:=Int.eq_ofNat_of_zero_le (show 0≤m by omega);have hg:getN zs mm=(num zs mm,0):=by simp[getN,hm];rw[lx.out];omega
   have hm8:mm≤8:=by omega
   have hm1:1≤mm:=by omega
   have hmn:mm≤n:=by omega
   have HG:=Hd hg;clear hg hm hl hm2;go_enter Tryz.func82,Tryz.ntmps82
   go_wp2;go_loop [6,7] (fun v i=>∃(k:Nat),k≤mm∧i=.int .i64 ((k:Int) - 1)∧v=.int .u64 (num (zs.drop k) (mm - k))) (fun _ i=>(intOf i+1).toNat)
   case atStart=>exact⟨mm,Lr _,rfl,by simp[num]⟩
   case round =>
    obtain⟨k,hk,rfl,rfl⟩:=hrel;by_cases hlt:0<k
    ·obtain⟨k,rfl⟩:∃j,k=j+1:=⟨k - 1,by omega⟩;obtain⟨a,rfl,ha,hca⟩:=hx.byte (k:=k) (by omega);have HS:=Hd (Xu4 zs hb k (mm - (k+1)) (by omega));generalize zs.getD k 0=z at *;generalize num (zs.drop (k+1)) (mm - (k+1))=p at *;have hc1:(((k+1:Nat):Int) - 1)=(k:Int):=by omega
     rw[hc1];clear hc1;go_wp2;go_round
     case rel=>exact⟨k,by omega,by go_num,by rw[HS.out,show mm - (k+1)+1=mm - k by omega]⟩
     case measure=>simp[intOf]
    ·have hk0:k=0:=by omega
     subst hk0;have hc1:(((0:Nat):Int) - 1) = -1:=by omega
     rw[hc1];clear hc1;go_wp2;go_ret2
     exact⟨Xfr HG.out,rfl⟩
end Go.Proofs.YtaljfbbieefooaaGreatDoor
