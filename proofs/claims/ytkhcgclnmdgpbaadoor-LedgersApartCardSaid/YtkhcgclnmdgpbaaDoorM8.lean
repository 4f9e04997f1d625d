import Derived.Test.YtkhcgclnmdgpbaaDoorM7
import Derived.Laws.BytesArg
import Derived.Laws.Strings
import Derived.Lib.Strings
import Derived.Great.Walk
import Derived.Laws.Bits64b
import Derived.Laws.Externs
set_option maxRecDepth 100000
set_option maxHeartbeats 16000000
set_option linter.unusedSimpArgs false
set_option linter.unusedVariables false
namespace Go.Proofs.YtkhcgclnmdgpbaaDoor
open Go.RowKit
theorem Xk9{a b:Int}(ha:IsByte a)(hb:IsByte b):(UInt8.ofNat a.toNat==UInt8.ofNat b.toNat)=decide (a=b):=by
 unfold IsByte at ha hb;rw[Bool.eq_iff_iff,beq_iff_eq,decide_eq_true_iff];constructor
 ·intro h;have:=congrArg UInt8.toNat h;simp only[UInt8.toNat_ofNat']at this;omega
 ·rintro rfl;rfl
theorem Xrc{a b:Int}(ha:IsByte a)(hb:IsByte b):decide (UInt8.ofNat a.toNat<UInt8.ofNat b.toNat)=decide (a<b):=by
 unfold IsByte at ha hb;rw[decide_eq_decide,UInt8.lt_iff_toNat_lt];simp only[UInt8.toNat_ofNat'];omega
theorem Xg1:∀{x y:List Int},AllBytes x→AllBytes y→Op.bytesLess (x.map fun n=>UInt8.ofNat n.toNat) (y.map fun n=>UInt8.ofNat n.toNat)=kless x y
 | [],[],_,_=>rfl
 | _::_,[],_,_=>by simp[Op.bytesLess,kless]
 | [],_::_,_,_=>rfl
 | a::x,b::y,hx,hy=>by
  have h1:=Xk9 (hx a (by simp)) (hy b (by simp));have h2:=Xrc (hx a (by simp)) (hy b (by simp));have ih:=Xg1 (x:=x) (y:=y) (fun z hz=>hx z (List.mem_cons_of_mem _ hz)) (fun z hz=>hy z (List.mem_cons_of_mem _ hz));simp only[List.map_cons,Op.bytesLess,kless];rw[h1,h2,ih]
theorem Xqh:∀{x y:List Int},AllBytes x→AllBytes y→((x.map fun n=>UInt8.ofNat n.toNat)==(y.map fun n=>UInt8.ofNat n.toNat))=decide (x=y)
 | [],[],_,_=>rfl
 | _::_,[],_,_=>rfl
 | [],_::_,_,_=>rfl
 | a::x,b::y,hx,hy=>by
  have h1:=Xk9 (hx a (by simp)) (hy b (by simp));have ih:=Xqh (x:=x) (y:=y) (fun z hz=>hx z (List.mem_cons_of_mem _ hz)) (fun z hz=>hy z (List.mem_cons_of_mem _ hz));rw[List.map_cons,List.map_cons,List.cons_beq_cons,h1,ih,Bool.eq_iff_iff];simp
theorem Xlo(x:List Int):(strOfNums x).toList=x.map fun n=>UInt8.ofNat n.toNat:=by
 unfold strOfNums;rw[Lib.toList_data]
theorem Xq0{x y:List Int}(hx:AllBytes x)(hy:AllBytes y):(!Op.bytesLess (strOfNums x).toList (strOfNums y).toList&&!((strOfNums x).toList==(strOfNums y).toList))=kless y x:=by
 rw[Xlo,Xlo,Xg1 hx hy,Xqh hx hy];cases h1:kless x y with
 | true=>rw[Xgs h1];rfl
 | false =>
  by_cases h2:x=y
  ·subst h2;rw[h1];simp
  ·cases h3:kless y x with
   | true=>simp[h2]
   | false=>exact absurd (Xeq _ _ h1 h3) h2
theorem Xma(w:World)(a:Addr)(c:Nat){x:List Int}(hx:x.length=32)(hc:∀j u,(bv x)[j]?=some u→w.cell? (a.add j)=some u) :
 (convert 30 9 (.slice (some a) 32 c)).run Tryd.prog w=.ok (.string (strOfNums x)) w:=by
 have hl:(loadCells a 32).run Tryd.prog w=.ok (x.map (Value.int .u8)).toArray w:=by
  have:=run_loadCells_list (P:=Tryd.prog) w a (x.map (Value.int .u8)) hc;simpa [hx]using this
 rw[run_convert_bytes_string w _ _ 5 _ 32 c Tryd.underlying30 Tryd.underlying5 Tryd.underlying9,run_bytesToString w _ 32 c x hl,foldl_push_bytes];simp[strOfNums,ByteArray.empty,ByteArray.emptyWithCapacity];rfl
theorem Xng(l r:List Value)(hl:l.length=32)(hr:r.length=34):Tryd.prog.built 78 [(0,.agg l.toArray),(1,.agg r.toArray)]=some (l++r).toArray:=by
 obtain⟨f,rfl⟩:∃f:Fin 32→Value,l=List.ofFn f:=⟨fun i=>l.getD i undef,by
  refine List.ext_getElem (by simpa using hl) fun i h1 h2=>?_
  rw[List.getElem_ofFn,List.getD_eq_getElem?_getD,List.getElem?_eq_getElem h1];rfl⟩
 obtain⟨g,rfl⟩:∃g:Fin 34→Value,r=List.ofFn g:=⟨fun i=>r.getD i undef,by
  refine List.ext_getElem (by simpa using hr) fun i h1 h2=>?_
  rw[List.getElem_ofFn,List.getD_eq_getElem?_getD,List.getElem?_eq_getElem h1];rfl⟩
 kernel_rfl
structure PO13(W V:World)(v:Value)(X:List LHold):Prop where
 b:Below W.heap.size W V
 own:V.ownsRow W.heap.size 78 66 v X.length (holdsC X)
theorem Xir{B:Nat}{x V:World}(h:Below B x V)(n:Nat):Below B x (V.drewN n):=⟨h.os,h.tape,h.output,h.size,h.block⟩
theorem PO13.drewN{W V:World}{v:Value}{X:List LHold}(h:PO13 W V v X)(n:Nat):PO13 W (V.drewN n) v X:=⟨Xir h.b n,Xaa h.own (Xir (Br _ _) n)⟩
theorem PO13.add{W V V':World}{v v':Value}{X:List LHold}{x:LHold}{o:Obj}(h:PO13 W V v X)(ho:V'.ownsRow W.heap.size 78 66 v' (X.length+1) (holdsC X++x.cells))(hg:Grew (V.alloc o) V' v v'):PO13 W V' v' (X++[x]):=by
 have h1:=h.own.lt;refine⟨(h.b.alloc h.b.size o).grown hg.grown (Lq h.b.size (by simp)) (fun k hk=>(h1 k hk).1),?_⟩;rw[List.length_append,Xlc];exact ho
theorem PO13.lit{W V:World}{v:Value}{X:List LHold}(h:PO13 W V v X)(o:Obj):(V.alloc o).ownsRow W.heap.size 78 66 v X.length (holdsC X):=Xaa h.own ((Br _ _).alloc (Lr _) o)
theorem Xiw(V:World)(x:LHold)(h:x.cells.length=66):Sees (V.alloc (.cells x.cells.toArray 78)) (V.alloc (.cells x.cells.toArray 78)).heap.size (some ⟨V.heap.size,0,none⟩) (1*66) x.cells:=by
 have:=(Row.new V 78 x.cells).sees0;rwa [h]at this
def ins13(k:List Int)(a:LAcc)(put:Bool)(x:LHold):List LHold:=if !put&&kless k x.k then[⟨k,a⟩]else[]
def keep13(k:List Int)(x:LHold):List LHold:=if x.k=k then[]else[x]
theorem Xtq{L:List LHold}{j:Nat}{y:LHold}(h:L[j]?=some y):L.drop j=y::L.drop (j+1):=by
 obtain⟨hj,rfl⟩:=List.getElem?_eq_some_iff.1 h;exact List.drop_eq_getElem_cons hj
structure PC13(W:World)(pb g f n c:Nat)(A:Option Addr)(k:List Int)(a:LAcc)(L:List LHold):Prop where
 row:Row W pb 76 [.slice A n c]
 hh:HoldsIn W W.heap.size A n L
 rk:Row W g 68 (bv k)
 ra:Row W f 72 a.cells
theorem PC13.at_{W V:World}{pb g f n c:Nat}{A:Option Addr}{k:List Int}{a:LAcc}{L:List LHold}(h:PC13 W pb g f n c A k a L)(hb:Below W.heap.size W V):Row V pb 76 [.slice A n c]∧HoldsIn V W.heap.size A n L∧Row V g 68 (bv k)∧Row V f 72 a.cells:=
 ⟨h.row.below hb h.row.lt,h.hh.below hb,h.rk.below hb h.rk.lt,h.ra.below hb h.ra.lt⟩
def RPutDone13(w:World)(pb base:Nat)(L:List LHold)(k:List Int)(a:LAcc)(e:Ending)(w':World):Prop:=e=.returned (.tuple #[])∧∃v',RS13 w' pb base v' (putH L k a)∧w.grownBy w' (some pb)
theorem PO13.done{w W V:World}{pb g f n c base:Nat}{A:Option Addr}{u:Value}{X L:List LHold}{k:List Int}{a:LAcc}(h:PO13 W V u X)(ct:PC13 W pb g f n c A k a L)(hb:Below w.heap.size w W)(hpb:pb<w.heap.size)(hbase:base≤w.heap.size)(hs:Sto L)(hk:k.length=32∧AllBytes k)(ha:AccOk a)(he:X=putH L k a) :
 ∃v',RS13 (V.setCell ⟨pb,0,none⟩ u) pb base v' (putH L k a)∧w.grownBy (V.setCell ⟨pb,0,none⟩ u) (some pb):=by
 have hr:=(ct.at_ h.b).1;have ht:=Xa0 V ⟨pb,0,none⟩ u;refine⟨u,⟨hr.set_ 0 u,?_,hs.put hk ha⟩,Xe4 (gb_of _ (hb.trans (h.b.mono hb.size))) ht (.inr rfl)⟩;rw[←he];exact Xc0 (Xa5 h.own hr (by decide) ht) (Lq hbase hb.size)
theorem Xr1(pb base:Nat)(v:Value)(L:List LHold)(k:List Int)(a:LAcc)(w:World)(hs:RS13 w pb base v L)(hk:k.length=32∧AllBytes k)(ha:AccOk a)(hL:L.length≤5000)(hbase:base≤w.heap.size):Calls Tryd.prog 21 #[.pointer (some ⟨pb,0,none⟩),.agg (bv k).toArray,.agg a.cells.toArray] w (RPutDone13 w pb base L k a):=by
 have hbw:=((Br w.heap.size w).alloc (Lr _) (.cells (bv k).toArray 68)).alloc (by simp) (.cells a.cells.toArray 72);have hs1:=hs.below hbw;obtain⟨A,c,rfl,hh,hlc,hcm⟩:=hs1.form;have hrk:=(Row.new w 68 (bv k)).alloc (.cells a.cells.toArray 72);have hra:=Row.new' (w.alloc (.cells (bv k).toArray 68)) 72 a.cells (g:=w.heap.size+1) (by simp);have CT0:=Hd (show PC13 _ pb w.heap.size (w.heap.size+1) L.length c A k a L from⟨hs1.row,hh,hrk,hra⟩);have HSTO:=Hd hs1.sto;have HSZ:Hid ((Tryd.prog.info? 68).map (·.size)=some (bv k).length):=Hd (by rw[Xb7,bL,hk.1]);have HSA:=Hd (Xay ha.o.1);have HK:=Hd hk;have HA:=Hd ha;have HBW:=Hd hbw;have HPL:=Hd hs.row.lt;have HBASE:=Hd hbase;have NB:=fun w=>Xov ha.o.1 (y:=blank13) rfl w
 have HNB:=Hd NB;have HBUI:Hid (Tryd.prog.built 78 [(0,.agg (bv k).toArray),(1,.agg a.cells.toArray)]=some (LHold.cells ⟨k,a⟩).toArray):=Hd (Xng (bv k) a.cells (by rw[bL,hk.1]) (Xbs ha.o.1));have HCK:Hid ((LHold.cells ⟨k,a⟩).length=66):=Hd (Xch (x:=⟨k,a⟩) hk.1 ha.o.1);clear NB hs hs1 hh hrk hra hbw hk ha hbase;obtain⟨f,hf⟩:∃f,f=w.heap.size+1:=⟨_,rfl⟩;obtain⟨g,hg⟩:∃g,g=w.heap.size:=⟨_,rfl⟩;obtain⟨n,hn⟩:∃n,n=L.length:=⟨_,rfl⟩;have HF:Hid (w.heap.size+1=f):=Hd hf.symm;have HG:Hid (w.heap.size=g):=Hd hg.symm;have HNL:Hid (L.length=n):=Hd hn.symm;have CT:Hid (PC13 ((w.alloc (.cells (bv k).toArray 68)).alloc (.cells a.cells.toArray 72)) pb g f n c A k a L):=Hd (by rw[hf,hg,hn];exact CT0.out);rw[←hn]at hlc hL;clear hf hg hn CT0;unfold maxLen at hcm;generalize hWW:(w.alloc (.cells (bv k).toArray 68)).alloc (.cells a.cells.toArray 72)=W at *;have HWW:=Hd hWW;clear hWW;have NB:=HNB.out;go_enter Tryd.func21,Tryd.ntmps21
 go_upto_region 1 with fail
 rw[HWW.out,HF.out,HG.out];clear HWW HF HG;go_upto_region 3 with(first
  | ((with_reducible show wpList _ _ _ (⟨some 9,_,_,_,_,_⟩::_) _ _);go_must(refine Xa3 rfl 72 (.tmp 5) rfl f 72 a.cells _ Tryd.underlying72 rfl HSA.out CT.out.ra ?_ ?_;go_simp))
  | ((with_reducible show wpList _ _ _ (⟨some 10,_,_,_,_,_⟩::_) _ _);go_must(refine wpList_plain rfl fun K hK=>Xau _ _ _ rfl (by simp only[List.map_toArray,List.map_nil];exact Xez) (hK _ _ ?_))))
 clear NB;go_wp2_with fail;go_loopw [6,7,8] (fun s6 s7 i wr=>∃(j:Nat) (X:List LHold) (put:Bool),j≤n∧i=.int .i64 j∧s7=.bool put∧PO13 W wr s6 X∧X.length≤2*j∧Hid (X++putG k a put (L.drop j)=putH L k a)) (fun _ _ i _=>n - (intOf i).toNat)
 case atStart=>exact⟨0,[],_,Nat.zero_le _,rfl,rfl,⟨Br _ _,Xcg _ _ _ _⟩,by simp,Hd rfl⟩
 case round =>
  obtain⟨j,X,put,hj,rfl,rfl,hpo,hxl,HX⟩:=hrel;have PO:=Hd hpo;clear hpo;have hc0:=(CT.out.at_ PO.out.b).1.cell 0;by_cases hlt:j<n
  ·have hlt':(j:Int)<n:=by omega
   obtain⟨ad,y,hadr,hab,hy,hok,hcy⟩:=CT.out.hh.get hlt;have HCH:Hid (∀V,Below W.heap.size W V→∀j' u,y.cells[j']?=some u→V.cell? ((ad.add (j*66)).add j')=some u):=Hd fun V hV j' u hu=>by
    rw[hV.cell (by rw[Xab,Xab];exact hab)];exact hcy j' u hu
   have HCK2:Hid (∀V,Below W.heap.size W V→∀j' u,(bv y.k)[j']?=some u→V.cell? ((ad.add (j*66)).add j')=some u):=Hd fun V hV j' u hu=>HCH.out V hV j' u (Xot hu)
   have HOK:=Hd hok;have HDR:Hid (putG k a put (L.drop j)=ins13 k a put y++(keep13 k y++putG k a (put||kless k y.k) (L.drop (j+1)))):=Hd (by rw[Xtq hy];rfl);have HSY:Hid ((Tryd.prog.info? 68).map (·.size)=some (bv y.k).length):=Hd (by rw[Xb7,bL,hok.k.1]);have HSH:=Hd (Xh4 hok.k.1 hok.a.o.1);have HYC:Hid (y.cells.length=66):=Hd (Xch hok.k.1 hok.a.o.1);subst hadr;clear hab hcy hy hok;go_upto_if 36 with fail
   go_cut [36] (fun s36 wx=>s36=.bool (!put&&kless k y.k)∧∃q,wx=wr.drewN q)
   case first =>
    cases put with
    | true =>
     go_wp2_with fail;go_quiet (fail)
     go_wp2_with fail;go_meet
     exact⟨rfl,_,rfl⟩
    | false =>
     have NC1:=fun q=>Xma (wr.drewN q) (ad.add (j*66)) 32 HOK.out.k.1 (HCK2.out _ (Xir PO.out.b q))
     have NC2:=fun q=>Xma (wr.drewN q) ⟨g,0,none⟩ 32 HK.out.1 (fun j u hu=>by rw[Xac,Nat.zero_add];exact((CT.out.at_ (Xir PO.out.b q)).2.2.1.cell j).trans hu)
     go_wp2_with fail;go_quiet (fail)
     go_wp2_with fail;go_meet
     exact⟨by rw[Xq0 HOK.out.k.2 HK.out.2];rfl,_,rfl⟩
   case rest =>
   obtain⟨hs36,q,rfl⟩:=hcut;have PO1:=Hd (PO.out.drewN q);clear PO hc0;generalize wr.drewN q=wq at *;go_upto_if 36 with fail
   go_cut [6,7] (fun s6 s7 wx=>∃X2,PO13 W wx s6 X2∧s7=.bool (put||kless k y.k)∧X2.length≤2*j+1∧Hid (X2=X++ins13 k a put y))
   case first =>
    cases put with
    | true =>
     have h36:u36=.bool false:=hs36;subst h36;clear hs36;go_wp2_with fail;go_meet
     exact⟨X,PO1.out,rfl,by omega,Hd (by unfold ins13;simp)⟩
    | false =>
     cases hkl:kless k y.k with
     | true =>
      have HKL:=Hd hkl;have h36:u36=.bool true:=by rw[hs36,hkl];rfl
      subst h36;clear hkl hs36;go_wp2_with (first
       | ((with_reducible show wpList _ _ _ (⟨some 38,Op.load 68 _,_,_,_,_⟩::_) _ _);go_must(refine Xa3 rfl 68 (.tmp 4) rfl g 68 (bv k) _ Tryd.underlying68 rfl HSZ.out (CT.out.at_ PO1.out.b).2.2.1 ?_ ?_;go_simp))
       | ((with_reducible show wpList _ _ _ (⟨some 39,Op.load 72 _,_,_,_,_⟩::_) _ _);go_must(refine Xa3 rfl 72 (.tmp 5) rfl f 72 a.cells _ Tryd.underlying72 rfl HSA.out (CT.out.at_ PO1.out.b).2.2.2 ?_ ?_;go_simp))
       | ((with_reducible show wpList _ _ _ (⟨some 40,_,_,_,_,_⟩::_) _ _);go_must(refine wpList_plain rfl fun K hK=>Xau _ _ _ rfl (by simp only[List.map_toArray,List.map_cons,List.map_nil];exact HBUI.out) (hK _ _ ?_)))
       | ((with_reducible show wpList _ _ _ (⟨some 41,_,_,_,_,_⟩::_) _ _);go_must(refine Xcq rfl 22 78 (.tmp 40) rfl (LHold.cells ⟨k,a⟩) _ 66 80 Tryd.underlying22 Xg4 zszHo (by omega) (by omega) HCK.out ?_ ?_;go_simp))
       | ((with_reducible show wpList _ _ _ (⟨some 42,_,_,_,_,_⟩::_) _ _);go_must(refine Xc8 rfl (.tmp 37) (.tmp 41) 22 78 _ 66 80 rfl Tryd.underlying22 Xg4 zszHo (by omega) u6 X.length (holdsC X) W.heap.size _ _ 1 1 (LHold.cells ⟨k,a⟩) ?_ (PO1.out.lit _) ?_ (Xiw _ ⟨k,a⟩ HCK.out) (Xe9 _) (by unfold maxLen;omega) (by omega) (Lq PO1.out.b.size (by simp)) ?_;go_simp;go_simp;intro v8 w8 ho8 hg8;have PO8:=Hd (PO1.out.add ho8 hg8);clear ho8 hg8)))
      go_meet
      exact⟨_,PO8.out,by rw[HKL.out];rfl,by rw[List.length_append,List.length_singleton];omega,Hd (by unfold ins13;rw[HKL.out];rfl)⟩
     | false =>
      have HKL:=Hd hkl;have h36:u36=.bool false:=by rw[hs36,hkl];rfl
      subst h36;clear hkl hs36;go_wp2_with fail;go_meet
      exact⟨X,PO1.out,by rw[HKL.out];rfl,by omega,Hd (by unfold ins13;rw[HKL.out];simp)⟩
   case rest =>
    obtain⟨X2,hpo,rfl,hxl2,HX2⟩:=hcut;have PO2:=Hd hpo;clear hpo PO1;have hc1:=(CT.out.at_ PO2.out.b).1.cell 0;have NK:=fun w=>Xl0 HOK.out.k.1 HK.out.1 w
    have HCKW:=Hd (HCK2.out wc PO2.out.b);have HRK:=Hd (CT.out.at_ PO2.out.b).2.2.1;by_cases hyk:y.k=k
    ·rw[decide_eq_true hyk]at NK;have HKP:Hid (keep13 k y=[]):=Hd (if_pos hyk);clear hyk;go_wp2_with fail;refine wp_region_quiet_lit (by kernel_rfl) (by kernel_rfl) ?_;repeat (first
      | ((with_reducible show wpQuiet _ _ _ _ (⟨some 50,Op.load 68 _,_,_,_,_⟩::_) _);go_must(refine Xbu (by kernel_rfl) 68 (.tmp 49) rfl (ad.add (j*66)) (bv y.k) _ Tryd.underlying68 rfl HSY.out (by rintro _ ⟨nq,rfl⟩;exact HCKW.out) ?_ ?_;go_simp;go_simp))
      | ((with_reducible show wpQuiet _ _ _ _ (⟨some 51,Op.load 68 _,_,_,_,_⟩::_) _);go_must(refine Xbu (by kernel_rfl) 68 (.tmp 4) rfl ⟨g,0,none⟩ (bv k) _ Tryd.underlying68 rfl HSZ.out (by rintro _ ⟨nq,rfl⟩;intro j u hu;rw[Xac,Nat.zero_add];exact(HRK.out.cell j).trans hu) ?_ ?_;go_simp;go_simp))
      | go_big_quiet_step (fail))
     refine wpQuiet_nil ?_;intro nq;clear NK;have PO3:=Hd (PO2.out.drewN nq);go_wp2_with fail;go_roundw
     case rel=>exact⟨j+1,X2,_,by omega,by go_num,rfl,PO3.out,by omega,Hd (by rw[←HX.out,HDR.out,HKP.out,HX2.out,List.nil_append,List.append_assoc])⟩
     case measure=>simp[intOf];omega
    ·rw[decide_eq_false hyk]at NK;have HKP:Hid (keep13 k y=[y]):=Hd (if_neg hyk);clear hyk;go_wp2_with fail;refine wp_region_quiet_lit (by kernel_rfl) (by kernel_rfl) ?_;repeat (first
      | ((with_reducible show wpQuiet _ _ _ _ (⟨some 50,Op.load 68 _,_,_,_,_⟩::_) _);go_must(refine Xbu (by kernel_rfl) 68 (.tmp 49) rfl (ad.add (j*66)) (bv y.k) _ Tryd.underlying68 rfl HSY.out (by rintro _ ⟨nq,rfl⟩;exact HCKW.out) ?_ ?_;go_simp;go_simp))
      | ((with_reducible show wpQuiet _ _ _ _ (⟨some 51,Op.load 68 _,_,_,_,_⟩::_) _);go_must(refine Xbu (by kernel_rfl) 68 (.tmp 4) rfl ⟨g,0,none⟩ (bv k) _ Tryd.underlying68 rfl HSZ.out (by rintro _ ⟨nq,rfl⟩;intro j u hu;rw[Xac,Nat.zero_add];exact(HRK.out.cell j).trans hu) ?_ ?_;go_simp;go_simp))
      | go_big_quiet_step (fail))
     refine wpQuiet_nil ?_;intro nq;clear NK;have PO3:=Hd (PO2.out.drewN nq);have hc2:=(CT.out.at_ PO3.out.b).1.cell 0;have HCH3:=Hd (HCH.out _ PO3.out.b);go_wp2_with (first
      | ((with_reducible show wpList _ _ _ (⟨some 60,Op.load 78 _,_,_,_,_⟩::_) _ _);go_must(refine Xa9 rfl 78 (.tmp 59) rfl (ad.add (j*66)) y.cells _ Tryd.underlying78 rfl HSH.out HCH3.out ?_ ?_;go_simp))
      | ((with_reducible show wpList _ _ _ (⟨some 61,_,_,_,_,_⟩::_) _ _);go_must(refine Xcq rfl 22 78 (.tmp 60) rfl y.cells _ 66 80 Tryd.underlying22 Xg4 zszHo (by omega) (by omega) HYC.out ?_ ?_;go_simp))
      | ((with_reducible show wpList _ _ _ (⟨some 62,_,_,_,_,_⟩::_) _ _);go_must(refine Xc8 rfl (.tmp 53) (.tmp 61) 22 78 _ 66 80 rfl Tryd.underlying22 Xg4 zszHo (by omega) u6 X2.length (holdsC X2) W.heap.size _ _ 1 1 (LHold.cells y) ?_ (PO3.out.lit _) ?_ (Xiw _ y HYC.out) (Xe9 _) (by unfold maxLen;omega) (by omega) (Lq PO3.out.b.size (by simp)) ?_;go_simp;go_simp;intro v8 w8 ho8 hg8;have PO8:=Hd (PO3.out.add ho8 hg8);clear ho8 hg8)))
     go_roundw
     case rel=>exact⟨j+1,_,_,by omega,by go_num,rfl,PO8.out,by rw[List.length_append,List.length_singleton];omega,Hd (by rw[←HX.out,HDR.out,HKP.out,HX2.out,List.append_assoc,List.append_assoc])⟩
     case measure=>simp[intOf];omega
  ·have hlt':¬(j:Int)<n:=by omega
   have HD:Hid (L.drop j=[]):=Hd (List.drop_eq_nil_of_le (by rw[HNL.out];omega));have HXX:=Hd HX.out;rw[HD.out]at HXX;have hf0:=(CT.out.at_ PO.out.b).1.frozen 0;cases put with
   | true =>
    have HE:Hid (X=putH L k a):=Hd (by rw[←HXX.out];simp[putG]);obtain⟨A6,c6,hv6,_⟩:=Xan PO.out.own;subst hv6;go_wp2_with fail;refine bodyPost_end (results_none rfl _ _ _) rfl ?_;exact⟨rfl,PO.out.done CT.out HBW.out HPL.out HBASE.out HSTO.out HK.out HA.out HE.out⟩
   | false =>
    have HE:Hid (X++[⟨k,a⟩]=putH L k a):=Hd (by rw[←HXX.out];simp[putG]);go_upto_region 12 with fail
    go_upto_region 13 with(first
     | ((with_reducible show wpList _ _ _ (⟨some 66,Op.load 68 _,_,_,_,_⟩::_) _ _);go_must(refine Xa3 rfl 68 (.tmp 4) rfl g 68 (bv k) _ Tryd.underlying68 rfl HSZ.out (CT.out.at_ PO.out.b).2.2.1 ?_ ?_;go_simp))
     | ((with_reducible show wpList _ _ _ (⟨some 67,Op.load 72 _,_,_,_,_⟩::_) _ _);go_must(refine Xa3 rfl 72 (.tmp 5) rfl f 72 a.cells _ Tryd.underlying72 rfl HSA.out (CT.out.at_ PO.out.b).2.2.2 ?_ ?_;go_simp))
     | ((with_reducible show wpList _ _ _ (⟨some 68,_,_,_,_,_⟩::_) _ _);go_must(refine wpList_plain rfl fun K hK=>Xau _ _ _ rfl (by simp only[List.map_toArray,List.map_cons,List.map_nil];exact HBUI.out) (hK _ _ ?_)))
     | ((with_reducible show wpList _ _ _ (⟨some 69,_,_,_,_,_⟩::_) _ _);go_must(refine Xcq rfl 22 78 (.tmp 68) rfl (LHold.cells ⟨k,a⟩) _ 66 80 Tryd.underlying22 Xg4 zszHo (by omega) (by omega) HCK.out ?_ ?_;go_simp))
     | ((with_reducible show wpList _ _ _ (⟨some 70,_,_,_,_,_⟩::_) _ _);go_must(refine Xc8 rfl (.tmp 65) (.tmp 69) 22 78 _ 66 80 rfl Tryd.underlying22 Xg4 zszHo (by omega) u6 X.length (holdsC X) W.heap.size _ _ 1 1 (LHold.cells ⟨k,a⟩) ?_ (PO.out.lit _) ?_ (Xiw _ ⟨k,a⟩ HCK.out) (Xe9 _) (by unfold maxLen;omega) (by omega) (Lq PO.out.b.size (by simp)) ?_;go_simp;go_simp;intro v8 w8 ho8 hg8;have PO8:=Hd (PO.out.add ho8 hg8);clear ho8 hg8)))
    have hc2:=(CT.out.at_ PO8.out.b).1.cell 0;have hf2:=(CT.out.at_ PO8.out.b).1.frozen 0;obtain⟨A6,c6,hv6,_⟩:=Xan PO8.out.own;subst hv6;go_wp2_with fail;refine bodyPost_end (results_none rfl _ _ _) rfl ?_;have hd:=PO8.out.done CT.out HBW.out HPL.out HBASE.out HSTO.out HK.out HA.out HE.out;rw[show(X++[(⟨k,a⟩:LHold)]).length=X.length+1 by simp]at hd;exact⟨rfl,hd⟩
open Go.RowKit Go.Maps
theorem Xfp{α:Type}[DecidableEq α]:∀{l m:List α},l.Nodup→(∀x ∈ l,x ∈ m)→l.length≤m.length
 | [],_,_,_=>Nat.zero_le _
 | x::l,m,hd,h=>by
  have hd':=List.nodup_cons.1 hd;have h1:=Xfp (m:=m.erase x) hd'.2 fun y hy=>(List.mem_erase_of_ne (fun e=>hd'.1 (by rw[←e];exact hy))).2 (h y (List.mem_cons_of_mem _ hy))
  have h2:=List.length_erase_of_mem (h x List.mem_cons_self);have h3:0<m.length:=List.length_pos_of_mem (h x List.mem_cons_self);simp only[List.length_cons];omega
def RV13(w:World)(mb rr:Nat)(L:List LHold)(D:DataW Unit)(vs:List (List Int)):Prop:=
 ∃(left:Lit→Bool) (cnt:Nat),w.ranges Tryd.prog 68 accE mb rr L.length D left cnt∧(∀kl,left kl=true→Go.Maps.has D kl=true)∧(∀x ∈ ks13 L,left (KL x)=decide (x ∉ vs))∧vs.Nodup∧(∀x ∈ vs,x ∈ ks13 L)
section
variable{w w':World}{mb rr:Nat}{L:List LHold}{D:DataW Unit}{vs:List (List Int)}
theorem RV13.start(h:w.ranges Tryd.prog 68 accE mb rr L.length D (Go.Maps.has D) (Go.Maps.size D))(had:AD D (ks13 L) (getH L)):RV13 w mb rr L D []:=
 ⟨_,_,h,fun _ h=>h,fun x hx=>by rw[had.has_key (had.ok x hx).1,decide_eq_true hx];simp,List.nodup_nil,by simp⟩
theorem RV13.kept(h:RV13 w mb rr L D vs){row:Option Nat}(hg:w.grownBy w' row)(hb:some mb≠row)(hr:some rr≠row):RV13 w' mb rr L D vs∧w'.rangeLeft mb rr=w.rangeLeft mb rr:=by
 obtain⟨left,cnt,h1,h2⟩:=h;have h3:=h1.kept hg hb hr;exact⟨⟨left,cnt,h3,h2⟩,by rw[h1.left_eq,h3.left_eq]⟩
theorem RV13.len(h:RV13 w mb rr L D vs):vs.length≤L.length:=by
 obtain⟨_,_,_,_,_,h1,h2⟩:=h;have:=Xfp h1 h2;rwa [Xed]at this
theorem RV13.nodup(h:RV13 w mb rr L D vs):vs.Nodup:=by
 obtain⟨_,_,_,_,_,h1,_⟩:=h;exact h1
theorem Xia{ops:Array Oper}{rest:List Oper}{o:Oper}{a:Act}{Q:Exit→Act→World→Prop}(hg:o.guard=none)(it:Operand)(hop:o.op=Op.next it false)
 (hit:a.eval it=.pointer (some ⟨rr,0,none⟩)) (hs:Sto L) (h:RV13 w mb rr L D vs) (had:AD D (ks13 L) (getH L))
 (hDone:vs.Perm (ks13 L)→wpList Tryd.prog ops Q rest (a.put o.dst (.tuple #[.bool false])) w)
 (hMore:∀(k:List Int) (w':World),k ∈ ks13 L→k ∉ vs→RV13 w' mb rr L D (k::vs)→w'.rangeLeft mb rr<w.rangeLeft mb rr→w.grownBy w' (some rr)→w'.heap.size=w.heap.size →
   (Instr.entry (.pointer (some ⟨rr,0,none⟩))).run Tryd.prog w'=.ok (.tuple #[.agg (bv k).toArray,.agg (getH L k).cells.toArray]) w'→wpList Tryd.prog ops Q rest (a.put o.dst (.tuple #[.bool true,.agg (bv k).toArray,.agg (getH L k).cells.toArray])) w') :
 wpList Tryd.prog ops Q (o::rest) a w:=by
 obtain⟨left,cnt,hrg,hlf,hlk,hnd,hsub⟩:=h;refine Xgu hg it hop mb rr L.length D (ks13 L) (getH L) left cnt hit hrg had hlf (fun _ hl=>hDone ?_) (fun k w' cnt' hk hlk1 hrg1 hlt hgr hsz hen=>?_)
 ·refine(List.perm_ext_iff_of_nodup hnd (Xd4 hs.rise)).2 fun x=>⟨hsub x,fun hx=>?_⟩
  have:=hlk x hx;rw[hl]at this;simpa using this.symm
 ·have hnv:k ∉ vs:=by have:=hlk k hk;rw[hlk1]at this;simpa using this.symm
  refine hMore k w' hk hnv ⟨_,cnt',hrg1,fun kl hkl=>hlf kl (by simp at hkl;exact hkl.1),Xld had hlk hk,List.nodup_cons.2 ⟨hnv,hnd⟩,fun x hx=>?_⟩ (by rw[hrg.left_eq,hrg1.left_eq];exact hlt) hgr hsz hen;rcases List.mem_cons.1 hx with rfl | hx
  ·exact hk
  ·exact hsub x hx
end
theorem Xsw{m:Bool}{x:LRole}(h:chk14 m x=0):(m=true→x.sg=true)∧x.wr=true:=by
 unfold chk14 at h;split at h
 ·cases h
 rename_i h1
 split at h
 ·cases h
 rename_i h2
 exact⟨fun e=>by subst e;simpa using h1,by simpa using h2⟩
theorem Xtn{x:LAsk}{r:List LRole}{acc:List Int}(h:plc14 x r acc=0):chk14 true (rol14 r (acc.getD 0 0))=0∧(two14 x→chk14 (decide (x.tag=0)) (rol14 r (acc.getD 1 0))=0):=by
 unfold plc14 at h;split at h
 ·cases h
 split at h
 ·cases h
 split at h
 ·rename_i h1
  exact absurd h h1
 rename_i h1
 refine⟨Classical.not_not.1 h1,fun h2=>?_⟩;rwa [if_pos h2]at h
structure Went(l:List LAcc)(r:List LRole)(R:Res14)(a b:Nat):Prop where
 len:l.length=r.length
 an:a<l.length
 bn:b<l.length
 d:Deed l R.l R.n a b true (rol14 r b).sg
 wa:(rol14 r a).wr=true
 wb:(rol14 r b).wr=true
 sa:(rol14 r a).sg=true
theorem Xi9{l:List LAcc}{r:List LRole}{acc dat:List Int}(hl:∀a ∈ l,AccOk a)(hd:AllBytes dat)(hb:AllBytes acc)(h:(do14 l r acc dat).e=0):∃a b,Went l r (do14 l r acc dat) a b:=by
 by_cases hn:l.length=r.length
 rotate_left
 ·unfold do14 at h;rw[if_pos hn]at h;cases h
 cases hdat:dat14 dat with
 | none =>
  unfold do14 at h;rw[if_neg (by omega),hdat]at h;cases h
 | some x =>
 by_cases hp:plc14 x r acc=0
 rotate_left
 ·unfold do14 at h;rw[if_neg (by omega),hdat]at h;dsimp only at h
  rw[if_pos hp]at h;exact absurd h hp
 obtain⟨h1,h2⟩:=Xst hp;have h0:0<need14 x:=by unfold need14;split <;> omega
 obtain⟨a,ha,han⟩:=Xim (k:=0) hb (by omega) h2;obtain⟨b,hbb,hbn⟩:=Xim (k:=need14 x - 1) hb (by omega) h2;rw[←hn]at han hbn;rw[do_is hn hdat hp ha hbb]at h ⊢;have hx:=Xbt hd hdat;obtain⟨c1,c2⟩:=Xtn hp;rw[ha]at c1;have k1:=Xsw c1;refine⟨a,b,?_⟩;by_cases ht:two14 x
 ·have hb1:acc.getD 1 0=b:=by rw[Xdd ht]at hbb;exact hbb
  have c3:=c2 ht;rw[hb1]at c3;have k2:=Xsw c3;have hw:∀{R:Res14},Deed l R.l R.n a b true (rol14 r b).sg→Went l r R a b:=fun d=>⟨hn,han,hbn,d,k1.2,k2.2,k1.1 rfl⟩
  apply hw
  unfold deed14 at h ⊢;rcases ht with ht | ht
  ·rw[if_pos ht]at h ⊢;rw[k2.1 (by rw[ht];rfl)];exact Xpa hl hx han hbn h
  ·rw[if_neg (by rw[ht];decide),if_neg (by rw[ht];decide),if_pos ht]at h ⊢;exact Xob hl hx han hbn h _
 ·have hab:(b:Int)=a:=by rw[Xe6 ht]at hbb;rw[←hbb,←ha]
  have hab:b=a:=by exact_mod_cast hab
  subst hab;have hw:∀{R:Res14},Deed l R.l R.n b b true (rol14 r b).sg→Went l r R b b:=fun d=>⟨hn,han,hbn,d,k1.2,k1.2,k1.1 rfl⟩
  apply hw
  unfold deed14 at h ⊢;unfold two14 at ht;rw[if_neg (fun e=>ht (.inl e))]at h ⊢;by_cases h1:x.tag=1
  ·rw[if_pos h1]at h ⊢;exact Xkh hl hx b han h _
  ·rw[if_neg h1,if_neg (fun e=>ht (.inr e))]at h ⊢;exact Xn3 hl hx b han h _
structure Go15(x:LReady)(l:List LAcc)(ln k:Nat)(S:S15):Prop where
 len:S.now.length=ln
 eq:go15 x (x.tx.m.ins.drop k) k S=go15 x x.tx.m.ins 0 ⟨l,0,0⟩
 u:0≤S.units∧S.units≤x.u
 s:0≤S.space∧S.space≤(k:Int)*1048576
section
variable{x:LReady}{l:List LAcc}{ln k:Nat}{S S':S15}{a:LIn}{e:Int}
theorem Xn6(hl:l.length=ln)(hu:0≤x.u):Go15 x l ln 0 ⟨l,0,0⟩:=⟨hl,by rw[List.drop_zero],⟨Int.le_refl _,hu⟩,⟨Int.le_refl _,by simp⟩⟩
theorem Xgq(ha:x.tx.m.ins[k]?=some a):x.tx.m.ins.drop k=a::x.tx.m.ins.drop (k+1):=by
 obtain⟨h,rfl⟩:=List.getElem?_eq_some_iff.1 ha;exact List.drop_eq_getElem_cons h
theorem Go15.next(h:Go15 x l ln k S)(ha:x.tx.m.ins[k]?=some a)(hs:step15 x k a S=(0,S'))(hl:S'.now.length=ln)(hu:0≤S'.units∧S'.units≤x.u)(hsp:0≤S'.space∧S'.space≤S.space+1048576):Go15 x l ln (k+1) S':=by
 refine⟨hl,?_,hu,hsp.1,?_⟩
 ·rw[←h.eq,Xgq ha];conv=>rhs;unfold go15
  rw[hs,if_pos rfl]
 ·have:=h.s.2;have e:((k+1:Nat):Int)*1048576=(k:Int)*1048576+1048576:=by omega
  rw[e];omega
theorem Go15.bad(h:Go15 x l ln k S)(ha:x.tx.m.ins[k]?=some a)(hs:step15 x k a S=(e,S'))(he:e≠0)(hl:l.length=x.roles.length)(hp:∀a ∈ x.tx.m.ins,a.p<(x.roles.length:Int)):run15 x l=(⟨e,k,S'.units,x.fee,0,chg15 x.roles l⟩,0):=by
 have hg:go15 x x.tx.m.ins 0 ⟨l,0,0⟩=(e,(k:Int),S'):=by
  rw[←h.eq,Xgq ha];unfold go15;rw[hs,if_neg he]
 unfold run15;rw[if_neg (by omega),if_neg (by rintro⟨b,hb,hc⟩;have:=hp b hb;omega),hg,if_neg he]
theorem Go15.done(h:Go15 x l ln k S)(hk:x.tx.m.ins.length≤k)(hl:l.length=x.roles.length)(hp:∀a ∈ x.tx.m.ins,a.p<(x.roles.length:Int)):run15 x l=(⟨0,-1,S.units,x.fee,S.space,chg15 x.roles S.now⟩,0):=by
 have hg:go15 x x.tx.m.ins 0 ⟨l,0,0⟩=(0,-1,S):=by
  rw[←h.eq,List.drop_of_length_le hk];rfl
 unfold run15;rw[if_neg (by omega),if_neg (by rintro⟨b,hb,hc⟩;have:=hp b hb;omega),hg,if_pos rfl]
theorem Xg9(h:x.u<150∨x.u - 150<S.units):step15 x k a S=(20,⟨S.now,x.u,S.space⟩):=by
 unfold step15;rw[if_pos h]
theorem Xho(h:¬(x.u<150∨x.u - 150<S.units))(hb:(k:Int)=x.bad):step15 x k a S=(21,⟨S.now,S.units+150,S.space⟩):=by
 unfold step15;rw[if_neg h,if_pos hb]
theorem Xhu(h:¬(x.u<150∨x.u - 150<S.units))(hb:¬(k:Int)=x.bad)(hp:prog15 x a=k0)(he:(do14 S.now x.roles a.acc a.dat).e=0):step15 x k a S=(0,⟨(do14 S.now x.roles a.acc a.dat).l,S.units+150,S.space+(do14 S.now x.roles a.acc a.dat).n⟩):=by
 unfold step15;rw[if_neg h,if_neg hb,if_pos hp,if_pos he]
theorem Xfl(h:¬(x.u<150∨x.u - 150<S.units))(hb:¬(k:Int)=x.bad)(hp:prog15 x a=k0)(he:¬(do14 S.now x.roles a.acc a.dat).e=0):step15 x k a S=((do14 S.now x.roles a.acc a.dat).e,⟨S.now,S.units+150,S.space⟩):=by
 unfold step15;rw[if_neg h,if_neg hb,if_pos hp,if_neg he]
theorem Xi0(h:¬(x.u<150∨x.u - 150<S.units))(hb:¬(k:Int)=x.bad)(hp:¬prog15 x a=k0)(hq:prog15 x a=k3):step15 x k a S=(0,⟨S.now,S.units+150,S.space⟩):=by
 unfold step15;rw[if_neg h,if_neg hb,if_neg hp,if_pos hq]
theorem Xhe(h:¬(x.u<150∨x.u - 150<S.units))(hb:¬(k:Int)=x.bad)(hp:¬prog15 x a=k0)(hq:¬prog15 x a=k3):step15 x k a S=(19,⟨S.now,S.units+150,S.space⟩):=by
 unfold step15;rw[if_neg h,if_neg hb,if_neg hp,if_neg hq]
end
theorem Xec:Tryd.prog.built 60 []=some (out0.cells (.slice none 0 0)).toArray:=by kernel_rfl
theorem Xf7{q:YRaw}{x:LReady}(h:x.tx.m.recent.length=32):(q.cells x)[39]?=some (.slice q.t.q.IA q.t.q.n q.t.q.ic):=Xlk (j:=38) ((Xmc 37).trans (Xs4 h))
structure RX(w V:World)(B g2 g4:Nat)(q:YRaw)(x:LReady)(LA:Option Addr)(ln:Nat)(l:List LAcc):Prop where
 b:Below w.heap.size w V
 r2:Row V g2 48 (q.cells x)
 r4:Row V g4 60 (out0.cells (.slice none 0 0))
 rd:ReadyIn V B q x
 ac:AccsIn V B LA ln l
theorem RX.below{w V V':World}{B g2 g4 ln:Nat}{q:YRaw}{x:LReady}{LA:Option Addr}{l:List LAcc}(h:RX w V B g2 g4 q x LA ln l)(hB:B≤w.heap.size)(hb:Below V.heap.size V V'):RX w V' B g2 g4 q x LA ln l:=
 ⟨h.b.trans (hb.mono h.b.size),h.r2.below hb h.r2.lt,h.r4.below hb h.r4.lt,h.rd.below (hb.mono (Lq hB h.b.size)),h.ac.below (hb.mono (Lq hB h.b.size))⟩
theorem arg15{x:LReady}{l:List LAcc}(h:l.length≠x.roles.length):run15 x l=(out0,1):=by unfold run15;rw[if_pos h]
theorem Xmi{x:LReady}{l:List LAcc}(h:∃a ∈ x.tx.m.ins,(x.roles.length:Int)≤a.p):run15 x l=(out0,1):=by
 unfold run15;split
 ·rfl
 ·first
  | rfl
  | rw[if_pos h]
theorem Xn0:(Tryd.prog.info? 108).map (·.zero)=some (some (.agg (insC 0 none 0 0 none 0 0).toArray)):=by kernel_rfl
theorem Xj8{p:Int}{IA D:Option Addr}{n c dn dc:Nat}:∀u ∈ insC p IA n c D dn dc,u.oneCell'=true:=by
 intro u hu;simp only[insC,List.mem_cons,List.not_mem_nil,or_false]at hu;rcases hu with rfl | rfl | rfl <;> rfl
theorem Xos{w:World}{B B':Nat}{p:Int}{IA:Option Addr}{n c:Nat}{D:Option Addr}{dn dc:Nat}{acc dat:List Int}(h:InsAt14 w B p IA n c D dn dc acc dat)(hB:B≤B'):InsAt14 w B' p IA n c D dn dc acc dat:=
 ⟨h.aSees.more hB,h.dSees.more hB,h.ab,h.db,h.ac,h.dc⟩
theorem Xme{w:World}{base base':Nat}{v:Value}{L:List LAcc}(h:OA14 w base v L)(hb:base'≤base):OA14 w base' v L:=by
 obtain⟨A,c,c',h1,h2,h3,h4⟩:=h.is;exact⟨⟨A,c,c',h1,h2,h3,Xc0 h4 hb⟩,h.ok⟩
def pay15(L:List LHold)(x:LReady):Bool:=match x.roles with
 | []=>false
 | r::_=>r.wr&&(decide ((getH L r.key).o=k0)&&decide (x.fee≤(getH L r.key).c))
def ld15(L:List LHold)(rs:List LRole):List LAcc:=rs.map fun r=>getH L r.key
def load15(L:List LHold)(x:LReady):List LAcc:=(ld15 L x.roles).set 0 ⟨(getA (ld15 L x.roles) 0).c - x.fee,(getA (ld15 L x.roles) 0).o,(getA (ld15 L x.roles) 0).s⟩
def fill15(L:List LHold)(rs:List LRole)(k:Nat):List LAcc:=ld15 L (rs.take k)++List.replicate (rs.length - k) blank13
theorem Xle(L:List LHold)(rs:List LRole):fill15 L rs 0=List.replicate rs.length blank13:=by
 unfold fill15 ld15;simp
theorem Xn1(L:List LHold)(rs:List LRole):fill15 L rs rs.length=ld15 L rs:=by
 unfold fill15 ld15;simp
theorem Xkm(L:List LHold){rs:List LRole}{k:Nat}{y:LRole}(h:rs[k]?=some y):(fill15 L rs k).set k (getH L y.key)=fill15 L rs (k+1):=by
 obtain⟨hk,_⟩:=List.getElem?_eq_some_iff.1 h;have hl:(ld15 L (rs.take k)).length=k:=by unfold ld15;rw[List.length_map,List.length_take,Nat.min_eq_left (Nat.le_of_lt hk)]
 have hr:List.replicate (rs.length - k) blank13=blank13::List.replicate (rs.length - (k+1)) blank13:=by
  rw[show rs.length - k=(rs.length - (k+1))+1 by omega,List.replicate_succ]
 unfold fill15;rw[List.set_append_right _ _ (by omega),hl,Nat.sub_self,hr,List.set_cons_zero,List.take_add_one,h];unfold ld15;rw[List.map_append,List.append_assoc];rfl
theorem Xp4{L:List LHold}(h:Sto L)(rs:List LRole):∀a ∈ ld15 L rs,AccOk a:=fun a ha=>by
 obtain⟨r,_,rfl⟩:=List.mem_map.1 ha;exact h.get_ok _
theorem Xnt(n:Nat):(madeCells (Value.agg blank13.cells.toArray).cells (n*34)).toList=accsC (List.replicate n blank13):=by
 have hz:(Value.agg blank13.cells.toArray).cells.size=34:=by kernel_rfl
 have hc:(Value.agg blank13.cells.toArray).cells.toList=blank13.cells:=rfl;generalize (Value.agg blank13.cells.toArray).cells=zc at hz hc;have hcl:blank13.cells.length=34:=rfl;have hlen:(accsC (List.replicate n blank13)).length=n*34:=by
  rw[Xdr (fun x hx=>by rw[List.eq_of_mem_replicate hx];exact Xcf),List.length_replicate]
 have key:∀(m i:Nat),i<m*34→(accsC (List.replicate m blank13))[i]?=blank13.cells[i % 34]?:=by
  intro m;induction m with
  | zero=>intro i hi;omega
  | succ m ih =>
   intro i hi;have e:accsC (List.replicate (m+1) blank13)=blank13.cells++accsC (List.replicate m blank13):=by
    rw[List.replicate_succ];unfold accsC;rw[List.map_cons,List.flatten_cons]
   rw[e];by_cases h:i<34
   ·rw[List.getElem?_append_left (by rw[hcl];exact h),Nat.mod_eq_of_lt h]
   ·rw[List.getElem?_append_right (by rw[hcl];omega),hcl,ih (i - 34) (by omega)];congr 1
    omega
 apply List.ext_getElem?
 intro i;by_cases h:i<n*34
 ·rw[key n i h];have h34:i % 34<34:=Nat.mod_lt _ (by decide);have e1:(madeCells zc (n*34)).toList[i]?=some (zc[i % zc.size]!):=by
   simp only[madeCells,Array.toList_map,Array.toList_range];rw[List.getElem?_map,List.getElem?_range h];rfl
  rw[e1,hz,←hc,getElem!_pos zc (i % 34) (by rw[hz];exact h34)];simp[hz,h34]
 ·rw[List.getElem?_eq_none (show(madeCells zc (n*34)).toList.length≤i by simp[madeCells];omega),List.getElem?_eq_none (by rw[hlen];omega)]
theorem noth15(w:World):Calls Tryd.prog 24 #[.pointer none] w fun e w'=>e=.returned (.bool false)∧w=w':=by
 go_enter Tryd.func24,Tryd.ntmps24
 go_wp2_with fail;go_ret;exact⟨rfl,rfl⟩
theorem Xj2(sb mb:Nat)(L:List LHold)(V:World)(hs:StIn V sb mb L):Calls Tryd.prog 14 #[.pointer (some ⟨sb,0,none⟩),.pointer none] V fun e w'=>e=.returned (.bool false)∧V=w':=by
 have HT0:=Hd (Xfw sb mb L V hs);have HT1:=Hd (noth15 V);clear hs;go_enter Tryd.func14,Tryd.ntmps14
 go_wp2_with fail;refine HT0.out.mono ?_;rintro e w' ⟨rfl,rfl⟩;go_wp2_with fail;refine HT1.out.mono ?_;rintro e w' ⟨rfl,rfl⟩;go_wp2_with fail;refine HT0.out.mono ?_;rintro e w' ⟨rfl,rfl⟩;go_wp2_with fail;refine HT1.out.mono ?_;rintro e w' ⟨rfl,rfl⟩;go_wp2_with fail;go_ret;exact⟨rfl,rfl⟩
theorem Xqn(sb mb:Nat)(L:List LHold)(q:YRaw)(x:LReady)(B:Nat)(w:World)(hs:StIn w sb mb L)(h:ReadyIn w B q x)(hB:B≤w.heap.size)(hrn:q.rn≤100000)(hkb:∀r ∈ x.roles,AllBytes r.key) :
 Calls Tryd.prog 22 #[.pointer (some ⟨sb,0,none⟩),.agg (q.cells x).toArray] w fun e w'=>e=.returned (.bool (pay15 L x))∧Below w.heap.size w w':=by
 have hb0:=(Br w.heap.size w).alloc (Lr _) (.cells (q.cells x).toArray 48);have HB0:=Hd hb0;have H32:=Hd h.tx.m.recent;have R3:=Hd (Row.new w 48 (q.cells x));have S0:=Hd (hs.below hb0);have RR:=Hd ((h.rs.below (hb0.mono hB)));have HLB:=Hd (Lq hB hb0.size);have HKB:=Hd hkb;obtain⟨g3,hg3⟩:∃g,g=w.heap.size:=⟨_,rfl⟩;have HG3:Hid (w.heap.size=g3):=Hd hg3.symm;rw[←hg3]at R3;clear hg3 hb0 hs h hB hkb;generalize hW:w.alloc (.cells (q.cells x).toArray 48)=W at *;have HW:=Hd hW;clear hW;have c41:W.cell? ⟨g3,41,none⟩=some (.slice q.RA q.rn q.rc):=(R3.out.cell 41).trans (Xaz H32.out 0);cases hx:x.roles with
 | nil =>
  have hn0:q.rn=0:=by rw[←RR.out.len,hx];rfl
  rw[hn0]at c41;have HP:Hid (pay15 L x=false):=Hd (by unfold pay15;rw[hx]);go_enter Tryd.func22,Tryd.ntmps22
  go_upto_region 1 with fail
  try rw[HG3.out]
  rw[HW.out];clear HG3 HW;go_wp2_with fail;go_ret;exact⟨Xc4 HP.out.symm,HB0.out⟩
 | cons y0 rest =>
  have hpos:0<q.rn:=by rw[←RR.out.len,hx];exact Nat.succ_pos _
  obtain⟨ra,y,hra,hrb,hy,hyo,hyc⟩:=RR.out.get (k:=0) hpos;obtain rfl:y0=y:=by rw[hx]at hy;simpa using hy
  rw[hra]at c41;have HYO:=Hd hyo;have HYK:Hid (y0.key.length=32∧AllBytes y0.key):=Hd ⟨hyo.1,HKB.out y0 (by rw[hx];exact List.mem_cons_self ..)⟩;have HYC:Hid (∀j u,y0.cells[j]?=some u→W.cell? (ra.add j)=some u):=Hd fun j u hu=>by
   have:=hyc j u hu;rwa [Xce,Nat.zero_mul,Nat.zero_add]at this
  have cw:W.cell? ⟨ra.block,ra.off+33,none⟩=some (.bool y0.wr):=HYC.out 33 _ (Xhf hyo.1);clear hrb hy hyo hyc hra;have hpos':0<(q.rn:Int):=by omega
  have hposn:¬(q.rn:Int)=0:=by omega
  cases hw:y0.wr with
  | false =>
   have HP:Hid (pay15 L x=false):=Hd (by unfold pay15;rw[hx];simp[hw]);rw[hw]at cw;go_enter Tryd.func22,Tryd.ntmps22
   go_upto_region 1 with fail
   try rw[HG3.out]
   rw[HW.out];clear HG3 HW;go_wp2_with fail;go_ret;exact⟨Xc4 HP.out.symm,HB0.out⟩
  | true =>
   rw[hw]at cw;have HGO:=Hd (S0.out.sto.get_ok y0.key);have HSK:Hid ((Tryd.prog.info? 68).map (·.size)=some (bv y0.key).length):=Hd (by rw[bL,HYK.out.1];exact Xb7);have HSA:=Hd (Xay HGO.out.o.1);have HLA:Hid (blank13.cells.length=(getH L y0.key).cells.length):=Hd (by rw[Xbs HGO.out.o.1];rfl);have HPAY:Hid (pay15 L x=(decide ((getH L y0.key).o=k0)&&decide (x.fee≤(getH L y0.key).c))):=Hd (by unfold pay15;rw[hx];simp only[hw,Bool.true_and]);have HGC:=Hd (get13 sb mb L y0.key W S0.out HYK.out);have HGK:Hid (∀j u,(bv (getH L y0.key).o)[j]?=some u→(getH L y0.key).cells[1+j]?=some u):=Hd fun j u hu=>by
    show(Value.int .u64 _::(bv (getH L y0.key).o++_))[1+j]?=some u
    rw[Nat.add_comm,List.getElem?_cons_succ,List.getElem?_append_left (List.getElem?_eq_some_iff.1 hu).1];exact hu
   have HGK0:Hid ((getH L y0.key).cells[0]?=some (.int .u64 (getH L y0.key).c)):=Hd rfl;rw[HPAY.out];clear HPAY S0 RR;generalize getH L y0.key=a at *;have HSO:Hid ((Tryd.prog.info? 68).map (·.size)=some (bv a.o).length):=Hd (by rw[bL,HGO.out.o.1];exact Xb7);go_enter Tryd.func22,Tryd.ntmps22
   go_upto_region 1 with fail
   try rw[HG3.out]
   rw[HW.out];clear HG3 HW;go_wp2_with (first
    | ((with_reducible show wpList _ _ _ (⟨some 23,_,_,_,_,_⟩::_) _ _);go_must(refine Xa9 rfl 68 (.tmp 22) rfl ra (bv y0.key) _ Tryd.underlying68 rfl HSK.out (fun j u hu=>HYC.out j u (Xc9 hu)) ?_ ?_;go_simp))
    | fail)
   refine HGC.out.mono ?_;rintro e w4 ⟨rfl,hb4⟩;have B4:=Hd (HB0.out.trans (hb4.mono HB0.out.size));have R34:=Hd (R3.out.below hb4 R3.out.lt);clear hb4 HGC c41 cw;go_upto_region 4 with(first
    | ((with_reducible show wpList _ _ _ (⟨some 5,_,_,_,_,_⟩::_) _ _);go_must(refine Xa2 rfl 72 rfl blank13.cells Xgh ?_))
    | ((with_reducible show wpList _ _ _ (⟨none,Op.store 72 _ _,_,_,_,_⟩::_) _ _);go_must(refine Xa6 rfl 72 (.tmp 5) (.tmp 24) rfl a.cells HSA.out (Xe3 _) (by rw[List.size_toArray];exact HLA.out) ?_ ?_ ?_;go_simp;go_simp;intro w5 hr5 hb5 hz5)))
   have R5:=Hd hr5;have R35:=Hd (R34.out.below hb5 R34.out.lt);have B5:=Hd (B4.out.trans (hb5.mono B4.out.size));obtain⟨g5,hg5⟩:∃g,g=w4.heap.size:=⟨_,rfl⟩;rw[←hg5]at R5 ⊢;clear hr5 hb5 hz5 hg5 R34 B4;by_cases he:a.o=k0
   ·have hd:decide (a.o=k0)=true:=decide_eq_true he;have HDD:=Hd hd;have NE:=Hd (fun w=>Xi1 (x:=a.o) (y:=k0) HGO.out.o.1 rfl w);rw[hd]at NE;clear he hd;have SS0:=Hd (show Below w5.heap.size w5 w5.drew from(Br w5.heap.size w5).drew);refine wp_region_held_drew (S:=fun V=>Below w5.heap.size w5 V) (by kernel_rfl) SS0.out (fun _=>?_);try dsimp only[List.append]
    generalize w5.drew=wd at *;refine Tk 0 rfl ?_ SS0.out ?_ ⟨?_,rfl⟩
    ·intro w hw;(try dsimp only at hw);go_simp;try with_reducible rfl
    try simp only[nm]
    refine Tl 1 (v:=.agg (bv a.o).toArray) rfl (Or.inl ⟨by rfl,fun wz hwz=>Xa4 wz 68 (.tmp 25) rfl ⟨g5,1,none⟩ (bv a.o) _ Tryd.underlying68 rfl HSO.out (fun j u hu=>by rw[Xac];exact(hwz.cell (p:=⟨g5,1+j,none⟩) R5.out.lt).trans ((R5.out.cell (1+j)).trans (HGK.out j u hu))) (by go_simp)⟩) SS0.out ?_;try simp only[nm]
    refine Rl 2 rfl fun K hK=>?_
    go_simp;refine(Xbw _).mono ?_;rintro e w6 ⟨rfl,hb6⟩;have SS6:=Hd (SS0.out.trans (hb6.mono SS0.out.size));have ne1:=NE.out;clear hb6;refine hK.out _ _ SS6.out ?_;clear hK K;try simp only[nm]
    refine Tk 3 rfl ?_ SS6.out ?_ ⟨?_,rfl⟩
    ·intro w hw;(try dsimp only at hw);go_simp;try with_reducible rfl
    try simp only[nm]
    refine Tk 4 rfl ?_ SS6.out ?_ ⟨?_,rfl⟩
    ·intro w hw;(try dsimp only at hw);go_simp;try with_reducible rfl
    try simp only[nm]
    refine Tk 5 rfl ?_ SS6.out ?_ ⟨?_,rfl⟩
    ·intro w hw;(try dsimp only at hw);go_simp;try with_reducible rfl
    try simp only[nm]
    refine Tk 6 rfl ?_ SS6.out ?_ ⟨?_,rfl⟩
    ·intro w hw;try dsimp only at hw
     have c0:w.cell? ⟨g5,0,none⟩=some (.int .u64 a.c):=(hw.cell (p:=⟨g5,0,none⟩) R5.out.lt).trans ((R5.out.cell 0).trans HGK0.out);go_simp;try with_reducible rfl
    try simp only[nm]
    refine Tk 7 rfl ?_ SS6.out ?_ ⟨?_,rfl⟩
    ·intro w hw;(try dsimp only at hw);go_simp;try with_reducible rfl
    try simp only[nm]
    refine Tk 8 rfl ?_ SS6.out ?_ ⟨?_,rfl⟩
    ·intro w hw;try dsimp only at hw
     have c45:w.cell? ⟨g3,45,none⟩=some (.int .u64 x.fee):=(hw.cell (p:=⟨g3,45,none⟩) R35.out.lt).trans ((R35.out.cell 45).trans (Xaz H32.out 4));go_simp;try with_reducible rfl
    try simp only[nm]
    refine Tk 9 rfl ?_ SS6.out ?_ ⟨?_,rfl⟩
    ·intro w hw;(try dsimp only at hw);go_simp;try with_reducible rfl
    try simp only[nm]
    refine Tk 10 rfl ?_ SS6.out ?_ ⟨?_,rfl⟩
    ·intro w hw;(try dsimp only at hw);go_simp;try with_reducible rfl
    try simp only[nm]
    refine Tk 11 rfl ?_ SS6.out ?_ ⟨?_,rfl⟩
    ·intro w hw;(try dsimp only at hw);go_simp;try with_reducible rfl
    try simp only[nm]
    refine wpAnyH_done (by kernel_rfl) ?_ _;go_wp2_with fail;go_ret;refine⟨?_,B5.out.trans (SS6.out.mono B5.out.size)⟩;rw[HDD.out,Bool.true_and];rfl
   ·have hd:decide (a.o=k0)=false:=decide_eq_false he;have HDD:=Hd hd;have NE:=Hd (fun w=>Xi1 (x:=a.o) (y:=k0) HGO.out.o.1 rfl w);rw[hd]at NE;clear he hd;have SS0:=Hd (show Below w5.heap.size w5 w5.drew from(Br w5.heap.size w5).drew);refine wp_region_held_drew (S:=fun V=>Below w5.heap.size w5 V) (by kernel_rfl) SS0.out (fun _=>?_);try dsimp only[List.append]
    generalize w5.drew=wd at *;refine Tk 0 rfl ?_ SS0.out ?_ ⟨?_,rfl⟩
    ·intro w hw;(try dsimp only at hw);go_simp;try with_reducible rfl
    try simp only[nm]
    refine Tl 1 (v:=.agg (bv a.o).toArray) rfl (Or.inl ⟨by rfl,fun wz hwz=>Xa4 wz 68 (.tmp 25) rfl ⟨g5,1,none⟩ (bv a.o) _ Tryd.underlying68 rfl HSO.out (fun j u hu=>by rw[Xac];exact(hwz.cell (p:=⟨g5,1+j,none⟩) R5.out.lt).trans ((R5.out.cell (1+j)).trans (HGK.out j u hu))) (by go_simp)⟩) SS0.out ?_;try simp only[nm]
    refine Rl 2 rfl fun K hK=>?_
    go_simp;refine(Xbw _).mono ?_;rintro e w6 ⟨rfl,hb6⟩;have SS6:=Hd (SS0.out.trans (hb6.mono SS0.out.size));have ne1:=NE.out;clear hb6;refine hK.out _ _ SS6.out ?_;clear hK K;try simp only[nm]
    refine Tk 3 rfl ?_ SS6.out ?_ ⟨?_,rfl⟩
    ·intro w hw;(try dsimp only at hw);go_simp;try with_reducible rfl
    try simp only[nm]
    refine Tk 4 rfl ?_ SS6.out ?_ ⟨?_,rfl⟩
    ·intro w hw;(try dsimp only at hw);go_simp;try with_reducible rfl
    try simp only[nm]
    refine Tl 5 (v:=undef) rfl (Or.inr ⟨by rfl,rfl⟩) SS6.out ?_;try simp only[nm]
    refine Tl 6 (v:=undef) rfl (Or.inr ⟨by rfl,rfl⟩) SS6.out ?_;try simp only[nm]
    refine Tl 7 (v:=undef) rfl (Or.inr ⟨by rfl,rfl⟩) SS6.out ?_;try simp only[nm]
    refine Tl 8 (v:=undef) rfl (Or.inr ⟨by rfl,rfl⟩) SS6.out ?_;try simp only[nm]
    refine Tl 9 (v:=undef) rfl (Or.inr ⟨by rfl,rfl⟩) SS6.out ?_;try simp only[nm]
    refine Tk 10 rfl ?_ SS6.out ?_ ⟨?_,rfl⟩
    ·intro w hw;(try dsimp only at hw);go_simp;try with_reducible rfl
    try simp only[nm]
    refine Tk 11 rfl ?_ SS6.out ?_ ⟨?_,rfl⟩
    ·intro w hw;(try dsimp only at hw);go_simp;try with_reducible rfl
    try simp only[nm]
    refine wpAnyH_done (by kernel_rfl) ?_ _;go_wp2_with fail;go_ret;refine⟨?_,B5.out.trans (SS6.out.mono B5.out.size)⟩;rw[HDD.out,Bool.false_and];rfl
def LoadDone15(w:World)(L:List LHold)(x:LReady)(e:Ending)(w':World):Prop:=Below w.heap.size w w' ∧
 ((pay15 L x=false∧e=.returned (.tuple #[.slice none 0 0,.int .i64 22]))∨(pay15 L x=true∧∃g cap rest,e=.returned (.tuple #[.slice (some ⟨g,0,none⟩) x.roles.length x.roles.length,.int .i64 0])∧OutAt w' w.heap.size g cap x.roles.length rest (load15 L x)))
theorem loadC(sb mb:Nat)(L:List LHold)(q:YRaw)(x:LReady)(B:Nat)(w:World)(hs:StIn w sb mb L)(h:ReadyIn w B q x)(hB:B≤w.heap.size)(hrn:q.rn≤100000)(hkb:∀r ∈ x.roles,AllBytes r.key)(hfee:0≤x.fee∧x.fee<18446744073709551616) :
 Calls Tryd.prog 7 #[.pointer (some ⟨sb,0,none⟩),.agg (q.cells x).toArray] w (LoadDone15 w L x):=by
 have hb0:=(Br w.heap.size w).alloc (Lr _) (.cells (q.cells x).toArray 48);have HB0:=Hd hb0;have HB:=Hd hB;have H32:=Hd h.tx.m.recent;have HRN:=Hd hrn;have R3:=Hd (Row.new w 48 (q.cells x));have HST:=Hd (fun(V:World) (hb:Below w.heap.size w V)=>hs.below hb);have HRD:=Hd (fun(V:World) (hb:Below w.heap.size w V)=>h.below (hb.mono hB));have HKB:=Hd hkb;have HRL:=Hd h.rs.len;have HFE:=Hd hfee;have HSO:=Hd hs.sto;obtain⟨g3,hg3⟩:∃g,g=w.heap.size:=⟨_,rfl⟩;have HG3:Hid (w.heap.size=g3):=Hd hg3.symm;rw[←hg3]at R3;have HG3L:Hid (w.heap.size≤g3):=Hd (by omega);clear hg3 hb0 hs h hB hkb hfee;generalize hW:w.alloc (.cells (q.cells x).toArray 48)=W at *;have HW:=Hd hW;clear hW;go_enter Tryd.func7,Tryd.ntmps7
 go_upto_region 1 with fail
 try rw[HG3.out]
 rw[HW.out];clear HG3 HW;go_wp2_with fail;refine(Xj2 sb mb L W (HST.out W HB0.out)).mono ?_;rintro e w1 ⟨rfl,rfl⟩;go_wp2_with (first
  | ((with_reducible show wpList _ _ _ (⟨some 12,_,_,_,_,_⟩::_) _ _);go_must(refine Xa3 rfl 48 (.tmp 3) rfl g3 _ (q.cells x) _ Tryd.underlying48 rfl (by rw[Xbv H32.out];kernel_rfl) R3.out ?_ ?_;go_simp))
  | fail)
 refine(Xqn sb mb L q x B W (HST.out W HB0.out) (HRD.out W HB0.out) (Lq HB.out HB0.out.size) hrn HKB.out).mono ?_;rintro e w2 ⟨rfl,hb2⟩;have B2:=Hd (HB0.out.trans (hb2.mono HB0.out.size));have R32:=Hd (R3.out.below hb2 R3.out.lt);clear hb2 R3 HB0;cases hp:pay15 L x with
 | false =>
  have HP:=Hd hp;clear hp;go_wp2_with fail;go_ret2
  exact⟨B2.out,.inl ⟨HP.out,rfl⟩⟩
 | true =>
  have HP:=Hd hp;have HPOS:Hid (0<x.roles.length):=Hd (by
   cases hx:x.roles with
   | nil=>unfold pay15 at hp;rw[hx]at hp;cases hp
   | cons _ _=>exact Nat.succ_pos _)
  have HCF:Hid (x.fee≤(getA (ld15 L x.roles) 0).c):=Hd (by
   cases hx:x.roles with
   | nil=>unfold pay15 at hp;rw[hx]at hp;cases hp
   | cons r rest =>
    unfold pay15 at hp;rw[hx]at hp;simp only[Bool.and_eq_true,decide_eq_true_eq]at hp;exact hp.2.2)
  clear hp;have c41:w2.cell? ⟨g3,41,none⟩=some (.slice q.RA q.rn q.rc):=(R32.out.cell 41).trans (Xaz H32.out 0);obtain⟨n,hn⟩:∃n,n=x.roles.length:=⟨_,rfl⟩;have HN:=Hd hn;have HQN:Hid (q.rn=n):=Hd (by rw[hn];exact HRL.out.symm);rw[HQN.out]at c41 hrn;have hpos:0<n:=by rw[hn];exact HPOS.out
  clear hn;go_upto_region 6 with(at_make;(obtain⟨i0,hi,hz0,hz1,hz2⟩:=info_parts Xm2);go_must(refine wpList_make_full _ rfl (.tmp 17) (.tmp 17) 49 rfl w2.heap.size 72 i0 _ 34 Tryd.underlying49 hi hz0 hz1 .i64 .i64 _ _ n rfl rfl rfl rfl (by rw[hz2];omega) (by unfold maxLen;omega) (Lr _) ?_;intro w3 hown hgrow))
  rw[Xnt]at hown;obtain⟨g,cap,rest,hgv,hO⟩:=Xjy hown (List.length_replicate ..) hpos (fun a ha=>by rw[List.eq_of_mem_replicate ha];exact Xcf);injection hgv with hgv _ hcap
  injection hgv with hgv
  injection hgv with hgb _ _
  subst hcap;have O0:Hid (OutAt w3 w2.heap.size g n n rest (fill15 L x.roles 0)):=Hd (by rw[Xle,←HN.out];exact hO);have hb3:=(Br w2.heap.size w2).grown hgrow (Lr _) (fun k hk=>by cases hk);have R33:=Hd (R32.out.below hb3 R32.out.lt);have B3:=Hd (B2.out.trans (hb3.mono B2.out.size));have HGL:Hid (w.heap.size≤g∧g3≠g):=Hd (by have h1:=B2.out.size;have h2:=R32.out.lt;have h3:=hO.lo;omega);have HGE:Hid (w2.heap.size=g):=Hd hgb;rw[HGE.out];clear hown hO hgrow hb3 hgb R32 B2 c41;have c41:w3.cell? ⟨g3,41,none⟩=some (.slice q.RA n q.rc):=by rw[←HQN.out];exact(R33.out.cell 41).trans (Xaz H32.out 0)
  go_wp2_with fail;clear c41;go_loopw [22] (fun i wr=>∃k:Nat,k≤n∧i=.int .i64 k∧OutAt wr w.heap.size g n n rest (fill15 L x.roles k)∧Below w.heap.size w wr∧Row wr g3 48 (q.cells x)) (fun i _=>n - (intOf i).toNat)
  case atStart=>exact⟨0,Nat.zero_le _,rfl,O0.out.low (by rw[HGE.out];exact HGL.out.1),B3.out,R33.out⟩
  case round =>
   obtain⟨k,hk,rfl,ho,hb,hr3⟩:=hrel;have O:=Hd ho;have BW:=Hd hb;have RW:=Hd hr3;clear ho hb hr3 O0 B3 R33;rename World=>wr
   by_cases hlt:k<n
   ·have hlt':(k:Int)<n:=by omega
    obtain⟨ra,y,hra,hrb,hy,hyo,hcr⟩:=(HRD.out wr BW.out).rs.get (k:=k) (by rw[HQN.out];exact hlt);have HFN:=Hd (Xkm L hy);have HYM:=Hd (List.mem_of_getElem? hy);have HCR:=Hd hcr;have HYO:=Hd hyo;have HYK:Hid (y.key.length=32∧AllBytes y.key):=Hd ⟨hyo.1,HKB.out y (List.mem_of_getElem? hy)⟩;have HSR:=Hd (Xfg hyo.1);have HRL2:=Hd (Xe8 hyo.1);have HR1:=Hd (Xis y);have HRK:Hid (∀j u,(bv y.key)[j]?=some u→y.cells[j]?=some u):=Hd fun j u hu=>Xc9 hu
    have HSK:Hid ((Tryd.prog.info? 68).map (·.size)=some (bv y.key).length):=Hd (by rw[bL,hyo.1];exact Xb7);have HGO:=Hd (HSO.out.get_ok y.key);rw[hra];clear hra hrb hy hyo hcr;generalize y.cells=rc at *;go_upto_region 9 with(first
     | ((with_reducible show wpList _ _ _ (⟨some 26,_,_,_,_,_⟩::_) _ _);go_must(refine Xa9 rfl 82 (.tmp 25) rfl (ra.add (k*34)) rc _ Tryd.underlying82 rfl HSR.out HCR.out ?_ ?_;go_simp))
     | ((with_reducible show wpList _ _ _ (⟨none,Op.store 82 _ _,_,_,_,_⟩::_) _ _);go_must(refine Xa6 rfl 82 (.tmp 8) (.tmp 26) rfl rc HSR.out HR1.out (by rw[HRL2.out];rfl) ?_ ?_ ?_;go_simp;go_simp;intro w8 hr8 hb8 hz8)))
    have R8:=Hd hr8;have B8:=Hd (BW.out.trans (hb8.mono BW.out.size));have O8:=Hd (O.out.below hb8);have RW8:=Hd (RW.out.below hb8 RW.out.lt);obtain⟨g8,hg8⟩:∃v,v=wr.heap.size:=⟨_,rfl⟩;rw[←hg8]at R8 ⊢;have HG8:Hid (w.heap.size≤g8):=Hd (by rw[hg8];exact BW.out.size);clear hr8 hb8 hz8 hg8 O RW BW;go_wp2_with (first
     | ((with_reducible show wpList _ _ _ (⟨some 31,_,_,_,_,_⟩::_) _ _);go_must(refine Xa9 rfl 68 (.tmp 30) rfl ⟨g8,0,none⟩ (bv y.key) _ Tryd.underlying68 rfl HSK.out (fun j u hu=>by rw[Xac,Nat.zero_add];exact(R8.out.cell j).trans (HRK.out j u hu)) ?_ ?_;go_simp))
     | fail)
    refine(get13 sb mb L y.key w8 (HST.out w8 B8.out) HYK.out).mono ?_;rintro e w9 ⟨rfl,hb9⟩;have B9:=Hd (B8.out.trans (hb9.mono B8.out.size));have O9:=Hd (O8.out.below hb9);have RW9:=Hd (RW8.out.below hb9 RW8.out.lt);have HKL:Hid (k<n):=Hd hlt;have HSA:=Hd (Xay HGO.out.o.1);have HAL:=Hd (Xbs HGO.out.o.1);clear hb9 B8 O8 RW8 R8;generalize hga:getH L y.key=a at *;have HFN2:Hid ((fill15 L x.roles k).set k a=fill15 L x.roles (k+1)):=Hd HFN.out;clear hga HFN;go_wp2_with ((with_reducible show wpList _ _ _ (⟨none,Op.store 72 _ _,_,_,_,_⟩::_) _ _);go_must(refine Xbk rfl 72 (.tmp 33) (.tmp 32) rfl g 72 (k*34+0) (accsC (fill15 L x.roles k)++rest) a.cells O9.out.row HSA.out (by rw[HAL.out,O9.out.all];have:=HKL.out;omega) (Xe3 _) ?_ ?_ ?_;go_simp;go_simp;intro w10 hr10 ht10))
    have OZ:Hid (OutAt w10 w.heap.size g n n rest (fill15 L x.roles (k+1))):=Hd (by
     rw[←HFN2.out];exact O9.out.part HKL.out (o:=0) (cs:=a.cells) HGO.out (Xg6 (Xaf O9.out.ok k).o.1 HGO.out.o.1) (by rw[HAL.out];decide) hr10)
    have BZ:=Hd (B9.out.trans (ht10.below HGL.out.1));have RZ:=Hd (ht10.row RW9.out HGL.out.2);clear hr10 ht10;go_roundw
    case rel=>exact⟨k+1,by omega,by go_num,OZ.out,BZ.out,RZ.out⟩
    case measure=>simp[intOf];omega
   ·obtain rfl:k=n:=by omega
    have OA:Hid (OutAt wr w.heap.size g k k rest (ld15 L x.roles)):=Hd (by have:=O.out;rwa [HN.out,Xn1,←HN.out]at this);clear O;have HA0:=Hd (Xaf OA.out.ok 0);have HK0:Hid (0<k):=Hd hpos;have hpos':0<(k:Int):=by omega
    have hwr:IntKind.u64.wrap ((getA (ld15 L x.roles) 0).c - x.fee)=(getA (ld15 L x.roles) 0).c - x.fee:=IntWalk.u64_in _ (by have h1:=HCF.out;have h2:=HA0.out.c;have h3:=HFE.out;omega);have HRES:Hid ((ld15 L x.roles).set 0 ⟨(getA (ld15 L x.roles) 0).c - x.fee,(getA (ld15 L x.roles) 0).o,(getA (ld15 L x.roles) 0).s⟩=load15 L x):=Hd rfl;have HNA:Hid (AccOk ⟨(getA (ld15 L x.roles) 0).c - x.fee,(getA (ld15 L x.roles) 0).o,(getA (ld15 L x.roles) 0).s⟩):=Hd ⟨by have h1:=HCF.out;have h2:=HA0.out.c;have h3:=HFE.out;constructor <;> simp only <;> omega,HA0.out.o,HA0.out.s⟩;go_upto_region 11 with fail
    have BD:Hid (Below w.heap.size w wr.drew):=Hd BW.out.drew;have OD:Hid (OutAt wr.drew w.heap.size g k k rest (ld15 L x.roles)):=Hd ⟨OA.out.row.drew,OA.out.lo,OA.out.len,OA.out.room,OA.out.all,OA.out.ok⟩;have RD:Hid (Row wr.drew g3 48 (q.cells x)):=Hd RW.out.drew;refine wp_region_held_drew (S:=fun V=>V.cell? ⟨g3,45,none⟩=some (.int .u64 x.fee)) (by kernel_rfl) ((RW.out.drew.cell 45).trans (Xaz H32.out 4)) (fun _=>?_);try dsimp only[List.append]
    clear OA RW BW;generalize wr.drew=wd at *;have SD:Hid (wd.cell? ⟨g3,45,none⟩=some (.int .u64 x.fee)):=Hd ((RD.out.cell 45).trans (Xaz H32.out 4));refine Tk 0 rfl ?_ SD.out ?_ ⟨?_,rfl⟩
    ·intro w hw;(try dsimp only at hw);go_simp;try with_reducible rfl
    try simp only[nm]
    refine Tk 1 rfl ?_ SD.out ?_ ⟨?_,rfl⟩
    ·intro w hw;(try dsimp only at hw);go_simp;try with_reducible rfl
    try simp only[nm]
    refine Tk 2 rfl ?_ SD.out ?_ ⟨?_,rfl⟩
    ·intro w hw;(try dsimp only at hw);go_simp;try with_reducible rfl
    try simp only[nm]
    refine Tk 4 rfl ?_ SD.out ?_ ⟨?_,rfl⟩
    ·intro w hw;(try dsimp only at hw);go_simp;try with_reducible rfl
    try simp only[nm]
    refine Tk 5 rfl ?_ SD.out ?_ ⟨?_,rfl⟩
    ·intro w hw;(try dsimp only at hw);go_simp;try with_reducible rfl
    try simp only[nm]
    refine Rl 3 rfl fun K hK=>?_
    have cg0:wd.cell? ⟨g,0,none⟩=some (.int .u64 (getA (ld15 L x.roles) 0).c):=by have:=OD.out.cell HK0.out (j:=0) (u:=.int .u64 (getA (ld15 L x.roles) 0).c) rfl;simpa using this
    go_simp;refine hK.out _ _ SD.out ?_;clear hK K;try simp only[nm]
    refine Tk 6 rfl ?_ SD.out ?_ ⟨?_,rfl⟩
    ·intro w hw;(try dsimp only at hw);go_simp;try with_reducible rfl
    try simp only[nm]
    refine Tk 7 rfl ?_ SD.out ?_ ⟨?_,rfl⟩
    ·intro w hw;(try dsimp only at hw);go_simp;try with_reducible rfl
    try simp only[nm]
    refine Tk 8 rfl ?_ SD.out ?_ ⟨?_,rfl⟩
    ·intro w hw;(try dsimp only at hw);go_simp;try with_reducible rfl
    try simp only[nm]
    refine Rl 9 rfl fun K hK=>?_
    have fg0:=OD.out.row.frozen 0;go_simp;have OZ:=Hd (OD.out.one HK0.out (o:=0) (u:=.int .u64 ((getA (ld15 L x.roles) 0).c - x.fee)) HNA.out (by decide) rfl);rw[HRES.out,Nat.zero_mul,Nat.zero_add]at OZ;have BZ:=Hd (BD.out.trans ((Xa0 wd ⟨g,0,none⟩ (.int .u64 ((getA (ld15 L x.roles) 0).c - x.fee))).below HGL.out.1));refine hK.out _ _ ((RD.out.far (p:=⟨g,0,none⟩) HGL.out.2 _).cell 45 |>.trans (Xaz H32.out 4)) ?_;clear hK K;try simp only[nm]
    refine wpAnyH_done (by kernel_rfl) ?_ _;go_wp2_with fail;go_ret2
    exact⟨BZ.out,.inr ⟨HP.out,g,k,rest,by rw[←HN.out];rfl,by rw[←HN.out];exact OZ.out⟩⟩
def hasK(l:List LRole)(x:List Int):Bool:=l.any fun r=>decide (r.key=x)
def isW7(l:List LRole)(x:List Int):Bool:=l.any fun r=>decide (r.key=x)&&r.wr
def hit(l:List LRole)(r:LRole):Bool:=hasK l r.key&&(isW7 l r.key||r.wr)
def confl(a b:List LRole):Bool:=b.any (hit a)
def MapOf(D:DataW Unit)(l:List LRole):Prop:=∀x,KeyOk7 x→Go.Maps.has D (KL x)=hasK l x∧D.atKey (KL x) (.lit (.bool false))=.lit (.bool (isW7 l x))
theorem Xin{l:List LRole}{k:Nat}{r:LRole}(h:l[k]?=some r)(x:List Int):hasK (l.take (k+1)) x=(hasK (l.take k) x||decide (r.key=x)):=Xck h
theorem Xie{l:List LRole}{k:Nat}{r:LRole}(h:l[k]?=some r)(x:List Int):isW7 (l.take (k+1)) x=(isW7 (l.take k) x||(decide (r.key=x)&&r.wr)):=Xck h
theorem MapOf.nil:MapOf (DataW.map []) []:=fun x hx=>⟨rfl,by
 have:Go.Maps.has (DataW.map []:DataW Unit) (KL x)=false:=rfl;exact atKey_of_not_has this _⟩
theorem MapOf.step{D:DataW Unit}{l:List LRole}{k:Nat}{r:LRole}(hD:IsMap D)(h:MapOf D (l.take k))(hr:l[k]?=some r)(ho:KeyOk7 r.key):MapOf (D.put (KL r.key) (.lit (.bool (isW7 (l.take k) r.key||r.wr)))) (l.take (k+1)):=fun x hx=>by
 obtain⟨h1,h2⟩:=h x hx;rw[Xin hr,Xie hr];by_cases e:r.key=x
 ·subst e;rw[has_put_same hD (Xg0 hx.1 hx.2),atKey_put_same hD (Xg0 hx.1 hx.2)];simp
 ·have hne:KL x≠KL r.key:=fun e'=>e (Xdl hx.1 hx.2 ho.1 ho.2 e').symm
  rw[has_put_other hne,atKey_put_other hne,h1,h2];simp[e]
theorem Xgt{w:World}{b n:Nat}{D:DataW Unit}(h:w.ownsMap Tryd.prog 68 (plainElem Tryd.prog 4) b n D){x:List Int}(hx:KeyOk7 x){c:Bool}(hat:D.atKey (KL x) (.lit (.bool false))=.lit (.bool c)) :
 (Instr.lookup 112 (.map (some b)) (.agg (bv x).toArray) false).run Tryd.prog w=.ok (.bool c) w:=by
 obtain⟨v,ps,hrun,hv⟩:=h.lookup Xb9 Tryd.underlying112 (Xjq w) (plainElem_bool Tryd.underlying4 false) (KL_is hx.1 hx.2);rw[hat]at hv;have hvc:v=.bool c:=by
  unfold plainElem at hv;rw[Tryd.underlying4]at hv;cases v <;> simp at hv
  exact congrArg Value.bool hv.1
 rw[hrun,hvc]
theorem Xky{w:World}{b n:Nat}{D:DataW Unit}(h:w.ownsMap Tryd.prog 68 (plainElem Tryd.prog 4) b n D){x:List Int}(hx:KeyOk7 x){c:Bool}(hat:D.atKey (KL x) (.lit (.bool false))=.lit (.bool c)) :
 (Instr.lookup 112 (.map (some b)) (.agg (bv x).toArray) true).run Tryd.prog w=.ok (.tuple #[.bool c,.bool (Go.Maps.has D (KL x))]) w:=by
 obtain⟨v,ps,hrun,hv⟩:=h.look_ok Xb9 Tryd.underlying112 (Xjq w) (plainElem_bool Tryd.underlying4 false) (KL_is hx.1 hx.2);rw[hat]at hv;have hvc:v=.bool c:=by
  unfold plainElem at hv;rw[Tryd.underlying4]at hv;cases v <;> simp at hv
  exact congrArg Value.bool hv.1
 rw[hrun,hvc]
structure Capt(w:World)(gp mb n:Nat)(D:DataW Unit)(l:List LRole):Prop where
 own:w.ownsMap Tryd.prog 68 (plainElem Tryd.prog 4) mb n D
 is:MapOf D l
 row:Row w gp 112 [.map (some mb)]
theorem Capt.below{w w':World}{gp mb n:Nat}{D:DataW Unit}{l:List LRole}(h:Capt w gp mb n D l)(hb:Below w.heap.size w w'):Capt w' gp mb n D l:=
 ⟨h.own.kept (Xcx hb) (by simp),h.is,h.row.below hb h.row.lt⟩
theorem Xse(gp mb n:Nat)(D:DataW Unit)(l:List LRole)(r:LRole)(w:World)(h:Capt w gp mb n D l)(hr:RoleOk r) :
 Calls Tryd.prog 38 #[.agg r.cells.toArray,.pointer (some ⟨gp,0,none⟩)] w fun e w'=>e=.returned (.bool (hit l r))∧Below w.heap.size w w':=by
 have hb0:Below w.heap.size w (w.alloc (.cells r.cells.toArray 82)):=(Br _ _).alloc (Lr _) _;have hW:=h.below hb0;have hrow:=Row.new w 82 r.cells;have cp:(w.alloc (.cells r.cells.toArray 82)).cell? ⟨gp,0,none⟩=some (.map (some mb)):=hW.row.cell 0;have cw:(w.alloc (.cells r.cells.toArray 82)).cell? ⟨w.heap.size,33,none⟩=some (.bool r.wr):=(hrow.cell 33).trans (Xhf hr.1);have HCK:Hid (∀j u,(bv r.key)[j]?=some u→(w.alloc (.cells r.cells.toArray 82)).cell? ((⟨w.heap.size,0,none⟩:Addr).add j)=some u):=Hd fun j u hu=>by rw[Xac,Nat.zero_add];exact(hrow.cell j).trans (Xc9 hu)
 have HSZ:=Hd (show(Tryd.prog.info? 68).map (·.size)=some (bv r.key).length by rw[bL,hr.1];exact Xb7);obtain⟨m1,m2⟩:=hW.is r.key hr;have hlk:=Xky hW.own hr m2;rw[m1]at hlk;have HQ:Hid (hit l r=(hasK l r.key&&(isW7 l r.key||r.wr))):=Hd rfl;have HB:=Hd hb0;clear h hW hrow hb0 m1 m2;generalize hit l r=hh at *;generalize hasK l r.key=bh at *;generalize isW7 l r.key=bw at *;generalize bv r.key=X at *;generalize hRC:r.cells.toArray=RC at *;clear hRC;cases bh with
 | false =>
  go_enter Tryd.func38,Tryd.ntmps38
  go_wp2_with ((with_reducible show wpList _ _ _ (⟨some 9,_,_,_,_,_⟩::_) _ _);go_must(refine Xa9 rfl 68 (.tmp 8) rfl ⟨w.heap.size,0,none⟩ X _ Tryd.underlying68 rfl HSZ.out HCK.out ?_ ?_;go_simp))
  go_ret;exact⟨by rw[HQ.out];rfl,HB.out⟩
 | true =>
  cases bw with
  | true =>
   go_enter Tryd.func38,Tryd.ntmps38
   go_wp2_with ((with_reducible show wpList _ _ _ (⟨some 9,_,_,_,_,_⟩::_) _ _);go_must(refine Xa9 rfl 68 (.tmp 8) rfl ⟨w.heap.size,0,none⟩ X _ Tryd.underlying68 rfl HSZ.out HCK.out ?_ ?_;go_simp))
   go_ret;exact⟨by rw[HQ.out];rfl,HB.out⟩
  | false =>
   go_enter Tryd.func38,Tryd.ntmps38
   go_wp2_with ((with_reducible show wpList _ _ _ (⟨some 9,_,_,_,_,_⟩::_) _ _);go_must(refine Xa9 rfl 68 (.tmp 8) rfl ⟨w.heap.size,0,none⟩ X _ Tryd.underlying68 rfl HSZ.out HCK.out ?_ ?_;go_simp))
   go_ret;exact⟨by rw[HQ.out];rfl,HB.out⟩
theorem index7(A:Option Addr)(n c B gp mb N:Nat)(D:DataW Unit)(l b:List LRole)(w:World)(hs:RolesIn w B A n b)(hB:B≤w.heap.size)(hn:n≤4000)(hc:Capt w gp mb N D l) :
 Calls Tryd.prog 53 #[.slice A n c,.func (.func 38) #[] #[.pointer (some ⟨gp,0,none⟩)]] w fun e w'=>IdxDone (b.any (hit l)) e∧Below w.heap.size w w':=by
 have HL:=Hd hs.len;have HIN:=Hd hs;have HC:=Hd hc;clear hs hc;go_enter Tryd.func53,Tryd.ntmps53
 go_wp2;go_loopw [8] (fun i wr=>∃k:Nat,k≤n∧i=.int .i64 k∧(b.take k).any (hit l)=false∧Below w.heap.size w wr) (fun i _=>n - (intOf i).toNat)
 case atStart=>exact⟨0,Nat.zero_le _,rfl,by simp,Br _ _⟩
 case round =>
  obtain⟨k,hk,rfl,hany,hbw⟩:=hrel;have HA:=Hd hany;have HBW:=Hd hbw;clear hany hbw;by_cases hlt:k<n
  ·obtain⟨a,r,rfl,hab,hr,hro,hcr⟩:=(HIN.out.below (HBW.out.mono hB)).get hlt;have HCL:=Hd (Xse gp mb N D l r wr (HC.out.below HBW.out) hro);have HSR:=Hd (Xfg hro.1);have HCR:=Hd hcr;have HX:=Hd hr;generalize r.cells=rc at *;clear hr hro hcr;by_cases hp:hit l r=true
   ·have HP:=Hd hp;rw[hp]at HCL;clear hp;go_wp2_with ((with_reducible show wpList _ _ _ (⟨some 15,_,_,_,_,_⟩::_) _ _);go_must(refine Xa9 rfl 82 (.tmp 14) rfl (a.add (k*34)) rc _ Tryd.underlying82 rfl HSR.out HCR.out ?_ ?_;go_simp))
    refine HCL.out.mono ?_;rintro e w2 ⟨rfl,hb2⟩;have HB2:=Hd (HBW.out.trans (hb2.mono HBW.out.size));clear hb2;go_wp2_with fail;go_ret;exact⟨⟨_,rfl,by constructor;(intro _;exact Xon HX.out HP.out);(intro _;omega)⟩,HB2.out⟩
   ·have hp:hit l r=false:=by simpa using hp
    have HP:Hid ((b.take (k+1)).any (hit l)=false):=Hd (by rw[Xck HX.out,HA.out,hp];rfl);rw[hp]at HCL;clear hp;go_wp2_with ((with_reducible show wpList _ _ _ (⟨some 15,_,_,_,_,_⟩::_) _ _);go_must(refine Xa9 rfl 82 (.tmp 14) rfl (a.add (k*34)) rc _ Tryd.underlying82 rfl HSR.out HCR.out ?_ ?_;go_simp))
    refine HCL.out.mono ?_;rintro e w2 ⟨rfl,hb2⟩;have HB2:=Hd (HBW.out.trans (hb2.mono HBW.out.size));clear hb2;go_wp2_with fail;go_roundw
    case rel=>exact⟨k+1,by omega,by go_num,HP.out,HB2.out⟩
    case measure=>simp[intOf];omega
  ·have hkn:k=n:=by omega
   have HE:Hid (b.any (hit l)=false):=Hd (by
    have h1:=HA.out;rwa [hkn,List.take_of_length_le (by rw[HL.out];exact Lr _)]at h1)
   clear hkn;go_wp2;go_ret;exact⟨⟨_,rfl,by rw[HE.out];simp⟩,HBW.out⟩
theorem Xqv(A:Option Addr)(n c B gp mb N:Nat)(D:DataW Unit)(l b:List LRole)(w:World)(hs:RolesIn w B A n b)(hB:B≤w.heap.size)(hn:n≤4000)(hc:Capt w gp mb N D l) :
 Calls Tryd.prog 37 #[.slice A n c,.func (.func 38) #[] #[.pointer (some ⟨gp,0,none⟩)]] w fun e w'=>e=.returned (.bool (b.any (hit l)))∧Below w.heap.size w w':=by
 have HI:=Hd (index7 A n c B gp mb N D l b w hs hB hn hc);clear hs hc;go_enter Tryd.func37,Tryd.ntmps37
 go_wp2_with fail;refine HI.out.mono ?_;rintro e w' ⟨⟨r,rfl,hr⟩,hb⟩;have HR:=Hd hr;have HB:=Hd hb;clear hr hb;go_wp2_with fail;go_ret;exact⟨Xc4 (Xll HR.out),HB.out⟩
theorem Xp9(A A2:Option Addr)(n c n2 c2 B:Nat)(l b:List LRole)(w:World)(hl:RolesIn w B A n l)(hb:RolesIn w B A2 n2 b)(hB:B≤w.heap.size)(hn:n≤4000)(hn2:n2≤4000) :
 Calls Tryd.prog 23 #[.slice A n c,.slice A2 n2 c2] w fun e w'=>e=.returned (.bool (confl l b))∧Below w.heap.size w w':=by
 have hmm:=@run_makeMap Tryd.prog;have hmf:∀(fn:Fn) (first cap:Array Value) (w:World),(Instr.makeFunc fn first cap).run Tryd.prog w=.ok (.func fn first cap) w:=fun _ _ _ _=>rfl
 have HLN:=Hd hl.len;have HL:=Hd hl;have HBI:=Hd hb;have HQ:Hid (confl l b=b.any (hit l)):=Hd rfl;clear hl hb;go_enter Tryd.func23,Tryd.ntmps23
 go_wp2_with fail;go_loopw [11] (fun i wr=>∃(k:Nat) (D:DataW Unit),k≤n∧i=.int .i64 k∧Capt wr (w.heap.size+1) w.heap.size k D (l.take k)∧Below w.heap.size w wr) (fun i _=>n - (intOf i).toNat)
 case atStart =>
  refine⟨0,DataW.map [],Nat.zero_le _,rfl,⟨?_,by simpa using MapOf.nil,Row.new' _ 112 [.map (some w.heap.size)] (by simp)⟩,((Br _ _).alloc (Lr _) _).alloc (by simp) _⟩;exact(World.ownsMap_made _ _ _ _).kept (World.grownBy_alloc _ _ none) (by simp)
 case round =>
  obtain⟨k,D,hk,rfl,hcap,hbw⟩:=hrel;have HC:=Hd hcap;have HBW:=Hd hbw;clear hcap hbw;by_cases hlt:k<n
  ·obtain⟨a,r,rfl,hab,hr,hro,hcr⟩:=(HL.out.below (HBW.out.mono hB)).get hlt;have HSR:=Hd (Xfg hro.1);have HRL:=Hd (Xe8 hro.1);have HR1:=Hd (Xis r);have HCR:=Hd hcr;have HWR:=Hd (Xhf hro.1);have HRK:Hid (∀j u,(bv r.key)[j]?=some u→r.cells[j]?=some u):=Hd fun j u hu=>Xc9 hu
   have HSZ:=Hd (show(Tryd.prog.info? 68).map (·.size)=some (bv r.key).length by rw[bL,hro.1];exact Xb7);have HST:Hid (∀W:World,Capt W (w.heap.size+1) w.heap.size k D (l.take k)→(Instr.lookup 112 (.map (some w.heap.size)) (.agg (bv r.key).toArray) false).run Tryd.prog W=.ok (.bool (isW7 (l.take k) r.key)) W ∧
    ∀v,v=(isW7 (l.take k) r.key||r.wr)→∃W',(Instr.mapUpdate 112 (.map (some w.heap.size)) (.agg (bv r.key).toArray) (.bool v)).run Tryd.prog W=.ok () W'∧Capt W' (w.heap.size+1) w.heap.size (k+1) (D.put (KL r.key) (.lit (.bool v))) (l.take (k+1))∧W.grownBy W' (some w.heap.size)):=Hd fun W hW=>⟨Xgt hW.own hro (hW.is r.key hro).2,fun v hv=>by
    subst hv;obtain⟨W',h1,h2,h3⟩:=hW.own.update Xb9 Tryd.underlying112 (by unfold maxLen;omega) (KL_is hro.1 hro.2) (plainElem_bool (H:=Unit) Tryd.underlying4 (isW7 (l.take k) r.key||r.wr));exact⟨W',h1,⟨h2,hW.is.step hW.own.isMap hr hro,hW.row.grown h3 (by simp)⟩,h3⟩⟩
   generalize r.cells=rc at *;generalize bv r.key=X at *;generalize isW7 (l.take k) r.key=bo at *;generalize r.wr=bn at *;clear hr hro hcr;go_wp2_with (first
    | ((with_reducible show wpList _ _ _ (⟨some 14,_,_,_,_,_⟩::_) _ _);go_must(refine Xa9 rfl 82 (.tmp 13) rfl (a.add (k*34)) rc _ Tryd.underlying82 rfl HSR.out HCR.out ?_ ?_;go_simp))
    | ((with_reducible show wpList _ _ _ (⟨none,Op.store 82 _ _,_,_,_,_⟩::_) _ _);go_must(refine Xa6 rfl 82 (.tmp 7) (.tmp 14) rfl rc HSR.out HR1.out (by rw[HRL.out];rfl) ?_ ?_ ?_;go_simp;go_simp;intro w2 hr1 hb1 hz1;have R1:=Hd hr1;have B1:=Hd hb1;clear hr1 hb1 hz1)))
   have C2:=Hd (HC.out.below B1.out);have BB2:=Hd (HBW.out.trans (B1.out.mono HBW.out.size));have hgr:w.heap.size<wr.heap.size:=Nat.lt_of_lt_of_le (Nat.lt_succ_self _) (Nat.le_of_lt_succ (Nat.lt_succ_of_lt HC.out.row.lt));generalize wr.heap.size=gr at *;refine wp_region_held_drew (S:=(fun V=>Row V (w.heap.size+1) 112 [.map (some w.heap.size)]∧Row V gr 82 rc)) (by kernel_rfl) ⟨C2.out.row.drew,R1.out.drew⟩ (fun _=>?_);have HS:=Hd (And.intro C2.out.row.drew R1.out.drew);have C3:Hid (Capt w2.drew (w.heap.size+1) w.heap.size k D (l.take k)):=Hd (C2.out.below (Br w2.heap.size w2).drew);have BB3:=Hd BB2.out.drew;clear C2 R1 B1 BB2 HC HBW;generalize w2.drew=w3 at *;obtain⟨hlk,hup⟩:=HST.out w3 C3.out;have HUP:=Hd hup;clear hup;cases bo with
   | true =>
    refine Tk 0 rfl ?_ HS.out ?_ ⟨?_,rfl⟩
    ·intro wz hwz;try dsimp only at hwz
     have q:wz.cell? ⟨w.heap.size+1,0,none⟩=some (.map (some w.heap.size)):=hwz.1.cell 0;go_simp;try with_reducible rfl
    try simp only[nm]
    refine Tk 1 rfl ?_ HS.out ?_ ⟨?_,rfl⟩
    ·intro w hw;(try dsimp only at hw);go_simp;try with_reducible rfl
    try simp only[nm]
    refine Tl 2 (v:=.agg X.toArray) rfl (Or.inl ⟨by rfl,fun wz hwz=>Xa4 wz 68 (.tmp 16) rfl ⟨gr,0,none⟩ X _ Tryd.underlying68 rfl HSZ.out (fun j u hu=>by rw[Xac,Nat.zero_add];exact(hwz.2.cell j).trans (HRK.out j u hu)) (by go_simp)⟩) HS.out ?_;try simp only[nm]
    refine Tk 3 rfl ?_ HS.out ?_ ⟨?_,rfl⟩
    ·intro wz hwz;try dsimp only at hwz
     have q:wz.cell? ⟨w.heap.size+1,0,none⟩=some (.map (some w.heap.size)):=hwz.1.cell 0;go_simp;try with_reducible rfl
    try simp only[nm]
    refine Tk 4 rfl ?_ HS.out ?_ ⟨?_,rfl⟩
    ·intro w hw;(try dsimp only at hw);go_simp;try with_reducible rfl
    try simp only[nm]
    refine Tl 5 (v:=.agg X.toArray) rfl (Or.inl ⟨by rfl,fun wz hwz=>Xa4 wz 68 (.tmp 19) rfl ⟨gr,0,none⟩ X _ Tryd.underlying68 rfl HSZ.out (fun j u hu=>by rw[Xac,Nat.zero_add];exact(hwz.2.cell j).trans (HRK.out j u hu)) (by go_simp)⟩) HS.out ?_;try simp only[nm]
    refine Rl 6 rfl fun K hK=>?_
    go_simp;refine hK.out _ _ HS.out ?_;clear hK K;try simp only[nm]
    refine Tk 7 rfl ?_ HS.out ?_ ⟨?_,rfl⟩
    ·intro w hw;(try dsimp only at hw);go_simp;try with_reducible rfl
    try simp only[nm]
    refine Tl 8 (v:=undef) rfl (Or.inr ⟨by rfl,rfl⟩) HS.out ?_;try simp only[nm]
    refine Tl 9 (v:=undef) rfl (Or.inr ⟨by rfl,rfl⟩) HS.out ?_;try simp only[nm]
    refine Tk 10 rfl ?_ HS.out ?_ ⟨?_,rfl⟩
    ·intro w hw;(try dsimp only at hw);go_simp;try with_reducible rfl
    try simp only[nm]
    obtain⟨w5,hrun,C5,hg5⟩:=HUP.out true (by rfl);have HC5:=Hd C5;have HS5:Hid (Row w5 (w.heap.size+1) 112 [.map (some w.heap.size)]∧Row w5 gr 82 rc):=Hd ⟨C5.row,HS.out.2.grown hg5 (fun e=>by have:=Option.some.inj e;omega)⟩;have BB5:=Hd (BB3.out.grown hg5 BB3.out.size (fun j hj=>by cases hj;exact Lr _));clear C5 hg5;refine Rl 11 rfl fun K hK=>?_
    go_simp;refine hK.out _ _ HS5.out ?_;clear hK K;try simp only[nm]
    refine wpAnyH_done (by kernel_rfl) ?_ _;go_wp2_with fail;go_roundw
    case rel=>exact⟨k+1,_,by omega,by go_num,HC5.out,BB5.out⟩
    case measure=>simp[intOf];omega
   | false =>
    refine Tk 0 rfl ?_ HS.out ?_ ⟨?_,rfl⟩
    ·intro wz hwz;try dsimp only at hwz
     have q:wz.cell? ⟨w.heap.size+1,0,none⟩=some (.map (some w.heap.size)):=hwz.1.cell 0;go_simp;try with_reducible rfl
    try simp only[nm]
    refine Tk 1 rfl ?_ HS.out ?_ ⟨?_,rfl⟩
    ·intro w hw;(try dsimp only at hw);go_simp;try with_reducible rfl
    try simp only[nm]
    refine Tl 2 (v:=.agg X.toArray) rfl (Or.inl ⟨by rfl,fun wz hwz=>Xa4 wz 68 (.tmp 16) rfl ⟨gr,0,none⟩ X _ Tryd.underlying68 rfl HSZ.out (fun j u hu=>by rw[Xac,Nat.zero_add];exact(hwz.2.cell j).trans (HRK.out j u hu)) (by go_simp)⟩) HS.out ?_;try simp only[nm]
    refine Tk 3 rfl ?_ HS.out ?_ ⟨?_,rfl⟩
    ·intro wz hwz;try dsimp only at hwz
     have q:wz.cell? ⟨w.heap.size+1,0,none⟩=some (.map (some w.heap.size)):=hwz.1.cell 0;go_simp;try with_reducible rfl
    try simp only[nm]
    refine Tk 4 rfl ?_ HS.out ?_ ⟨?_,rfl⟩
    ·intro w hw;(try dsimp only at hw);go_simp;try with_reducible rfl
    try simp only[nm]
    refine Tl 5 (v:=.agg X.toArray) rfl (Or.inl ⟨by rfl,fun wz hwz=>Xa4 wz 68 (.tmp 19) rfl ⟨gr,0,none⟩ X _ Tryd.underlying68 rfl HSZ.out (fun j u hu=>by rw[Xac,Nat.zero_add];exact(hwz.2.cell j).trans (HRK.out j u hu)) (by go_simp)⟩) HS.out ?_;try simp only[nm]
    refine Rl 6 rfl fun K hK=>?_
    go_simp;refine hK.out _ _ HS.out ?_;clear hK K;try simp only[nm]
    refine Tk 7 rfl ?_ HS.out ?_ ⟨?_,rfl⟩
    ·intro w hw;(try dsimp only at hw);go_simp;try with_reducible rfl
    try simp only[nm]
    refine Tk 8 rfl ?_ HS.out ?_ ⟨?_,rfl⟩
    ·intro w hw;(try dsimp only at hw);go_simp;try with_reducible rfl
    try simp only[nm]
    refine Tk 9 rfl ?_ HS.out ?_ ⟨?_,rfl⟩
    ·intro wz hwz;try dsimp only at hwz
     have q:wz.cell? ⟨gr,33,none⟩=some (.bool bn):=(hwz.2.cell 33).trans HWR.out;go_simp;try with_reducible rfl
    try simp only[nm]
    refine Tk 10 rfl ?_ HS.out ?_ ⟨?_,rfl⟩
    ·intro w hw;(try dsimp only at hw);go_simp;try with_reducible rfl
    try simp only[nm]
    obtain⟨w5,hrun,C5,hg5⟩:=HUP.out bn (by rfl);have HC5:=Hd C5;have HS5:Hid (Row w5 (w.heap.size+1) 112 [.map (some w.heap.size)]∧Row w5 gr 82 rc):=Hd ⟨C5.row,HS.out.2.grown hg5 (fun e=>by have:=Option.some.inj e;omega)⟩;have BB5:=Hd (BB3.out.grown hg5 BB3.out.size (fun j hj=>by cases hj;exact Lr _));clear C5 hg5;refine Rl 11 rfl fun K hK=>?_
    go_simp;refine hK.out _ _ HS5.out ?_;clear hK K;try simp only[nm]
    refine wpAnyH_done (by kernel_rfl) ?_ _;go_wp2_with fail;go_roundw
    case rel=>exact⟨k+1,_,by omega,by go_num,HC5.out,BB5.out⟩
    case measure=>simp[intOf];omega
  ·obtain rfl:k=n:=by omega
   have HC2:Hid (Capt wr (w.heap.size+1) w.heap.size k D l):=Hd (by
    have:=HC.out;rwa [List.take_of_length_le (by rw[HLN.out];exact Lr _)]at this)
   have HK:=Hd (Xqv A2 n2 c2 B (w.heap.size+1) w.heap.size k D l b wr (HBI.out.below (HBW.out.mono hB)) (Lq hB HBW.out.size) hn2 HC2.out);clear HC HC2;go_wp2_with fail;refine HK.out.mono ?_;rintro e w9 ⟨rfl,hb9⟩;have HB9:=Hd (HBW.out.trans (hb9.mono HBW.out.size));clear hb9;go_wp2_with fail;go_ret;exact⟨by rw[HQ.out];rfl,HB9.out⟩
end Go.Proofs.YtkhcgclnmdgpbaaDoor
