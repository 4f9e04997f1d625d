import Derived.Test.YtkhcgclnmdgpbaaDoorM3
set_option maxRecDepth 100000
set_option maxHeartbeats 16000000
set_option linter.unusedSimpArgs false
set_option linter.unusedVariables false
namespace Go.Proofs.YtkhcgclnmdgpbaaDoor
open Go.RowKit
theorem Xb1:(Tryd.prog.info? 165).map (·.zero)=some (some (.agg (askC ask0).toArray)):=by kernel_rfl
theorem Xa7{x:LAsk}(h:x.owner.length=32):(Tryd.prog.info? 165).map (·.size)=some (askC x).length:=by
 rw[Xaq h];kernel_rfl
theorem Xmw:Tryd.prog.built 165 []=some (askC ask0).toArray:=by kernel_rfl
theorem Xcz(t:Int):Tryd.prog.built 165 [(0,.int .u64 t)]=some (askC ⟨t,0,0,key0⟩).toArray:=by kernel_rfl
theorem Xd5:(Tryd.prog.info? 180).map (·.zero)=some (some (.agg (fldC none 0 0 false).toArray)):=by kernel_rfl
theorem Xd7(A:Option Addr)(n c:Nat)(sh:Bool):(Tryd.prog.info? 180).map (·.size)=some (fldC A n c sh).length:=by kernel_rfl
theorem Xco(A:Option Addr)(n c:Nat):Tryd.prog.built 180 [(0,.slice A n c)]=some (fldC A n c false).toArray:=by kernel_rfl
theorem Xdz(A:Option Addr)(n c:Nat)(sh:Bool):∀u ∈ fldC A n c sh,u.oneCell'=true:=by
 intro u hu;unfold fldC at hu;simp only[List.mem_cons,List.not_mem_nil,or_false]at hu;rcases hu with rfl | rfl <;> rfl
theorem Xav{w:World}{g:Nat}{cs:List Value}(hr:Row w g 165 cs)(hi:(Tryd.prog.info? 165).map (·.size)=some cs.length):(loadVar 165 ⟨g,0,none⟩).run Tryd.prog w=.ok (.agg cs.toArray) w:=by
 have:=Xc5 (P:=Tryd.prog) w ⟨g,0,none⟩ 165 cs _ (fun j v hv=>by rw[Xac,Nat.zero_add];exact(hr.cell j).trans hv) Tryd.underlying165 rfl hi;simpa [Instr.loadAt,Instr.sureAddr]using this
structure RS4(w V:World)(g2 g4 g5 S:Nat)(zs:List Int)(sh:Bool)(y:LAsk):Prop where
 b:Below w.heap.size w V
 r2:Row V g2 165 (askC ask0)
 f:FIn V g4 S zs sh
 r5:Row V g5 165 (askC y)
 ne:g2≠g4∧g5≠g4∧g2≠g5
 lo:w.heap.size≤g2∧w.heap.size≤g4∧w.heap.size≤g5∧S≤w.heap.size
section
variable{w V V':World}{g2 g4 g5 S:Nat}{zs zs':List Int}{sh sh':Bool}{y y':LAsk}
theorem RS4.sg(h:RS4 w V g2 g4 g5 S zs sh y):S≤g4:=Lq h.lo.2.2.2 h.lo.2.1
theorem RS4.but(h:RS4 w V g2 g4 g5 S zs sh y)(hf:FIn V' g4 S zs' sh')(hb:But g4 V V'):RS4 w V' g2 g4 g5 S zs' sh' y:=
 ⟨h.b.trans (hb.below h.lo.2.1 h.b.size),hb.row h.r2 h.ne.1,hf,hb.row h.r5 h.ne.2.1,h.ne,h.lo⟩
theorem RS4.turn(h:RS4 w V g2 g4 g5 S zs sh y)(hr:Row V' g5 165 (askC y'))(ht:Turned V V' g5):RS4 w V' g2 g4 g5 S zs sh y':=
 ⟨h.b.trans (ht.below h.lo.2.2.1),ht.row h.r2 h.ne.2.2,h.f.keep h.sg (But.of_turned ht) h.ne.2.1 (Lq h.lo.2.2.2 h.lo.2.2.1),hr,h.ne,h.lo⟩
theorem RS4.set(h:RS4 w V g2 g4 g5 S zs sh y)(k:Nat)(u:Value)(e:(askC y).set k u=askC y'):RS4 w (V.setCell ⟨g5,k,none⟩ u) g2 g4 g5 S zs sh y':=
 h.turn (by have:=h.r5.set_ k u;rwa [e]at this) (Xa0 V ⟨g5,k,none⟩ u)
end
def ReadDone14(w:World)(r:Rd14)(e:Ending)(w':World):Prop:=e=.returned (.tuple #[.agg (askC r.y).toArray,.bool r.ok])∧r.y.owner.length=32∧Below w.heap.size w w'
theorem Xbl{w w':World}{r:Rd14}{y:LAsk}{b:Bool}(h:r=⟨y,b⟩)(ho:y.owner.length=32)(hb:Below w.heap.size w w'):ReadDone14 w r (.returned (.tuple #[.agg (askC y).toArray,.bool b])) w':=by
 subst h;exact⟨rfl,ho,hb⟩
theorem Xri(A:Option Addr)(n c S:Nat)(zs:List Int)(w:World)(hs:Sees w S A n (bv zs))(hS:S≤w.heap.size)(hnc:n≤c)(hc:c≤maxLen)(hz:AllBytes zs)(ht:numS zs false 4=0) :
 Calls Tryd.prog 62 #[.slice A n c] w (ReadDone14 w (rd14 zs)):=by
 have HL:=Hd (show zs.length=n by have:=hs.len;rwa [bL]at this);have HX:=Hd hs;have HCC:=Hd (And.intro hnc hc);have HZ:=Hd hz;have HS0:=Hd hS;have HT:=Hd ht;clear hs hnc hc hz ht hS;go_enter Tryd.func62,Tryd.ntmps62
 go_upto_region 2 with(first
  | ((with_reducible show wpList _ _ _ (⟨some 2,_,_,_,_,_⟩::_) _ _);go_must(refine Xa2 rfl 165 rfl (askC ask0) Xb1 ?_))
  | ((with_reducible show wpList _ _ _ (⟨some 7,_,_,_,_,_⟩::_) _ _);go_must(refine wpList_plain rfl fun K hK=>Xau _ _ _ rfl (by simp only[List.map_toArray,List.map_cons,List.map_nil];exact Xco _ _ _) (hK _ _ ?_)))
  | ((with_reducible show wpList _ _ _ (⟨some 4,_,_,_,_,_⟩::_) _ _);go_must(refine Xa2 rfl 180 rfl (fldC none 0 0 false) Xd5 ?_))
  | ((with_reducible show wpList _ _ _ (⟨none,Op.store 180 (.tmp 4) _,_,_,_,_⟩::_) _ _);go_must(refine Xa6 rfl 180 (.tmp 4) (.tmp 7) rfl (fldC A n c false) (Xd7 _ _ _ _) (Xdz _ _ _ _) rfl ?_ ?_ ?_;go_simp;go_simp;intro w4 hr4 hb4 hz4)))
 obtain⟨g2,hg2⟩:∃g,g=w.heap.size:=⟨_,rfl⟩;have BA:=Hd ((Br w.heap.size w).alloc (Lr _) (.cells (askC ask0).toArray 165));have R2:=Hd ((Row.new w 165 (askC ask0)).below hb4 (by simp));obtain⟨g4,hg4⟩:∃g,g=(w.alloc (.cells (askC ask0).toArray 165)).heap.size:=⟨_,rfl⟩;have H24:Hid (g4=w.heap.size+1):=Hd (by rw[hg4];simp);have H42:=Hd hg2;have B4:=Hd (BA.out.trans (hb4.mono BA.out.size));rw[←hg4]at hr4 ⊢;rw[←hg2]at R2 ⊢;have F4:Hid (FIn w4 g4 S zs false):=Hd ⟨⟨A,c,by rw[HL.out];exact hr4,by rw[HL.out];exact HX.out.below (B4.out.mono HS0.out),by rw[HL.out];exact HCC.out.1,HCC.out.2⟩,HZ.out⟩;have SG:Hid (S≤g4):=Hd (by have:=H24.out;have:=HS0.out;omega);clear hr4 hb4 hz4 hg2 hg4 BA;have HN:=Hd (Xcj g4 S 4 false zs w4 F4.out SG.out (by omega) (by omega));go_wp2_with fail;refine HN.out.mono ?_;rintro e w5 ⟨rfl,hf,hb⟩;have F5:=Hd hf;have HB5:=Hd hb;have R25:=Hd (hb.row R2.out (by have:=H24.out;have:=H42.out;omega));have B5:=Hd (B4.out.trans (hb.below (by have:=H24.out;omega) B4.out.size));have L25:=Hd R25.out.lt;clear hf hb HN R2 F4;go_upto_region 3 with(first
  | ((with_reducible show wpList _ _ _ (⟨some 9,_,_,_,_,_⟩::_) _ _);go_must(refine wpList_plain rfl fun K hK=>Xau _ _ _ rfl (by simp only[List.map_toArray,List.map_cons,List.map_nil];exact Xcz _) (hK _ _ ?_)))
  | ((with_reducible show wpList _ _ _ (⟨some 5,_,_,_,_,_⟩::_) _ _);go_must(refine Xa2 rfl 165 rfl (askC ask0) Xb1 ?_))
  | ((with_reducible show wpList _ _ _ (⟨none,Op.store 165 (.tmp 5) _,_,_,_,_⟩::_) _ _);go_must(refine Xa6 rfl 165 (.tmp 5) (.tmp 9) rfl (askC ⟨numS zs false 4,0,0,key0⟩) (Xa7 Xbc.1) (Xba _) rfl ?_ ?_ ?_;go_simp;go_simp;intro w6 hr6 hb6 hz6)))
 obtain⟨g5,hg5⟩:∃g,g=w5.heap.size:=⟨_,rfl⟩;have P6:Hid (RS4 w w6 g2 g4 w5.heap.size S (resS zs 4) (shS zs false 4) ⟨numS zs false 4,0,0,key0⟩):=Hd ⟨B5.out.trans (hb6.mono B5.out.size),R25.out.below hb6 R25.out.lt,F5.out.keep SG.out (But.of_below hb6 w5.heap.size) (Ne.symm (Nat.ne_of_lt F5.out.lt)) (Lq HS0.out B5.out.size),hr6,⟨by have:=H24.out;have:=H42.out;omega,Ne.symm (Nat.ne_of_lt F5.out.lt),Nat.ne_of_lt L25.out⟩,⟨Nat.le_of_eq H42.out.symm,by have:=H24.out;omega,B5.out.size,HS0.out⟩⟩;rw[←hg5]at P6 ⊢;clear hr6 hb6 hz6 hg5 F5 HB5 R25 B5 L25 B4 SG H24 H42 HX HCC HL;rw[HT.out]at P6;have c50:w6.cell? ⟨g5,0,none⟩=some (.int .u64 0):=P6.out.r5.cell 0;go_upto_region 6 with fail
 clear c50;have HN:=Hd (Xcj g4 S 8 (shS zs false 4) (resS zs 4) w6 P6.out.f P6.out.sg (by omega) (by omega));go_wp2_with fail;refine HN.out.mono ?_;rintro e w7 ⟨rfl,hf,hb⟩;have PM:=Hd (P6.out.but hf hb);clear hf hb HN P6;have ck:w7.cell? ⟨g5,1,none⟩=some (.int .u64 0):=PM.out.r5.cell 1;have fk:=PM.out.r5.frozen 1;have P7:=Hd (PM.out.set (y':=⟨0,numS (resS zs 4) (shS zs false 4) 8,0,key0⟩) 1 (.int .u64 (numS (resS zs 4) (shS zs false 4) 8)) rfl);go_upto_region 7 with fail
 clear ck fk PM;generalize w7.setCell ⟨g5,1,none⟩ (.int .u64 (numS (resS zs 4) (shS zs false 4) 8))=w8 at *;have HN:=Hd (Xcj g4 S 8 (shS (resS zs 4) (shS zs false 4) 8) (resS (resS zs 4) 8) w8 P7.out.f P7.out.sg (by omega) (by omega));go_wp2_with fail;refine HN.out.mono ?_;rintro e w9 ⟨rfl,hf,hb⟩;have PM:=Hd (P7.out.but hf hb);clear hf hb HN P7;have ck:w9.cell? ⟨g5,2,none⟩=some (.int .u64 0):=PM.out.r5.cell 2;have fk:=PM.out.r5.frozen 2;have P8:=Hd (PM.out.set (y':=⟨0,numS (resS zs 4) (shS zs false 4) 8,numS (resS (resS zs 4) 8) (shS (resS zs 4) (shS zs false 4) 8) 8,key0⟩) 2 (.int .u64 (numS (resS (resS zs 4) 8) (shS (resS zs 4) (shS zs false 4) 8) 8)) rfl);go_upto_region 8 with fail
 clear ck fk PM;generalize w9.setCell ⟨g5,2,none⟩ (.int .u64 (numS (resS (resS zs 4) 8) (shS (resS zs 4) (shS zs false 4) 8) 8))=w10 at *;have HN:=Hd (key14 g4 S (shS (resS (resS zs 4) 8) (shS (resS zs 4) (shS zs false 4) 8) 8) (resS (resS (resS zs 4) 8) 8) w10 P8.out.f P8.out.sg);go_wp2_with fail;refine HN.out.mono ?_;rintro e w11 ⟨rfl,hf,hb⟩;have PM:=Hd (P8.out.but hf hb);clear hf hb HN P8;go_upto_region 15 with((with_reducible show wpList _ _ _ (⟨none,Op.store 68 _ _,_,_,_,_⟩::_) _ _);go_must(refine Xbk rfl 68 (.tmp 20) (.tmp 19) rfl g5 165 3 (askC ⟨0,numS (resS zs 4) (shS zs false 4) 8,numS (resS (resS zs 4) 8) (shS (resS zs 4) (shS zs false 4) 8) 8,key0⟩) (bv (keyS (resS (resS (resS zs 4) 8) 8))) PM.out.r5 (Xbf (Xcv _)) (by rw[bL,Xcv,Xaq Xbc.1];decide) (Xcd _) ?_ ?_ ?_;go_simp;go_simp;intro w12 hr9 ht9))
 rw[Xk2 (t:=_) (c:=_) (s:=_) Xbc.1 (Xcv _)]at hr9;have P9:=Hd (PM.out.turn hr9 ht9);clear hr9 ht9 PM;obtain⟨A5,c5,hrf,_,_,_⟩:=P9.out.f.is;have HRF:=Hd hrf;clear hrf;have HOL:Hid ((⟨0,numS (resS zs 4) (shS zs false 4) 8,numS (resS (resS zs 4) 8) (shS (resS zs 4) (shS zs false 4) 8) 8,keyS (resS (resS (resS zs 4) 8) 8)⟩:LAsk).owner.length=32):=Hd (Xcv _);have HE:Hid (rd14 zs=end14 ⟨0,numS (resS zs 4) (shS zs false 4) 8,numS (resS (resS zs 4) 8) (shS (resS zs 4) (shS zs false 4) 8) 8,keyS (resS (resS (resS zs 4) 8) 8)⟩ ((resS (resS (resS (resS zs 4) 8) 8) 32)) ((shS (resS (resS (resS zs 4) 8) 8) (shS (resS (resS zs 4) 8) (shS (resS zs 4) (shS zs false 4) 8) 8) 32))):=Hd (by unfold rd14;dsimp only;rw[HT.out];rfl);obtain⟨n5,hn5⟩:∃n,n=((resS (resS (resS (resS zs 4) 8) 8) 32)).length:=⟨_,rfl⟩;rw[←hn5]at HRF;have HN5:=Hd hn5;clear hn5;obtain⟨y5,hy5⟩:∃y,y=(⟨0,numS (resS zs 4) (shS zs false 4) 8,numS (resS (resS zs 4) 8) (shS (resS zs 4) (shS zs false 4) 8) 8,keyS (resS (resS (resS zs 4) 8) 8)⟩:LAsk):=⟨_,rfl⟩;rw[←hy5]at P9 HOL HE;clear hy5;obtain⟨b5,hb5⟩:∃b,b=(shS (resS (resS (resS zs 4) 8) 8) (shS (resS (resS zs 4) 8) (shS (resS zs 4) (shS zs false 4) 8) 8) 32):=⟨_,rfl⟩;rw[←hb5]at HE HRF;clear hb5;cases b5 with
 | true =>
  have HE2:Hid (rd14 zs=⟨y5,false⟩):=Hd (HE.out.trans (by unfold end14;rw[←HN5.out];rfl));have HS:Hid (w12.drew.cell? ⟨g4,1,none⟩=some (.bool true)∧w12.drew.cell? ⟨g4,0,none⟩=some (.slice A5 n5 c5)∧Row w12.drew g5 165 (askC y5)):=Hd ⟨HRF.out.drew.cell 1,HRF.out.drew.cell 0,P9.out.r5.drew⟩;refine wp_region_held_drew (S:=(fun V=>V.cell? ⟨g4,1,none⟩=some (.bool true)∧V.cell? ⟨g4,0,none⟩=some (.slice A5 n5 c5)∧Row V g5 165 (askC y5))) (by kernel_rfl) HS.out (fun _=>?_);refine Tl 0 (v:=.agg (askC y5).toArray) rfl (Or.inl ⟨by rfl,fun wz hwz=>Xa4 wz 165 (.tmp 5) rfl ⟨g5,0,none⟩ (askC y5) _ Tryd.underlying165 rfl (Xa7 HOL.out) (fun j u hu=>by rw[Xac,Nat.zero_add];exact(hwz.2.2.cell j).trans hu) (by go_simp)⟩) HS.out ?_;try simp only[nm]
  refine Tk 1 rfl ?_ HS.out ?_ ⟨?_,rfl⟩
  ·intro w hw;(try dsimp only at hw);obtain⟨hc1,hc0,hr5⟩:=hw;go_simp;try with_reducible rfl
  try simp only[nm]
  refine Tk 2 rfl ?_ HS.out ?_ ⟨?_,rfl⟩
  ·intro w hw;(try dsimp only at hw);obtain⟨hc1,hc0,hr5⟩:=hw;go_simp;try with_reducible rfl
  try simp only[nm]
  refine Tk 3 rfl ?_ HS.out ?_ ⟨?_,rfl⟩
  ·intro w hw;(try dsimp only at hw);obtain⟨hc1,hc0,hr5⟩:=hw;go_simp;try with_reducible rfl
  try simp only[nm]
  refine Tk 4 rfl ?_ HS.out ?_ ⟨?_,rfl⟩
  ·intro w hw;(try dsimp only at hw);obtain⟨hc1,hc0,hr5⟩:=hw;go_simp;try with_reducible rfl
  try simp only[nm]
  refine Tl 5 (v:=undef) rfl (Or.inr ⟨by rfl,rfl⟩) HS.out ?_;try simp only[nm]
  refine Tl 6 (v:=undef) rfl (Or.inr ⟨by rfl,rfl⟩) HS.out ?_;try simp only[nm]
  refine Tl 7 (v:=undef) rfl (Or.inr ⟨by rfl,rfl⟩) HS.out ?_;try simp only[nm]
  refine Tl 8 (v:=undef) rfl (Or.inr ⟨by rfl,rfl⟩) HS.out ?_;try simp only[nm]
  refine Tk 9 rfl ?_ HS.out ?_ ⟨?_,rfl⟩
  ·intro w hw;(try dsimp only at hw);obtain⟨hc1,hc0,hr5⟩:=hw;go_simp;try with_reducible rfl
  try simp only[nm]
  refine Rl 10 rfl fun K hK=>?_
  refine Xal 165 (.tmp 2) (.tmp 33) rfl g2 165 0 (askC ask0) (askC y5) P9.out.r2.drew (Xa7 HOL.out) (by rw[Xaq HOL.out];decide) (Xba _) (by go_simp) (by go_simp) (fun w9 hr9 ht9=>?_);rw[List.take_zero,List.nil_append,Nat.zero_add,List.drop_of_length_le (by rw[Xaq HOL.out];decide),List.append_nil]at hr9;have R9:=Hd hr9;have BF:=Hd ((show Below w.heap.size w w12.drew from P9.out.b.trans ⟨rfl,rfl,rfl,Lr _,fun _ _=>rfl⟩).trans (ht9.below P9.out.lo.1));have HS9:Hid (w9.cell? ⟨g4,1,none⟩=some (.bool true)∧w9.cell? ⟨g4,0,none⟩=some (.slice A5 n5 c5)∧Row w9 g5 165 (askC y5)):=Hd ⟨(ht9.row HRF.out.drew (Ne.symm P9.out.ne.1)).cell 1,(ht9.row HRF.out.drew (Ne.symm P9.out.ne.1)).cell 0,ht9.row P9.out.r5.drew (Ne.symm P9.out.ne.2.2)⟩;clear hr9 ht9;refine hK.out _ _ HS9.out ?_;clear hK K;try simp only[Act.put]
  refine Tk 11 rfl ?_ HS9.out ?_ ⟨?_,rfl⟩
  ·intro w hw;(try dsimp only at hw);obtain⟨hc1,hc0,hr5⟩:=hw;go_simp;try with_reducible rfl
  try simp only[nm]
  refine wpAnyH_done (by kernel_rfl) ?_ _;go_wp2_with fail;refine bodyPost_ret (Xaj (h:=rfl) _ w9 ⟨g2,0,none⟩ (.agg (askC y5).toArray) (.bool false) (by rfl) (by rfl) (Xav R9.out (Xa7 HOL.out))) rfl ?_;exact Xbl HE2.out HOL.out BF.out
 | false =>
  by_cases hz:n5=0
  ·subst hz;have HE2:Hid (rd14 zs=⟨y5,true⟩):=Hd (HE.out.trans (by unfold end14;rw[←HN5.out];simp));have HS:Hid (w12.drew.cell? ⟨g4,1,none⟩=some (.bool false)∧w12.drew.cell? ⟨g4,0,none⟩=some (.slice A5 0 c5)∧Row w12.drew g5 165 (askC y5)):=Hd ⟨HRF.out.drew.cell 1,HRF.out.drew.cell 0,P9.out.r5.drew⟩;refine wp_region_held_drew (S:=(fun V=>V.cell? ⟨g4,1,none⟩=some (.bool false)∧V.cell? ⟨g4,0,none⟩=some (.slice A5 0 c5)∧Row V g5 165 (askC y5))) (by kernel_rfl) HS.out (fun _=>?_);refine Tl 0 (v:=.agg (askC y5).toArray) rfl (Or.inl ⟨by rfl,fun wz hwz=>Xa4 wz 165 (.tmp 5) rfl ⟨g5,0,none⟩ (askC y5) _ Tryd.underlying165 rfl (Xa7 HOL.out) (fun j u hu=>by rw[Xac,Nat.zero_add];exact(hwz.2.2.cell j).trans hu) (by go_simp)⟩) HS.out ?_;try simp only[nm]
   refine Tk 1 rfl ?_ HS.out ?_ ⟨?_,rfl⟩
   ·intro w hw;(try dsimp only at hw);obtain⟨hc1,hc0,hr5⟩:=hw;go_simp;try with_reducible rfl
   try simp only[nm]
   refine Tk 2 rfl ?_ HS.out ?_ ⟨?_,rfl⟩
   ·intro w hw;(try dsimp only at hw);obtain⟨hc1,hc0,hr5⟩:=hw;go_simp;try with_reducible rfl
   try simp only[nm]
   refine Tk 3 rfl ?_ HS.out ?_ ⟨?_,rfl⟩
   ·intro w hw;(try dsimp only at hw);obtain⟨hc1,hc0,hr5⟩:=hw;go_simp;try with_reducible rfl
   try simp only[nm]
   refine Tk 4 rfl ?_ HS.out ?_ ⟨?_,rfl⟩
   ·intro w hw;(try dsimp only at hw);obtain⟨hc1,hc0,hr5⟩:=hw;go_simp;try with_reducible rfl
   try simp only[nm]
   refine Tk 5 rfl ?_ HS.out ?_ ⟨?_,rfl⟩
   ·intro w hw;(try dsimp only at hw);obtain⟨hc1,hc0,hr5⟩:=hw;go_simp;try with_reducible rfl
   try simp only[nm]
   refine Tk 6 rfl ?_ HS.out ?_ ⟨?_,rfl⟩
   ·intro w hw;(try dsimp only at hw);obtain⟨hc1,hc0,hr5⟩:=hw;go_simp;try with_reducible rfl
   try simp only[nm]
   refine Tk 7 rfl ?_ HS.out ?_ ⟨?_,rfl⟩
   ·intro w hw;(try dsimp only at hw);obtain⟨hc1,hc0,hr5⟩:=hw;go_simp;try with_reducible rfl
   try simp only[nm]
   refine Tk 8 rfl ?_ HS.out ?_ ⟨?_,rfl⟩
   ·intro w hw;(try dsimp only at hw);obtain⟨hc1,hc0,hr5⟩:=hw;go_simp;try with_reducible rfl
   try simp only[nm]
   refine Tk 9 rfl ?_ HS.out ?_ ⟨?_,rfl⟩
   ·intro w hw;(try dsimp only at hw);obtain⟨hc1,hc0,hr5⟩:=hw;go_simp;try with_reducible rfl
   try simp only[nm]
   refine Rl 10 rfl fun K hK=>?_
   refine Xal 165 (.tmp 2) (.tmp 33) rfl g2 165 0 (askC ask0) (askC y5) P9.out.r2.drew (Xa7 HOL.out) (by rw[Xaq HOL.out];decide) (Xba _) (by go_simp) (by go_simp) (fun w9 hr9 ht9=>?_);rw[List.take_zero,List.nil_append,Nat.zero_add,List.drop_of_length_le (by rw[Xaq HOL.out];decide),List.append_nil]at hr9;have R9:=Hd hr9;have BF:=Hd ((show Below w.heap.size w w12.drew from P9.out.b.trans ⟨rfl,rfl,rfl,Lr _,fun _ _=>rfl⟩).trans (ht9.below P9.out.lo.1));have HS9:Hid (w9.cell? ⟨g4,1,none⟩=some (.bool false)∧w9.cell? ⟨g4,0,none⟩=some (.slice A5 0 c5)∧Row w9 g5 165 (askC y5)):=Hd ⟨(ht9.row HRF.out.drew (Ne.symm P9.out.ne.1)).cell 1,(ht9.row HRF.out.drew (Ne.symm P9.out.ne.1)).cell 0,ht9.row P9.out.r5.drew (Ne.symm P9.out.ne.2.2)⟩;clear hr9 ht9;refine hK.out _ _ HS9.out ?_;clear hK K;try simp only[Act.put]
   refine Tk 11 rfl ?_ HS9.out ?_ ⟨?_,rfl⟩
   ·intro w hw;(try dsimp only at hw);obtain⟨hc1,hc0,hr5⟩:=hw;go_simp;try with_reducible rfl
   try simp only[nm]
   refine wpAnyH_done (by kernel_rfl) ?_ _;go_wp2_with fail;refine bodyPost_ret (Xaj (h:=rfl) _ w9 ⟨g2,0,none⟩ (.agg (askC y5).toArray) (.bool true) (by rfl) (by rfl) (Xav R9.out (Xa7 HOL.out))) rfl ?_;exact Xbl HE2.out HOL.out BF.out
  ·have hz2:((n5:Int)==0)=false:=by simpa using hz
   have HE2:Hid (rd14 zs=⟨y5,false⟩):=Hd (HE.out.trans (by unfold end14;rw[←HN5.out];simp[hz]));have HS:Hid (w12.drew.cell? ⟨g4,1,none⟩=some (.bool false)∧w12.drew.cell? ⟨g4,0,none⟩=some (.slice A5 n5 c5)∧Row w12.drew g5 165 (askC y5)):=Hd ⟨HRF.out.drew.cell 1,HRF.out.drew.cell 0,P9.out.r5.drew⟩;refine wp_region_held_drew (S:=(fun V=>V.cell? ⟨g4,1,none⟩=some (.bool false)∧V.cell? ⟨g4,0,none⟩=some (.slice A5 n5 c5)∧Row V g5 165 (askC y5))) (by kernel_rfl) HS.out (fun _=>?_);refine Tl 0 (v:=.agg (askC y5).toArray) rfl (Or.inl ⟨by rfl,fun wz hwz=>Xa4 wz 165 (.tmp 5) rfl ⟨g5,0,none⟩ (askC y5) _ Tryd.underlying165 rfl (Xa7 HOL.out) (fun j u hu=>by rw[Xac,Nat.zero_add];exact(hwz.2.2.cell j).trans hu) (by go_simp)⟩) HS.out ?_;try simp only[nm]
   refine Tk 1 rfl ?_ HS.out ?_ ⟨?_,rfl⟩
   ·intro w hw;(try dsimp only at hw);obtain⟨hc1,hc0,hr5⟩:=hw;go_simp;try with_reducible rfl
   try simp only[nm]
   refine Tk 2 rfl ?_ HS.out ?_ ⟨?_,rfl⟩
   ·intro w hw;(try dsimp only at hw);obtain⟨hc1,hc0,hr5⟩:=hw;go_simp;try with_reducible rfl
   try simp only[nm]
   refine Tk 3 rfl ?_ HS.out ?_ ⟨?_,rfl⟩
   ·intro w hw;(try dsimp only at hw);obtain⟨hc1,hc0,hr5⟩:=hw;go_simp;try with_reducible rfl
   try simp only[nm]
   refine Tk 4 rfl ?_ HS.out ?_ ⟨?_,rfl⟩
   ·intro w hw;(try dsimp only at hw);obtain⟨hc1,hc0,hr5⟩:=hw;go_simp;try with_reducible rfl
   try simp only[nm]
   refine Tk 5 rfl ?_ HS.out ?_ ⟨?_,rfl⟩
   ·intro w hw;(try dsimp only at hw);obtain⟨hc1,hc0,hr5⟩:=hw;go_simp;try with_reducible rfl
   try simp only[nm]
   refine Tk 6 rfl ?_ HS.out ?_ ⟨?_,rfl⟩
   ·intro w hw;(try dsimp only at hw);obtain⟨hc1,hc0,hr5⟩:=hw;go_simp;try with_reducible rfl
   try simp only[nm]
   refine Tk 7 rfl ?_ HS.out ?_ ⟨?_,rfl⟩
   ·intro w hw;(try dsimp only at hw);obtain⟨hc1,hc0,hr5⟩:=hw;go_simp;try with_reducible rfl
   try simp only[nm]
   refine Tk 8 rfl ?_ HS.out ?_ ⟨?_,rfl⟩
   ·intro w hw;(try dsimp only at hw);obtain⟨hc1,hc0,hr5⟩:=hw;go_simp;try with_reducible rfl
   try simp only[nm]
   refine Tk 9 rfl ?_ HS.out ?_ ⟨?_,rfl⟩
   ·intro w hw;(try dsimp only at hw);obtain⟨hc1,hc0,hr5⟩:=hw;go_simp;try with_reducible rfl
   try simp only[nm]
   refine Rl 10 rfl fun K hK=>?_
   refine Xal 165 (.tmp 2) (.tmp 33) rfl g2 165 0 (askC ask0) (askC y5) P9.out.r2.drew (Xa7 HOL.out) (by rw[Xaq HOL.out];decide) (Xba _) (by go_simp) (by go_simp) (fun w9 hr9 ht9=>?_);rw[List.take_zero,List.nil_append,Nat.zero_add,List.drop_of_length_le (by rw[Xaq HOL.out];decide),List.append_nil]at hr9;have R9:=Hd hr9;have BF:=Hd ((show Below w.heap.size w w12.drew from P9.out.b.trans ⟨rfl,rfl,rfl,Lr _,fun _ _=>rfl⟩).trans (ht9.below P9.out.lo.1));have HS9:Hid (w9.cell? ⟨g4,1,none⟩=some (.bool false)∧w9.cell? ⟨g4,0,none⟩=some (.slice A5 n5 c5)∧Row w9 g5 165 (askC y5)):=Hd ⟨(ht9.row HRF.out.drew (Ne.symm P9.out.ne.1)).cell 1,(ht9.row HRF.out.drew (Ne.symm P9.out.ne.1)).cell 0,ht9.row P9.out.r5.drew (Ne.symm P9.out.ne.2.2)⟩;clear hr9 ht9;refine hK.out _ _ HS9.out ?_;clear hK K;try simp only[Act.put]
   refine Tk 11 rfl ?_ HS9.out ?_ ⟨?_,rfl⟩
   ·intro w hw;(try dsimp only at hw);obtain⟨hc1,hc0,hr5⟩:=hw;go_simp;try with_reducible rfl
   try simp only[nm]
   refine wpAnyH_done (by kernel_rfl) ?_ _;go_wp2_with fail;refine bodyPost_ret (Xaj (h:=rfl) _ w9 ⟨g2,0,none⟩ (.agg (askC y5).toArray) (.bool false) (by rfl) (by rfl) (Xav R9.out (Xa7 HOL.out))) rfl ?_;exact Xbl HE2.out HOL.out BF.out
theorem Xrx(A:Option Addr)(n c S:Nat)(zs:List Int)(w:World)(hs:Sees w S A n (bv zs))(hS:S≤w.heap.size)(hnc:n≤c)(hc:c≤maxLen)(hz:AllBytes zs)(ht:numS zs false 4=1) :
 Calls Tryd.prog 62 #[.slice A n c] w (ReadDone14 w (rd14 zs)):=by
 have HL:=Hd (show zs.length=n by have:=hs.len;rwa [bL]at this);have HX:=Hd hs;have HCC:=Hd (And.intro hnc hc);have HZ:=Hd hz;have HS0:=Hd hS;have HT:=Hd ht;clear hs hnc hc hz ht hS;go_enter Tryd.func62,Tryd.ntmps62
 go_upto_region 2 with(first
  | ((with_reducible show wpList _ _ _ (⟨some 2,_,_,_,_,_⟩::_) _ _);go_must(refine Xa2 rfl 165 rfl (askC ask0) Xb1 ?_))
  | ((with_reducible show wpList _ _ _ (⟨some 7,_,_,_,_,_⟩::_) _ _);go_must(refine wpList_plain rfl fun K hK=>Xau _ _ _ rfl (by simp only[List.map_toArray,List.map_cons,List.map_nil];exact Xco _ _ _) (hK _ _ ?_)))
  | ((with_reducible show wpList _ _ _ (⟨some 4,_,_,_,_,_⟩::_) _ _);go_must(refine Xa2 rfl 180 rfl (fldC none 0 0 false) Xd5 ?_))
  | ((with_reducible show wpList _ _ _ (⟨none,Op.store 180 (.tmp 4) _,_,_,_,_⟩::_) _ _);go_must(refine Xa6 rfl 180 (.tmp 4) (.tmp 7) rfl (fldC A n c false) (Xd7 _ _ _ _) (Xdz _ _ _ _) rfl ?_ ?_ ?_;go_simp;go_simp;intro w4 hr4 hb4 hz4)))
 obtain⟨g2,hg2⟩:∃g,g=w.heap.size:=⟨_,rfl⟩;have BA:=Hd ((Br w.heap.size w).alloc (Lr _) (.cells (askC ask0).toArray 165));have R2:=Hd ((Row.new w 165 (askC ask0)).below hb4 (by simp));obtain⟨g4,hg4⟩:∃g,g=(w.alloc (.cells (askC ask0).toArray 165)).heap.size:=⟨_,rfl⟩;have H24:Hid (g4=w.heap.size+1):=Hd (by rw[hg4];simp);have H42:=Hd hg2;have B4:=Hd (BA.out.trans (hb4.mono BA.out.size));rw[←hg4]at hr4 ⊢;rw[←hg2]at R2 ⊢;have F4:Hid (FIn w4 g4 S zs false):=Hd ⟨⟨A,c,by rw[HL.out];exact hr4,by rw[HL.out];exact HX.out.below (B4.out.mono HS0.out),by rw[HL.out];exact HCC.out.1,HCC.out.2⟩,HZ.out⟩;have SG:Hid (S≤g4):=Hd (by have:=H24.out;have:=HS0.out;omega);clear hr4 hb4 hz4 hg2 hg4 BA;have HN:=Hd (Xcj g4 S 4 false zs w4 F4.out SG.out (by omega) (by omega));go_wp2_with fail;refine HN.out.mono ?_;rintro e w5 ⟨rfl,hf,hb⟩;have F5:=Hd hf;have HB5:=Hd hb;have R25:=Hd (hb.row R2.out (by have:=H24.out;have:=H42.out;omega));have B5:=Hd (B4.out.trans (hb.below (by have:=H24.out;omega) B4.out.size));have L25:=Hd R25.out.lt;clear hf hb HN R2 F4;go_upto_region 3 with(first
  | ((with_reducible show wpList _ _ _ (⟨some 9,_,_,_,_,_⟩::_) _ _);go_must(refine wpList_plain rfl fun K hK=>Xau _ _ _ rfl (by simp only[List.map_toArray,List.map_cons,List.map_nil];exact Xcz _) (hK _ _ ?_)))
  | ((with_reducible show wpList _ _ _ (⟨some 5,_,_,_,_,_⟩::_) _ _);go_must(refine Xa2 rfl 165 rfl (askC ask0) Xb1 ?_))
  | ((with_reducible show wpList _ _ _ (⟨none,Op.store 165 (.tmp 5) _,_,_,_,_⟩::_) _ _);go_must(refine Xa6 rfl 165 (.tmp 5) (.tmp 9) rfl (askC ⟨numS zs false 4,0,0,key0⟩) (Xa7 Xbc.1) (Xba _) rfl ?_ ?_ ?_;go_simp;go_simp;intro w6 hr6 hb6 hz6)))
 obtain⟨g5,hg5⟩:∃g,g=w5.heap.size:=⟨_,rfl⟩;have P6:Hid (RS4 w w6 g2 g4 w5.heap.size S (resS zs 4) (shS zs false 4) ⟨numS zs false 4,0,0,key0⟩):=Hd ⟨B5.out.trans (hb6.mono B5.out.size),R25.out.below hb6 R25.out.lt,F5.out.keep SG.out (But.of_below hb6 w5.heap.size) (Ne.symm (Nat.ne_of_lt F5.out.lt)) (Lq HS0.out B5.out.size),hr6,⟨by have:=H24.out;have:=H42.out;omega,Ne.symm (Nat.ne_of_lt F5.out.lt),Nat.ne_of_lt L25.out⟩,⟨Nat.le_of_eq H42.out.symm,by have:=H24.out;omega,B5.out.size,HS0.out⟩⟩;rw[←hg5]at P6 ⊢;clear hr6 hb6 hz6 hg5 F5 HB5 R25 B5 L25 B4 SG H24 H42 HX HCC HL;rw[HT.out]at P6;have c50:w6.cell? ⟨g5,0,none⟩=some (.int .u64 1):=P6.out.r5.cell 0;go_upto_region 10 with fail
 clear c50;have HN:=Hd (key14 g4 S (shS zs false 4) (resS zs 4) w6 P6.out.f P6.out.sg);go_wp2_with fail;refine HN.out.mono ?_;rintro e w7 ⟨rfl,hf,hb⟩;have PM:=Hd (P6.out.but hf hb);clear hf hb HN P6;go_upto_region 15 with((with_reducible show wpList _ _ _ (⟨none,Op.store 68 _ _,_,_,_,_⟩::_) _ _);go_must(refine Xbk rfl 68 (.tmp 24) (.tmp 23) rfl g5 165 3 (askC ⟨1,0,0,key0⟩) (bv (keyS (resS zs 4))) PM.out.r5 (Xbf (Xcv _)) (by rw[bL,Xcv,Xaq Xbc.1];decide) (Xcd _) ?_ ?_ ?_;go_simp;go_simp;intro w8 hr9 ht9))
 rw[Xk2 (t:=_) (c:=_) (s:=_) Xbc.1 (Xcv _)]at hr9;have P7:=Hd (PM.out.turn hr9 ht9);clear hr9 ht9 PM;obtain⟨A5,c5,hrf,_,_,_⟩:=P7.out.f.is;have HRF:=Hd hrf;clear hrf;have HOL:Hid ((⟨1,0,0,keyS (resS zs 4)⟩:LAsk).owner.length=32):=Hd (Xcv _);have HE:Hid (rd14 zs=end14 ⟨1,0,0,keyS (resS zs 4)⟩ ((resS (resS zs 4) 32)) ((shS (resS zs 4) (shS zs false 4) 32))):=Hd (by unfold rd14;dsimp only;rw[HT.out];rfl);obtain⟨n5,hn5⟩:∃n,n=((resS (resS zs 4) 32)).length:=⟨_,rfl⟩;rw[←hn5]at HRF;have HN5:=Hd hn5;clear hn5;obtain⟨y5,hy5⟩:∃y,y=(⟨1,0,0,keyS (resS zs 4)⟩:LAsk):=⟨_,rfl⟩;rw[←hy5]at P7 HOL HE;clear hy5;obtain⟨b5,hb5⟩:∃b,b=(shS (resS zs 4) (shS zs false 4) 32):=⟨_,rfl⟩;rw[←hb5]at HE HRF;clear hb5;cases b5 with
 | true =>
  have HE2:Hid (rd14 zs=⟨y5,false⟩):=Hd (HE.out.trans (by unfold end14;rw[←HN5.out];rfl));have HS:Hid (w8.drew.cell? ⟨g4,1,none⟩=some (.bool true)∧w8.drew.cell? ⟨g4,0,none⟩=some (.slice A5 n5 c5)∧Row w8.drew g5 165 (askC y5)):=Hd ⟨HRF.out.drew.cell 1,HRF.out.drew.cell 0,P7.out.r5.drew⟩;refine wp_region_held_drew (S:=(fun V=>V.cell? ⟨g4,1,none⟩=some (.bool true)∧V.cell? ⟨g4,0,none⟩=some (.slice A5 n5 c5)∧Row V g5 165 (askC y5))) (by kernel_rfl) HS.out (fun _=>?_);refine Tl 0 (v:=.agg (askC y5).toArray) rfl (Or.inl ⟨by rfl,fun wz hwz=>Xa4 wz 165 (.tmp 5) rfl ⟨g5,0,none⟩ (askC y5) _ Tryd.underlying165 rfl (Xa7 HOL.out) (fun j u hu=>by rw[Xac,Nat.zero_add];exact(hwz.2.2.cell j).trans hu) (by go_simp)⟩) HS.out ?_;try simp only[nm]
  refine Tk 1 rfl ?_ HS.out ?_ ⟨?_,rfl⟩
  ·intro w hw;(try dsimp only at hw);obtain⟨hc1,hc0,hr5⟩:=hw;go_simp;try with_reducible rfl
  try simp only[nm]
  refine Tk 2 rfl ?_ HS.out ?_ ⟨?_,rfl⟩
  ·intro w hw;(try dsimp only at hw);obtain⟨hc1,hc0,hr5⟩:=hw;go_simp;try with_reducible rfl
  try simp only[nm]
  refine Tk 3 rfl ?_ HS.out ?_ ⟨?_,rfl⟩
  ·intro w hw;(try dsimp only at hw);obtain⟨hc1,hc0,hr5⟩:=hw;go_simp;try with_reducible rfl
  try simp only[nm]
  refine Tk 4 rfl ?_ HS.out ?_ ⟨?_,rfl⟩
  ·intro w hw;(try dsimp only at hw);obtain⟨hc1,hc0,hr5⟩:=hw;go_simp;try with_reducible rfl
  try simp only[nm]
  refine Tl 5 (v:=undef) rfl (Or.inr ⟨by rfl,rfl⟩) HS.out ?_;try simp only[nm]
  refine Tl 6 (v:=undef) rfl (Or.inr ⟨by rfl,rfl⟩) HS.out ?_;try simp only[nm]
  refine Tl 7 (v:=undef) rfl (Or.inr ⟨by rfl,rfl⟩) HS.out ?_;try simp only[nm]
  refine Tl 8 (v:=undef) rfl (Or.inr ⟨by rfl,rfl⟩) HS.out ?_;try simp only[nm]
  refine Tk 9 rfl ?_ HS.out ?_ ⟨?_,rfl⟩
  ·intro w hw;(try dsimp only at hw);obtain⟨hc1,hc0,hr5⟩:=hw;go_simp;try with_reducible rfl
  try simp only[nm]
  refine Rl 10 rfl fun K hK=>?_
  refine Xal 165 (.tmp 2) (.tmp 33) rfl g2 165 0 (askC ask0) (askC y5) P7.out.r2.drew (Xa7 HOL.out) (by rw[Xaq HOL.out];decide) (Xba _) (by go_simp) (by go_simp) (fun w9 hr9 ht9=>?_);rw[List.take_zero,List.nil_append,Nat.zero_add,List.drop_of_length_le (by rw[Xaq HOL.out];decide),List.append_nil]at hr9;have R9:=Hd hr9;have BF:=Hd ((show Below w.heap.size w w8.drew from P7.out.b.trans ⟨rfl,rfl,rfl,Lr _,fun _ _=>rfl⟩).trans (ht9.below P7.out.lo.1));have HS9:Hid (w9.cell? ⟨g4,1,none⟩=some (.bool true)∧w9.cell? ⟨g4,0,none⟩=some (.slice A5 n5 c5)∧Row w9 g5 165 (askC y5)):=Hd ⟨(ht9.row HRF.out.drew (Ne.symm P7.out.ne.1)).cell 1,(ht9.row HRF.out.drew (Ne.symm P7.out.ne.1)).cell 0,ht9.row P7.out.r5.drew (Ne.symm P7.out.ne.2.2)⟩;clear hr9 ht9;refine hK.out _ _ HS9.out ?_;clear hK K;try simp only[Act.put]
  refine Tk 11 rfl ?_ HS9.out ?_ ⟨?_,rfl⟩
  ·intro w hw;(try dsimp only at hw);obtain⟨hc1,hc0,hr5⟩:=hw;go_simp;try with_reducible rfl
  try simp only[nm]
  refine wpAnyH_done (by kernel_rfl) ?_ _;go_wp2_with fail;refine bodyPost_ret (Xaj (h:=rfl) _ w9 ⟨g2,0,none⟩ (.agg (askC y5).toArray) (.bool false) (by rfl) (by rfl) (Xav R9.out (Xa7 HOL.out))) rfl ?_;exact Xbl HE2.out HOL.out BF.out
 | false =>
  by_cases hz:n5=0
  ·subst hz;have HE2:Hid (rd14 zs=⟨y5,true⟩):=Hd (HE.out.trans (by unfold end14;rw[←HN5.out];simp));have HS:Hid (w8.drew.cell? ⟨g4,1,none⟩=some (.bool false)∧w8.drew.cell? ⟨g4,0,none⟩=some (.slice A5 0 c5)∧Row w8.drew g5 165 (askC y5)):=Hd ⟨HRF.out.drew.cell 1,HRF.out.drew.cell 0,P7.out.r5.drew⟩;refine wp_region_held_drew (S:=(fun V=>V.cell? ⟨g4,1,none⟩=some (.bool false)∧V.cell? ⟨g4,0,none⟩=some (.slice A5 0 c5)∧Row V g5 165 (askC y5))) (by kernel_rfl) HS.out (fun _=>?_);refine Tl 0 (v:=.agg (askC y5).toArray) rfl (Or.inl ⟨by rfl,fun wz hwz=>Xa4 wz 165 (.tmp 5) rfl ⟨g5,0,none⟩ (askC y5) _ Tryd.underlying165 rfl (Xa7 HOL.out) (fun j u hu=>by rw[Xac,Nat.zero_add];exact(hwz.2.2.cell j).trans hu) (by go_simp)⟩) HS.out ?_;try simp only[nm]
   refine Tk 1 rfl ?_ HS.out ?_ ⟨?_,rfl⟩
   ·intro w hw;(try dsimp only at hw);obtain⟨hc1,hc0,hr5⟩:=hw;go_simp;try with_reducible rfl
   try simp only[nm]
   refine Tk 2 rfl ?_ HS.out ?_ ⟨?_,rfl⟩
   ·intro w hw;(try dsimp only at hw);obtain⟨hc1,hc0,hr5⟩:=hw;go_simp;try with_reducible rfl
   try simp only[nm]
   refine Tk 3 rfl ?_ HS.out ?_ ⟨?_,rfl⟩
   ·intro w hw;(try dsimp only at hw);obtain⟨hc1,hc0,hr5⟩:=hw;go_simp;try with_reducible rfl
   try simp only[nm]
   refine Tk 4 rfl ?_ HS.out ?_ ⟨?_,rfl⟩
   ·intro w hw;(try dsimp only at hw);obtain⟨hc1,hc0,hr5⟩:=hw;go_simp;try with_reducible rfl
   try simp only[nm]
   refine Tk 5 rfl ?_ HS.out ?_ ⟨?_,rfl⟩
   ·intro w hw;(try dsimp only at hw);obtain⟨hc1,hc0,hr5⟩:=hw;go_simp;try with_reducible rfl
   try simp only[nm]
   refine Tk 6 rfl ?_ HS.out ?_ ⟨?_,rfl⟩
   ·intro w hw;(try dsimp only at hw);obtain⟨hc1,hc0,hr5⟩:=hw;go_simp;try with_reducible rfl
   try simp only[nm]
   refine Tk 7 rfl ?_ HS.out ?_ ⟨?_,rfl⟩
   ·intro w hw;(try dsimp only at hw);obtain⟨hc1,hc0,hr5⟩:=hw;go_simp;try with_reducible rfl
   try simp only[nm]
   refine Tk 8 rfl ?_ HS.out ?_ ⟨?_,rfl⟩
   ·intro w hw;(try dsimp only at hw);obtain⟨hc1,hc0,hr5⟩:=hw;go_simp;try with_reducible rfl
   try simp only[nm]
   refine Tk 9 rfl ?_ HS.out ?_ ⟨?_,rfl⟩
   ·intro w hw;(try dsimp only at hw);obtain⟨hc1,hc0,hr5⟩:=hw;go_simp;try with_reducible rfl
   try simp only[nm]
   refine Rl 10 rfl fun K hK=>?_
   refine Xal 165 (.tmp 2) (.tmp 33) rfl g2 165 0 (askC ask0) (askC y5) P7.out.r2.drew (Xa7 HOL.out) (by rw[Xaq HOL.out];decide) (Xba _) (by go_simp) (by go_simp) (fun w9 hr9 ht9=>?_);rw[List.take_zero,List.nil_append,Nat.zero_add,List.drop_of_length_le (by rw[Xaq HOL.out];decide),List.append_nil]at hr9;have R9:=Hd hr9;have BF:=Hd ((show Below w.heap.size w w8.drew from P7.out.b.trans ⟨rfl,rfl,rfl,Lr _,fun _ _=>rfl⟩).trans (ht9.below P7.out.lo.1));have HS9:Hid (w9.cell? ⟨g4,1,none⟩=some (.bool false)∧w9.cell? ⟨g4,0,none⟩=some (.slice A5 0 c5)∧Row w9 g5 165 (askC y5)):=Hd ⟨(ht9.row HRF.out.drew (Ne.symm P7.out.ne.1)).cell 1,(ht9.row HRF.out.drew (Ne.symm P7.out.ne.1)).cell 0,ht9.row P7.out.r5.drew (Ne.symm P7.out.ne.2.2)⟩;clear hr9 ht9;refine hK.out _ _ HS9.out ?_;clear hK K;try simp only[Act.put]
   refine Tk 11 rfl ?_ HS9.out ?_ ⟨?_,rfl⟩
   ·intro w hw;(try dsimp only at hw);obtain⟨hc1,hc0,hr5⟩:=hw;go_simp;try with_reducible rfl
   try simp only[nm]
   refine wpAnyH_done (by kernel_rfl) ?_ _;go_wp2_with fail;refine bodyPost_ret (Xaj (h:=rfl) _ w9 ⟨g2,0,none⟩ (.agg (askC y5).toArray) (.bool true) (by rfl) (by rfl) (Xav R9.out (Xa7 HOL.out))) rfl ?_;exact Xbl HE2.out HOL.out BF.out
  ·have hz2:((n5:Int)==0)=false:=by simpa using hz
   have HE2:Hid (rd14 zs=⟨y5,false⟩):=Hd (HE.out.trans (by unfold end14;rw[←HN5.out];simp[hz]));have HS:Hid (w8.drew.cell? ⟨g4,1,none⟩=some (.bool false)∧w8.drew.cell? ⟨g4,0,none⟩=some (.slice A5 n5 c5)∧Row w8.drew g5 165 (askC y5)):=Hd ⟨HRF.out.drew.cell 1,HRF.out.drew.cell 0,P7.out.r5.drew⟩;refine wp_region_held_drew (S:=(fun V=>V.cell? ⟨g4,1,none⟩=some (.bool false)∧V.cell? ⟨g4,0,none⟩=some (.slice A5 n5 c5)∧Row V g5 165 (askC y5))) (by kernel_rfl) HS.out (fun _=>?_);refine Tl 0 (v:=.agg (askC y5).toArray) rfl (Or.inl ⟨by rfl,fun wz hwz=>Xa4 wz 165 (.tmp 5) rfl ⟨g5,0,none⟩ (askC y5) _ Tryd.underlying165 rfl (Xa7 HOL.out) (fun j u hu=>by rw[Xac,Nat.zero_add];exact(hwz.2.2.cell j).trans hu) (by go_simp)⟩) HS.out ?_;try simp only[nm]
   refine Tk 1 rfl ?_ HS.out ?_ ⟨?_,rfl⟩
   ·intro w hw;(try dsimp only at hw);obtain⟨hc1,hc0,hr5⟩:=hw;go_simp;try with_reducible rfl
   try simp only[nm]
   refine Tk 2 rfl ?_ HS.out ?_ ⟨?_,rfl⟩
   ·intro w hw;(try dsimp only at hw);obtain⟨hc1,hc0,hr5⟩:=hw;go_simp;try with_reducible rfl
   try simp only[nm]
   refine Tk 3 rfl ?_ HS.out ?_ ⟨?_,rfl⟩
   ·intro w hw;(try dsimp only at hw);obtain⟨hc1,hc0,hr5⟩:=hw;go_simp;try with_reducible rfl
   try simp only[nm]
   refine Tk 4 rfl ?_ HS.out ?_ ⟨?_,rfl⟩
   ·intro w hw;(try dsimp only at hw);obtain⟨hc1,hc0,hr5⟩:=hw;go_simp;try with_reducible rfl
   try simp only[nm]
   refine Tk 5 rfl ?_ HS.out ?_ ⟨?_,rfl⟩
   ·intro w hw;(try dsimp only at hw);obtain⟨hc1,hc0,hr5⟩:=hw;go_simp;try with_reducible rfl
   try simp only[nm]
   refine Tk 6 rfl ?_ HS.out ?_ ⟨?_,rfl⟩
   ·intro w hw;(try dsimp only at hw);obtain⟨hc1,hc0,hr5⟩:=hw;go_simp;try with_reducible rfl
   try simp only[nm]
   refine Tk 7 rfl ?_ HS.out ?_ ⟨?_,rfl⟩
   ·intro w hw;(try dsimp only at hw);obtain⟨hc1,hc0,hr5⟩:=hw;go_simp;try with_reducible rfl
   try simp only[nm]
   refine Tk 8 rfl ?_ HS.out ?_ ⟨?_,rfl⟩
   ·intro w hw;(try dsimp only at hw);obtain⟨hc1,hc0,hr5⟩:=hw;go_simp;try with_reducible rfl
   try simp only[nm]
   refine Tk 9 rfl ?_ HS.out ?_ ⟨?_,rfl⟩
   ·intro w hw;(try dsimp only at hw);obtain⟨hc1,hc0,hr5⟩:=hw;go_simp;try with_reducible rfl
   try simp only[nm]
   refine Rl 10 rfl fun K hK=>?_
   refine Xal 165 (.tmp 2) (.tmp 33) rfl g2 165 0 (askC ask0) (askC y5) P7.out.r2.drew (Xa7 HOL.out) (by rw[Xaq HOL.out];decide) (Xba _) (by go_simp) (by go_simp) (fun w9 hr9 ht9=>?_);rw[List.take_zero,List.nil_append,Nat.zero_add,List.drop_of_length_le (by rw[Xaq HOL.out];decide),List.append_nil]at hr9;have R9:=Hd hr9;have BF:=Hd ((show Below w.heap.size w w8.drew from P7.out.b.trans ⟨rfl,rfl,rfl,Lr _,fun _ _=>rfl⟩).trans (ht9.below P7.out.lo.1));have HS9:Hid (w9.cell? ⟨g4,1,none⟩=some (.bool false)∧w9.cell? ⟨g4,0,none⟩=some (.slice A5 n5 c5)∧Row w9 g5 165 (askC y5)):=Hd ⟨(ht9.row HRF.out.drew (Ne.symm P7.out.ne.1)).cell 1,(ht9.row HRF.out.drew (Ne.symm P7.out.ne.1)).cell 0,ht9.row P7.out.r5.drew (Ne.symm P7.out.ne.2.2)⟩;clear hr9 ht9;refine hK.out _ _ HS9.out ?_;clear hK K;try simp only[Act.put]
   refine Tk 11 rfl ?_ HS9.out ?_ ⟨?_,rfl⟩
   ·intro w hw;(try dsimp only at hw);obtain⟨hc1,hc0,hr5⟩:=hw;go_simp;try with_reducible rfl
   try simp only[nm]
   refine wpAnyH_done (by kernel_rfl) ?_ _;go_wp2_with fail;refine bodyPost_ret (Xaj (h:=rfl) _ w9 ⟨g2,0,none⟩ (.agg (askC y5).toArray) (.bool false) (by rfl) (by rfl) (Xav R9.out (Xa7 HOL.out))) rfl ?_;exact Xbl HE2.out HOL.out BF.out
theorem Xr6(A:Option Addr)(n c S:Nat)(zs:List Int)(w:World)(hs:Sees w S A n (bv zs))(hS:S≤w.heap.size)(hnc:n≤c)(hc:c≤maxLen)(hz:AllBytes zs)(ht:numS zs false 4=2) :
 Calls Tryd.prog 62 #[.slice A n c] w (ReadDone14 w (rd14 zs)):=by
 have HL:=Hd (show zs.length=n by have:=hs.len;rwa [bL]at this);have HX:=Hd hs;have HCC:=Hd (And.intro hnc hc);have HZ:=Hd hz;have HS0:=Hd hS;have HT:=Hd ht;clear hs hnc hc hz ht hS;go_enter Tryd.func62,Tryd.ntmps62
 go_upto_region 2 with(first
  | ((with_reducible show wpList _ _ _ (⟨some 2,_,_,_,_,_⟩::_) _ _);go_must(refine Xa2 rfl 165 rfl (askC ask0) Xb1 ?_))
  | ((with_reducible show wpList _ _ _ (⟨some 7,_,_,_,_,_⟩::_) _ _);go_must(refine wpList_plain rfl fun K hK=>Xau _ _ _ rfl (by simp only[List.map_toArray,List.map_cons,List.map_nil];exact Xco _ _ _) (hK _ _ ?_)))
  | ((with_reducible show wpList _ _ _ (⟨some 4,_,_,_,_,_⟩::_) _ _);go_must(refine Xa2 rfl 180 rfl (fldC none 0 0 false) Xd5 ?_))
  | ((with_reducible show wpList _ _ _ (⟨none,Op.store 180 (.tmp 4) _,_,_,_,_⟩::_) _ _);go_must(refine Xa6 rfl 180 (.tmp 4) (.tmp 7) rfl (fldC A n c false) (Xd7 _ _ _ _) (Xdz _ _ _ _) rfl ?_ ?_ ?_;go_simp;go_simp;intro w4 hr4 hb4 hz4)))
 obtain⟨g2,hg2⟩:∃g,g=w.heap.size:=⟨_,rfl⟩;have BA:=Hd ((Br w.heap.size w).alloc (Lr _) (.cells (askC ask0).toArray 165));have R2:=Hd ((Row.new w 165 (askC ask0)).below hb4 (by simp));obtain⟨g4,hg4⟩:∃g,g=(w.alloc (.cells (askC ask0).toArray 165)).heap.size:=⟨_,rfl⟩;have H24:Hid (g4=w.heap.size+1):=Hd (by rw[hg4];simp);have H42:=Hd hg2;have B4:=Hd (BA.out.trans (hb4.mono BA.out.size));rw[←hg4]at hr4 ⊢;rw[←hg2]at R2 ⊢;have F4:Hid (FIn w4 g4 S zs false):=Hd ⟨⟨A,c,by rw[HL.out];exact hr4,by rw[HL.out];exact HX.out.below (B4.out.mono HS0.out),by rw[HL.out];exact HCC.out.1,HCC.out.2⟩,HZ.out⟩;have SG:Hid (S≤g4):=Hd (by have:=H24.out;have:=HS0.out;omega);clear hr4 hb4 hz4 hg2 hg4 BA;have HN:=Hd (Xcj g4 S 4 false zs w4 F4.out SG.out (by omega) (by omega));go_wp2_with fail;refine HN.out.mono ?_;rintro e w5 ⟨rfl,hf,hb⟩;have F5:=Hd hf;have HB5:=Hd hb;have R25:=Hd (hb.row R2.out (by have:=H24.out;have:=H42.out;omega));have B5:=Hd (B4.out.trans (hb.below (by have:=H24.out;omega) B4.out.size));have L25:=Hd R25.out.lt;clear hf hb HN R2 F4;go_upto_region 3 with(first
  | ((with_reducible show wpList _ _ _ (⟨some 9,_,_,_,_,_⟩::_) _ _);go_must(refine wpList_plain rfl fun K hK=>Xau _ _ _ rfl (by simp only[List.map_toArray,List.map_cons,List.map_nil];exact Xcz _) (hK _ _ ?_)))
  | ((with_reducible show wpList _ _ _ (⟨some 5,_,_,_,_,_⟩::_) _ _);go_must(refine Xa2 rfl 165 rfl (askC ask0) Xb1 ?_))
  | ((with_reducible show wpList _ _ _ (⟨none,Op.store 165 (.tmp 5) _,_,_,_,_⟩::_) _ _);go_must(refine Xa6 rfl 165 (.tmp 5) (.tmp 9) rfl (askC ⟨numS zs false 4,0,0,key0⟩) (Xa7 Xbc.1) (Xba _) rfl ?_ ?_ ?_;go_simp;go_simp;intro w6 hr6 hb6 hz6)))
 obtain⟨g5,hg5⟩:∃g,g=w5.heap.size:=⟨_,rfl⟩;have P6:Hid (RS4 w w6 g2 g4 w5.heap.size S (resS zs 4) (shS zs false 4) ⟨numS zs false 4,0,0,key0⟩):=Hd ⟨B5.out.trans (hb6.mono B5.out.size),R25.out.below hb6 R25.out.lt,F5.out.keep SG.out (But.of_below hb6 w5.heap.size) (Ne.symm (Nat.ne_of_lt F5.out.lt)) (Lq HS0.out B5.out.size),hr6,⟨by have:=H24.out;have:=H42.out;omega,Ne.symm (Nat.ne_of_lt F5.out.lt),Nat.ne_of_lt L25.out⟩,⟨Nat.le_of_eq H42.out.symm,by have:=H24.out;omega,B5.out.size,HS0.out⟩⟩;rw[←hg5]at P6 ⊢;clear hr6 hb6 hz6 hg5 F5 HB5 R25 B5 L25 B4 SG H24 H42 HX HCC HL;rw[HT.out]at P6;have c50:w6.cell? ⟨g5,0,none⟩=some (.int .u64 2):=P6.out.r5.cell 0;go_upto_region 12 with fail
 clear c50;have HN:=Hd (Xcj g4 S 8 (shS zs false 4) (resS zs 4) w6 P6.out.f P6.out.sg (by omega) (by omega));go_wp2_with fail;refine HN.out.mono ?_;rintro e w7 ⟨rfl,hf,hb⟩;have PM:=Hd (P6.out.but hf hb);clear hf hb HN P6;have ck:w7.cell? ⟨g5,1,none⟩=some (.int .u64 0):=PM.out.r5.cell 1;have fk:=PM.out.r5.frozen 1;have P7:=Hd (PM.out.set (y':=⟨2,numS (resS zs 4) (shS zs false 4) 8,0,key0⟩) 1 (.int .u64 (numS (resS zs 4) (shS zs false 4) 8)) rfl);go_upto_region 15 with fail
 clear ck fk PM;generalize w7.setCell ⟨g5,1,none⟩ (.int .u64 (numS (resS zs 4) (shS zs false 4) 8))=w8 at *;obtain⟨A5,c5,hrf,_,_,_⟩:=P7.out.f.is;have HRF:=Hd hrf;clear hrf;have HOL:Hid ((⟨2,numS (resS zs 4) (shS zs false 4) 8,0,key0⟩:LAsk).owner.length=32):=Hd (Xbc.1);have HE:Hid (rd14 zs=end14 ⟨2,numS (resS zs 4) (shS zs false 4) 8,0,key0⟩ ((resS (resS zs 4) 8)) ((shS (resS zs 4) (shS zs false 4) 8))):=Hd (by unfold rd14;dsimp only;rw[HT.out];rfl);obtain⟨n5,hn5⟩:∃n,n=((resS (resS zs 4) 8)).length:=⟨_,rfl⟩;rw[←hn5]at HRF;have HN5:=Hd hn5;clear hn5;obtain⟨y5,hy5⟩:∃y,y=(⟨2,numS (resS zs 4) (shS zs false 4) 8,0,key0⟩:LAsk):=⟨_,rfl⟩;rw[←hy5]at P7 HOL HE;clear hy5;obtain⟨b5,hb5⟩:∃b,b=(shS (resS zs 4) (shS zs false 4) 8):=⟨_,rfl⟩;rw[←hb5]at HE HRF;clear hb5;cases b5 with
 | true =>
  have HE2:Hid (rd14 zs=⟨y5,false⟩):=Hd (HE.out.trans (by unfold end14;rw[←HN5.out];rfl));have HS:Hid (w8.drew.cell? ⟨g4,1,none⟩=some (.bool true)∧w8.drew.cell? ⟨g4,0,none⟩=some (.slice A5 n5 c5)∧Row w8.drew g5 165 (askC y5)):=Hd ⟨HRF.out.drew.cell 1,HRF.out.drew.cell 0,P7.out.r5.drew⟩;refine wp_region_held_drew (S:=(fun V=>V.cell? ⟨g4,1,none⟩=some (.bool true)∧V.cell? ⟨g4,0,none⟩=some (.slice A5 n5 c5)∧Row V g5 165 (askC y5))) (by kernel_rfl) HS.out (fun _=>?_);refine Tl 0 (v:=.agg (askC y5).toArray) rfl (Or.inl ⟨by rfl,fun wz hwz=>Xa4 wz 165 (.tmp 5) rfl ⟨g5,0,none⟩ (askC y5) _ Tryd.underlying165 rfl (Xa7 HOL.out) (fun j u hu=>by rw[Xac,Nat.zero_add];exact(hwz.2.2.cell j).trans hu) (by go_simp)⟩) HS.out ?_;try simp only[nm]
  refine Tk 1 rfl ?_ HS.out ?_ ⟨?_,rfl⟩
  ·intro w hw;(try dsimp only at hw);obtain⟨hc1,hc0,hr5⟩:=hw;go_simp;try with_reducible rfl
  try simp only[nm]
  refine Tk 2 rfl ?_ HS.out ?_ ⟨?_,rfl⟩
  ·intro w hw;(try dsimp only at hw);obtain⟨hc1,hc0,hr5⟩:=hw;go_simp;try with_reducible rfl
  try simp only[nm]
  refine Tk 3 rfl ?_ HS.out ?_ ⟨?_,rfl⟩
  ·intro w hw;(try dsimp only at hw);obtain⟨hc1,hc0,hr5⟩:=hw;go_simp;try with_reducible rfl
  try simp only[nm]
  refine Tk 4 rfl ?_ HS.out ?_ ⟨?_,rfl⟩
  ·intro w hw;(try dsimp only at hw);obtain⟨hc1,hc0,hr5⟩:=hw;go_simp;try with_reducible rfl
  try simp only[nm]
  refine Tl 5 (v:=undef) rfl (Or.inr ⟨by rfl,rfl⟩) HS.out ?_;try simp only[nm]
  refine Tl 6 (v:=undef) rfl (Or.inr ⟨by rfl,rfl⟩) HS.out ?_;try simp only[nm]
  refine Tl 7 (v:=undef) rfl (Or.inr ⟨by rfl,rfl⟩) HS.out ?_;try simp only[nm]
  refine Tl 8 (v:=undef) rfl (Or.inr ⟨by rfl,rfl⟩) HS.out ?_;try simp only[nm]
  refine Tk 9 rfl ?_ HS.out ?_ ⟨?_,rfl⟩
  ·intro w hw;(try dsimp only at hw);obtain⟨hc1,hc0,hr5⟩:=hw;go_simp;try with_reducible rfl
  try simp only[nm]
  refine Rl 10 rfl fun K hK=>?_
  refine Xal 165 (.tmp 2) (.tmp 33) rfl g2 165 0 (askC ask0) (askC y5) P7.out.r2.drew (Xa7 HOL.out) (by rw[Xaq HOL.out];decide) (Xba _) (by go_simp) (by go_simp) (fun w9 hr9 ht9=>?_);rw[List.take_zero,List.nil_append,Nat.zero_add,List.drop_of_length_le (by rw[Xaq HOL.out];decide),List.append_nil]at hr9;have R9:=Hd hr9;have BF:=Hd ((show Below w.heap.size w w8.drew from P7.out.b.trans ⟨rfl,rfl,rfl,Lr _,fun _ _=>rfl⟩).trans (ht9.below P7.out.lo.1));have HS9:Hid (w9.cell? ⟨g4,1,none⟩=some (.bool true)∧w9.cell? ⟨g4,0,none⟩=some (.slice A5 n5 c5)∧Row w9 g5 165 (askC y5)):=Hd ⟨(ht9.row HRF.out.drew (Ne.symm P7.out.ne.1)).cell 1,(ht9.row HRF.out.drew (Ne.symm P7.out.ne.1)).cell 0,ht9.row P7.out.r5.drew (Ne.symm P7.out.ne.2.2)⟩;clear hr9 ht9;refine hK.out _ _ HS9.out ?_;clear hK K;try simp only[Act.put]
  refine Tk 11 rfl ?_ HS9.out ?_ ⟨?_,rfl⟩
  ·intro w hw;(try dsimp only at hw);obtain⟨hc1,hc0,hr5⟩:=hw;go_simp;try with_reducible rfl
  try simp only[nm]
  refine wpAnyH_done (by kernel_rfl) ?_ _;go_wp2_with fail;refine bodyPost_ret (Xaj (h:=rfl) _ w9 ⟨g2,0,none⟩ (.agg (askC y5).toArray) (.bool false) (by rfl) (by rfl) (Xav R9.out (Xa7 HOL.out))) rfl ?_;exact Xbl HE2.out HOL.out BF.out
 | false =>
  by_cases hz:n5=0
  ·subst hz;have HE2:Hid (rd14 zs=⟨y5,true⟩):=Hd (HE.out.trans (by unfold end14;rw[←HN5.out];simp));have HS:Hid (w8.drew.cell? ⟨g4,1,none⟩=some (.bool false)∧w8.drew.cell? ⟨g4,0,none⟩=some (.slice A5 0 c5)∧Row w8.drew g5 165 (askC y5)):=Hd ⟨HRF.out.drew.cell 1,HRF.out.drew.cell 0,P7.out.r5.drew⟩;refine wp_region_held_drew (S:=(fun V=>V.cell? ⟨g4,1,none⟩=some (.bool false)∧V.cell? ⟨g4,0,none⟩=some (.slice A5 0 c5)∧Row V g5 165 (askC y5))) (by kernel_rfl) HS.out (fun _=>?_);refine Tl 0 (v:=.agg (askC y5).toArray) rfl (Or.inl ⟨by rfl,fun wz hwz=>Xa4 wz 165 (.tmp 5) rfl ⟨g5,0,none⟩ (askC y5) _ Tryd.underlying165 rfl (Xa7 HOL.out) (fun j u hu=>by rw[Xac,Nat.zero_add];exact(hwz.2.2.cell j).trans hu) (by go_simp)⟩) HS.out ?_;try simp only[nm]
   refine Tk 1 rfl ?_ HS.out ?_ ⟨?_,rfl⟩
   ·intro w hw;(try dsimp only at hw);obtain⟨hc1,hc0,hr5⟩:=hw;go_simp;try with_reducible rfl
   try simp only[nm]
   refine Tk 2 rfl ?_ HS.out ?_ ⟨?_,rfl⟩
   ·intro w hw;(try dsimp only at hw);obtain⟨hc1,hc0,hr5⟩:=hw;go_simp;try with_reducible rfl
   try simp only[nm]
   refine Tk 3 rfl ?_ HS.out ?_ ⟨?_,rfl⟩
   ·intro w hw;(try dsimp only at hw);obtain⟨hc1,hc0,hr5⟩:=hw;go_simp;try with_reducible rfl
   try simp only[nm]
   refine Tk 4 rfl ?_ HS.out ?_ ⟨?_,rfl⟩
   ·intro w hw;(try dsimp only at hw);obtain⟨hc1,hc0,hr5⟩:=hw;go_simp;try with_reducible rfl
   try simp only[nm]
   refine Tk 5 rfl ?_ HS.out ?_ ⟨?_,rfl⟩
   ·intro w hw;(try dsimp only at hw);obtain⟨hc1,hc0,hr5⟩:=hw;go_simp;try with_reducible rfl
   try simp only[nm]
   refine Tk 6 rfl ?_ HS.out ?_ ⟨?_,rfl⟩
   ·intro w hw;(try dsimp only at hw);obtain⟨hc1,hc0,hr5⟩:=hw;go_simp;try with_reducible rfl
   try simp only[nm]
   refine Tk 7 rfl ?_ HS.out ?_ ⟨?_,rfl⟩
   ·intro w hw;(try dsimp only at hw);obtain⟨hc1,hc0,hr5⟩:=hw;go_simp;try with_reducible rfl
   try simp only[nm]
   refine Tk 8 rfl ?_ HS.out ?_ ⟨?_,rfl⟩
   ·intro w hw;(try dsimp only at hw);obtain⟨hc1,hc0,hr5⟩:=hw;go_simp;try with_reducible rfl
   try simp only[nm]
   refine Tk 9 rfl ?_ HS.out ?_ ⟨?_,rfl⟩
   ·intro w hw;(try dsimp only at hw);obtain⟨hc1,hc0,hr5⟩:=hw;go_simp;try with_reducible rfl
   try simp only[nm]
   refine Rl 10 rfl fun K hK=>?_
   refine Xal 165 (.tmp 2) (.tmp 33) rfl g2 165 0 (askC ask0) (askC y5) P7.out.r2.drew (Xa7 HOL.out) (by rw[Xaq HOL.out];decide) (Xba _) (by go_simp) (by go_simp) (fun w9 hr9 ht9=>?_);rw[List.take_zero,List.nil_append,Nat.zero_add,List.drop_of_length_le (by rw[Xaq HOL.out];decide),List.append_nil]at hr9;have R9:=Hd hr9;have BF:=Hd ((show Below w.heap.size w w8.drew from P7.out.b.trans ⟨rfl,rfl,rfl,Lr _,fun _ _=>rfl⟩).trans (ht9.below P7.out.lo.1));have HS9:Hid (w9.cell? ⟨g4,1,none⟩=some (.bool false)∧w9.cell? ⟨g4,0,none⟩=some (.slice A5 0 c5)∧Row w9 g5 165 (askC y5)):=Hd ⟨(ht9.row HRF.out.drew (Ne.symm P7.out.ne.1)).cell 1,(ht9.row HRF.out.drew (Ne.symm P7.out.ne.1)).cell 0,ht9.row P7.out.r5.drew (Ne.symm P7.out.ne.2.2)⟩;clear hr9 ht9;refine hK.out _ _ HS9.out ?_;clear hK K;try simp only[Act.put]
   refine Tk 11 rfl ?_ HS9.out ?_ ⟨?_,rfl⟩
   ·intro w hw;(try dsimp only at hw);obtain⟨hc1,hc0,hr5⟩:=hw;go_simp;try with_reducible rfl
   try simp only[nm]
   refine wpAnyH_done (by kernel_rfl) ?_ _;go_wp2_with fail;refine bodyPost_ret (Xaj (h:=rfl) _ w9 ⟨g2,0,none⟩ (.agg (askC y5).toArray) (.bool true) (by rfl) (by rfl) (Xav R9.out (Xa7 HOL.out))) rfl ?_;exact Xbl HE2.out HOL.out BF.out
  ·have hz2:((n5:Int)==0)=false:=by simpa using hz
   have HE2:Hid (rd14 zs=⟨y5,false⟩):=Hd (HE.out.trans (by unfold end14;rw[←HN5.out];simp[hz]));have HS:Hid (w8.drew.cell? ⟨g4,1,none⟩=some (.bool false)∧w8.drew.cell? ⟨g4,0,none⟩=some (.slice A5 n5 c5)∧Row w8.drew g5 165 (askC y5)):=Hd ⟨HRF.out.drew.cell 1,HRF.out.drew.cell 0,P7.out.r5.drew⟩;refine wp_region_held_drew (S:=(fun V=>V.cell? ⟨g4,1,none⟩=some (.bool false)∧V.cell? ⟨g4,0,none⟩=some (.slice A5 n5 c5)∧Row V g5 165 (askC y5))) (by kernel_rfl) HS.out (fun _=>?_);refine Tl 0 (v:=.agg (askC y5).toArray) rfl (Or.inl ⟨by rfl,fun wz hwz=>Xa4 wz 165 (.tmp 5) rfl ⟨g5,0,none⟩ (askC y5) _ Tryd.underlying165 rfl (Xa7 HOL.out) (fun j u hu=>by rw[Xac,Nat.zero_add];exact(hwz.2.2.cell j).trans hu) (by go_simp)⟩) HS.out ?_;try simp only[nm]
   refine Tk 1 rfl ?_ HS.out ?_ ⟨?_,rfl⟩
   ·intro w hw;(try dsimp only at hw);obtain⟨hc1,hc0,hr5⟩:=hw;go_simp;try with_reducible rfl
   try simp only[nm]
   refine Tk 2 rfl ?_ HS.out ?_ ⟨?_,rfl⟩
   ·intro w hw;(try dsimp only at hw);obtain⟨hc1,hc0,hr5⟩:=hw;go_simp;try with_reducible rfl
   try simp only[nm]
   refine Tk 3 rfl ?_ HS.out ?_ ⟨?_,rfl⟩
   ·intro w hw;(try dsimp only at hw);obtain⟨hc1,hc0,hr5⟩:=hw;go_simp;try with_reducible rfl
   try simp only[nm]
   refine Tk 4 rfl ?_ HS.out ?_ ⟨?_,rfl⟩
   ·intro w hw;(try dsimp only at hw);obtain⟨hc1,hc0,hr5⟩:=hw;go_simp;try with_reducible rfl
   try simp only[nm]
   refine Tk 5 rfl ?_ HS.out ?_ ⟨?_,rfl⟩
   ·intro w hw;(try dsimp only at hw);obtain⟨hc1,hc0,hr5⟩:=hw;go_simp;try with_reducible rfl
   try simp only[nm]
   refine Tk 6 rfl ?_ HS.out ?_ ⟨?_,rfl⟩
   ·intro w hw;(try dsimp only at hw);obtain⟨hc1,hc0,hr5⟩:=hw;go_simp;try with_reducible rfl
   try simp only[nm]
   refine Tk 7 rfl ?_ HS.out ?_ ⟨?_,rfl⟩
   ·intro w hw;(try dsimp only at hw);obtain⟨hc1,hc0,hr5⟩:=hw;go_simp;try with_reducible rfl
   try simp only[nm]
   refine Tk 8 rfl ?_ HS.out ?_ ⟨?_,rfl⟩
   ·intro w hw;(try dsimp only at hw);obtain⟨hc1,hc0,hr5⟩:=hw;go_simp;try with_reducible rfl
   try simp only[nm]
   refine Tk 9 rfl ?_ HS.out ?_ ⟨?_,rfl⟩
   ·intro w hw;(try dsimp only at hw);obtain⟨hc1,hc0,hr5⟩:=hw;go_simp;try with_reducible rfl
   try simp only[nm]
   refine Rl 10 rfl fun K hK=>?_
   refine Xal 165 (.tmp 2) (.tmp 33) rfl g2 165 0 (askC ask0) (askC y5) P7.out.r2.drew (Xa7 HOL.out) (by rw[Xaq HOL.out];decide) (Xba _) (by go_simp) (by go_simp) (fun w9 hr9 ht9=>?_);rw[List.take_zero,List.nil_append,Nat.zero_add,List.drop_of_length_le (by rw[Xaq HOL.out];decide),List.append_nil]at hr9;have R9:=Hd hr9;have BF:=Hd ((show Below w.heap.size w w8.drew from P7.out.b.trans ⟨rfl,rfl,rfl,Lr _,fun _ _=>rfl⟩).trans (ht9.below P7.out.lo.1));have HS9:Hid (w9.cell? ⟨g4,1,none⟩=some (.bool false)∧w9.cell? ⟨g4,0,none⟩=some (.slice A5 n5 c5)∧Row w9 g5 165 (askC y5)):=Hd ⟨(ht9.row HRF.out.drew (Ne.symm P7.out.ne.1)).cell 1,(ht9.row HRF.out.drew (Ne.symm P7.out.ne.1)).cell 0,ht9.row P7.out.r5.drew (Ne.symm P7.out.ne.2.2)⟩;clear hr9 ht9;refine hK.out _ _ HS9.out ?_;clear hK K;try simp only[Act.put]
   refine Tk 11 rfl ?_ HS9.out ?_ ⟨?_,rfl⟩
   ·intro w hw;(try dsimp only at hw);obtain⟨hc1,hc0,hr5⟩:=hw;go_simp;try with_reducible rfl
   try simp only[nm]
   refine wpAnyH_done (by kernel_rfl) ?_ _;go_wp2_with fail;refine bodyPost_ret (Xaj (h:=rfl) _ w9 ⟨g2,0,none⟩ (.agg (askC y5).toArray) (.bool false) (by rfl) (by rfl) (Xav R9.out (Xa7 HOL.out))) rfl ?_;exact Xbl HE2.out HOL.out BF.out
theorem Xrs(A:Option Addr)(n c S:Nat)(zs:List Int)(w:World)(hs:Sees w S A n (bv zs))(hS:S≤w.heap.size)(hnc:n≤c)(hc:c≤maxLen)(hz:AllBytes zs)(ht:numS zs false 4=8) :
 Calls Tryd.prog 62 #[.slice A n c] w (ReadDone14 w (rd14 zs)):=by
 have HL:=Hd (show zs.length=n by have:=hs.len;rwa [bL]at this);have HX:=Hd hs;have HCC:=Hd (And.intro hnc hc);have HZ:=Hd hz;have HS0:=Hd hS;have HT:=Hd ht;clear hs hnc hc hz ht hS;go_enter Tryd.func62,Tryd.ntmps62
 go_upto_region 2 with(first
  | ((with_reducible show wpList _ _ _ (⟨some 2,_,_,_,_,_⟩::_) _ _);go_must(refine Xa2 rfl 165 rfl (askC ask0) Xb1 ?_))
  | ((with_reducible show wpList _ _ _ (⟨some 7,_,_,_,_,_⟩::_) _ _);go_must(refine wpList_plain rfl fun K hK=>Xau _ _ _ rfl (by simp only[List.map_toArray,List.map_cons,List.map_nil];exact Xco _ _ _) (hK _ _ ?_)))
  | ((with_reducible show wpList _ _ _ (⟨some 4,_,_,_,_,_⟩::_) _ _);go_must(refine Xa2 rfl 180 rfl (fldC none 0 0 false) Xd5 ?_))
  | ((with_reducible show wpList _ _ _ (⟨none,Op.store 180 (.tmp 4) _,_,_,_,_⟩::_) _ _);go_must(refine Xa6 rfl 180 (.tmp 4) (.tmp 7) rfl (fldC A n c false) (Xd7 _ _ _ _) (Xdz _ _ _ _) rfl ?_ ?_ ?_;go_simp;go_simp;intro w4 hr4 hb4 hz4)))
 obtain⟨g2,hg2⟩:∃g,g=w.heap.size:=⟨_,rfl⟩;have BA:=Hd ((Br w.heap.size w).alloc (Lr _) (.cells (askC ask0).toArray 165));have R2:=Hd ((Row.new w 165 (askC ask0)).below hb4 (by simp));obtain⟨g4,hg4⟩:∃g,g=(w.alloc (.cells (askC ask0).toArray 165)).heap.size:=⟨_,rfl⟩;have H24:Hid (g4=w.heap.size+1):=Hd (by rw[hg4];simp);have H42:=Hd hg2;have B4:=Hd (BA.out.trans (hb4.mono BA.out.size));rw[←hg4]at hr4 ⊢;rw[←hg2]at R2 ⊢;have F4:Hid (FIn w4 g4 S zs false):=Hd ⟨⟨A,c,by rw[HL.out];exact hr4,by rw[HL.out];exact HX.out.below (B4.out.mono HS0.out),by rw[HL.out];exact HCC.out.1,HCC.out.2⟩,HZ.out⟩;have SG:Hid (S≤g4):=Hd (by have:=H24.out;have:=HS0.out;omega);clear hr4 hb4 hz4 hg2 hg4 BA;have HN:=Hd (Xcj g4 S 4 false zs w4 F4.out SG.out (by omega) (by omega));go_wp2_with fail;refine HN.out.mono ?_;rintro e w5 ⟨rfl,hf,hb⟩;have F5:=Hd hf;have HB5:=Hd hb;have R25:=Hd (hb.row R2.out (by have:=H24.out;have:=H42.out;omega));have B5:=Hd (B4.out.trans (hb.below (by have:=H24.out;omega) B4.out.size));have L25:=Hd R25.out.lt;clear hf hb HN R2 F4;go_upto_region 3 with(first
  | ((with_reducible show wpList _ _ _ (⟨some 9,_,_,_,_,_⟩::_) _ _);go_must(refine wpList_plain rfl fun K hK=>Xau _ _ _ rfl (by simp only[List.map_toArray,List.map_cons,List.map_nil];exact Xcz _) (hK _ _ ?_)))
  | ((with_reducible show wpList _ _ _ (⟨some 5,_,_,_,_,_⟩::_) _ _);go_must(refine Xa2 rfl 165 rfl (askC ask0) Xb1 ?_))
  | ((with_reducible show wpList _ _ _ (⟨none,Op.store 165 (.tmp 5) _,_,_,_,_⟩::_) _ _);go_must(refine Xa6 rfl 165 (.tmp 5) (.tmp 9) rfl (askC ⟨numS zs false 4,0,0,key0⟩) (Xa7 Xbc.1) (Xba _) rfl ?_ ?_ ?_;go_simp;go_simp;intro w6 hr6 hb6 hz6)))
 obtain⟨g5,hg5⟩:∃g,g=w5.heap.size:=⟨_,rfl⟩;have P6:Hid (RS4 w w6 g2 g4 w5.heap.size S (resS zs 4) (shS zs false 4) ⟨numS zs false 4,0,0,key0⟩):=Hd ⟨B5.out.trans (hb6.mono B5.out.size),R25.out.below hb6 R25.out.lt,F5.out.keep SG.out (But.of_below hb6 w5.heap.size) (Ne.symm (Nat.ne_of_lt F5.out.lt)) (Lq HS0.out B5.out.size),hr6,⟨by have:=H24.out;have:=H42.out;omega,Ne.symm (Nat.ne_of_lt F5.out.lt),Nat.ne_of_lt L25.out⟩,⟨Nat.le_of_eq H42.out.symm,by have:=H24.out;omega,B5.out.size,HS0.out⟩⟩;rw[←hg5]at P6 ⊢;clear hr6 hb6 hz6 hg5 F5 HB5 R25 B5 L25 B4 SG H24 H42 HX HCC HL;rw[HT.out]at P6;have c50:w6.cell? ⟨g5,0,none⟩=some (.int .u64 8):=P6.out.r5.cell 0;go_upto_region 14 with fail
 clear c50;have HN:=Hd (Xcj g4 S 8 (shS zs false 4) (resS zs 4) w6 P6.out.f P6.out.sg (by omega) (by omega));go_wp2_with fail;refine HN.out.mono ?_;rintro e w7 ⟨rfl,hf,hb⟩;have PM:=Hd (P6.out.but hf hb);clear hf hb HN P6;have ck:w7.cell? ⟨g5,2,none⟩=some (.int .u64 0):=PM.out.r5.cell 2;have fk:=PM.out.r5.frozen 2;have P7:=Hd (PM.out.set (y':=⟨8,0,numS (resS zs 4) (shS zs false 4) 8,key0⟩) 2 (.int .u64 (numS (resS zs 4) (shS zs false 4) 8)) rfl);go_upto_region 15 with fail
 clear ck fk PM;generalize w7.setCell ⟨g5,2,none⟩ (.int .u64 (numS (resS zs 4) (shS zs false 4) 8))=w8 at *;obtain⟨A5,c5,hrf,_,_,_⟩:=P7.out.f.is;have HRF:=Hd hrf;clear hrf;have HOL:Hid ((⟨8,0,numS (resS zs 4) (shS zs false 4) 8,key0⟩:LAsk).owner.length=32):=Hd (Xbc.1);have HE:Hid (rd14 zs=end14 ⟨8,0,numS (resS zs 4) (shS zs false 4) 8,key0⟩ ((resS (resS zs 4) 8)) ((shS (resS zs 4) (shS zs false 4) 8))):=Hd (by unfold rd14;dsimp only;rw[HT.out];rfl);obtain⟨n5,hn5⟩:∃n,n=((resS (resS zs 4) 8)).length:=⟨_,rfl⟩;rw[←hn5]at HRF;have HN5:=Hd hn5;clear hn5;obtain⟨y5,hy5⟩:∃y,y=(⟨8,0,numS (resS zs 4) (shS zs false 4) 8,key0⟩:LAsk):=⟨_,rfl⟩;rw[←hy5]at P7 HOL HE;clear hy5;obtain⟨b5,hb5⟩:∃b,b=(shS (resS zs 4) (shS zs false 4) 8):=⟨_,rfl⟩;rw[←hb5]at HE HRF;clear hb5;cases b5 with
 | true =>
  have HE2:Hid (rd14 zs=⟨y5,false⟩):=Hd (HE.out.trans (by unfold end14;rw[←HN5.out];rfl));have HS:Hid (w8.drew.cell? ⟨g4,1,none⟩=some (.bool true)∧w8.drew.cell? ⟨g4,0,none⟩=some (.slice A5 n5 c5)∧Row w8.drew g5 165 (askC y5)):=Hd ⟨HRF.out.drew.cell 1,HRF.out.drew.cell 0,P7.out.r5.drew⟩;refine wp_region_held_drew (S:=(fun V=>V.cell? ⟨g4,1,none⟩=some (.bool true)∧V.cell? ⟨g4,0,none⟩=some (.slice A5 n5 c5)∧Row V g5 165 (askC y5))) (by kernel_rfl) HS.out (fun _=>?_);refine Tl 0 (v:=.agg (askC y5).toArray) rfl (Or.inl ⟨by rfl,fun wz hwz=>Xa4 wz 165 (.tmp 5) rfl ⟨g5,0,none⟩ (askC y5) _ Tryd.underlying165 rfl (Xa7 HOL.out) (fun j u hu=>by rw[Xac,Nat.zero_add];exact(hwz.2.2.cell j).trans hu) (by go_simp)⟩) HS.out ?_;try simp only[nm]
  refine Tk 1 rfl ?_ HS.out ?_ ⟨?_,rfl⟩
  ·intro w hw;(try dsimp only at hw);obtain⟨hc1,hc0,hr5⟩:=hw;go_simp;try with_reducible rfl
  try simp only[nm]
  refine Tk 2 rfl ?_ HS.out ?_ ⟨?_,rfl⟩
  ·intro w hw;(try dsimp only at hw);obtain⟨hc1,hc0,hr5⟩:=hw;go_simp;try with_reducible rfl
  try simp only[nm]
  refine Tk 3 rfl ?_ HS.out ?_ ⟨?_,rfl⟩
  ·intro w hw;(try dsimp only at hw);obtain⟨hc1,hc0,hr5⟩:=hw;go_simp;try with_reducible rfl
  try simp only[nm]
  refine Tk 4 rfl ?_ HS.out ?_ ⟨?_,rfl⟩
  ·intro w hw;(try dsimp only at hw);obtain⟨hc1,hc0,hr5⟩:=hw;go_simp;try with_reducible rfl
  try simp only[nm]
  refine Tl 5 (v:=undef) rfl (Or.inr ⟨by rfl,rfl⟩) HS.out ?_;try simp only[nm]
  refine Tl 6 (v:=undef) rfl (Or.inr ⟨by rfl,rfl⟩) HS.out ?_;try simp only[nm]
  refine Tl 7 (v:=undef) rfl (Or.inr ⟨by rfl,rfl⟩) HS.out ?_;try simp only[nm]
  refine Tl 8 (v:=undef) rfl (Or.inr ⟨by rfl,rfl⟩) HS.out ?_;try simp only[nm]
  refine Tk 9 rfl ?_ HS.out ?_ ⟨?_,rfl⟩
  ·intro w hw;(try dsimp only at hw);obtain⟨hc1,hc0,hr5⟩:=hw;go_simp;try with_reducible rfl
  try simp only[nm]
  refine Rl 10 rfl fun K hK=>?_
  refine Xal 165 (.tmp 2) (.tmp 33) rfl g2 165 0 (askC ask0) (askC y5) P7.out.r2.drew (Xa7 HOL.out) (by rw[Xaq HOL.out];decide) (Xba _) (by go_simp) (by go_simp) (fun w9 hr9 ht9=>?_);rw[List.take_zero,List.nil_append,Nat.zero_add,List.drop_of_length_le (by rw[Xaq HOL.out];decide),List.append_nil]at hr9;have R9:=Hd hr9;have BF:=Hd ((show Below w.heap.size w w8.drew from P7.out.b.trans ⟨rfl,rfl,rfl,Lr _,fun _ _=>rfl⟩).trans (ht9.below P7.out.lo.1));have HS9:Hid (w9.cell? ⟨g4,1,none⟩=some (.bool true)∧w9.cell? ⟨g4,0,none⟩=some (.slice A5 n5 c5)∧Row w9 g5 165 (askC y5)):=Hd ⟨(ht9.row HRF.out.drew (Ne.symm P7.out.ne.1)).cell 1,(ht9.row HRF.out.drew (Ne.symm P7.out.ne.1)).cell 0,ht9.row P7.out.r5.drew (Ne.symm P7.out.ne.2.2)⟩;clear hr9 ht9;refine hK.out _ _ HS9.out ?_;clear hK K;try simp only[Act.put]
  refine Tk 11 rfl ?_ HS9.out ?_ ⟨?_,rfl⟩
  ·intro w hw;(try dsimp only at hw);obtain⟨hc1,hc0,hr5⟩:=hw;go_simp;try with_reducible rfl
  try simp only[nm]
  refine wpAnyH_done (by kernel_rfl) ?_ _;go_wp2_with fail;refine bodyPost_ret (Xaj (h:=rfl) _ w9 ⟨g2,0,none⟩ (.agg (askC y5).toArray) (.bool false) (by rfl) (by rfl) (Xav R9.out (Xa7 HOL.out))) rfl ?_;exact Xbl HE2.out HOL.out BF.out
 | false =>
  by_cases hz:n5=0
  ·subst hz;have HE2:Hid (rd14 zs=⟨y5,true⟩):=Hd (HE.out.trans (by unfold end14;rw[←HN5.out];simp));have HS:Hid (w8.drew.cell? ⟨g4,1,none⟩=some (.bool false)∧w8.drew.cell? ⟨g4,0,none⟩=some (.slice A5 0 c5)∧Row w8.drew g5 165 (askC y5)):=Hd ⟨HRF.out.drew.cell 1,HRF.out.drew.cell 0,P7.out.r5.drew⟩;refine wp_region_held_drew (S:=(fun V=>V.cell? ⟨g4,1,none⟩=some (.bool false)∧V.cell? ⟨g4,0,none⟩=some (.slice A5 0 c5)∧Row V g5 165 (askC y5))) (by kernel_rfl) HS.out (fun _=>?_);refine Tl 0 (v:=.agg (askC y5).toArray) rfl (Or.inl ⟨by rfl,fun wz hwz=>Xa4 wz 165 (.tmp 5) rfl ⟨g5,0,none⟩ (askC y5) _ Tryd.underlying165 rfl (Xa7 HOL.out) (fun j u hu=>by rw[Xac,Nat.zero_add];exact(hwz.2.2.cell j).trans hu) (by go_simp)⟩) HS.out ?_;try simp only[nm]
   refine Tk 1 rfl ?_ HS.out ?_ ⟨?_,rfl⟩
   ·intro w hw;(try dsimp only at hw);obtain⟨hc1,hc0,hr5⟩:=hw;go_simp;try with_reducible rfl
   try simp only[nm]
   refine Tk 2 rfl ?_ HS.out ?_ ⟨?_,rfl⟩
   ·intro w hw;(try dsimp only at hw);obtain⟨hc1,hc0,hr5⟩:=hw;go_simp;try with_reducible rfl
   try simp only[nm]
   refine Tk 3 rfl ?_ HS.out ?_ ⟨?_,rfl⟩
   ·intro w hw;(try dsimp only at hw);obtain⟨hc1,hc0,hr5⟩:=hw;go_simp;try with_reducible rfl
   try simp only[nm]
   refine Tk 4 rfl ?_ HS.out ?_ ⟨?_,rfl⟩
   ·intro w hw;(try dsimp only at hw);obtain⟨hc1,hc0,hr5⟩:=hw;go_simp;try with_reducible rfl
   try simp only[nm]
   refine Tk 5 rfl ?_ HS.out ?_ ⟨?_,rfl⟩
   ·intro w hw;(try dsimp only at hw);obtain⟨hc1,hc0,hr5⟩:=hw;go_simp;try with_reducible rfl
   try simp only[nm]
   refine Tk 6 rfl ?_ HS.out ?_ ⟨?_,rfl⟩
   ·intro w hw;(try dsimp only at hw);obtain⟨hc1,hc0,hr5⟩:=hw;go_simp;try with_reducible rfl
   try simp only[nm]
   refine Tk 7 rfl ?_ HS.out ?_ ⟨?_,rfl⟩
   ·intro w hw;(try dsimp only at hw);obtain⟨hc1,hc0,hr5⟩:=hw;go_simp;try with_reducible rfl
   try simp only[nm]
   refine Tk 8 rfl ?_ HS.out ?_ ⟨?_,rfl⟩
   ·intro w hw;(try dsimp only at hw);obtain⟨hc1,hc0,hr5⟩:=hw;go_simp;try with_reducible rfl
   try simp only[nm]
   refine Tk 9 rfl ?_ HS.out ?_ ⟨?_,rfl⟩
   ·intro w hw;(try dsimp only at hw);obtain⟨hc1,hc0,hr5⟩:=hw;go_simp;try with_reducible rfl
   try simp only[nm]
   refine Rl 10 rfl fun K hK=>?_
   refine Xal 165 (.tmp 2) (.tmp 33) rfl g2 165 0 (askC ask0) (askC y5) P7.out.r2.drew (Xa7 HOL.out) (by rw[Xaq HOL.out];decide) (Xba _) (by go_simp) (by go_simp) (fun w9 hr9 ht9=>?_);rw[List.take_zero,List.nil_append,Nat.zero_add,List.drop_of_length_le (by rw[Xaq HOL.out];decide),List.append_nil]at hr9;have R9:=Hd hr9;have BF:=Hd ((show Below w.heap.size w w8.drew from P7.out.b.trans ⟨rfl,rfl,rfl,Lr _,fun _ _=>rfl⟩).trans (ht9.below P7.out.lo.1));have HS9:Hid (w9.cell? ⟨g4,1,none⟩=some (.bool false)∧w9.cell? ⟨g4,0,none⟩=some (.slice A5 0 c5)∧Row w9 g5 165 (askC y5)):=Hd ⟨(ht9.row HRF.out.drew (Ne.symm P7.out.ne.1)).cell 1,(ht9.row HRF.out.drew (Ne.symm P7.out.ne.1)).cell 0,ht9.row P7.out.r5.drew (Ne.symm P7.out.ne.2.2)⟩;clear hr9 ht9;refine hK.out _ _ HS9.out ?_;clear hK K;try simp only[Act.put]
   refine Tk 11 rfl ?_ HS9.out ?_ ⟨?_,rfl⟩
   ·intro w hw;(try dsimp only at hw);obtain⟨hc1,hc0,hr5⟩:=hw;go_simp;try with_reducible rfl
   try simp only[nm]
   refine wpAnyH_done (by kernel_rfl) ?_ _;go_wp2_with fail;refine bodyPost_ret (Xaj (h:=rfl) _ w9 ⟨g2,0,none⟩ (.agg (askC y5).toArray) (.bool true) (by rfl) (by rfl) (Xav R9.out (Xa7 HOL.out))) rfl ?_;exact Xbl HE2.out HOL.out BF.out
  ·have hz2:((n5:Int)==0)=false:=by simpa using hz
   have HE2:Hid (rd14 zs=⟨y5,false⟩):=Hd (HE.out.trans (by unfold end14;rw[←HN5.out];simp[hz]));have HS:Hid (w8.drew.cell? ⟨g4,1,none⟩=some (.bool false)∧w8.drew.cell? ⟨g4,0,none⟩=some (.slice A5 n5 c5)∧Row w8.drew g5 165 (askC y5)):=Hd ⟨HRF.out.drew.cell 1,HRF.out.drew.cell 0,P7.out.r5.drew⟩;refine wp_region_held_drew (S:=(fun V=>V.cell? ⟨g4,1,none⟩=some (.bool false)∧V.cell? ⟨g4,0,none⟩=some (.slice A5 n5 c5)∧Row V g5 165 (askC y5))) (by kernel_rfl) HS.out (fun _=>?_);refine Tl 0 (v:=.agg (askC y5).toArray) rfl (Or.inl ⟨by rfl,fun wz hwz=>Xa4 wz 165 (.tmp 5) rfl ⟨g5,0,none⟩ (askC y5) _ Tryd.underlying165 rfl (Xa7 HOL.out) (fun j u hu=>by rw[Xac,Nat.zero_add];exact(hwz.2.2.cell j).trans hu) (by go_simp)⟩) HS.out ?_;try simp only[nm]
   refine Tk 1 rfl ?_ HS.out ?_ ⟨?_,rfl⟩
   ·intro w hw;(try dsimp only at hw);obtain⟨hc1,hc0,hr5⟩:=hw;go_simp;try with_reducible rfl
   try simp only[nm]
   refine Tk 2 rfl ?_ HS.out ?_ ⟨?_,rfl⟩
   ·intro w hw;(try dsimp only at hw);obtain⟨hc1,hc0,hr5⟩:=hw;go_simp;try with_reducible rfl
   try simp only[nm]
   refine Tk 3 rfl ?_ HS.out ?_ ⟨?_,rfl⟩
   ·intro w hw;(try dsimp only at hw);obtain⟨hc1,hc0,hr5⟩:=hw;go_simp;try with_reducible rfl
   try simp only[nm]
   refine Tk 4 rfl ?_ HS.out ?_ ⟨?_,rfl⟩
   ·intro w hw;(try dsimp only at hw);obtain⟨hc1,hc0,hr5⟩:=hw;go_simp;try with_reducible rfl
   try simp only[nm]
   refine Tk 5 rfl ?_ HS.out ?_ ⟨?_,rfl⟩
   ·intro w hw;(try dsimp only at hw);obtain⟨hc1,hc0,hr5⟩:=hw;go_simp;try with_reducible rfl
   try simp only[nm]
   refine Tk 6 rfl ?_ HS.out ?_ ⟨?_,rfl⟩
   ·intro w hw;(try dsimp only at hw);obtain⟨hc1,hc0,hr5⟩:=hw;go_simp;try with_reducible rfl
   try simp only[nm]
   refine Tk 7 rfl ?_ HS.out ?_ ⟨?_,rfl⟩
   ·intro w hw;(try dsimp only at hw);obtain⟨hc1,hc0,hr5⟩:=hw;go_simp;try with_reducible rfl
   try simp only[nm]
   refine Tk 8 rfl ?_ HS.out ?_ ⟨?_,rfl⟩
   ·intro w hw;(try dsimp only at hw);obtain⟨hc1,hc0,hr5⟩:=hw;go_simp;try with_reducible rfl
   try simp only[nm]
   refine Tk 9 rfl ?_ HS.out ?_ ⟨?_,rfl⟩
   ·intro w hw;(try dsimp only at hw);obtain⟨hc1,hc0,hr5⟩:=hw;go_simp;try with_reducible rfl
   try simp only[nm]
   refine Rl 10 rfl fun K hK=>?_
   refine Xal 165 (.tmp 2) (.tmp 33) rfl g2 165 0 (askC ask0) (askC y5) P7.out.r2.drew (Xa7 HOL.out) (by rw[Xaq HOL.out];decide) (Xba _) (by go_simp) (by go_simp) (fun w9 hr9 ht9=>?_);rw[List.take_zero,List.nil_append,Nat.zero_add,List.drop_of_length_le (by rw[Xaq HOL.out];decide),List.append_nil]at hr9;have R9:=Hd hr9;have BF:=Hd ((show Below w.heap.size w w8.drew from P7.out.b.trans ⟨rfl,rfl,rfl,Lr _,fun _ _=>rfl⟩).trans (ht9.below P7.out.lo.1));have HS9:Hid (w9.cell? ⟨g4,1,none⟩=some (.bool false)∧w9.cell? ⟨g4,0,none⟩=some (.slice A5 n5 c5)∧Row w9 g5 165 (askC y5)):=Hd ⟨(ht9.row HRF.out.drew (Ne.symm P7.out.ne.1)).cell 1,(ht9.row HRF.out.drew (Ne.symm P7.out.ne.1)).cell 0,ht9.row P7.out.r5.drew (Ne.symm P7.out.ne.2.2)⟩;clear hr9 ht9;refine hK.out _ _ HS9.out ?_;clear hK K;try simp only[Act.put]
   refine Tk 11 rfl ?_ HS9.out ?_ ⟨?_,rfl⟩
   ·intro w hw;(try dsimp only at hw);obtain⟨hc1,hc0,hr5⟩:=hw;go_simp;try with_reducible rfl
   try simp only[nm]
   refine wpAnyH_done (by kernel_rfl) ?_ _;go_wp2_with fail;refine bodyPost_ret (Xaj (h:=rfl) _ w9 ⟨g2,0,none⟩ (.agg (askC y5).toArray) (.bool false) (by rfl) (by rfl) (Xav R9.out (Xa7 HOL.out))) rfl ?_;exact Xbl HE2.out HOL.out BF.out
theorem Xro(A:Option Addr)(n c S:Nat)(zs:List Int)(w:World)(hs:Sees w S A n (bv zs))(hS:S≤w.heap.size)(hnc:n≤c)(hc:c≤maxLen)(hz:AllBytes zs)(ht:numS zs false 4≠0∧numS zs false 4≠1∧numS zs false 4≠2∧numS zs false 4≠8) :
 Calls Tryd.prog 62 #[.slice A n c] w (ReadDone14 w (rd14 zs)):=by
 have HL:=Hd (show zs.length=n by have:=hs.len;rwa [bL]at this);have HX:=Hd hs;have HCC:=Hd (And.intro hnc hc);have HZ:=Hd hz;have HS0:=Hd hS;have HT:=Hd ht;clear hs hnc hc hz ht hS;go_enter Tryd.func62,Tryd.ntmps62
 go_upto_region 2 with(first
  | ((with_reducible show wpList _ _ _ (⟨some 2,_,_,_,_,_⟩::_) _ _);go_must(refine Xa2 rfl 165 rfl (askC ask0) Xb1 ?_))
  | ((with_reducible show wpList _ _ _ (⟨some 7,_,_,_,_,_⟩::_) _ _);go_must(refine wpList_plain rfl fun K hK=>Xau _ _ _ rfl (by simp only[List.map_toArray,List.map_cons,List.map_nil];exact Xco _ _ _) (hK _ _ ?_)))
  | ((with_reducible show wpList _ _ _ (⟨some 4,_,_,_,_,_⟩::_) _ _);go_must(refine Xa2 rfl 180 rfl (fldC none 0 0 false) Xd5 ?_))
  | ((with_reducible show wpList _ _ _ (⟨none,Op.store 180 (.tmp 4) _,_,_,_,_⟩::_) _ _);go_must(refine Xa6 rfl 180 (.tmp 4) (.tmp 7) rfl (fldC A n c false) (Xd7 _ _ _ _) (Xdz _ _ _ _) rfl ?_ ?_ ?_;go_simp;go_simp;intro w4 hr4 hb4 hz4)))
 obtain⟨g2,hg2⟩:∃g,g=w.heap.size:=⟨_,rfl⟩;have BA:=Hd ((Br w.heap.size w).alloc (Lr _) (.cells (askC ask0).toArray 165));have R2:=Hd ((Row.new w 165 (askC ask0)).below hb4 (by simp));obtain⟨g4,hg4⟩:∃g,g=(w.alloc (.cells (askC ask0).toArray 165)).heap.size:=⟨_,rfl⟩;have H24:Hid (g4=w.heap.size+1):=Hd (by rw[hg4];simp);have H42:=Hd hg2;have B4:=Hd (BA.out.trans (hb4.mono BA.out.size));rw[←hg4]at hr4 ⊢;rw[←hg2]at R2 ⊢;have F4:Hid (FIn w4 g4 S zs false):=Hd ⟨⟨A,c,by rw[HL.out];exact hr4,by rw[HL.out];exact HX.out.below (B4.out.mono HS0.out),by rw[HL.out];exact HCC.out.1,HCC.out.2⟩,HZ.out⟩;have SG:Hid (S≤g4):=Hd (by have:=H24.out;have:=HS0.out;omega);clear hr4 hb4 hz4 hg2 hg4 BA;have HN:=Hd (Xcj g4 S 4 false zs w4 F4.out SG.out (by omega) (by omega));go_wp2_with fail;refine HN.out.mono ?_;rintro e w5 ⟨rfl,hf,hb⟩;have F5:=Hd hf;have HB5:=Hd hb;have R25:=Hd (hb.row R2.out (by have:=H24.out;have:=H42.out;omega));have B5:=Hd (B4.out.trans (hb.below (by have:=H24.out;omega) B4.out.size));have L25:=Hd R25.out.lt;clear hf hb HN R2 F4;go_upto_region 3 with(first
  | ((with_reducible show wpList _ _ _ (⟨some 9,_,_,_,_,_⟩::_) _ _);go_must(refine wpList_plain rfl fun K hK=>Xau _ _ _ rfl (by simp only[List.map_toArray,List.map_cons,List.map_nil];exact Xcz _) (hK _ _ ?_)))
  | ((with_reducible show wpList _ _ _ (⟨some 5,_,_,_,_,_⟩::_) _ _);go_must(refine Xa2 rfl 165 rfl (askC ask0) Xb1 ?_))
  | ((with_reducible show wpList _ _ _ (⟨none,Op.store 165 (.tmp 5) _,_,_,_,_⟩::_) _ _);go_must(refine Xa6 rfl 165 (.tmp 5) (.tmp 9) rfl (askC ⟨numS zs false 4,0,0,key0⟩) (Xa7 Xbc.1) (Xba _) rfl ?_ ?_ ?_;go_simp;go_simp;intro w6 hr6 hb6 hz6)))
 obtain⟨g5,hg5⟩:∃g,g=w5.heap.size:=⟨_,rfl⟩;have P6:Hid (RS4 w w6 g2 g4 w5.heap.size S (resS zs 4) (shS zs false 4) ⟨numS zs false 4,0,0,key0⟩):=Hd ⟨B5.out.trans (hb6.mono B5.out.size),R25.out.below hb6 R25.out.lt,F5.out.keep SG.out (But.of_below hb6 w5.heap.size) (Ne.symm (Nat.ne_of_lt F5.out.lt)) (Lq HS0.out B5.out.size),hr6,⟨by have:=H24.out;have:=H42.out;omega,Ne.symm (Nat.ne_of_lt F5.out.lt),Nat.ne_of_lt L25.out⟩,⟨Nat.le_of_eq H42.out.symm,by have:=H24.out;omega,B5.out.size,HS0.out⟩⟩;rw[←hg5]at P6 ⊢;clear hr6 hb6 hz6 hg5 F5 HB5 R25 B5 L25 B4 SG H24 H42 HX HCC HL;have c50:w6.cell? ⟨g5,0,none⟩=some (.int .u64 (numS zs false 4)):=P6.out.r5.cell 0;have HE:Hid (rd14 zs=⟨ask0,false⟩):=Hd (by unfold rd14;dsimp only;rw[if_neg HT.out.1,if_neg HT.out.2.1,if_neg HT.out.2.2.1,if_neg HT.out.2.2.2]);have h0:=HT.out.1;have h1:=HT.out.2.1;have h2:=HT.out.2.2.1;have h8:=HT.out.2.2.2;have HR2:=Hd P6.out.r2;have HB6:=Hd P6.out.b;have HLO:=Hd P6.out.lo.1;clear P6;generalize numS zs false 4=t at *;go_wp2_with (first
  | ((with_reducible show wpList _ _ _ (⟨some 12,_,_,_,_,_⟩::_) _ _);go_must(refine wpList_plain rfl fun K hK=>Xau _ _ _ rfl (by simp only[List.map_toArray,List.map_nil];exact Xmw) (hK _ _ ?_)))
  | ((with_reducible show wpList _ _ _ (⟨none,Op.store 165 (.tmp 2) _,_,_,_,_⟩::_) _ _);go_must(refine Xai rfl 165 (.tmp 2) (.tmp 12) rfl g2 (askC ask0) (askC ask0) HR2.out (Xa7 Xbc.1) rfl (Xba _) ?_ ?_ ?_;go_simp;go_simp;intro w9 hr9 ht9;have R9:=Hd hr9;have T9:=Hd ht9;clear hr9 ht9)))
 refine bodyPost_ret (Xaj (h:=rfl) _ w9 ⟨g2,0,none⟩ (.agg (askC ask0).toArray) (.bool false) (by rfl) (by rfl) (Xav R9.out (Xa7 Xbc.1))) rfl ?_;exact Xbl HE.out Xbc.1 (HB6.out.trans (T9.out.below HLO.out))
theorem Xfz(A:Option Addr)(n c S:Nat)(zs:List Int)(w:World)(hs:Sees w S A n (bv zs))(hS:S≤w.heap.size)(hnc:n≤c)(hc:c≤maxLen)(hz:AllBytes zs) :
 Calls Tryd.prog 62 #[.slice A n c] w (ReadDone14 w (rd14 zs)):=by
 by_cases h0:numS zs false 4=0
 ·exact Xri A n c S zs w hs hS hnc hc hz h0
 by_cases h1:numS zs false 4=1
 ·exact Xrx A n c S zs w hs hS hnc hc hz h1
 by_cases h2:numS zs false 4=2
 ·exact Xr6 A n c S zs w hs hS hnc hc hz h2
 by_cases h8:numS zs false 4=8
 ·exact Xrs A n c S zs w hs hS hnc hc hz h8
 exact Xro A n c S zs w hs hS hnc hc hz ⟨h0,h1,h2,h8⟩
end Go.Proofs.YtkhcgclnmdgpbaaDoor
