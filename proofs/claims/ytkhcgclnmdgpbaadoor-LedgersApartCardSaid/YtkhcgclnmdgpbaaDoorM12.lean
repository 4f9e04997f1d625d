import Derived.Test.YtkhcgclnmdgpbaaDoorM11
import Derived.Lib.Mul64
import Derived.Lib.BitFns
import Derived.Laws.NewBlocks
import Derived.Shelf.Small.Bits
set_option maxRecDepth 100000
set_option maxHeartbeats 16000000
set_option linter.unusedSimpArgs false
set_option linter.unusedVariables false
namespace Go.Proofs.YtkhcgclnmdgpbaaDoor
open Go.RowKit
def dat16x:List Int:=[2,0,0,0,184,11,0,0,0,0,0,0]
def in16x:LIn:=⟨2,[0,1],dat16x⟩
def ms16x:LMsg:=⟨false,0,0,0,[],zero32,[in16x],[]⟩
def rd16x:LReady:=⟨[],⟨[],ms16x⟩,ro15x,400000,0,-1,5000,0,0⟩
theorem Xoy:AllBytes dat16x:=by
 have h:∀z ∈ dat16x,0≤z∧z<256:=by decide
 exact h
theorem Xes(gi:Nat):Tryd.prog.built 40 [(4,.slice (some ⟨gi,0,none⟩) 1 1)]=some ((q15x gi 0).t.q.cells ms16x).toArray:=by kernel_rfl
theorem Xet(gi:Nat):Tryd.prog.built 42 [(1,.agg ((q15x gi 0).t.q.cells ms16x).toArray)]=some ((q15x gi 0).t.cells ⟨[],ms16x⟩).toArray:=by kernel_rfl
theorem Xer(gi gr:Nat):Tryd.prog.built 48 [(1,.agg ((q15x gi 0).t.cells ⟨[],ms16x⟩).toArray),(2,.slice (some ⟨gr,0,none⟩) 3 3),(3,.agg ([.int .u64 400000,.int .u64 0,.int .i64 (-1)]:List Value).toArray),(4,.int .u64 5000)]=some ((q15x gi gr).cells rd16x).toArray:=by kernel_rfl
theorem Xbj(gi gr:Nat):(Tryd.prog.info? 48).map (·.size)=some ((q15x gi gr).cells rd16x).length:=by kernel_rfl
theorem Xf4(gi gr:Nat):∀u ∈ (q15x gi gr).cells rd16x,u.oneCell'=true:=by
 intro u hu;unfold YRaw.cells at hu;rcases List.mem_cons.1 hu with rfl | hu
 ·rfl
 rcases List.mem_append.1 hu with hu | hu
 ·exact Xhl u hu
 rcases List.mem_cons.1 hu with rfl | hu
 ·rfl
 ·simp only[LReady.last,List.mem_cons,List.not_mem_nil,or_false]at hu;rcases hu with rfl | rfl | rfl | rfl | rfl | rfl <;> rfl
def MvDone16(w:World)(e:Ending)(w':World):Prop:=∃gi gr,e=.returned (.agg ((q15x gi gr).cells rd16x).toArray)∧ReadyIn w' w'.heap.size (q15x gi gr) rd16x∧Below w.heap.size w w'
theorem Xl4{V:World}{gi gr ga gd:Nat}(hi:Row V gi 108 (ic15x ga gd))(hr:Row V gr 82 roC15x)(ha:Row V ga 5 (bv [0,1]))(hd:Row V gd 5 (bv dat16x)):ReadyIn V V.heap.size (q15x gi gr) rd16x:=by
 refine⟨Sees.nil _ _ _,by simp[q15x,maxLen],⟨⟨rfl,fun k hk=>(by cases hk),Sees.nil _ _ _⟩,by simp[q15x,maxLen],?_⟩,?_,by simp[q15x,maxLen]⟩
 ·refine⟨rfl,⟨rfl,fun k hk=>(by cases hk),Sees.nil _ _ _⟩,⟨rfl,fun i y hy=>?_⟩,⟨rfl,fun i y hy=>(by cases hy)⟩,by simp[q15x,maxLen],by simp[q15x,maxLen],by simp[q15x,maxLen]⟩;have hi0:i=0:=by
   have:=(List.getElem?_eq_some_iff.1 hy).1;simp[rd16x,ms16x]at this;exact this
  subst hi0;obtain rfl:in16x=y:=by simpa [rd16x,ms16x]using hy
  refine⟨⟨gi,0,none⟩,.slice (some ⟨ga,0,none⟩) 2 2,.slice (some ⟨gd,0,none⟩) 12 12,rfl,hi.lt,?_,?_,?_,?_,?_⟩
  ·exact hi.cell 0
  ·exact hi.cell 1
  ·exact hi.cell 2
  ·exact⟨_,2,rfl,ha.sees0,Lr _,by unfold maxLen;omega⟩
  ·exact⟨_,12,rfl,hd.sees0,Lr _,by unfold maxLen;omega⟩
 ·have e:(List.map LRole.cells ro15x).flatten=roC15x:=by simp[ro15x,roC15x]
  exact Xof (l:=ro15x) (ys:=[]) (by rw[List.append_nil,e];exact hr) rfl Xlu hr.lt
structure MX16(w V:World)(g3 g4 g6 g7 ga gd:Nat):Prop where
 b:Below w.heap.size w V
 r3:Row V g3 68 (bv (kx15 8))
 r4:Row V g4 68 (bv (kx15 9))
 r6:Row V g6 48 zrdC
 r7:Row V g7 108 (ic15x ga gd)
 ra:Row V ga 5 (bv [0,1])
 rd:Row V gd 5 (bv dat16x)
theorem MX16.below{w V V':World}{g3 g4 g6 g7 ga gd:Nat}(m:MX16 w V g3 g4 g6 g7 ga gd)(hb:Below V.heap.size V V'):MX16 w V' g3 g4 g6 g7 ga gd:=
 ⟨m.b.trans (hb.mono m.b.size),m.r3.below hb m.r3.lt,m.r4.below hb m.r4.lt,m.r6.below hb m.r6.lt,m.r7.below hb m.r7.lt,m.ra.below hb m.ra.lt,m.rd.below hb m.rd.lt⟩
theorem move16(w:World):Calls Tryd.prog 16 #[.agg (bv (kx15 8)).toArray,.agg (bv (kx15 9)).toArray] w (MvDone16 w):=by
 have hb0:=(((Br w.heap.size w).alloc (Lr _) (.cells (bv (kx15 8)).toArray 68)).alloc (by simp) (.cells (bv (kx15 9)).toArray 68)).alloc (by simp;omega) (.cells zrdC.toArray 48);have r3:=((Row.new w 68 (bv (kx15 8))).alloc (.cells (bv (kx15 9)).toArray 68)).alloc (.cells zrdC.toArray 48);have r4:=(Row.new' (w.alloc (.cells (bv (kx15 8)).toArray 68)) 68 (bv (kx15 9)) (g:=w.heap.size+1) (by simp)).alloc (.cells zrdC.toArray 48);have r6:=Row.new' ((w.alloc (.cells (bv (kx15 8)).toArray 68)).alloc (.cells (bv (kx15 9)).toArray 68)) 48 zrdC (g:=w.heap.size+1+1) (by simp);have R3:=Hd r3;have R4:=Hd r4;have R6:=Hd r6;have B0:=Hd hb0;clear r3 r4 r6 hb0;obtain⟨g6,hg6⟩:∃g,g=w.heap.size+1+1:=⟨_,rfl⟩;obtain⟨g4,hg4⟩:∃g,g=w.heap.size+1:=⟨_,rfl⟩;obtain⟨g3,hg3⟩:∃g,g=w.heap.size:=⟨_,rfl⟩;have HG6:Hid (w.heap.size+1+1=g6):=Hd hg6.symm;have HG4:Hid (w.heap.size+1=g4):=Hd hg4.symm;have HG3:Hid (w.heap.size=g3):=Hd hg3.symm;have HG6a:Hid (((w.alloc (.cells (bv (kx15 8)).toArray 68)).alloc (.cells (bv (kx15 9)).toArray 68)).heap.size=g6):=Hd (by rw[hg6];simp);have HG4a:Hid ((w.alloc (.cells (bv (kx15 8)).toArray 68)).heap.size=g4):=Hd (by rw[hg4];simp);have HGN:Hid (w.heap.size≤g6∧g3≠g6∧g4≠g6):=Hd (by omega);rw[←hg6]at R6;rw[←hg4]at R4;rw[←hg3]at R3;clear hg6 hg4 hg3;go_enter Tryd.func16,Tryd.ntmps16
 go_upto_region 1 with((with_reducible show wpList _ _ _ (⟨some 4,_,_,_,_,_⟩::_) _ _);go_must(refine Xa2 rfl 48 rfl zrdC Xmf ?_))
 try rw[HG6a.out]
 try rw[HG6.out]
 try rw[HG4a.out]
 try rw[HG4.out]
 try rw[HG3.out]
 generalize hW:((w.alloc (.cells (bv (kx15 8)).toArray 68)).alloc (.cells (bv (kx15 9)).toArray 68)).alloc (.cells zrdC.toArray 48)=W at *;clear hW HG6 HG4 HG3 HG6a HG4a;have ra:=(Row.new W 5 (bv [0,1])).alloc (.cells (bv dat16x).toArray 5);have rd:=Row.new' (W.alloc (.cells (bv [0,1]).toArray 5)) 5 (bv dat16x) (g:=W.heap.size+1) (by simp);have hb1:=((Br W.heap.size W).alloc (Lr _) (.cells (bv [0,1]).toArray 5)).alloc (by simp) (.cells (bv dat16x).toArray 5);have RA:=Hd ra;have RD:=Hd rd;have B1:=Hd hb1;clear ra rd hb1;obtain⟨gd,hgd⟩:∃g,g=W.heap.size+1:=⟨_,rfl⟩;obtain⟨ga,hga⟩:∃g,g=W.heap.size:=⟨_,rfl⟩;have HGD:Hid (W.heap.size+1=gd):=Hd hgd.symm;have HGA:Hid (W.heap.size=ga):=Hd hga.symm;have HAD:Hid (g6<ga∧g6<gd):=Hd (by have:=R6.out.lt;omega);rw[←hgd]at RD;rw[←hga]at RA;clear hgd hga;go_upto_region 2 with(first
  | ((with_reducible show wpList _ _ _ (⟨some 8,_,_,_,_,_⟩::_) _ _);go_must(refine wpList_plain rfl fun K hK=>Xau _ _ _ rfl (by simp only[List.map_toArray,List.map_cons,List.map_nil];rw[HGD.out,HGA.out];exact Xl8 ga gd) (hK _ _ ?_)))
  | ((with_reducible show wpList _ _ _ (⟨some 5,_,_,_,_,_⟩::_) _ _);go_must(refine Xa2 rfl 108 rfl (insC 0 none 0 0 none 0 0) Xo4 ?_))
  | ((with_reducible show wpList _ _ _ (⟨none,Op.store 108 _ _,_,_,_,_⟩::_) _ _);go_must(refine Xa6 rfl 108 (.tmp 5) (.tmp 8) rfl (ic15x ga gd) (by kernel_rfl) Xj8 rfl ?_ ?_ ?_;go_simp;go_simp;intro w7 hr7 hb7 hz7)))
 try rw[HGD.out]
 try rw[HGA.out]
 obtain⟨g7,hg7⟩:∃g,g=W.heap.size+1+1:=⟨_,rfl⟩;have HS7:Hid (W.heap.size<g7):=Hd (by omega);rw[World.size_alloc,World.size_alloc]at hr7;have hr7':Row w7 g7 108 (ic15x ga gd):=by rw[hg7];exact hr7
 try simp only[World.size_alloc]
 rw[←hg7];clear hg7;try simp only[nm]
 have hb7':Below ((W.alloc (.cells (bv [0,1]).toArray 5)).alloc (.cells (bv dat16x).toArray 5)).heap.size ((W.alloc (.cells (bv [0,1]).toArray 5)).alloc (.cells (bv dat16x).toArray 5)) w7:=hb7;have M:=Hd (show MX16 w w7 g3 g4 g6 g7 ga gd from⟨(B0.out.trans (B1.out.mono B0.out.size)).trans (hb7'.mono (Lq B0.out.size B1.out.size)),(R3.out.below B1.out R3.out.lt).below hb7' (Nat.lt_of_lt_of_le R3.out.lt B1.out.size),(R4.out.below B1.out R4.out.lt).below hb7' (Nat.lt_of_lt_of_le R4.out.lt B1.out.size),(R6.out.below B1.out R6.out.lt).below hb7' (Nat.lt_of_lt_of_le R6.out.lt B1.out.size),hr7',RA.out.below hb7' RA.out.lt,RD.out.below hb7' RD.out.lt⟩);have H76:Hid (g6<g7):=Hd (by have:=R6.out.lt;have:=HS7.out;omega);have MD:Hid (MX16 w w7.drew g3 g4 g6 g7 ga gd):=Hd (M.out.below ⟨rfl,rfl,rfl,Lr _,fun _ _=>rfl⟩);refine wp_region_held_drew (S:=fun V=>Row V g3 68 (bv (kx15 8))∧Row V g4 68 (bv (kx15 9))∧Row V g7 108 (ic15x ga gd)) (by kernel_rfl) ⟨MD.out.r3,MD.out.r4,MD.out.r7⟩ (fun _=>?_);try dsimp only[List.append]
 clear M R3 R4 R6 RA RD B0 B1 HGD HGA hr7 hr7' hb7 hb7' hz7;generalize w7.drew=wd at *;refine Tl 0 (v:=.agg (ic15x ga gd).toArray) rfl (Or.inl ⟨by rfl,fun wz hwz=>Xa4 wz 108 (.tmp 5) rfl ⟨g7,0,none⟩ (ic15x ga gd) _ Tryd.underlying108 rfl (by kernel_rfl) (fun j u hu=>by rw[Xac,Nat.zero_add,hwz.2.2.cell];exact hu) (by go_simp)⟩) ⟨MD.out.r3,MD.out.r4,MD.out.r7⟩ ?_;try simp only[nm]
 refine Tl 4 (v:=.agg (bv (kx15 8)).toArray) rfl (Or.inl ⟨by rfl,fun wz hwz=>Xa4 wz 68 (.tmp 2) rfl ⟨g3,0,none⟩ (bv (kx15 8)) _ Tryd.underlying68 rfl (by kernel_rfl) (fun j u hu=>by rw[Xac,Nat.zero_add,hwz.1.cell];exact hu) (by go_simp)⟩) ⟨MD.out.r3,MD.out.r4,MD.out.r7⟩ ?_;try simp only[nm]
 refine Tl 5 (v:=.agg (LRole.mk (kx15 8) true true).cells.toArray) rfl (Or.inl ⟨by rfl,fun wz hwz=>Xao wz _ _ _ rfl (by simp only[List.map_toArray,List.map_cons,List.map_nil];exact Xol)⟩) ⟨MD.out.r3,MD.out.r4,MD.out.r7⟩ ?_;try simp only[nm]
 refine Tl 6 (v:=.agg (bv (kx15 9)).toArray) rfl (Or.inl ⟨by rfl,fun wz hwz=>Xa4 wz 68 (.tmp 3) rfl ⟨g4,0,none⟩ (bv (kx15 9)) _ Tryd.underlying68 rfl (by kernel_rfl) (fun j u hu=>by rw[Xac,Nat.zero_add,hwz.2.1.cell];exact hu) (by go_simp)⟩) ⟨MD.out.r3,MD.out.r4,MD.out.r7⟩ ?_;try simp only[nm]
 refine Tl 7 (v:=.agg (LRole.mk (kx15 9) false true).cells.toArray) rfl (Or.inl ⟨by rfl,fun wz hwz=>Xao wz _ _ _ rfl (by simp only[List.map_toArray,List.map_cons,List.map_nil];exact Xoe)⟩) ⟨MD.out.r3,MD.out.r4,MD.out.r7⟩ ?_;try simp only[nm]
 refine Tl 11 (v:=.agg ([.int .u64 400000,.int .u64 0,.int .i64 (-1)]:List Value).toArray) rfl (Or.inl ⟨by rfl,fun wz hwz=>Xao wz _ _ _ rfl (by simp only[List.map_toArray,List.map_cons,List.map_nil];exact Xkj)⟩) ⟨MD.out.r3,MD.out.r4,MD.out.r7⟩ ?_;try simp only[nm]
 refine Xar (i:=1) (j:=8) rfl rfl (by kernel_rfl) (by kernel_rfl) (by kernel_rfl) (fun K hK=>?_) (fun K hK=>?_)
 ·refine Xb2 37 108 (.tmp 9) rfl (ic15x ga gd) _ 3 56 Tryd.underlying37 Xgk Xi5 (by omega) (by omega) rfl (by go_simp) ?_;have hb1:=(Br wd.heap.size wd).alloc (Lr _) (.cells (ic15x ga gd).toArray 108);have RI1:=Hd (Row.new wd 108 (ic15x ga gd));obtain⟨gi1,hgi1⟩:∃g,g=wd.heap.size:=⟨_,rfl⟩;have HI1:Hid (g6<gi1):=Hd (by rw[hgi1];exact MD.out.r6.lt);rw[←hgi1]at RI1 ⊢;clear hgi1;have M1:=Hd (MD.out.below hb1);clear hb1;generalize wd.alloc (.cells (ic15x ga gd).toArray 108)=y1 at *;refine hK.out _ _ ⟨M1.out.r3,M1.out.r4,M1.out.r7⟩ ?_;clear hK K;try simp only[nm]
  refine Tl 2 (v:=.agg ((q15x gi1 0).t.q.cells ms16x).toArray) rfl (Or.inl ⟨by rfl,fun wz hwz=>Xao wz _ _ _ rfl (by simp only[List.map_toArray,List.map_cons,List.map_nil];exact Xes _)⟩) ⟨M1.out.r3,M1.out.r4,M1.out.r7⟩ ?_;try simp only[nm]
  refine Tl 3 (v:=.agg ((q15x gi1 0).t.cells ⟨[],ms16x⟩).toArray) rfl (Or.inl ⟨by rfl,fun wz hwz=>Xao wz _ _ _ rfl (by simp only[List.map_toArray,List.map_cons,List.map_nil];exact Xet _)⟩) ⟨M1.out.r3,M1.out.r4,M1.out.r7⟩ ?_;try simp only[nm]
  refine Rl 8 rfl fun K hK=>?_
  go_simp;refine(Xbw _).mono ?_;rintro e y2 ⟨rfl,hb2⟩;have M2:=Hd (M1.out.below hb2);have RI2:=Hd (RI1.out.below hb2 RI1.out.lt);clear hb2;refine hK.out _ _ ⟨M2.out.r3,M2.out.r4,M2.out.r7⟩ ?_;clear hK K;try simp only[nm]
  refine Tl 9 (v:=.agg (LRole.mk k0 false false).cells.toArray) rfl (Or.inl ⟨by rfl,fun wz hwz=>Xao wz _ _ _ rfl (by simp only[List.map_toArray,List.map_cons,List.map_nil];exact Xk8)⟩) ⟨M2.out.r3,M2.out.r4,M2.out.r7⟩ ?_;try simp only[nm]
  refine Rl 10 rfl fun K hK=>?_
  refine Xc3 43 82 (.tmp 14) (.tmp 16) (.tmp 18) rfl (LRole.mk (kx15 8) true true).cells (LRole.mk (kx15 9) false true).cells (LRole.mk k0 false false).cells _ 34 34 Tryd.underlying43 infoR zszRx (by omega) (by omega) rfl rfl rfl (by go_simp) (by go_simp) (by go_simp) ?_;have hb3:=(Br y2.heap.size y2).alloc (Lr _) (.cells roC15x.toArray 82);have RR3:=Hd (Row.new y2 82 roC15x);obtain⟨gr3,hgr3⟩:∃g,g=y2.heap.size:=⟨_,rfl⟩;have HR3:Hid (g6<gr3):=Hd (by rw[hgr3];exact M2.out.r6.lt);rw[←hgr3]at RR3 ⊢;clear hgr3;have M3:=Hd (M2.out.below hb3);have RI3:=Hd (RI2.out.below hb3 RI2.out.lt);clear hb3;rw[show(LRole.mk (kx15 8) true true).cells++((LRole.mk (kx15 9) false true).cells++(LRole.mk k0 false false).cells)=roC15x from rfl];generalize y2.alloc (.cells roC15x.toArray 82)=y3 at *;refine hK.out _ _ ⟨M3.out.r3,M3.out.r4,M3.out.r7⟩ ?_;clear hK K;try simp only[nm]
  refine Tl 12 (v:=.agg ((q15x gi1 gr3).cells rd16x).toArray) rfl (Or.inl ⟨by rfl,fun wz hwz=>Xao wz _ _ _ rfl (by simp only[List.map_toArray,List.map_cons,List.map_nil];exact Xer _ _)⟩) ⟨M3.out.r3,M3.out.r4,M3.out.r7⟩ ?_;try simp only[nm]
  refine Rl 13 rfl fun K hK=>?_
  refine Xbp 48 (.tmp 4) (.tmp 21) rfl g6 zrdC ((q15x gi1 gr3).cells rd16x) M3.out.r6 (Xbj _ _) rfl (Xf4 _ _) (by go_simp) (by go_simp) (fun w9 hr9 ht9=>?_);have R9:=Hd hr9;have T9:=Hd ht9;clear hr9 ht9;refine hK.out _ _ ⟨T9.out.row M3.out.r3 HGN.out.2.1,T9.out.row M3.out.r4 HGN.out.2.2,T9.out.row M3.out.r7 (by have:=H76.out;omega)⟩ ?_;clear hK K;try simp only[Act.put]
  refine wpAnyH_done (by kernel_rfl) ?_ _;go_wp2_with fail;refine bodyPost_ret (results_cell_row (h:=rfl) _ w9 g6 48 _ (0,0) _ (by rfl) R9.out.is Tryd.underlying48 rfl (Xbj gi1 gr3)) rfl ?_;exact⟨gi1,gr3,rfl,Xl4 (T9.out.row RI3.out (by have:=HI1.out;omega)) (T9.out.row RR3.out (by have:=HR3.out;omega)) (T9.out.row M3.out.ra (by have:=HAD.out;omega)) (T9.out.row M3.out.rd (by have:=HAD.out;omega)),M3.out.b.trans (T9.out.below HGN.out.1)⟩
 ·go_simp;refine(Xbw _).mono ?_;rintro e y4 ⟨rfl,hb4⟩;have M4:=Hd (MD.out.below hb4);clear hb4;refine hK.out _ _ ⟨M4.out.r3,M4.out.r4,M4.out.r7⟩ ?_;clear hK K;try simp only[nm]
  refine Tl 9 (v:=.agg (LRole.mk k0 false false).cells.toArray) rfl (Or.inl ⟨by rfl,fun wz hwz=>Xao wz _ _ _ rfl (by simp only[List.map_toArray,List.map_cons,List.map_nil];exact Xk8)⟩) ⟨M4.out.r3,M4.out.r4,M4.out.r7⟩ ?_;try simp only[nm]
  refine Xar (i:=1) (j:=10) rfl rfl (by kernel_rfl) (by kernel_rfl) (by kernel_rfl) (fun K hK=>?_) (fun K hK=>?_)
  ·refine Xb2 37 108 (.tmp 9) rfl (ic15x ga gd) _ 3 56 Tryd.underlying37 Xgk Xi5 (by omega) (by omega) rfl (by go_simp) ?_;have hb5:=(Br y4.heap.size y4).alloc (Lr _) (.cells (ic15x ga gd).toArray 108);have RI5:=Hd (Row.new y4 108 (ic15x ga gd));obtain⟨gi5,hgi5⟩:∃g,g=y4.heap.size:=⟨_,rfl⟩;have HI5:Hid (g6<gi5):=Hd (by rw[hgi5];exact M4.out.r6.lt);rw[←hgi5]at RI5 ⊢;clear hgi5;have M5:=Hd (M4.out.below hb5);clear hb5;generalize y4.alloc (.cells (ic15x ga gd).toArray 108)=y5 at *;refine hK.out _ _ ⟨M5.out.r3,M5.out.r4,M5.out.r7⟩ ?_;clear hK K;try simp only[nm]
   refine Tl 2 (v:=.agg ((q15x gi5 0).t.q.cells ms16x).toArray) rfl (Or.inl ⟨by rfl,fun wz hwz=>Xao wz _ _ _ rfl (by simp only[List.map_toArray,List.map_cons,List.map_nil];exact Xes _)⟩) ⟨M5.out.r3,M5.out.r4,M5.out.r7⟩ ?_;try simp only[nm]
   refine Tl 3 (v:=.agg ((q15x gi5 0).t.cells ⟨[],ms16x⟩).toArray) rfl (Or.inl ⟨by rfl,fun wz hwz=>Xao wz _ _ _ rfl (by simp only[List.map_toArray,List.map_cons,List.map_nil];exact Xet _)⟩) ⟨M5.out.r3,M5.out.r4,M5.out.r7⟩ ?_;try simp only[nm]
   refine Rl 10 rfl fun K hK=>?_
   refine Xc3 43 82 (.tmp 14) (.tmp 16) (.tmp 18) rfl (LRole.mk (kx15 8) true true).cells (LRole.mk (kx15 9) false true).cells (LRole.mk k0 false false).cells _ 34 34 Tryd.underlying43 infoR zszRx (by omega) (by omega) rfl rfl rfl (by go_simp) (by go_simp) (by go_simp) ?_;have hb6:=(Br y5.heap.size y5).alloc (Lr _) (.cells roC15x.toArray 82);have RR6:=Hd (Row.new y5 82 roC15x);obtain⟨gr6,hgr6⟩:∃g,g=y5.heap.size:=⟨_,rfl⟩;have HR6:Hid (g6<gr6):=Hd (by rw[hgr6];exact M5.out.r6.lt);rw[←hgr6]at RR6 ⊢;clear hgr6;have M6:=Hd (M5.out.below hb6);have RI6:=Hd (RI5.out.below hb6 RI5.out.lt);clear hb6;rw[show(LRole.mk (kx15 8) true true).cells++((LRole.mk (kx15 9) false true).cells++(LRole.mk k0 false false).cells)=roC15x from rfl];generalize y5.alloc (.cells roC15x.toArray 82)=y6 at *;refine hK.out _ _ ⟨M6.out.r3,M6.out.r4,M6.out.r7⟩ ?_;clear hK K;try simp only[nm]
   refine Tl 12 (v:=.agg ((q15x gi5 gr6).cells rd16x).toArray) rfl (Or.inl ⟨by rfl,fun wz hwz=>Xao wz _ _ _ rfl (by simp only[List.map_toArray,List.map_cons,List.map_nil];exact Xer _ _)⟩) ⟨M6.out.r3,M6.out.r4,M6.out.r7⟩ ?_;try simp only[nm]
   refine Rl 13 rfl fun K hK=>?_
   refine Xbp 48 (.tmp 4) (.tmp 21) rfl g6 zrdC ((q15x gi5 gr6).cells rd16x) M6.out.r6 (Xbj _ _) rfl (Xf4 _ _) (by go_simp) (by go_simp) (fun w9 hr9 ht9=>?_);have R9:=Hd hr9;have T9:=Hd ht9;clear hr9 ht9;refine hK.out _ _ ⟨T9.out.row M6.out.r3 HGN.out.2.1,T9.out.row M6.out.r4 HGN.out.2.2,T9.out.row M6.out.r7 (by have:=H76.out;omega)⟩ ?_;clear hK K;try simp only[Act.put]
   refine wpAnyH_done (by kernel_rfl) ?_ _;go_wp2_with fail;refine bodyPost_ret (results_cell_row (h:=rfl) _ w9 g6 48 _ (0,0) _ (by rfl) R9.out.is Tryd.underlying48 rfl (Xbj gi5 gr6)) rfl ?_;exact⟨gi5,gr6,rfl,Xl4 (T9.out.row RI6.out (by have:=HI5.out;omega)) (T9.out.row RR6.out (by have:=HR6.out;omega)) (T9.out.row M6.out.ra (by have:=HAD.out;omega)) (T9.out.row M6.out.rd (by have:=HAD.out;omega)),M6.out.b.trans (T9.out.below HGN.out.1)⟩
  ·refine Xc3 43 82 (.tmp 14) (.tmp 16) (.tmp 18) rfl (LRole.mk (kx15 8) true true).cells (LRole.mk (kx15 9) false true).cells (LRole.mk k0 false false).cells _ 34 34 Tryd.underlying43 infoR zszRx (by omega) (by omega) rfl rfl rfl (by go_simp) (by go_simp) (by go_simp) ?_;have hb7:=(Br y4.heap.size y4).alloc (Lr _) (.cells roC15x.toArray 82);have RR7:=Hd (Row.new y4 82 roC15x);obtain⟨gr7,hgr7⟩:∃g,g=y4.heap.size:=⟨_,rfl⟩;have HR7:Hid (g6<gr7):=Hd (by rw[hgr7];exact M4.out.r6.lt);rw[←hgr7]at RR7 ⊢;clear hgr7;have M7:=Hd (M4.out.below hb7);clear hb7;rw[show(LRole.mk (kx15 8) true true).cells++((LRole.mk (kx15 9) false true).cells++(LRole.mk k0 false false).cells)=roC15x from rfl];generalize y4.alloc (.cells roC15x.toArray 82)=y7 at *;refine hK.out _ _ ⟨M7.out.r3,M7.out.r4,M7.out.r7⟩ ?_;clear hK K;try simp only[nm]
   refine Rl 1 rfl fun K hK=>?_
   refine Xb2 37 108 (.tmp 9) rfl (ic15x ga gd) _ 3 56 Tryd.underlying37 Xgk Xi5 (by omega) (by omega) rfl (by go_simp) ?_;have hb8:=(Br y7.heap.size y7).alloc (Lr _) (.cells (ic15x ga gd).toArray 108);have RI8:=Hd (Row.new y7 108 (ic15x ga gd));obtain⟨gi8,hgi8⟩:∃g,g=y7.heap.size:=⟨_,rfl⟩;have HI8:Hid (g6<gi8):=Hd (by rw[hgi8];exact M7.out.r6.lt);rw[←hgi8]at RI8 ⊢;clear hgi8;have M8:=Hd (M7.out.below hb8);have RR8:=Hd (RR7.out.below hb8 RR7.out.lt);clear hb8;generalize y7.alloc (.cells (ic15x ga gd).toArray 108)=y8 at *;refine hK.out _ _ ⟨M8.out.r3,M8.out.r4,M8.out.r7⟩ ?_;clear hK K;try simp only[nm]
   refine Tl 2 (v:=.agg ((q15x gi8 0).t.q.cells ms16x).toArray) rfl (Or.inl ⟨by rfl,fun wz hwz=>Xao wz _ _ _ rfl (by simp only[List.map_toArray,List.map_cons,List.map_nil];exact Xes _)⟩) ⟨M8.out.r3,M8.out.r4,M8.out.r7⟩ ?_;try simp only[nm]
   refine Tl 3 (v:=.agg ((q15x gi8 0).t.cells ⟨[],ms16x⟩).toArray) rfl (Or.inl ⟨by rfl,fun wz hwz=>Xao wz _ _ _ rfl (by simp only[List.map_toArray,List.map_cons,List.map_nil];exact Xet _)⟩) ⟨M8.out.r3,M8.out.r4,M8.out.r7⟩ ?_;try simp only[nm]
   refine Tl 12 (v:=.agg ((q15x gi8 gr7).cells rd16x).toArray) rfl (Or.inl ⟨by rfl,fun wz hwz=>Xao wz _ _ _ rfl (by simp only[List.map_toArray,List.map_cons,List.map_nil];exact Xer _ _)⟩) ⟨M8.out.r3,M8.out.r4,M8.out.r7⟩ ?_;try simp only[nm]
   refine Rl 13 rfl fun K hK=>?_
   refine Xbp 48 (.tmp 4) (.tmp 21) rfl g6 zrdC ((q15x gi8 gr7).cells rd16x) M8.out.r6 (Xbj _ _) rfl (Xf4 _ _) (by go_simp) (by go_simp) (fun w9 hr9 ht9=>?_);have R9:=Hd hr9;have T9:=Hd ht9;clear hr9 ht9;refine hK.out _ _ ⟨T9.out.row M8.out.r3 HGN.out.2.1,T9.out.row M8.out.r4 HGN.out.2.2,T9.out.row M8.out.r7 (by have:=H76.out;omega)⟩ ?_;clear hK K;try simp only[Act.put]
   refine wpAnyH_done (by kernel_rfl) ?_ _;go_wp2_with fail;refine bodyPost_ret (results_cell_row (h:=rfl) _ w9 g6 48 _ (0,0) _ (by rfl) R9.out.is Tryd.underlying48 rfl (Xbj gi8 gr7)) rfl ?_;exact⟨gi8,gr7,rfl,Xl4 (T9.out.row RI8.out (by have:=HI8.out;omega)) (T9.out.row RR8.out (by have:=HR7.out;omega)) (T9.out.row M8.out.ra (by have:=HAD.out;omega)) (T9.out.row M8.out.rd (by have:=HAD.out;omega)),M8.out.b.trans (T9.out.below HGN.out.1)⟩
def Word(x:Int):Prop:=0≤x∧x<18446744073709551616
theorem add64(x y:Int)(hx:Word x)(hy:Word y)(w:World) :
 (callFunc 42 #[.int .u64 x,.int .u64 y,.int .u64 0]).run Tryd.prog w =
   .ok (.value (.tuple #[.int .u64 ((x+y) % 18446744073709551616),.int .u64 ((x+y) / 18446744073709551616)])) w:=by
 rw[run_callFunc_extern Tryd.func42 (by kernel_rfl) (by kernel_rfl) (by kernel_rfl) (e:=add64Entry) (by kernel_rfl),run_add64 x y 0 hx.1 hy.1 (by omega) (by omega)];simp[Result.andThen]
open Go
section
variable{u v d v1 v0:Int}(hu:0≤u)(huv:u<v)(hd:0≤d)(hd':d<4294967296)(hv:9223372036854775808≤v)(hv':v<18446744073709551616)(e1:v1=v / 4294967296)(e0:v0=v % 4294967296)
include hu huv hd hd' hv in
include hv in
include hv in
include e1 e0 in
include hu huv hd hd' hv hv' e1 e0 in
include hv e1 e0 in
include hu huv hd hd' hv e1 e0 in
include hu huv hd hd' hv hv' e1 e0 in
include hu huv hd hd' hv e1 e0 in
include e0 in
def left(u v d:Int):Int:=(u*4294967296+d) % v
include hv in
end
def cap(x:Int):Int:=if 18446744073709551615<x then 18446744073709551615 else x
def held(zs:List Int):Int:=cap zs.sum
theorem Xsh{x:Int}(h:0≤x):Word (cap x):=by unfold cap;split <;> exact⟨by omega,by omega⟩
theorem Xu0{x y:Int}(h:0≤y):cap (cap x+y)=cap (x+y):=by unfold cap;repeat' split <;> omega
theorem Xmp{zs:List Int}(h:∀z ∈ zs,Word z):0≤zs.sum:=by
 induction zs with
 | nil=>simp
 | cons a t ih =>
  have:=(h a (by simp)).1;have:=ih (fun z hz=>h z (by simp[hz]));simp;omega
theorem Xo9{zs:List Int}(h:∀z ∈ zs,Word z):Word (held zs):=Xsh (Xmp h)
theorem Xsl(zs:List Int)(j:Nat)(h:j<zs.length):(zs.take (j+1)).sum=(zs.take j).sum+zs.getD j 0:=by
 rw[List.take_succ_eq_append_getElem h,List.sum_append,List.getD_eq_getElem?_getD,List.getElem?_eq_getElem h];simp
theorem Xjn{zs:List Int}(h:∀z ∈ zs,Word z)(j:Nat):Word (zs.getD j 0):=by
 rw[List.getD_eq_getElem?_getD];by_cases hi:j<zs.length
 ·rw[List.getElem?_eq_getElem hi];exact h _ (List.getElem_mem hi)
 ·rw[List.getElem?_eq_none (by omega)];exact⟨by simp,by simp⟩
theorem Xqx{zs:List Int}(h:∀z ∈ zs,Word z)(j:Nat):∀z ∈ zs.take j,Word z:=fun z hz=>h z (List.mem_of_mem_take hz)
theorem Xqt{zs:List Int}(h:∀z ∈ zs,Word z)(j:Nat)(hj:j<zs.length):held (zs.take (j+1))=cap (held (zs.take j)+zs.getD j 0):=by
 unfold held;rw[Xsl zs j hj,Xu0 (Xjn h j).1]
theorem cv_at{k:IntKind}{zs:List Int}{i:Nat}(h:i<zs.length):(cv k zs)[i]?=some (.int k (zs.getD i 0)):=by
 rw[show(cv k zs)[i]?=zs[i]?.map (Value.int k) by simp[cv],List.getD_eq_getElem?_getD,List.getElem?_eq_getElem h];rfl
theorem Sees.num{w:World}{B n:Nat}{A:Option Addr}{k:IntKind}{zs:List Int}{i:Nat}(h:Sees w B A n (cv k zs))(hi:i<n):∃a,A=some a∧a.block<B∧w.cell? (a.add i)=some (.int k (zs.getD i 0)):=by
 obtain⟨a,u,e,hb,hx,hc⟩:=h.at_ hi;have hl:i<zs.length:=by have:=h.len;rw[Xh5]at this;omega
 rw[cv_at hl]at hx;cases hx
 exact⟨a,e,hb,hc⟩
theorem add_(x a:Int)(B:Nat)(w:World)(hx:Word x)(ha:Word a)(hr:Row w B 44 [.int .u64 a]) :
 Calls Tryd.prog 41 #[.int .u64 x,.pointer (some ⟨B,0,none⟩)] w fun e w'=>e=.returned (.tuple #[])∧w'=w.setCell ⟨B,0,none⟩ (.int .u64 (cap (a+x))):=by
 have c0:=hr.cell 0;have f0:=hr.frozen 0;simp at c0;have s1:=add64 a x ha hx;by_cases h:18446744073709551615<a+x
 ·have e1:(a+x) / 18446744073709551616=1:=by have:=ha.2;have:=hx.2;omega
  have e2:=Hd (show cap (a+x)=18446744073709551615 by unfold cap;rw[if_pos h]);rw[e1]at s1;clear e1 h;go_enter Tryd.func41,Tryd.ntmps41
  go_wp2_with (simp only[s1])
  go_end0
  rw[e2.out];exact⟨rfl,rfl⟩
 ·have e1:(a+x) / 18446744073709551616=0:=by have:=ha.1;have:=hx.1;omega
  have e3:(a+x) % 18446744073709551616=a+x:=by have:=ha.1;have:=hx.1;omega
  have e2:=Hd (show cap (a+x)=a+x by unfold cap;rw[if_neg h]);rw[e1,e3]at s1;clear e1 h e3;go_enter Tryd.func41,Tryd.ntmps41
  go_wp2_with (simp only[s1])
  go_end0
  rw[e2.out];exact⟨rfl,rfl⟩
theorem sum_(A:Option Addr)(n c:Nat)(zs:List Int)(w:World)(S:Nat)(hx:Sees w S A n (cv .u64 zs))(hS:S≤w.heap.size)(hn:n≤maxLen)(hz:∀z ∈ zs,Word z) :
 Calls Tryd.prog 28 #[.slice A n c] w fun e w'=>e=.returned (.int .u64 (held zs))∧Below w.heap.size w w':=by
 unfold maxLen at hn;have lx:=Hd (show zs.length=n by have:=hx.len;rwa [Xh5]at this);have hx:=hx.more hS;have b0:Below w.heap.size w (w.alloc (.cells #[.int .u64 0] 44)):=(Br _ _).alloc (Lr _) _;have R0:=Row.new w 44 [.int .u64 0];generalize hB:w.heap.size=B at *;go_enter Tryd.func28,Tryd.ntmps28
 go_wp2;go_loopw [6,10] (fun _ i wr=>∃j:Nat,j≤n∧i=.int .i64 j∧Row wr B 44 [.int .u64 (held (zs.take j))]∧Below B w wr) (fun _ i _=>n - (intOf i).toNat)
 case atStart=>exact⟨0,Nat.zero_le _,rfl,by simpa [held,cap]using R0,b0⟩
 case round =>
  obtain⟨j,hj,rfl,hr,hbr⟩:=hrel;by_cases hlt:j<n
  ·obtain⟨a,rfl,ha,hca⟩:=(hx.below hbr).num hlt;have wz:=Xjn hz j;have E:=Hd (Xqt hz j (by have:=lx.out;omega));have C:=add_ (zs.getD j 0) (held (zs.take j)) B wr wz (Xo9 (Xqx hz j)) hr;have M:=Hd hr;clear hr wz;generalize zs.getD j 0=z at *;generalize held (zs.take j)=hd at *;go_wp2_with fail;refine C.mono ?_;rintro e w1 ⟨rfl,rfl⟩;have R1:=M.out.set_ 0 (.int .u64 (cap (hd+z)));rw[←E.out]at R1;go_wp2;go_roundw
   case rel =>
    refine⟨j+1,by omega,by go_num,?_,hbr.setCell (Lr _) _⟩;rw[E.out]at R1 ⊢;exact R1
   case measure=>simp[intOf];omega
  ·have hj:j=n:=by omega
   have hn:¬n<n:=by omega
   subst hj;have E:=Hd (show held (zs.take j)=held zs by rw[List.take_of_length_le (by have:=lx.out;omega)]);have c0:=hr.cell 0;simp at c0;clear hr;go_wp2;go_ret;rw[E.out];exact⟨rfl,hbr⟩
theorem Xbi(x y:Int)(g:Nat)(w:World)(hx:Word x)(hy:Word y)(hr:Row w g 44 [.int .u64 x,.int .u64 y]) :
 Calls Tryd.prog 28 #[.slice (some ⟨g,0,none⟩) 2 2] w fun e w'=>e=.returned (.int .u64 (cap (x+y)))∧Below w.heap.size w w':=by
 have hs:=hr.sees0;refine(sum_ _ 2 2 [x,y] w _ hs (Lr _) (by simp[maxLen]) ?_).mono ?_
 ·intro z hz;simp at hz;rcases hz with rfl | rfl
  ·exact hx
  ·exact hy
 ·rintro e w' ⟨rfl,hb⟩;exact⟨by simp[held],hb⟩
open Go.RowKit Go.Shelf
def noDefer16(L:List Oper):Bool:=L.all fun o=>match o.op with | .defer _=>false | _=>true
theorem Xjr{L:List Oper}(h:noDefer16 L=true):∀o ∈ L,∀c,o.op≠.defer c:=fun o ho c e=>by
 have:=List.all_eq_true.1 h o ho;rw[e]at this;cases this
def oC16(p:LOut × Option Addr):List Value:=p.1.cells (.slice p.2 p.1.ch.length p.1.ch.length)
def osC16(os:List (LOut × Option Addr)):List Value:=(os.map oC16).flatten
theorem Xmu(os:List (LOut × Option Addr))(p:LOut × Option Addr):osC16 (os++[p])=osC16 os++oC16 p:=by simp[osC16]
theorem Xah:(Tryd.prog.info? 60).map (fun i=>(i.zero,i.size,i.bytes))=some (some (.agg (out0.cells (.slice none 0 0)).toArray),6,64):=by kernel_rfl
theorem Xap:(Value.agg (out0.cells (.slice none 0 0)).toArray).cells.size=6:=by kernel_rfl
theorem Xbd(p:LOut × Option Addr):∀u ∈ oC16 p,u.oneCell'=true:=Xbe _ rfl
theorem Xrh(p:LOut × Option Addr):(oC16 p).length=6:=rfl
theorem Xb3(n:Int):sat16 n=cap n:=by
 unfold sat16 cap;split <;> split <;> omega
def Hol16(V:World)(base:Nat)(p:LOut × Option Addr):Prop:=∃c,V.ownsRow base 78 66 (.slice p.2 p.1.ch.length c) p.1.ch.length (holC p.1.ch)
structure FC16(T:FK16)(w0 V:World)(v:Value)(os:List (LOut × Option Addr))(fees e:Int)(L:List LHold):Prop where
 g:w0.grownBy V (some T.mb)
 st:StIn V T.sb T.mb L
 r4:Row V T.b4 55 [v]
 r5:Row V T.b5 44 [.int .u64 fees]
 r6:Row V T.b6 50 [.int .i64 e]
 rl:Row V T.bl 23 [.slice T.LA T.ln T.lc]
 rs:Row V T.bs 26 [.pointer (some ⟨T.sb,0,none⟩)]
 hol:∀p ∈ os,Hol16 V w0.heap.size p
 lo:w0.heap.size≤T.b4∧w0.heap.size≤T.b5∧w0.heap.size≤T.b6
 sl:T.sb<w0.heap.size
def Odd16(V:World)(x:Nat):Prop:=∃o,V.heap[x]?=some o∧o.isCells=false∧∀es cl,o≠.map es cl
theorem Xa8{V:World}{g t x:Nat}{xs:List Value}(h:Row V g t xs)(hx:Odd16 V x):g≠x:=fun e=>by
 subst e;obtain⟨o,ho,hc,_⟩:=hx;rw[h.is]at ho;cases ho
 cases hc
theorem Xam{V:World}{base size n x:Nat}{e:TypeId}{u:Value}{xs:List Value}(h:V.ownsRow base e size u n xs)(hx:Odd16 V x):u.ownBlock≠some x:=fun e=>by
 obtain⟨cur,hc⟩:=Xfy h e;obtain⟨o,ho,hk,_⟩:=hx;rw[hc]at ho;cases ho
 cases hk
theorem Xih{V:World}{sb mb x:Nat}{L:List LHold}(h:StIn V sb mb L)(hx:Odd16 V x):sb≠x∧mb≠x:=⟨Xa8 h.row hx,fun e=>by
 subst e;obtain⟨o,ho,_,hm⟩:=hx;obtain⟨es,cl,hh⟩:=h.heap;rw[hh]at ho;exact hm es cl (Option.some.inj ho).symm⟩
theorem Xae{V:World}{g k t u:Nat}{xs ys:List Value}(h:Row V g t xs)(k':Row V k u ys)(hne:t≠u):g≠k:=fun e=>by
 subst e;have:=h.is.symm.trans k'.is;injection this with this
 injection this with _ this _
 exact hne this
section
variable{T:FK16}{w0 V V':World}{v:Value}{os:List (LOut × Option Addr)}{fees e:Int}{L:List LHold}
theorem FC16.move{r:Option Nat}(h:FC16 T w0 V v os fees e L)(hg:V.grownBy V' r)(hr:∀{g t xs},Row V g t xs→t≠60→some g≠r)(ho:∀p ∈ os,∀c,V.ownsRow w0.heap.size 78 66 (.slice p.2 p.1.ch.length c) p.1.ch.length (holC p.1.ch)→(Value.slice p.2 p.1.ch.length c).ownBlock=none∨(Value.slice p.2 p.1.ch.length c).ownBlock≠r)
 (hm:some T.mb≠r) (hlo:∀x,r=some x→w0.heap.size≤x):FC16 T w0 V' v os fees e L:=by
 refine⟨⟨hg.os.trans h.g.os,hg.tape.trans h.g.tape,hg.output.trans h.g.output,Lq h.g.size hg.size,fun k hk hne=>?_⟩,h.st.keep (hg.block _ h.st.lt.1 (hr h.st.row (by decide))) (hg.block _ h.st.lt.2 hm),h.r4.grown hg (hr h.r4 (by decide)),h.r5.grown hg (hr h.r5 (by decide)),h.r6.grown hg (hr h.r6 (by decide)),h.rl.grown hg (hr h.rl (by decide)),h.rs.grown hg (hr h.rs (by decide)),fun p hp=>?_,h.lo,h.sl⟩
 ·exact(hg.block k (Nat.lt_of_lt_of_le hk h.g.size) (fun e=>by have:=hlo k e.symm;omega)).trans (h.g.block k hk hne)
 ·obtain⟨c,hc⟩:=h.hol p hp;exact⟨c,hc.kept hg (ho p hp c hc)⟩
theorem FC16.odd{x:Nat}(h:FC16 T w0 V v os fees e L)(hg:V.grownBy V' (some x))(hx:Odd16 V x)(hlo:w0.heap.size≤x):FC16 T w0 V' v os fees e L:=
 h.move hg (fun hr _ e=>Xa8 hr hx (Option.some.inj e)) (fun p hp c hc=>.inr (Xam hc hx)) (fun e=>(Xih h.st hx).2 (Option.some.inj e)) (fun y e=>by cases e;exact hlo)
theorem FC16.below(h:FC16 T w0 V v os fees e L)(hb:Below V.heap.size V V'):FC16 T w0 V' v os fees e L:=
 h.move (r:=none) (gb_of none hb) (fun _ _ e=>by cases e) (fun p hp c hc=>by cases (Value.slice p.2 p.1.ch.length c).ownBlock <;> simp) (fun e=>by cases e) (fun y e=>by cases e)
theorem FC16.grew{n:Nat}{u:Value}{xs:List Value}(h:FC16 T w0 V v os fees e L)(ho:V.ownsRow w0.heap.size 60 6 u n xs)(hg:V.grownBy V' u.ownBlock):FC16 T w0 V' v os fees e L:=
 h.move hg (fun hr hne=>Xbb ho hr (Ne.symm hne)) (fun p hp c hc=>by
  by_cases hn:(Value.slice p.2 p.1.ch.length c).ownBlock=none
  ·exact .inl hn
  refine .inr (fun e=>?_);cases hb:u.ownBlock with
  | none=>exact hn (e.trans hb)
  | some k =>
   obtain⟨cur,h1⟩:=Xfy ho hb;obtain⟨cur',h2⟩:=Xfy hc (e.trans hb);rw[h1]at h2;injection h2 with h2
   injection h2 with _ h2 _
   exact absurd h2 (by decide)) (fun e=>by
  rcases h.st.own_ne16 ho with h1 | h1
  ·rw[h1]at e;cases e
  ·exact h1 e.symm) (fun x e=>(ho.lt x e).1)
theorem FC16.applied{L':List LHold}(h:FC16 T w0 V v os fees e L)(hs:StIn V' T.sb T.mb L')(hg:V.grownBy V' (some T.mb)):FC16 T w0 V' v os fees e L':=by
 have hr:∀{g t xs},Row V g t xs→Row V' g t xs:=fun hr=>hr.grown hg (fun e=>h.st.row_ne hr (Option.some.inj e))
 exact⟨Xcl h.g hg,hs,hr h.r4,hr h.r5,hr h.r6,hr h.rl,hr h.rs,fun p hp=>by obtain⟨c,hc⟩:=h.hol p hp;exact⟨c,hc.kept hg (h.st.own_ne16 hc)⟩,h.lo,h.sl⟩
theorem Xca{g t:Nat}{xs:List Value}{base:Nat}{p:LOut × Option Addr}(h:Hol16 V base p)(hr:Row V g t xs)(hne:78≠t)(ht:Turned V V' g):Hol16 V' base p:=by
 obtain⟨c,hc⟩:=h;exact⟨c,Xa5 hc hr hne ht⟩
theorem FC16.set4(h:FC16 T w0 V v os fees e L)(u:Value):FC16 T w0 (V.setCell ⟨T.b4,0,none⟩ u) u os fees e L:=by
 have ht:=Xa0 V ⟨T.b4,0,none⟩ u;have hr:∀{g t xs},Row V g t xs→t≠55→Row (V.setCell ⟨T.b4,0,none⟩ u) g t xs:=fun hr hne=>ht.row hr (Xae hr h.r4 hne)
 exact⟨Xe4 h.g ht (.inl h.lo.1),h.st.keep (ht.block _ (Xae h.st.row h.r4 (by decide))) (ht.block _ (h.st.row_ne h.r4).symm),h.r4.set_ 0 u,hr h.r5 (by decide),hr h.r6 (by decide),hr h.rl (by decide),hr h.rs (by decide),fun p hp=>Xca (h.hol p hp) h.r4 (by decide) ht,h.lo,h.sl⟩
theorem FC16.set5(h:FC16 T w0 V v os fees e L)(f:Int):FC16 T w0 (V.setCell ⟨T.b5,0,none⟩ (.int .u64 f)) v os f e L:=by
 have ht:=Xa0 V ⟨T.b5,0,none⟩ (.int .u64 f);have hr:∀{g t xs},Row V g t xs→t≠44→Row (V.setCell ⟨T.b5,0,none⟩ (.int .u64 f)) g t xs:=fun hr hne=>ht.row hr (Xae hr h.r5 hne)
 exact⟨Xe4 h.g ht (.inl h.lo.2.1),h.st.keep (ht.block _ (Xae h.st.row h.r5 (by decide))) (ht.block _ (h.st.row_ne h.r5).symm),hr h.r4 (by decide),h.r5.set_ 0 _,hr h.r6 (by decide),hr h.rl (by decide),hr h.rs (by decide),fun p hp=>Xca (h.hol p hp) h.r5 (by decide) ht,h.lo,h.sl⟩
theorem FC16.set6(h:FC16 T w0 V v os fees e L)(f:Int):FC16 T w0 (V.setCell ⟨T.b6,0,none⟩ (.int .i64 f)) v os fees f L:=by
 have ht:=Xa0 V ⟨T.b6,0,none⟩ (.int .i64 f);have hr:∀{g t xs},Row V g t xs→t≠50→Row (V.setCell ⟨T.b6,0,none⟩ (.int .i64 f)) g t xs:=fun hr hne=>ht.row hr (Xae hr h.r6 hne)
 exact⟨Xe4 h.g ht (.inl h.lo.2.2),h.st.keep (ht.block _ (Xae h.st.row h.r6 (by decide))) (ht.block _ (h.st.row_ne h.r6).symm),hr h.r4 (by decide),hr h.r5 (by decide),h.r6.set_ 0 _,hr h.rl (by decide),hr h.rs (by decide),fun p hp=>Xca (h.hol p hp) h.r6 (by decide) ht,h.lo,h.sl⟩
def FB16(T:FK16)(w0 V:World)(os:List (LOut × Option Addr))(fees e:Int)(L:List LHold):Prop:=∃v,FC16 T w0 V v os fees e L∧V.ownsRow w0.heap.size 60 6 v os.length (osC16 os)
theorem FB16.odd{x:Nat}(h:FB16 T w0 V os fees e L)(hg:V.grownBy V' (some x))(hx:Odd16 V x)(hlo:w0.heap.size≤x):FB16 T w0 V' os fees e L:=by
 obtain⟨v,h1,h2⟩:=h;exact⟨v,h1.odd hg hx hlo,h2.kept hg (.inr (Xam h2 hx))⟩
theorem FB16.below(h:FB16 T w0 V os fees e L)(hb:Below V.heap.size V V'):FB16 T w0 V' os fees e L:=by
 obtain⟨v,h1,h2⟩:=h;exact⟨v,h1.below hb,Xaa h2 hb⟩
theorem FB16.applied{L':List LHold}(h:FB16 T w0 V os fees e L)(hs:StIn V' T.sb T.mb L')(hg:V.grownBy V' (some T.mb)):FB16 T w0 V' os fees e L':=by
 obtain⟨v,h1,h2⟩:=h;exact⟨v,h1.applied hs hg,h2.kept hg (h1.st.own_ne16 h2)⟩
end
theorem Xdo(A:Option Addr)(n c:Nat)(w:World)(hnc:n≤c)(hc:c≤maxLen) :
 Calls Tryd.prog 29 #[.slice A n c] w fun e w'=>e=.returned (.slice A n n)∧w=w':=by
 unfold maxLen at hc;go_enter Tryd.func29,Tryd.ntmps29
 go_wp2;go_ret;exact⟨rfl,rfl⟩
theorem Xad{P:Program}{fn:Func}{p0 p1 p2:Tmp}{t0 t1 t2:TypeId}(h:fn.results=#[.cell p0 t0,.cell p1 t1,.cell p2 t2])(tmps:Array Value)(w:World)(a0 a1 a2:Addr)(v0 v1 v2:Value)
 (h0:tmps.getD p0 undef=.pointer (some a0)) (h1:tmps.getD p1 undef=.pointer (some a1)) (h2:tmps.getD p2 undef=.pointer (some a2))
 (l0:(loadVar t0 a0).run P w=.ok v0 w) (l1:(loadVar t1 a1).run P w=.ok v1 w) (l2:(loadVar t2 a2).run P w=.ok v2 w) :
 (results fn tmps).run P w=.ok (.tuple #[v0,v1,v2]) w:=by
 have h0':tmps[p0]?.getD undef=.pointer (some a0):=by simpa using h0
 have h1':tmps[p1]?.getD undef=.pointer (some a1):=by simpa using h1
 have h2':tmps[p2]?.getD undef=.pointer (some a2):=by simpa using h2
 simp[results,h,h0',h1',h2',asAddr,l0,l1,l2]
theorem Xb5{V:World}{g:Nat}{v:Value}(h:Row V g 55 [v]):(loadVar 55 ⟨g,0,none⟩).run Tryd.prog V=.ok v V:=by
 have c:=h.cell 0;unfold loadVar;go_simp
theorem Xb4{V:World}{g:Nat}{v:Value}(h:Row V g 44 [v]):(loadVar 44 ⟨g,0,none⟩).run Tryd.prog V=.ok v V:=by
 have c:=h.cell 0;unfold loadVar;go_simp
theorem Xb6{V:World}{g:Nat}{v:Value}(h:Row V g 50 [v]):(loadVar 50 ⟨g,0,none⟩).run Tryd.prog V=.ok v V:=by
 have c:=h.cell 0;unfold loadVar;go_simp
theorem Xnx{q:Raw}{m:LMsg}(h:m.recent.length=32):(q.cells m)[38]?=some (.slice q.LA q.ln q.lc):=by
 simp[Raw.cells,bL,h]
theorem Xik{l:List LIn}{k:Nat}{x:LIn}(h:l[k]?=some x):inSize (l.take (k+1))=inSize (l.take k)+(x.acc.length+x.dat.length):=by
 unfold inSize;rw[List.take_add_one,h];simp
theorem Xgz{l:List LLook}{k:Nat}{x:LLook}(h:l[k]?=some x):lookSize (l.take (k+1))=lookSize (l.take k)+(x.wr.length+x.rd.length):=by
 unfold lookSize;rw[List.take_add_one,h];simp
theorem Xcm{B:Nat}{w V:World}(h:Below B w V)(j:Nat):Below B w (V.drewN j):=h.trans ⟨rfl,rfl,rfl,Lr _,fun _ _=>rfl⟩
def tot15(x:LReady):Nat:=x.bytes.length+x.roles.length+x.tx.sigs.length+x.tx.m.keys.length+x.tx.m.ins.length+x.tx.m.looks.length+inSize x.tx.m.ins+lookSize x.tx.m.looks
structure Fw15(x:LReady):Prop where
 t:tot15 x≤10000
 n:x.tx.m.ins.length≤200
 r:x.roles.length≤300
theorem Fw15.acc{x:LReady}(h:Fw15 x){a:LIn}(ha:a ∈ x.tx.m.ins):a.acc.length≤10000∧a.dat.length≤10000:=by
 have h1:=Xs9 ha;have h2:=h.t;unfold tot15 at h2;omega
structure Wide15(x:LReady):Prop where
 m:Sized x.tx.m
 b:x.bytes.length≤140737488355328
 r:x.roles.length≤140737488355328
 s:x.tx.sigs.length≤140737488355328
def GrDone15(x:LReady)(w:World)(e:Ending)(w':World):Prop:=(∃b,e=.returned (.bool b)∧(b=false→Fw15 x))∧Below w.heap.size w w'
theorem Xtv(q:YRaw)(x:LReady)(B:Nat)(w:World)(h:ReadyIn w B q x)(hB:B≤w.heap.size)(hs:Wide15 x) :
 Calls Tryd.prog 15 #[.agg (q.cells x).toArray] w (GrDone15 x w):=by
 obtain⟨BA,bn,bc,⟨SA,sn,sc,⟨KA,kn,kc,IA,n,ic,LA,ln,lc⟩⟩,RA,rn,rc⟩:=q;have hrow:=Row.new w 48 (YRaw.cells ⟨BA,bn,bc,⟨SA,sn,sc,⟨KA,kn,kc,IA,n,ic,LA,ln,lc⟩⟩,RA,rn,rc⟩ x);have hb0:=(Br w.heap.size w).alloc (Lr _) (.cells (YRaw.cells ⟨BA,bn,bc,⟨SA,sn,sc,⟨KA,kn,kc,IA,n,ic,LA,ln,lc⟩⟩,RA,rn,rc⟩ x).toArray 48);have H32:=h.tx.m.recent;have d0:(w.alloc (.cells (YRaw.cells ⟨BA,bn,bc,⟨SA,sn,sc,⟨KA,kn,kc,IA,n,ic,LA,ln,lc⟩⟩,RA,rn,rc⟩ x).toArray 48)).cell? ⟨w.heap.size,0,none⟩=some (.slice BA bn bc):=hrow.cell 0;have d1:(w.alloc (.cells (YRaw.cells ⟨BA,bn,bc,⟨SA,sn,sc,⟨KA,kn,kc,IA,n,ic,LA,ln,lc⟩⟩,RA,rn,rc⟩ x).toArray 48)).cell? ⟨w.heap.size,1,none⟩=some (.slice SA sn sc):=hrow.cell 1;have d6:(w.alloc (.cells (YRaw.cells ⟨BA,bn,bc,⟨SA,sn,sc,⟨KA,kn,kc,IA,n,ic,LA,ln,lc⟩⟩,RA,rn,rc⟩ x).toArray 48)).cell? ⟨w.heap.size,6,none⟩=some (.slice KA kn kc):=hrow.cell 6;have d39:(w.alloc (.cells (YRaw.cells ⟨BA,bn,bc,⟨SA,sn,sc,⟨KA,kn,kc,IA,n,ic,LA,ln,lc⟩⟩,RA,rn,rc⟩ x).toArray 48)).cell? ⟨w.heap.size,39,none⟩=some (.slice IA n ic):=(hrow.cell 39).trans (Xf7 H32);have d40:(w.alloc (.cells (YRaw.cells ⟨BA,bn,bc,⟨SA,sn,sc,⟨KA,kn,kc,IA,n,ic,LA,ln,lc⟩⟩,RA,rn,rc⟩ x).toArray 48)).cell? ⟨w.heap.size,40,none⟩=some (.slice LA ln lc):=(hrow.cell 40).trans (Xlk (j:=39) ((Xmc 38).trans (Xnx H32)));have d41:(w.alloc (.cells (YRaw.cells ⟨BA,bn,bc,⟨SA,sn,sc,⟨KA,kn,kc,IA,n,ic,LA,ln,lc⟩⟩,RA,rn,rc⟩ x).toArray 48)).cell? ⟨w.heap.size,41,none⟩=some (.slice RA rn rc):=(hrow.cell 41).trans (Xaz H32 0);have lb:x.bytes.length=bn:=by have:=h.bs.len;rwa [bL]at this
 have lr:x.roles.length=rn:=h.rs.len;have lsg:x.tx.sigs.length=sn:=h.tx.sigs.len;have lk:x.tx.m.keys.length=kn:=h.tx.m.keys.len;have li:x.tx.m.ins.length=n:=h.tx.m.ins.len;have ll:x.tx.m.looks.length=ln:=h.tx.m.looks.len;have k1:=hs.m.keys;have k2:=hs.m.ins;have k3:=hs.m.looks;have k4:=hs.b;have k5:=hs.r;have k6:=hs.s;rw[lk]at k1;rw[li]at k2;rw[ll]at k3;rw[lb]at k4;rw[lr]at k5;rw[lsg]at k6;have HM:=Hd ((h.below (hb0.mono hB)).tx.m);have HSZ:=Hd hs.m;have HB0:=Hd hb0;have HT:Hid (tot15 x=bn+rn+sn+kn+n+ln+inSize x.tx.m.ins+lookSize x.tx.m.looks):=Hd (by unfold tot15;rw[lb,lr,lsg,lk,li,ll]);have HLI:=Hd li;have HLR:=Hd lr;have HLL:=Hd ll;clear hrow h hs hb0 H32 lb lr lsg lk li ll;generalize YRaw.cells ⟨BA,bn,bc,⟨SA,sn,sc,⟨KA,kn,kc,IA,n,ic,LA,ln,lc⟩⟩,RA,rn,rc⟩ x=cs at *;go_enter Tryd.func15,Tryd.ntmps15
 go_upto_region 1 with fail
 generalize (w.alloc (Obj.cells cs.toArray 48))=W0 at *;obtain⟨g1,hg1⟩:∃g,g=w.heap.size:=⟨_,rfl⟩;have HG1:=Hd hg1;rw[←hg1]at d0 d1 d6 d39 d40 d41 ⊢;clear hg1;go_wp2_with fail;go_loopw [3,4] (fun nn i wr=>∃(k j s:Nat),k≤n∧i=.int .i64 k∧nn=.int .i64 s∧wr=W0.drewN j∧s=bn+rn+sn+kn+n+ln+inSize (x.tx.m.ins.take k)∧s≤1900000000000000) (fun nn i _=>n - (intOf i).toNat)
 case atStart=>exact⟨0,0,bn+rn+sn+kn+n+ln,Nat.zero_le _,rfl,by first | rfl | go_num,rfl,by simp[inSize],by omega⟩
 case round =>
  obtain⟨k,j,s,hk,rfl,rfl,rfl,hsum,hs9⟩:=hrel;have HS:=Hd hsum;clear hsum;by_cases hgo:k<n∧s<20000
  ·obtain⟨hlt,hs3⟩:=hgo;obtain⟨a,y,va,vd,rfl,hab,hx,hat⟩:=HM.out.ins.get hlt;obtain⟨A1,c1,rfl,_,_,_⟩:=hat.acc.is;obtain⟨A2,c2,rfl,_,_,_⟩:=hat.dat.is;have e1:W0.cell? ⟨(a.add (k*3)).block,(a.add (k*3)).off+1,none⟩=some (.slice A1 y.acc.length c1):=hat.cells 1 _ rfl;have e2:W0.cell? ⟨(a.add (k*3)).block,(a.add (k*3)).off+2,none⟩=some (.slice A2 y.dat.length c2):=hat.cells 2 _ rfl;have l1:=(HSZ.out.inl y (List.mem_of_getElem? hx)).1;have l2:=(HSZ.out.inl y (List.mem_of_getElem? hx)).2;have HX:=Hd (Xik hx);clear hat hx;go_wp2_with fail;go_quiet (fail)
   go_wp2_with fail;go_roundw
   case rel=>exact⟨k+1,j+nq,s+y.acc.length+y.dat.length,by omega,by go_num,by go_num,by simp,by have:=HS.out;have:=HX.out;omega,by omega⟩
   case measure=>simp[intOf];omega
  ·have HGO:Hid (20000≤s∨s=bn+rn+sn+kn+n+ln+inSize x.tx.m.ins):=by
    refine Hd ?_;by_cases h3:s<20000
    ·right
     have hkn:k=n:=by
      have:¬k<n:=fun h=>hgo ⟨h,h3⟩
      omega
     have:=HS.out;rwa [hkn,List.take_of_length_le (by rw[HLI.out];exact Lr _)]at this
    ·left;omega
   have hdec:(k<n∧¬s<20000)∨¬k<n:=by
    by_cases h:k<n
    ·exact .inl ⟨h,fun h3=>hgo ⟨h,h3⟩⟩
    ·exact .inr h
   clear HS hgo;rcases hdec with⟨hd1,hd2⟩ | hd1
   all_goals
    (go_wp2_with fail
     go_loopw [3,5] (fun nn i wr=>∃(k j s:Nat),k≤ln∧i=.int .i64 k∧nn=.int .i64 s∧wr=W0.drewN j∧(20000≤s∨s=bn+rn+sn+kn+n+ln+inSize x.tx.m.ins+lookSize (x.tx.m.looks.take k))∧s≤1900000000000000) (fun nn i _=>ln - (intOf i).toNat)
     case atStart=>exact⟨0,j,s,Nat.zero_le _,rfl,rfl,rfl,by simpa [lookSize]using HGO.out,hs9⟩
     case round =>
      clear HGO hd1;try clear hd2
      clear hs9 hk;obtain⟨k,j,s,hk,rfl,rfl,rfl,hsum,hs9⟩:=hrel;have HS:=Hd hsum;clear hsum;by_cases hgo:k<ln∧s<20000
      ·obtain⟨hlt,hs3⟩:=hgo;obtain⟨a,y,va,vd,rfl,hab,hx,hat⟩:=HM.out.looks.get hlt;have hc1:W0.cell? ((a.add (k*34)).add 32)=some va:=hat.cells 32 va (by rw[List.getElem?_append_right (by rw[bL,hat.len];exact Lr _),bL,hat.len];rfl);have hc2:W0.cell? ((a.add (k*34)).add 33)=some vd:=hat.cells 33 vd (by rw[List.getElem?_append_right (by rw[bL,hat.len];omega),bL,hat.len];rfl);obtain⟨A1,c1,rfl,_,_,_⟩:=hat.wr.is;obtain⟨A2,c2,rfl,_,_,_⟩:=hat.rd.is;have e1:W0.cell? ⟨(a.add (k*34)).block,(a.add (k*34)).off+32,none⟩=some (.slice A1 y.wr.length c1):=hc1;have e2:W0.cell? ⟨(a.add (k*34)).block,(a.add (k*34)).off+33,none⟩=some (.slice A2 y.rd.length c2):=hc2;have l1:=(HSZ.out.lol y (List.mem_of_getElem? hx)).1;have l2:=(HSZ.out.lol y (List.mem_of_getElem? hx)).2;have HX:=Hd (Xgz hx);clear hat hx hc1 hc2;go_wp2_with fail;go_quiet (fail)
       go_wp2_with fail;go_roundw
       case rel =>
        refine⟨k+1,j+nq,s+y.wr.length+y.rd.length,by omega,by go_num,by go_num,by simp,?_,by omega⟩;have h1:=HS.out;have h2:=HX.out;omega
       case measure=>simp[intOf];omega
      ·have HT2:Hid (s≤10000→tot15 x≤10000):=by
        refine Hd fun h3=>?_
        have hkn:k=ln:=by
         have:¬k<ln:=fun h=>hgo ⟨h,by omega⟩
         omega
        have h1:=HS.out;rw[hkn,List.take_of_length_le (by rw[HLL.out];exact Lr _)]at h1;have h2:=HT.out;omega
       have hdec:(k<ln∧¬s<20000)∨¬k<ln:=by
        by_cases h:k<ln
        ·exact .inl ⟨h,fun h3=>hgo ⟨h,h3⟩⟩
        ·exact .inr h
       clear HS hgo;rcases hdec with⟨hd1,hd2⟩ | hd1
       ·have h10:10000<s:=by omega
        have hI:(10000:Int)<s:=by omega
        go_wp2_with fail;go_ret;exact⟨⟨true,rfl,fun hb=>by cases hb⟩,Xcm HB0.out j⟩
       ·by_cases h10:10000<s
        ·have hI:(10000:Int)<s:=by omega
         go_wp2_with fail;go_ret;exact⟨⟨true,rfl,fun hb=>by cases hb⟩,Xcm HB0.out j⟩
        have hJ10:(s:Int)≤10000:=by omega
        by_cases hn2:200<n
        ·have hI:(200:Int)<n:=by omega
         go_wp2_with fail;go_ret;exact⟨⟨true,rfl,fun hb=>by cases hb⟩,Xcm HB0.out j⟩
        have hJn:(n:Int)≤200:=by omega
        by_cases hr3:300<rn
        ·have hI:(300:Int)<rn:=by omega
         go_wp2_with fail;go_ret;exact⟨⟨true,rfl,fun hb=>by cases hb⟩,Xcm HB0.out j⟩
        have hJr:(rn:Int)≤300:=by omega
        have HFEW:Hid (Fw15 x):=Hd ⟨HT2.out (by omega),by rw[HLI.out];omega,by rw[HLR.out];omega⟩;go_wp2_with fail;go_ret;exact⟨⟨_,rfl,fun _=>HFEW.out⟩,Xcm HB0.out j⟩)
theorem Xhb{P:Program}{L:List Oper}{Q:Exit→Act→World→Prop}{md:Region.Mode}{S:World→Prop}{i j k:Nat}{o o' o'':Oper}{fuel:Nat}{listed:Array Bool}{a:Act}{w:World}(ho:L[i]?=some o)(ho':L[j]?=some o')(ho'':L[k]?=some o'')(hr:Region.ready md L.toArray listed=[i,j,k])
 (hw:Region.wanted o (yielded L.toArray a.tmps)=true) (hw':Region.wanted o' (yielded L.toArray a.tmps)=true) (hw'':Region.wanted o'' (yielded L.toArray a.tmps)=true)
 (h:∀K':Act→World→Prop,Shut (∀a w,S w→wpAnyH P md L.toArray Q S fuel (listed.setIfInBounds i true) a w→K' a w)→Oper.wp P o a w K' Q)
 (h':∀K':Act→World→Prop,Shut (∀a w,S w→wpAnyH P md L.toArray Q S fuel (listed.setIfInBounds j true) a w→K' a w)→Oper.wp P o' a w K' Q)
 (h'':∀K':Act→World→Prop,Shut (∀a w,S w→wpAnyH P md L.toArray Q S fuel (listed.setIfInBounds k true) a w→K' a w)→Oper.wp P o'' a w K' Q):wpAnyH P md L.toArray Q S (fuel+1) listed a w:=
 wpAnyH_ready hr (by simp) (AllReadyH.cons (by simpa using ho) (fun K hK=>by
  rw[if_pos hw];exact h K (fun a w hS hW=>hK a w hS fun _=>hW)) (AllReadyH.cons (by simpa using ho') (fun K hK=>by
  rw[if_pos hw'];exact h' K (fun a w hS hW=>hK a w hS fun _=>hW)) (AllReadyH.cons (by simpa using ho'') (fun K hK=>by
  rw[if_pos hw''];exact h'' K (fun a w hS hW=>hK a w hS fun _=>hW)) AllReadyH.nil)))
end Go.Proofs.YtkhcgclnmdgpbaaDoor
