import Derived.Test.YtaljfbbieefooaaGreatDoorM16
set_option maxRecDepth 100000
set_option maxHeartbeats 16000000
set_option linter.unusedSimpArgs false
set_option linter.unusedVariables false
namespace Go.Proofs.YtaljfbbieefooaaGreatDoor
open Go.RowKit
def kx15(n:Int):List Int:=n::List.replicate 31 0
def dat15x:List Int:=[2,0,0,0,200,0,0,0,0,0,0,0]
def in15x:LIn:=⟨2,[0,1],dat15x⟩
def ro15x:List LRole:=[⟨kx15 8,true,true⟩,⟨kx15 9,false,true⟩,⟨k0,false,false⟩]
def ms15x:LMsg:=⟨false,0,0,0,[],zero32,[in15x],[]⟩
def rd15x:LReady:=⟨[],⟨[],ms15x⟩,ro15x,400000,0,-1,5000,0,0⟩
def q15x(gi gr:Nat):YRaw:=⟨none,0,0,⟨none,0,0,⟨none,0,0,some ⟨gi,0,none⟩,1,1,none,0,0⟩⟩,some ⟨gr,0,none⟩,3,3⟩
theorem Xl5{n:Int}(h:0≤n∧n<256):(kx15 n).length=32∧AllBytes (kx15 n):=by
 refine⟨by simp[kx15],fun z hz=>?_⟩;rcases List.mem_cons.1 hz with rfl | hz
 ·exact h
 ·rw[List.eq_of_mem_replicate hz];exact⟨by decide,by decide⟩
theorem Xqg:AllBytes dat15x:=by
 have h:∀z ∈ dat15x,0≤z∧z<256:=by decide
 exact h
theorem Xqs:AllBytes [0,1]:=by
 have h:∀z ∈ ([0,1]:List Int),0≤z∧z<256:=by decide
 exact h
def ic15x(ga gd:Nat):List Value:=insC 2 (some ⟨ga,0,none⟩) 2 2 (some ⟨gd,0,none⟩) 12 12
theorem Xro:Tryz.prog.built 62 [(0,.int .u8 8)]=some (bv (kx15 8)).toArray:=by kernel_rfl
theorem Xr8:Tryz.prog.built 62 [(0,.int .u8 9)]=some (bv (kx15 9)).toArray:=by kernel_rfl
theorem Xl6(ga gd:Nat):Tryz.prog.built 61 [(0,.int .u8 2),(1,.slice (some ⟨ga,0,none⟩) 2 2),(2,.slice (some ⟨gd,0,none⟩) 12 12)]=some (ic15x ga gd).toArray:=by kernel_rfl
theorem Xfo(gi:Nat):Tryz.prog.built 32 [(4,.slice (some ⟨gi,0,none⟩) 1 1)]=some ((q15x gi 0).t.q.cells ms15x).toArray:=by kernel_rfl
theorem Xfn(gi:Nat):Tryz.prog.built 34 [(1,.agg ((q15x gi 0).t.q.cells ms15x).toArray)]=some ((q15x gi 0).t.cells ⟨[],ms15x⟩).toArray:=by kernel_rfl
theorem Xs2:Tryz.prog.built 93 [(0,.agg (bv (kx15 8)).toArray),(1,.bool true),(2,.bool true)]=some (LRole.mk (kx15 8) true true).cells.toArray:=by kernel_rfl
theorem Xqn:Tryz.prog.built 93 [(0,.agg (bv (kx15 9)).toArray),(2,.bool true)]=some (LRole.mk (kx15 9) false true).cells.toArray:=by kernel_rfl
theorem Xjs:Tryz.prog.built 93 [(0,.agg (bv k0).toArray)]=some (LRole.mk k0 false false).cells.toArray:=by kernel_rfl
theorem Xm0:Tryz.prog.built 38 [(0,.int .u64 400000),(2,.int .i64 (-1))]=some ([.int .u64 400000,.int .u64 0,.int .i64 (-1)]:List Value).toArray:=by kernel_rfl
theorem Xfm(gi gr:Nat):Tryz.prog.built 40 [(1,.agg ((q15x gi 0).t.cells ⟨[],ms15x⟩).toArray),(2,.slice (some ⟨gr,0,none⟩) 3 3),(3,.agg ([.int .u64 400000,.int .u64 0,.int .i64 (-1)]:List Value).toArray),(4,.int .u64 5000)]=some ((q15x gi gr).cells rd15x).toArray:=by kernel_rfl
def zrdC:List Value:=zYRaw.cells zReady
theorem Xml:(Tryz.prog.info? 40).map (·.zero)=some (some (.agg zrdC.toArray)):=by kernel_rfl
theorem Xe8(gi gr:Nat):(Tryz.prog.info? 40).map (·.size)=some ((q15x gi gr).cells rd15x).length:=by kernel_rfl
theorem Xj4(gi gr:Nat):∀u ∈ (q15x gi gr).cells rd15x,u.oneCell'=true:=by
 intro u hu;unfold YRaw.cells at hu;rcases List.mem_cons.1 hu with rfl | hu
 ·rfl
 rcases List.mem_append.1 hu with hu | hu
 ·exact Xf6 u hu
 rcases List.mem_cons.1 hu with rfl | hu
 ·rfl
 ·simp only[LReady.last,List.mem_cons,List.not_mem_nil,or_false]at hu;rcases hu with rfl | rfl | rfl | rfl | rfl | rfl <;> rfl
theorem Xrp:(Tryz.prog.info? 61).map (·.zero)=some (some (.agg (insC 0 none 0 0 none 0 0).toArray)):=by kernel_rfl
def roC15x:List Value:=(LRole.mk (kx15 8) true true).cells++((LRole.mk (kx15 9) false true).cells++(LRole.mk k0 false false).cells)
theorem Xmo:∀r ∈ ro15x,RoleOk r:=by
 intro r hr;simp only[ro15x,List.mem_cons,List.not_mem_nil,or_false]at hr;rcases hr with rfl | rfl | rfl
 ·exact Xl5 (by omega)
 ·exact Xl5 (by omega)
 ·exact⟨rfl,fun z hz=>by rw[List.eq_of_mem_replicate (show z ∈ List.replicate 32 0 from hz)];exact⟨by decide,by decide⟩⟩
theorem Xhq:(Tryz.prog.info? 61).map (fun i=>(i.zero,i.size,i.bytes))=some (some (.agg (insC 0 none 0 0 none 0 0).toArray),3,56):=by kernel_rfl
theorem Xj3:(Value.agg (insC 0 none 0 0 none 0 0).toArray).cells.size=3:=by kernel_rfl
theorem zszRx:(Value.agg r0.cells.toArray).cells.size=34:=by kernel_rfl
theorem Xd6{P:Program}{o:Oper}{a:Act}{w:World}{K:Act→World→Prop}{Q:Exit→Act→World→Prop}(t e:TypeId)(y y' y2:Operand)(ho:o.op=.buildSlice t 3 #[(0,y),(1,y'),(2,y2)])
 (cs cs' cs2:List Value) (z:Value) (size bytes:Nat) (hu:P.underlying t=some (.slice e)) (hi:(P.info? e).map (fun i=>(i.zero,i.size,i.bytes))=some (some z,size,bytes)) (hzs:z.cells.size=size) (hs0:0<size) (hs1:size≤1000)
 (hcs:cs.length=size) (hcs':cs'.length=size) (hcs2:cs2.length=size) (hy:a.eval y=.agg cs.toArray) (hy':a.eval y'=.agg cs'.toArray) (hy2:a.eval y2=.agg cs2.toArray)
 (h:K (a.put o.dst (.slice (some ⟨w.heap.size,0,none⟩) 3 3)) (w.alloc (.cells (cs++(cs'++cs2)).toArray e))):o.wp P a w K Q:=by
 obtain⟨ie,hie,h1,h2,_⟩:=info_parts hi;subst h2;refine wp_buildSlice t e 3 _ ho (cs++(cs'++cs2)).toArray ie z hu hie h1 (by omega) (by omega) ?_ h;have:=Go.Great.fill_whole (s:=ie.size) hs0 [Value.agg cs.toArray,Value.agg cs'.toArray,Value.agg cs2.toArray] ((Array.range (3*ie.size)).map (z.cells[· % z.cells.size]!)) (by simp[Value.cells,hcs,hcs',hcs2]) (by simp);simpa [hy,hy',hy2,Value.cells]using this
def MvDone15(w:World)(e:Ending)(w':World):Prop:=∃gi gr,e=.returned (.agg ((q15x gi gr).cells rd15x).toArray)∧ReadyIn w' w'.heap.size (q15x gi gr) rd15x∧Below w.heap.size w w'
theorem Xm1{V:World}{gi gr ga gd:Nat}(hi:Row V gi 61 (ic15x ga gd))(hr:Row V gr 93 roC15x)(ha:Row V ga 5 (bv [0,1]))(hd:Row V gd 5 (bv dat15x)):ReadyIn V V.heap.size (q15x gi gr) rd15x:=by
 refine⟨Sees.nil _ _ _,by simp[q15x,maxLen],⟨⟨rfl,fun k hk=>(by cases hk),Sees.nil _ _ _⟩,by simp[q15x,maxLen],?_⟩,?_,by simp[q15x,maxLen]⟩
 ·refine⟨rfl,⟨rfl,fun k hk=>(by cases hk),Sees.nil _ _ _⟩,⟨rfl,fun i y hy=>?_⟩,⟨rfl,fun i y hy=>(by cases hy)⟩,by simp[q15x,maxLen],by simp[q15x,maxLen],by simp[q15x,maxLen]⟩;have hi0:i=0:=by
   have:=(List.getElem?_eq_some_iff.1 hy).1;simp[rd15x,ms15x]at this;exact this
  subst hi0;obtain rfl:in15x=y:=by simpa [rd15x,ms15x]using hy
  refine⟨⟨gi,0,none⟩,.slice (some ⟨ga,0,none⟩) 2 2,.slice (some ⟨gd,0,none⟩) 12 12,rfl,hi.lt,?_,?_,?_,?_,?_⟩
  ·exact hi.cell 0
  ·exact hi.cell 1
  ·exact hi.cell 2
  ·exact⟨_,2,rfl,ha.sees0,Lr _,by unfold maxLen;omega⟩
  ·exact⟨_,12,rfl,hd.sees0,Lr _,by unfold maxLen;omega⟩
 ·have e:(List.map LRole.cells ro15x).flatten=roC15x:=by simp[ro15x,roC15x]
  exact Xkc (l:=ro15x) (ys:=[]) (by rw[List.append_nil,e];exact hr) rfl Xmo hr.lt
structure MX15(w V:World)(g3 g4 g6 g7 ga gd:Nat):Prop where
 b:Below w.heap.size w V
 r3:Row V g3 62 (bv (kx15 8))
 r4:Row V g4 62 (bv (kx15 9))
 r6:Row V g6 40 zrdC
 r7:Row V g7 61 (ic15x ga gd)
 ra:Row V ga 5 (bv [0,1])
 rd:Row V gd 5 (bv dat15x)
theorem MX15.below{w V V':World}{g3 g4 g6 g7 ga gd:Nat}(m:MX15 w V g3 g4 g6 g7 ga gd)(hb:Below V.heap.size V V'):MX15 w V' g3 g4 g6 g7 ga gd:=
 ⟨m.b.trans (hb.mono m.b.size),m.r3.below hb m.r3.lt,m.r4.below hb m.r4.lt,m.r6.below hb m.r6.lt,m.r7.below hb m.r7.lt,m.ra.below hb m.ra.lt,m.rd.below hb m.rd.lt⟩
theorem move15(w:World):Calls Tryz.prog 17 #[.agg (bv (kx15 8)).toArray,.agg (bv (kx15 9)).toArray,.int .u8 200] w (MvDone15 w):=by
 have hb0:=(((Br w.heap.size w).alloc (Lr _) (.cells (bv (kx15 8)).toArray 62)).alloc (by simp) (.cells (bv (kx15 9)).toArray 62)).alloc (by simp;omega) (.cells zrdC.toArray 40);have r3:=((Row.new w 62 (bv (kx15 8))).alloc (.cells (bv (kx15 9)).toArray 62)).alloc (.cells zrdC.toArray 40);have r4:=(Row.new' (w.alloc (.cells (bv (kx15 8)).toArray 62)) 62 (bv (kx15 9)) (g:=w.heap.size+1) (by simp)).alloc (.cells zrdC.toArray 40);have r6:=Row.new' ((w.alloc (.cells (bv (kx15 8)).toArray 62)).alloc (.cells (bv (kx15 9)).toArray 62)) 40 zrdC (g:=w.heap.size+1+1) (by simp);have R3:=Hd r3;have R4:=Hd r4;have R6:=Hd r6;have B0:=Hd hb0;clear r3 r4 r6 hb0;obtain⟨g6,hg6⟩:∃g,g=w.heap.size+1+1:=⟨_,rfl⟩;obtain⟨g4,hg4⟩:∃g,g=w.heap.size+1:=⟨_,rfl⟩;obtain⟨g3,hg3⟩:∃g,g=w.heap.size:=⟨_,rfl⟩;have HG6:Hid (w.heap.size+1+1=g6):=Hd hg6.symm;have HG4:Hid (w.heap.size+1=g4):=Hd hg4.symm;have HG3:Hid (w.heap.size=g3):=Hd hg3.symm;have HG6a:Hid (((w.alloc (.cells (bv (kx15 8)).toArray 62)).alloc (.cells (bv (kx15 9)).toArray 62)).heap.size=g6):=Hd (by rw[hg6];simp);have HG4a:Hid ((w.alloc (.cells (bv (kx15 8)).toArray 62)).heap.size=g4):=Hd (by rw[hg4];simp);have HGN:Hid (w.heap.size≤g6∧g3≠g6∧g4≠g6):=Hd (by omega);rw[←hg6]at R6;rw[←hg4]at R4;rw[←hg3]at R3;clear hg6 hg4 hg3;go_enter Tryz.func17,Tryz.ntmps17
 go_upto_region 1 with((with_reducible show wpList _ _ _ (⟨some 6,_,_,_,_,_⟩::_) _ _);go_must(refine Xa0 rfl 40 rfl zrdC Xml ?_))
 try rw[HG6a.out]
 try rw[HG6.out]
 try rw[HG4a.out]
 try rw[HG4.out]
 try rw[HG3.out]
 generalize hW:((w.alloc (.cells (bv (kx15 8)).toArray 62)).alloc (.cells (bv (kx15 9)).toArray 62)).alloc (.cells zrdC.toArray 40)=W at *;clear hW HG6 HG4 HG3 HG6a HG4a;have ra:=(Row.new W 5 (bv [0,1])).alloc (.cells (bv dat15x).toArray 5);have rd:=Row.new' (W.alloc (.cells (bv [0,1]).toArray 5)) 5 (bv dat15x) (g:=W.heap.size+1) (by simp);have hb1:=((Br W.heap.size W).alloc (Lr _) (.cells (bv [0,1]).toArray 5)).alloc (by simp) (.cells (bv dat15x).toArray 5);have RA:=Hd ra;have RD:=Hd rd;have B1:=Hd hb1;clear ra rd hb1;obtain⟨gd,hgd⟩:∃g,g=W.heap.size+1:=⟨_,rfl⟩;obtain⟨ga,hga⟩:∃g,g=W.heap.size:=⟨_,rfl⟩;have HGD:Hid (W.heap.size+1=gd):=Hd hgd.symm;have HGA:Hid (W.heap.size=ga):=Hd hga.symm;have HAD:Hid (g6<ga∧g6<gd):=Hd (by have:=R6.out.lt;omega);rw[←hgd]at RD;rw[←hga]at RA;clear hgd hga;go_upto_region 2 with(first
  | ((with_reducible show wpList _ _ _ (⟨some 11,_,_,_,_,_⟩::_) _ _);go_must(refine wpList_plain rfl fun K hK=>Xae _ _ _ rfl (by simp only[List.map_toArray,List.map_cons,List.map_nil];rw[HGD.out,HGA.out];exact Xl6 ga gd) (hK _ _ ?_)))
  | ((with_reducible show wpList _ _ _ (⟨some 7,_,_,_,_,_⟩::_) _ _);go_must(refine Xa0 rfl 61 rfl (insC 0 none 0 0 none 0 0) Xrp ?_))
  | ((with_reducible show wpList _ _ _ (⟨none,Op.store 61 _ _,_,_,_,_⟩::_) _ _);go_must(refine Xa2 rfl 61 (.tmp 7) (.tmp 11) rfl (ic15x ga gd) (by kernel_rfl) Xh6 rfl ?_ ?_ ?_;go_simp;go_simp;intro w7 hr7 hb7 hz7)))
 try rw[HGD.out]
 try rw[HGA.out]
 obtain⟨g7,hg7⟩:∃g,g=W.heap.size+1+1:=⟨_,rfl⟩;have HS7:Hid (W.heap.size<g7):=Hd (by omega);rw[World.size_alloc,World.size_alloc]at hr7;have hr7':Row w7 g7 61 (ic15x ga gd):=by rw[hg7];exact hr7
 try simp only[World.size_alloc]
 rw[←hg7];clear hg7;try simp only[nm]
 have hb7':Below ((W.alloc (.cells (bv [0,1]).toArray 5)).alloc (.cells (bv dat15x).toArray 5)).heap.size ((W.alloc (.cells (bv [0,1]).toArray 5)).alloc (.cells (bv dat15x).toArray 5)) w7:=hb7;have M:=Hd (show MX15 w w7 g3 g4 g6 g7 ga gd from⟨(B0.out.trans (B1.out.mono B0.out.size)).trans (hb7'.mono (Lq B0.out.size B1.out.size)),(R3.out.below B1.out R3.out.lt).below hb7' (Nat.lt_of_lt_of_le R3.out.lt B1.out.size),(R4.out.below B1.out R4.out.lt).below hb7' (Nat.lt_of_lt_of_le R4.out.lt B1.out.size),(R6.out.below B1.out R6.out.lt).below hb7' (Nat.lt_of_lt_of_le R6.out.lt B1.out.size),hr7',RA.out.below hb7' RA.out.lt,RD.out.below hb7' RD.out.lt⟩);have H76:Hid (g6<g7):=Hd (by have:=R6.out.lt;have:=HS7.out;omega);have MD:Hid (MX15 w w7.drew g3 g4 g6 g7 ga gd):=Hd (M.out.below ⟨rfl,rfl,rfl,Lr _,fun _ _=>rfl⟩);refine wp_region_held_drew (S:=fun V=>Row V g3 62 (bv (kx15 8))∧Row V g4 62 (bv (kx15 9))∧Row V g7 61 (ic15x ga gd)) (by kernel_rfl) ⟨MD.out.r3,MD.out.r4,MD.out.r7⟩ (fun _=>?_);try dsimp only[List.append]
 clear M R3 R4 R6 RA RD B0 B1 HGD HGA hr7 hr7' hb7 hb7' hz7;generalize w7.drew=wd at *;refine Tl 0 (v:=.agg (ic15x ga gd).toArray) rfl (Or.inl ⟨by rfl,fun wz hwz=>Xa4 wz 61 (.tmp 7) rfl ⟨g7,0,none⟩ (ic15x ga gd) _ Tryz.underlying61 rfl (by kernel_rfl) (fun j u hu=>by rw[Xa5,Nat.zero_add,hwz.2.2.cell];exact hu) (by go_simp)⟩) ⟨MD.out.r3,MD.out.r4,MD.out.r7⟩ ?_;try simp only[nm]
 refine Tl 4 (v:=.agg (bv (kx15 8)).toArray) rfl (Or.inl ⟨by rfl,fun wz hwz=>Xa4 wz 62 (.tmp 3) rfl ⟨g3,0,none⟩ (bv (kx15 8)) _ Tryz.underlying62 rfl (by kernel_rfl) (fun j u hu=>by rw[Xa5,Nat.zero_add,hwz.1.cell];exact hu) (by go_simp)⟩) ⟨MD.out.r3,MD.out.r4,MD.out.r7⟩ ?_;try simp only[nm]
 refine Tl 5 (v:=.agg (LRole.mk (kx15 8) true true).cells.toArray) rfl (Or.inl ⟨by rfl,fun wz hwz=>Xa9 wz _ _ _ rfl (by simp only[List.map_toArray,List.map_cons,List.map_nil];exact Xs2)⟩) ⟨MD.out.r3,MD.out.r4,MD.out.r7⟩ ?_;try simp only[nm]
 refine Tl 6 (v:=.agg (bv (kx15 9)).toArray) rfl (Or.inl ⟨by rfl,fun wz hwz=>Xa4 wz 62 (.tmp 4) rfl ⟨g4,0,none⟩ (bv (kx15 9)) _ Tryz.underlying62 rfl (by kernel_rfl) (fun j u hu=>by rw[Xa5,Nat.zero_add,hwz.2.1.cell];exact hu) (by go_simp)⟩) ⟨MD.out.r3,MD.out.r4,MD.out.r7⟩ ?_;try simp only[nm]
 refine Tl 7 (v:=.agg (LRole.mk (kx15 9) false true).cells.toArray) rfl (Or.inl ⟨by rfl,fun wz hwz=>Xa9 wz _ _ _ rfl (by simp only[List.map_toArray,List.map_cons,List.map_nil];exact Xqn)⟩) ⟨MD.out.r3,MD.out.r4,MD.out.r7⟩ ?_;try simp only[nm]
 refine Tl 11 (v:=.agg ([.int .u64 400000,.int .u64 0,.int .i64 (-1)]:List Value).toArray) rfl (Or.inl ⟨by rfl,fun wz hwz=>Xa9 wz _ _ _ rfl (by simp only[List.map_toArray,List.map_cons,List.map_nil];exact Xm0)⟩) ⟨MD.out.r3,MD.out.r4,MD.out.r7⟩ ?_;try simp only[nm]
 refine Xea (i:=1) (j:=8) rfl rfl (by kernel_rfl) (by kernel_rfl) (by kernel_rfl) (fun K hK=>?_) (fun K hK=>?_)
 ·refine Xb6 29 61 (.tmp 12) rfl (ic15x ga gd) _ 3 56 Tryz.underlying29 Xhq Xj3 (by omega) (by omega) rfl (by go_simp) ?_;have hb1:=(Br wd.heap.size wd).alloc (Lr _) (.cells (ic15x ga gd).toArray 61);have RI1:=Hd (Row.new wd 61 (ic15x ga gd));obtain⟨gi1,hgi1⟩:∃g,g=wd.heap.size:=⟨_,rfl⟩;have HI1:Hid (g6<gi1):=Hd (by rw[hgi1];exact MD.out.r6.lt);rw[←hgi1]at RI1 ⊢;clear hgi1;have M1:=Hd (MD.out.below hb1);clear hb1;generalize wd.alloc (.cells (ic15x ga gd).toArray 61)=y1 at *;refine hK.out _ _ ⟨M1.out.r3,M1.out.r4,M1.out.r7⟩ ?_;clear hK K;try simp only[nm]
  refine Tl 2 (v:=.agg ((q15x gi1 0).t.q.cells ms15x).toArray) rfl (Or.inl ⟨by rfl,fun wz hwz=>Xa9 wz _ _ _ rfl (by simp only[List.map_toArray,List.map_cons,List.map_nil];exact Xfo _)⟩) ⟨M1.out.r3,M1.out.r4,M1.out.r7⟩ ?_;try simp only[nm]
  refine Tl 3 (v:=.agg ((q15x gi1 0).t.cells ⟨[],ms15x⟩).toArray) rfl (Or.inl ⟨by rfl,fun wz hwz=>Xa9 wz _ _ _ rfl (by simp only[List.map_toArray,List.map_cons,List.map_nil];exact Xfn _)⟩) ⟨M1.out.r3,M1.out.r4,M1.out.r7⟩ ?_;try simp only[nm]
  refine Rl 8 rfl fun K hK=>?_
  go_simp;refine(Xc6 _).mono ?_;rintro e y2 ⟨rfl,hb2⟩;have M2:=Hd (M1.out.below hb2);have RI2:=Hd (RI1.out.below hb2 RI1.out.lt);clear hb2;refine hK.out _ _ ⟨M2.out.r3,M2.out.r4,M2.out.r7⟩ ?_;clear hK K;try simp only[nm]
  refine Tl 9 (v:=.agg (LRole.mk k0 false false).cells.toArray) rfl (Or.inl ⟨by rfl,fun wz hwz=>Xa9 wz _ _ _ rfl (by simp only[List.map_toArray,List.map_cons,List.map_nil];exact Xjs)⟩) ⟨M2.out.r3,M2.out.r4,M2.out.r7⟩ ?_;try simp only[nm]
  refine Rl 10 rfl fun K hK=>?_
  refine Xd6 35 93 (.tmp 17) (.tmp 19) (.tmp 21) rfl (LRole.mk (kx15 8) true true).cells (LRole.mk (kx15 9) false true).cells (LRole.mk k0 false false).cells _ 34 34 Tryz.underlying35 infoR zszRx (by omega) (by omega) rfl rfl rfl (by go_simp) (by go_simp) (by go_simp) ?_;have hb3:=(Br y2.heap.size y2).alloc (Lr _) (.cells roC15x.toArray 93);have RR3:=Hd (Row.new y2 93 roC15x);obtain⟨gr3,hgr3⟩:∃g,g=y2.heap.size:=⟨_,rfl⟩;have HR3:Hid (g6<gr3):=Hd (by rw[hgr3];exact M2.out.r6.lt);rw[←hgr3]at RR3 ⊢;clear hgr3;have M3:=Hd (M2.out.below hb3);have RI3:=Hd (RI2.out.below hb3 RI2.out.lt);clear hb3;rw[show(LRole.mk (kx15 8) true true).cells++((LRole.mk (kx15 9) false true).cells++(LRole.mk k0 false false).cells)=roC15x from rfl];generalize y2.alloc (.cells roC15x.toArray 93)=y3 at *;refine hK.out _ _ ⟨M3.out.r3,M3.out.r4,M3.out.r7⟩ ?_;clear hK K;try simp only[nm]
  refine Tl 12 (v:=.agg ((q15x gi1 gr3).cells rd15x).toArray) rfl (Or.inl ⟨by rfl,fun wz hwz=>Xa9 wz _ _ _ rfl (by simp only[List.map_toArray,List.map_cons,List.map_nil];exact Xfm _ _)⟩) ⟨M3.out.r3,M3.out.r4,M3.out.r7⟩ ?_;try simp only[nm]
  refine Rl 13 rfl fun K hK=>?_
  refine Xb4 40 (.tmp 6) (.tmp 24) rfl g6 zrdC ((q15x gi1 gr3).cells rd15x) M3.out.r6 (Xe8 _ _) rfl (Xj4 _ _) (by go_simp) (by go_simp) (fun w9 hr9 ht9=>?_);have R9:=Hd hr9;have T9:=Hd ht9;clear hr9 ht9;refine hK.out _ _ ⟨T9.out.row M3.out.r3 HGN.out.2.1,T9.out.row M3.out.r4 HGN.out.2.2,T9.out.row M3.out.r7 (by have:=H76.out;omega)⟩ ?_;clear hK K;try simp only[Act.put]
  refine wpAnyH_done (by kernel_rfl) ?_ _;go_wp2_with fail;refine bodyPost_ret (results_cell_row (h:=rfl) _ w9 g6 40 _ (0,0) _ (by rfl) R9.out.is Tryz.underlying40 rfl (Xe8 gi1 gr3)) rfl ?_;exact⟨gi1,gr3,rfl,Xm1 (T9.out.row RI3.out (by have:=HI1.out;omega)) (T9.out.row RR3.out (by have:=HR3.out;omega)) (T9.out.row M3.out.ra (by have:=HAD.out;omega)) (T9.out.row M3.out.rd (by have:=HAD.out;omega)),M3.out.b.trans (T9.out.below HGN.out.1)⟩
 ·go_simp;refine(Xc6 _).mono ?_;rintro e y4 ⟨rfl,hb4⟩;have M4:=Hd (MD.out.below hb4);clear hb4;refine hK.out _ _ ⟨M4.out.r3,M4.out.r4,M4.out.r7⟩ ?_;clear hK K;try simp only[nm]
  refine Tl 9 (v:=.agg (LRole.mk k0 false false).cells.toArray) rfl (Or.inl ⟨by rfl,fun wz hwz=>Xa9 wz _ _ _ rfl (by simp only[List.map_toArray,List.map_cons,List.map_nil];exact Xjs)⟩) ⟨M4.out.r3,M4.out.r4,M4.out.r7⟩ ?_;try simp only[nm]
  refine Xea (i:=1) (j:=10) rfl rfl (by kernel_rfl) (by kernel_rfl) (by kernel_rfl) (fun K hK=>?_) (fun K hK=>?_)
  ·refine Xb6 29 61 (.tmp 12) rfl (ic15x ga gd) _ 3 56 Tryz.underlying29 Xhq Xj3 (by omega) (by omega) rfl (by go_simp) ?_;have hb5:=(Br y4.heap.size y4).alloc (Lr _) (.cells (ic15x ga gd).toArray 61);have RI5:=Hd (Row.new y4 61 (ic15x ga gd));obtain⟨gi5,hgi5⟩:∃g,g=y4.heap.size:=⟨_,rfl⟩;have HI5:Hid (g6<gi5):=Hd (by rw[hgi5];exact M4.out.r6.lt);rw[←hgi5]at RI5 ⊢;clear hgi5;have M5:=Hd (M4.out.below hb5);clear hb5;generalize y4.alloc (.cells (ic15x ga gd).toArray 61)=y5 at *;refine hK.out _ _ ⟨M5.out.r3,M5.out.r4,M5.out.r7⟩ ?_;clear hK K;try simp only[nm]
   refine Tl 2 (v:=.agg ((q15x gi5 0).t.q.cells ms15x).toArray) rfl (Or.inl ⟨by rfl,fun wz hwz=>Xa9 wz _ _ _ rfl (by simp only[List.map_toArray,List.map_cons,List.map_nil];exact Xfo _)⟩) ⟨M5.out.r3,M5.out.r4,M5.out.r7⟩ ?_;try simp only[nm]
   refine Tl 3 (v:=.agg ((q15x gi5 0).t.cells ⟨[],ms15x⟩).toArray) rfl (Or.inl ⟨by rfl,fun wz hwz=>Xa9 wz _ _ _ rfl (by simp only[List.map_toArray,List.map_cons,List.map_nil];exact Xfn _)⟩) ⟨M5.out.r3,M5.out.r4,M5.out.r7⟩ ?_;try simp only[nm]
   refine Rl 10 rfl fun K hK=>?_
   refine Xd6 35 93 (.tmp 17) (.tmp 19) (.tmp 21) rfl (LRole.mk (kx15 8) true true).cells (LRole.mk (kx15 9) false true).cells (LRole.mk k0 false false).cells _ 34 34 Tryz.underlying35 infoR zszRx (by omega) (by omega) rfl rfl rfl (by go_simp) (by go_simp) (by go_simp) ?_;have hb6:=(Br y5.heap.size y5).alloc (Lr _) (.cells roC15x.toArray 93);have RR6:=Hd (Row.new y5 93 roC15x);obtain⟨gr6,hgr6⟩:∃g,g=y5.heap.size:=⟨_,rfl⟩;have HR6:Hid (g6<gr6):=Hd (by rw[hgr6];exact M5.out.r6.lt);rw[←hgr6]at RR6 ⊢;clear hgr6;have M6:=Hd (M5.out.below hb6);have RI6:=Hd (RI5.out.below hb6 RI5.out.lt);clear hb6;rw[show(LRole.mk (kx15 8) true true).cells++((LRole.mk (kx15 9) false true).cells++(LRole.mk k0 false false).cells)=roC15x from rfl];generalize y5.alloc (.cells roC15x.toArray 93)=y6 at *;refine hK.out _ _ ⟨M6.out.r3,M6.out.r4,M6.out.r7⟩ ?_;clear hK K;try simp only[nm]
   refine Tl 12 (v:=.agg ((q15x gi5 gr6).cells rd15x).toArray) rfl (Or.inl ⟨by rfl,fun wz hwz=>Xa9 wz _ _ _ rfl (by simp only[List.map_toArray,List.map_cons,List.map_nil];exact Xfm _ _)⟩) ⟨M6.out.r3,M6.out.r4,M6.out.r7⟩ ?_;try simp only[nm]
   refine Rl 13 rfl fun K hK=>?_
   refine Xb4 40 (.tmp 6) (.tmp 24) rfl g6 zrdC ((q15x gi5 gr6).cells rd15x) M6.out.r6 (Xe8 _ _) rfl (Xj4 _ _) (by go_simp) (by go_simp) (fun w9 hr9 ht9=>?_);have R9:=Hd hr9;have T9:=Hd ht9;clear hr9 ht9;refine hK.out _ _ ⟨T9.out.row M6.out.r3 HGN.out.2.1,T9.out.row M6.out.r4 HGN.out.2.2,T9.out.row M6.out.r7 (by have:=H76.out;omega)⟩ ?_;clear hK K;try simp only[Act.put]
   refine wpAnyH_done (by kernel_rfl) ?_ _;go_wp2_with fail;refine bodyPost_ret (results_cell_row (h:=rfl) _ w9 g6 40 _ (0,0) _ (by rfl) R9.out.is Tryz.underlying40 rfl (Xe8 gi5 gr6)) rfl ?_;exact⟨gi5,gr6,rfl,Xm1 (T9.out.row RI6.out (by have:=HI5.out;omega)) (T9.out.row RR6.out (by have:=HR6.out;omega)) (T9.out.row M6.out.ra (by have:=HAD.out;omega)) (T9.out.row M6.out.rd (by have:=HAD.out;omega)),M6.out.b.trans (T9.out.below HGN.out.1)⟩
  ·refine Xd6 35 93 (.tmp 17) (.tmp 19) (.tmp 21) rfl (LRole.mk (kx15 8) true true).cells (LRole.mk (kx15 9) false true).cells (LRole.mk k0 false false).cells _ 34 34 Tryz.underlying35 infoR zszRx (by omega) (by omega) rfl rfl rfl (by go_simp) (by go_simp) (by go_simp) ?_;have hb7:=(Br y4.heap.size y4).alloc (Lr _) (.cells roC15x.toArray 93);have RR7:=Hd (Row.new y4 93 roC15x);obtain⟨gr7,hgr7⟩:∃g,g=y4.heap.size:=⟨_,rfl⟩;have HR7:Hid (g6<gr7):=Hd (by rw[hgr7];exact M4.out.r6.lt);rw[←hgr7]at RR7 ⊢;clear hgr7;have M7:=Hd (M4.out.below hb7);clear hb7;rw[show(LRole.mk (kx15 8) true true).cells++((LRole.mk (kx15 9) false true).cells++(LRole.mk k0 false false).cells)=roC15x from rfl];generalize y4.alloc (.cells roC15x.toArray 93)=y7 at *;refine hK.out _ _ ⟨M7.out.r3,M7.out.r4,M7.out.r7⟩ ?_;clear hK K;try simp only[nm]
   refine Rl 1 rfl fun K hK=>?_
   refine Xb6 29 61 (.tmp 12) rfl (ic15x ga gd) _ 3 56 Tryz.underlying29 Xhq Xj3 (by omega) (by omega) rfl (by go_simp) ?_;have hb8:=(Br y7.heap.size y7).alloc (Lr _) (.cells (ic15x ga gd).toArray 61);have RI8:=Hd (Row.new y7 61 (ic15x ga gd));obtain⟨gi8,hgi8⟩:∃g,g=y7.heap.size:=⟨_,rfl⟩;have HI8:Hid (g6<gi8):=Hd (by rw[hgi8];exact M7.out.r6.lt);rw[←hgi8]at RI8 ⊢;clear hgi8;have M8:=Hd (M7.out.below hb8);have RR8:=Hd (RR7.out.below hb8 RR7.out.lt);clear hb8;generalize y7.alloc (.cells (ic15x ga gd).toArray 61)=y8 at *;refine hK.out _ _ ⟨M8.out.r3,M8.out.r4,M8.out.r7⟩ ?_;clear hK K;try simp only[nm]
   refine Tl 2 (v:=.agg ((q15x gi8 0).t.q.cells ms15x).toArray) rfl (Or.inl ⟨by rfl,fun wz hwz=>Xa9 wz _ _ _ rfl (by simp only[List.map_toArray,List.map_cons,List.map_nil];exact Xfo _)⟩) ⟨M8.out.r3,M8.out.r4,M8.out.r7⟩ ?_;try simp only[nm]
   refine Tl 3 (v:=.agg ((q15x gi8 0).t.cells ⟨[],ms15x⟩).toArray) rfl (Or.inl ⟨by rfl,fun wz hwz=>Xa9 wz _ _ _ rfl (by simp only[List.map_toArray,List.map_cons,List.map_nil];exact Xfn _)⟩) ⟨M8.out.r3,M8.out.r4,M8.out.r7⟩ ?_;try simp only[nm]
   refine Tl 12 (v:=.agg ((q15x gi8 gr7).cells rd15x).toArray) rfl (Or.inl ⟨by rfl,fun wz hwz=>Xa9 wz _ _ _ rfl (by simp only[List.map_toArray,List.map_cons,List.map_nil];exact Xfm _ _)⟩) ⟨M8.out.r3,M8.out.r4,M8.out.r7⟩ ?_;try simp only[nm]
   refine Rl 13 rfl fun K hK=>?_
   refine Xb4 40 (.tmp 6) (.tmp 24) rfl g6 zrdC ((q15x gi8 gr7).cells rd15x) M8.out.r6 (Xe8 _ _) rfl (Xj4 _ _) (by go_simp) (by go_simp) (fun w9 hr9 ht9=>?_);have R9:=Hd hr9;have T9:=Hd ht9;clear hr9 ht9;refine hK.out _ _ ⟨T9.out.row M8.out.r3 HGN.out.2.1,T9.out.row M8.out.r4 HGN.out.2.2,T9.out.row M8.out.r7 (by have:=H76.out;omega)⟩ ?_;clear hK K;try simp only[Act.put]
   refine wpAnyH_done (by kernel_rfl) ?_ _;go_wp2_with fail;refine bodyPost_ret (results_cell_row (h:=rfl) _ w9 g6 40 _ (0,0) _ (by rfl) R9.out.is Tryz.underlying40 rfl (Xe8 gi8 gr7)) rfl ?_;exact⟨gi8,gr7,rfl,Xm1 (T9.out.row RI8.out (by have:=HI8.out;omega)) (T9.out.row RR8.out (by have:=HR7.out;omega)) (T9.out.row M8.out.ra (by have:=HAD.out;omega)) (T9.out.row M8.out.rd (by have:=HAD.out;omega)),M8.out.b.trans (T9.out.below HGN.out.1)⟩
open Go.RowKit Go.Maps
theorem Xav:k0.length=32∧AllBytes k0:=by
 refine⟨rfl,fun x hx=>?_⟩;obtain rfl:=List.eq_of_mem_replicate (show x ∈ List.replicate 32 0 from hx);exact⟨by decide,by decide⟩
theorem Xaw:k3.length=32∧AllBytes k3:=by
 refine⟨rfl,fun x hx=>?_⟩;have h:∀y ∈ k3,0≤y∧y<256:=by decide
 exact h x hx
theorem Xrq:k0≠k3:=by decide
theorem Xlc{v:Value}{ps:List MemPlace}(h:fnE v=some (.lit (.int .i64 (-1)),ps)):v=.nilFunc:=by
 unfold fnE at h;split at h
 ·rename_i hx
  injection h with h
  injection h with h _
  injection h with h
  injection h with _ h
  omega
 ·split at h
  ·assumption
  ·cases h
structure PD15(D:DataW Unit):Prop where
 at0:∀z,D.atKey (KL k0) z=FnD14 76
 at3:∀z,D.atKey (KL k3) z=FnD14 78
 no:∀k,k.length=32∧AllBytes k→k≠k0→k≠k3→Go.Maps.has D (KL k)=false
theorem Xjv:PD15 (((DataW.map []).put (KL k0) (FnD14 76)).put (KL k3) (FnD14 78)):=by
 have hk0:=Xka Xav.1 Xav.2;have hk3:=Xka Xaw.1 Xaw.2;have hm:=(isMap_empty (H:=Unit)).put (KL k0) (FnD14 76);have ne:KL k0≠KL k3:=fun e=>Xrq (Xfd Xav.1 Xav.2 Xaw.1 Xaw.2 e)
 refine⟨fun z=>?_,fun z=>atKey_put_same hm hk3 _ _,fun k hk h0 h3=>?_⟩
 ·rw[atKey_put_other ne,atKey_put_same isMap_empty hk0]
 ·rw[has_put_other (fun e=>h3 (Xfd hk.1 hk.2 Xaw.1 Xaw.2 e)),has_put_other (fun e=>h0 (Xfd hk.1 hk.2 Xav.1 Xav.2 e))];rfl
theorem Xqc:PD15 (((DataW.map []).put (KL k3) (FnD14 78)).put (KL k0) (FnD14 76)):=by
 have hk0:=Xka Xav.1 Xav.2;have hk3:=Xka Xaw.1 Xaw.2;have hm:=(isMap_empty (H:=Unit)).put (KL k3) (FnD14 78);have ne:KL k3≠KL k0:=fun e=>Xrq (Xfd Xaw.1 Xaw.2 Xav.1 Xav.2 e).symm
 refine⟨fun z=>atKey_put_same hm hk0 _ _,fun z=>?_,fun k hk h0 h3=>?_⟩
 ·rw[atKey_put_other ne,atKey_put_same isMap_empty hk3]
 ·rw[has_put_other (fun e=>h0 (Xfd hk.1 hk.2 Xav.1 Xav.2 e)),has_put_other (fun e=>h3 (Xfd hk.1 hk.2 Xaw.1 Xaw.2 e))];rfl
def PM15(w:World)(mb:Nat):Prop:=∃n D,w.ownsMap Tryz.prog 62 fnE mb n D∧PD15 D
theorem PM15.lt{w:World}{mb:Nat}(h:PM15 w mb):mb<w.heap.size:=by
 obtain⟨n,D,⟨es,cl,hm,_⟩,_⟩:=h;exact(Array.getElem?_eq_some_iff.1 hm).1
theorem PM15.keep{w w':World}{mb:Nat}(h:PM15 w mb)(h2:w'.heap[mb]?=w.heap[mb]?):PM15 w' mb:=by
 obtain⟨n,D,⟨es,cl,hm,F,hs,hD⟩,had⟩:=h;exact⟨n,D,⟨es,cl,h2.trans hm,F,hs,hD⟩,had⟩
theorem PM15.below{w w':World}{mb:Nat}(h:PM15 w mb)(hb:Below w.heap.size w w'):PM15 w' mb:=h.keep (hb.block _ h.lt)
theorem PM15.row_ne{w:World}{mb g t:Nat}{xs:List Value}(h:PM15 w mb)(hr:Row w g t xs):g≠mb:=by
 rintro rfl;obtain⟨n,D,⟨es,cl,hm,_⟩,_⟩:=h;rw[hr.is]at hm;cases hm
def fnV15(k:List Int):Value:=if k=k0 then .func (.func 76) #[] #[]else if k=k3 then .func (.func 78) #[] #[]else .nilFunc
theorem Xrz(w:World):(zeroValue 160).run Tryz.prog w=.ok .nilFunc w:=by kernel_rfl
theorem PM15.look{w:World}{mb:Nat}(h:PM15 w mb){k:List Int}(hk:k.length=32∧AllBytes k):(Instr.lookup 125 (.map (some mb)) (.agg (bv k).toArray) true).run Tryz.prog w=.ok (.tuple #[fnV15 k,.bool (decide (k=k0∨k=k3))]) w:=by
 obtain⟨n,D,hown,hd⟩:=h;obtain⟨v,ps,hrun,hv⟩:=hown.look_ok Xbh Tryz.underlying125 (Xrz w) Xp4 (KL_is hk.1 hk.2);rw[hrun];unfold fnV15;by_cases e0:k=k0
 ·subst e0;rw[hd.at0]at hv;rw[Xlr hv,has_true_of_atKey hd.at0,if_pos rfl,decide_eq_true (.inl rfl)]
 ·by_cases e3:k=k3
  ·subst e3;rw[hd.at3]at hv;rw[Xlr hv,has_true_of_atKey hd.at3,if_neg e0,if_pos rfl,decide_eq_true (.inr rfl)]
  ·have hn:=hd.no k hk e0 e3;rw[atKey_of_not_has hn]at hv;rw[Xlc hv,hn,if_neg e0,if_neg e3,decide_eq_false (by rintro(h | h);exact e0 h;exact e3 h)]
theorem Xdx{a:Act}{o:Oper}(w:World)(m x:Operand)(hop:o.op=Op.lookup 125 m x true)(b:Nat)(k:List Int)(v:Value)(hm:a.eval m=.map (some b))(hx:a.eval x=.agg (bv k).toArray)
 (hr:(Instr.lookup 125 (.map (some b)) (.agg (bv k).toArray) true).run Tryz.prog w=.ok v w):(execOp a.eval o).run Tryz.prog w=.ok (.value v) w:=by
 unfold execOp;simp only[hop,hm,hx,Sem.run_bind,Sem.run_pure,hr,Result.andThen_ok]
theorem Xet{P:Program}{o:Oper}{a:Act}{w w':World}{K:Act→World→Prop}{Q:Exit→Act→World→Prop}(t:TypeId)(hop:o.op=Op.makeMap t none){v:Value}(hrun:(Instr.makeMap t none).run P w=.ok v w')(h:K (a.put o.dst v) w'):o.wp P a w K Q:=by
 unfold Oper.wp;simp[execOp,hop,hrun,Result.andThen];exact h
theorem Xax{H:Type}{P:Program}(w:World){o:Oper}{a:Act}{K:Act→World→Prop}{Q:Exit→Act→World→Prop}(m x v:Operand)(t:TypeId)(hop:o.op=Op.insert t m x v)
 (k e:TypeId) (KK:Keyed P k) (ht:P.underlying t=some (.map k e)) (R:Value→Option (DataW H × List MemPlace)) (b n:Nat) (D:DataW H)
 (hm:a.eval m=.map (some b)) (hown:w.ownsMap P k R b n D) (hn:n<maxLen) (key val:Value) (kl:Lit) (hx:a.eval x=key) (hv:a.eval v=val) (hkey:Go.keyOf P k key=some kl)
 (d:DataW H) (ps:List MemPlace) (hval:R val=some (d,ps))
 (hK:∀w',w'.ownsMap P k R b (n+1) (D.put kl d)→w.grownBy w' (some b)→K (a.put o.dst undef) w'):o.wp P a w K Q:=by
 obtain⟨w',hrun,r1,r2⟩:=hown.update KK ht hn hkey hval;unfold Oper.wp;simp[execOp,hop,hm,hx,hv,hrun,Result.andThen];exact hK w' r1 r2
theorem Xd5{k:TypeId}{R:Value→Option (DataW Unit × List MemPlace)}{w w':World}{b n:Nat}{D:DataW Unit}(h:w.ownsMap Tryz.prog k R b n D)(hb:Below w.heap.size w w'):w'.ownsMap Tryz.prog k R b n D:=by
 have hlt:=h.lt;obtain⟨es,cl,hm,F,hs,hD⟩:=h;exact⟨es,cl,(hb.block _ hlt).trans hm,F,hs,hD⟩
theorem Xnc(w:World):Calls Tryz.prog 52 #[] w fun e w'=>∃mb,e=.returned (.map (some mb))∧PM15 w' mb∧w.heap.size≤mb∧Below w.heap.size w w':=by
 have hmm:∀w,(Instr.makeMap 125 none).run Tryz.prog w=.ok (.map (some w.heap.size)) (w.alloc (.map #[] 0)):=fun w=>by first | rfl | kernel_rfl
 go_enter Tryz.func52,Tryz.ntmps52
 go_upto_region 1 with fail
 have B0:=Hd (Br w.heap.size w).drew;refine wp_region_held_drew (S:=fun V=>Below w.heap.size w V) (by kernel_rfl) B0.out (fun _=>?_);try dsimp only[List.append]
 obtain⟨y0,hy0⟩:∃u,u=w.drew:=⟨_,rfl⟩;rw[←hy0]at B0 ⊢;clear hy0;refine Xea (i:=0) (j:=1) rfl rfl (by kernel_rfl) (by kernel_rfl) (by kernel_rfl) (fun K hK=>?_) (fun K hK=>?_)
 ·have hx:=hmm y0;have H1:=Hd (World.ownsMap_made y0 Tryz.prog 62 fnE);have B1:=Hd (B0.out.alloc B0.out.size (.map #[] 0));have G1:Hid (w.heap.size≤y0.heap.size):=Hd B0.out.size;refine Xet 125 rfl hx ?_;clear hx;obtain⟨m1,hm1⟩:∃m,m=y0.heap.size:=⟨_,rfl⟩;rw[←hm1]at H1 G1 ⊢;clear hm1;generalize y0.alloc (.map #[] 0)=y1 at *;refine hK.out _ _ B1.out ?_;clear hK K;try simp only[nm]
  refine Rl 1 rfl fun K hK=>?_
  go_simp;refine(Xc6 _).mono ?_;rintro e y3 ⟨rfl,hb⟩;have B3:=Hd (B1.out.trans (hb.mono B1.out.size));have H3:=Hd (Xd5 H1.out hb);clear hb;refine hK.out _ _ B3.out ?_;clear hK K;try simp only[nm]
  refine Xea (i:=2) (j:=3) rfl rfl (by kernel_rfl) (by kernel_rfl) (by kernel_rfl) (fun K hK=>?_) (fun K hK=>?_)
  ·refine Xax _ (.tmp 1) (.tmp 2) (.func 76) 125 rfl 62 160 Xbh Tryz.underlying125 fnE m1 0 (DataW.map []) (by go_simp) H3.out (by decide) (.agg (bv k0).toArray) (.func (.func 76) #[] #[]) (KL k0) (by go_simp) (by go_simp) (KL_is Xav.1 Xav.2) (FnD14 76) [] (Xca _) ?_;intro y4 ho hg;have H4:=Hd ho;have B4:=Hd (B3.out.grown hg B3.out.size (fun k hk=>by cases hk;exact G1.out));clear ho hg;refine hK.out _ _ B4.out ?_;clear hK K;try simp only[Act.put]
   refine Rl 3 rfl fun K hK=>?_
   go_simp;refine(Xhu _).mono ?_;rintro e y6 ⟨rfl,hb⟩;have B6:=Hd (B4.out.trans (hb.mono B4.out.size));have H6:=Hd (Xd5 H4.out hb);clear hb;refine hK.out _ _ B6.out ?_;clear hK K;try simp only[nm]
   refine Rl 4 rfl fun K hK=>?_
   refine Xax _ (.tmp 1) (.tmp 3) (.func 78) 125 rfl 62 160 Xbh Tryz.underlying125 fnE m1 1 ((DataW.map []).put (KL k0) (FnD14 76)) (by go_simp) H6.out (by decide) (.agg (bv k3).toArray) (.func (.func 78) #[] #[]) (KL k3) (by go_simp) (by go_simp) (KL_is Xaw.1 Xaw.2) (FnD14 78) [] (Xca _) ?_;intro y7 ho hg;have H7:=Hd ho;have B7:=Hd (B6.out.grown hg B6.out.size (fun k hk=>by cases hk;exact G1.out));clear ho hg;refine hK.out _ _ B7.out ?_;clear hK K;try simp only[Act.put]
   refine Tk 5 rfl ?_ B7.out ?_ ⟨?_,rfl⟩
   ·intro w hw;(try dsimp only at hw);go_simp;try with_reducible rfl
   try simp only[nm]
   refine Tk 6 rfl ?_ B7.out ?_ ⟨?_,rfl⟩
   ·intro w hw;(try dsimp only at hw);go_simp;try with_reducible rfl
   try simp only[Act.put,List.setIfInBounds_toArray,List.set_cons_zero]
   refine wpAnyH_done (by kernel_rfl) ?_ _;go_wp2_with fail;go_ret;exact⟨_,rfl,⟨_,_,H7.out,Xjv⟩,G1.out,B7.out⟩
  ·go_simp;refine(Xhu _).mono ?_;rintro e y5 ⟨rfl,hb⟩;have B5:=Hd (B3.out.trans (hb.mono B3.out.size));have H5:=Hd (Xd5 H3.out hb);clear hb;refine hK.out _ _ B5.out ?_;clear hK K;try simp only[nm]
   refine Xea (i:=2) (j:=4) rfl rfl (by kernel_rfl) (by kernel_rfl) (by kernel_rfl) (fun K hK=>?_) (fun K hK=>?_)
   ·refine Xax _ (.tmp 1) (.tmp 2) (.func 76) 125 rfl 62 160 Xbh Tryz.underlying125 fnE m1 0 (DataW.map []) (by go_simp) H5.out (by decide) (.agg (bv k0).toArray) (.func (.func 76) #[] #[]) (KL k0) (by go_simp) (by go_simp) (KL_is Xav.1 Xav.2) (FnD14 76) [] (Xca _) ?_;intro y8 ho hg;have H8:=Hd ho;have B8:=Hd (B5.out.grown hg B5.out.size (fun k hk=>by cases hk;exact G1.out));clear ho hg;refine hK.out _ _ B8.out ?_;clear hK K;try simp only[Act.put]
    refine Rl 4 rfl fun K hK=>?_
    refine Xax _ (.tmp 1) (.tmp 3) (.func 78) 125 rfl 62 160 Xbh Tryz.underlying125 fnE m1 1 ((DataW.map []).put (KL k0) (FnD14 76)) (by go_simp) H8.out (by decide) (.agg (bv k3).toArray) (.func (.func 78) #[] #[]) (KL k3) (by go_simp) (by go_simp) (KL_is Xaw.1 Xaw.2) (FnD14 78) [] (Xca _) ?_;intro y10 ho hg;have H10:=Hd ho;have B10:=Hd (B8.out.grown hg B8.out.size (fun k hk=>by cases hk;exact G1.out));clear ho hg;refine hK.out _ _ B10.out ?_;clear hK K;try simp only[Act.put]
    refine Tk 5 rfl ?_ B10.out ?_ ⟨?_,rfl⟩
    ·intro w hw;(try dsimp only at hw);go_simp;try with_reducible rfl
    try simp only[nm]
    refine Tk 6 rfl ?_ B10.out ?_ ⟨?_,rfl⟩
    ·intro w hw;(try dsimp only at hw);go_simp;try with_reducible rfl
    try simp only[Act.put,List.setIfInBounds_toArray,List.set_cons_zero]
    refine wpAnyH_done (by kernel_rfl) ?_ _;go_wp2_with fail;go_ret;exact⟨_,rfl,⟨_,_,H10.out,Xjv⟩,G1.out,B10.out⟩
   ·refine Xax _ (.tmp 1) (.tmp 3) (.func 78) 125 rfl 62 160 Xbh Tryz.underlying125 fnE m1 0 (DataW.map []) (by go_simp) H5.out (by decide) (.agg (bv k3).toArray) (.func (.func 78) #[] #[]) (KL k3) (by go_simp) (by go_simp) (KL_is Xaw.1 Xaw.2) (FnD14 78) [] (Xca _) ?_;intro y9 ho hg;have H9:=Hd ho;have B9:=Hd (B5.out.grown hg B5.out.size (fun k hk=>by cases hk;exact G1.out));clear ho hg;refine hK.out _ _ B9.out ?_;clear hK K;try simp only[Act.put]
    refine Rl 2 rfl fun K hK=>?_
    refine Xax _ (.tmp 1) (.tmp 2) (.func 76) 125 rfl 62 160 Xbh Tryz.underlying125 fnE m1 1 ((DataW.map []).put (KL k3) (FnD14 78)) (by go_simp) H9.out (by decide) (.agg (bv k0).toArray) (.func (.func 76) #[] #[]) (KL k0) (by go_simp) (by go_simp) (KL_is Xav.1 Xav.2) (FnD14 76) [] (Xca _) ?_;intro y11 ho hg;have H11:=Hd ho;have B11:=Hd (B9.out.grown hg B9.out.size (fun k hk=>by cases hk;exact G1.out));clear ho hg;refine hK.out _ _ B11.out ?_;clear hK K;try simp only[Act.put]
    refine Tk 5 rfl ?_ B11.out ?_ ⟨?_,rfl⟩
    ·intro w hw;(try dsimp only at hw);go_simp;try with_reducible rfl
    try simp only[nm]
    refine Tk 6 rfl ?_ B11.out ?_ ⟨?_,rfl⟩
    ·intro w hw;(try dsimp only at hw);go_simp;try with_reducible rfl
    try simp only[Act.put,List.setIfInBounds_toArray,List.set_cons_zero]
    refine wpAnyH_done (by kernel_rfl) ?_ _;go_wp2_with fail;go_ret;exact⟨_,rfl,⟨_,_,H11.out,Xqc⟩,G1.out,B11.out⟩
 ·go_simp;refine(Xc6 _).mono ?_;rintro e y2 ⟨rfl,hb⟩;have B2:=Hd (B0.out.trans (hb.mono B0.out.size));clear hb;refine hK.out _ _ B2.out ?_;clear hK K;try simp only[nm]
  refine Xea (i:=0) (j:=3) rfl rfl (by kernel_rfl) (by kernel_rfl) (by kernel_rfl) (fun K hK=>?_) (fun K hK=>?_)
  ·have hx:=hmm y2;have H12:=Hd (World.ownsMap_made y2 Tryz.prog 62 fnE);have B12:=Hd (B2.out.alloc B2.out.size (.map #[] 0));have G12:Hid (w.heap.size≤y2.heap.size):=Hd B2.out.size;refine Xet 125 rfl hx ?_;clear hx;obtain⟨m12,hm12⟩:∃m,m=y2.heap.size:=⟨_,rfl⟩;rw[←hm12]at H12 G12 ⊢;clear hm12;generalize y2.alloc (.map #[] 0)=y12 at *;refine hK.out _ _ B12.out ?_;clear hK K;try simp only[nm]
   refine Xea (i:=2) (j:=3) rfl rfl (by kernel_rfl) (by kernel_rfl) (by kernel_rfl) (fun K hK=>?_) (fun K hK=>?_)
   ·refine Xax _ (.tmp 1) (.tmp 2) (.func 76) 125 rfl 62 160 Xbh Tryz.underlying125 fnE m12 0 (DataW.map []) (by go_simp) H12.out (by decide) (.agg (bv k0).toArray) (.func (.func 76) #[] #[]) (KL k0) (by go_simp) (by go_simp) (KL_is Xav.1 Xav.2) (FnD14 76) [] (Xca _) ?_;intro y14 ho hg;have H14:=Hd ho;have B14:=Hd (B12.out.grown hg B12.out.size (fun k hk=>by cases hk;exact G12.out));clear ho hg;refine hK.out _ _ B14.out ?_;clear hK K;try simp only[Act.put]
    refine Rl 3 rfl fun K hK=>?_
    go_simp;refine(Xhu _).mono ?_;rintro e y16 ⟨rfl,hb⟩;have B16:=Hd (B14.out.trans (hb.mono B14.out.size));have H16:=Hd (Xd5 H14.out hb);clear hb;refine hK.out _ _ B16.out ?_;clear hK K;try simp only[nm]
    refine Rl 4 rfl fun K hK=>?_
    refine Xax _ (.tmp 1) (.tmp 3) (.func 78) 125 rfl 62 160 Xbh Tryz.underlying125 fnE m12 1 ((DataW.map []).put (KL k0) (FnD14 76)) (by go_simp) H16.out (by decide) (.agg (bv k3).toArray) (.func (.func 78) #[] #[]) (KL k3) (by go_simp) (by go_simp) (KL_is Xaw.1 Xaw.2) (FnD14 78) [] (Xca _) ?_;intro y17 ho hg;have H17:=Hd ho;have B17:=Hd (B16.out.grown hg B16.out.size (fun k hk=>by cases hk;exact G12.out));clear ho hg;refine hK.out _ _ B17.out ?_;clear hK K;try simp only[Act.put]
    refine Tk 5 rfl ?_ B17.out ?_ ⟨?_,rfl⟩
    ·intro w hw;(try dsimp only at hw);go_simp;try with_reducible rfl
    try simp only[nm]
    refine Tk 6 rfl ?_ B17.out ?_ ⟨?_,rfl⟩
    ·intro w hw;(try dsimp only at hw);go_simp;try with_reducible rfl
    try simp only[Act.put,List.setIfInBounds_toArray,List.set_cons_zero]
    refine wpAnyH_done (by kernel_rfl) ?_ _;go_wp2_with fail;go_ret;exact⟨_,rfl,⟨_,_,H17.out,Xjv⟩,G12.out,B17.out⟩
   ·go_simp;refine(Xhu _).mono ?_;rintro e y15 ⟨rfl,hb⟩;have B15:=Hd (B12.out.trans (hb.mono B12.out.size));have H15:=Hd (Xd5 H12.out hb);clear hb;refine hK.out _ _ B15.out ?_;clear hK K;try simp only[nm]
    refine Xea (i:=2) (j:=4) rfl rfl (by kernel_rfl) (by kernel_rfl) (by kernel_rfl) (fun K hK=>?_) (fun K hK=>?_)
    ·refine Xax _ (.tmp 1) (.tmp 2) (.func 76) 125 rfl 62 160 Xbh Tryz.underlying125 fnE m12 0 (DataW.map []) (by go_simp) H15.out (by decide) (.agg (bv k0).toArray) (.func (.func 76) #[] #[]) (KL k0) (by go_simp) (by go_simp) (KL_is Xav.1 Xav.2) (FnD14 76) [] (Xca _) ?_;intro y18 ho hg;have H18:=Hd ho;have B18:=Hd (B15.out.grown hg B15.out.size (fun k hk=>by cases hk;exact G12.out));clear ho hg;refine hK.out _ _ B18.out ?_;clear hK K;try simp only[Act.put]
     refine Rl 4 rfl fun K hK=>?_
     refine Xax _ (.tmp 1) (.tmp 3) (.func 78) 125 rfl 62 160 Xbh Tryz.underlying125 fnE m12 1 ((DataW.map []).put (KL k0) (FnD14 76)) (by go_simp) H18.out (by decide) (.agg (bv k3).toArray) (.func (.func 78) #[] #[]) (KL k3) (by go_simp) (by go_simp) (KL_is Xaw.1 Xaw.2) (FnD14 78) [] (Xca _) ?_;intro y20 ho hg;have H20:=Hd ho;have B20:=Hd (B18.out.grown hg B18.out.size (fun k hk=>by cases hk;exact G12.out));clear ho hg;refine hK.out _ _ B20.out ?_;clear hK K;try simp only[Act.put]
     refine Tk 5 rfl ?_ B20.out ?_ ⟨?_,rfl⟩
     ·intro w hw;(try dsimp only at hw);go_simp;try with_reducible rfl
     try simp only[nm]
     refine Tk 6 rfl ?_ B20.out ?_ ⟨?_,rfl⟩
     ·intro w hw;(try dsimp only at hw);go_simp;try with_reducible rfl
     try simp only[Act.put,List.setIfInBounds_toArray,List.set_cons_zero]
     refine wpAnyH_done (by kernel_rfl) ?_ _;go_wp2_with fail;go_ret;exact⟨_,rfl,⟨_,_,H20.out,Xjv⟩,G12.out,B20.out⟩
    ·refine Xax _ (.tmp 1) (.tmp 3) (.func 78) 125 rfl 62 160 Xbh Tryz.underlying125 fnE m12 0 (DataW.map []) (by go_simp) H15.out (by decide) (.agg (bv k3).toArray) (.func (.func 78) #[] #[]) (KL k3) (by go_simp) (by go_simp) (KL_is Xaw.1 Xaw.2) (FnD14 78) [] (Xca _) ?_;intro y19 ho hg;have H19:=Hd ho;have B19:=Hd (B15.out.grown hg B15.out.size (fun k hk=>by cases hk;exact G12.out));clear ho hg;refine hK.out _ _ B19.out ?_;clear hK K;try simp only[Act.put]
     refine Rl 2 rfl fun K hK=>?_
     refine Xax _ (.tmp 1) (.tmp 2) (.func 76) 125 rfl 62 160 Xbh Tryz.underlying125 fnE m12 1 ((DataW.map []).put (KL k3) (FnD14 78)) (by go_simp) H19.out (by decide) (.agg (bv k0).toArray) (.func (.func 76) #[] #[]) (KL k0) (by go_simp) (by go_simp) (KL_is Xav.1 Xav.2) (FnD14 76) [] (Xca _) ?_;intro y21 ho hg;have H21:=Hd ho;have B21:=Hd (B19.out.grown hg B19.out.size (fun k hk=>by cases hk;exact G12.out));clear ho hg;refine hK.out _ _ B21.out ?_;clear hK K;try simp only[Act.put]
     refine Tk 5 rfl ?_ B21.out ?_ ⟨?_,rfl⟩
     ·intro w hw;(try dsimp only at hw);go_simp;try with_reducible rfl
     try simp only[nm]
     refine Tk 6 rfl ?_ B21.out ?_ ⟨?_,rfl⟩
     ·intro w hw;(try dsimp only at hw);go_simp;try with_reducible rfl
     try simp only[Act.put,List.setIfInBounds_toArray,List.set_cons_zero]
     refine wpAnyH_done (by kernel_rfl) ?_ _;go_wp2_with fail;go_ret;exact⟨_,rfl,⟨_,_,H21.out,Xqc⟩,G12.out,B21.out⟩
  ·go_simp;refine(Xhu _).mono ?_;rintro e y13 ⟨rfl,hb⟩;have B13:=Hd (B2.out.trans (hb.mono B2.out.size));clear hb;refine hK.out _ _ B13.out ?_;clear hK K;try simp only[nm]
   refine Rl 0 rfl fun K hK=>?_
   have hx:=hmm y13;have H22:=Hd (World.ownsMap_made y13 Tryz.prog 62 fnE);have B22:=Hd (B13.out.alloc B13.out.size (.map #[] 0));have G22:Hid (w.heap.size≤y13.heap.size):=Hd B13.out.size;refine Xet 125 rfl hx ?_;clear hx;obtain⟨m22,hm22⟩:∃m,m=y13.heap.size:=⟨_,rfl⟩;rw[←hm22]at H22 G22 ⊢;clear hm22;generalize y13.alloc (.map #[] 0)=y22 at *;refine hK.out _ _ B22.out ?_;clear hK K;try simp only[nm]
   refine Xea (i:=2) (j:=4) rfl rfl (by kernel_rfl) (by kernel_rfl) (by kernel_rfl) (fun K hK=>?_) (fun K hK=>?_)
   ·refine Xax _ (.tmp 1) (.tmp 2) (.func 76) 125 rfl 62 160 Xbh Tryz.underlying125 fnE m22 0 (DataW.map []) (by go_simp) H22.out (by decide) (.agg (bv k0).toArray) (.func (.func 76) #[] #[]) (KL k0) (by go_simp) (by go_simp) (KL_is Xav.1 Xav.2) (FnD14 76) [] (Xca _) ?_;intro y23 ho hg;have H23:=Hd ho;have B23:=Hd (B22.out.grown hg B22.out.size (fun k hk=>by cases hk;exact G22.out));clear ho hg;refine hK.out _ _ B23.out ?_;clear hK K;try simp only[Act.put]
    refine Rl 4 rfl fun K hK=>?_
    refine Xax _ (.tmp 1) (.tmp 3) (.func 78) 125 rfl 62 160 Xbh Tryz.underlying125 fnE m22 1 ((DataW.map []).put (KL k0) (FnD14 76)) (by go_simp) H23.out (by decide) (.agg (bv k3).toArray) (.func (.func 78) #[] #[]) (KL k3) (by go_simp) (by go_simp) (KL_is Xaw.1 Xaw.2) (FnD14 78) [] (Xca _) ?_;intro y25 ho hg;have H25:=Hd ho;have B25:=Hd (B23.out.grown hg B23.out.size (fun k hk=>by cases hk;exact G22.out));clear ho hg;refine hK.out _ _ B25.out ?_;clear hK K;try simp only[Act.put]
    refine Tk 5 rfl ?_ B25.out ?_ ⟨?_,rfl⟩
    ·intro w hw;(try dsimp only at hw);go_simp;try with_reducible rfl
    try simp only[nm]
    refine Tk 6 rfl ?_ B25.out ?_ ⟨?_,rfl⟩
    ·intro w hw;(try dsimp only at hw);go_simp;try with_reducible rfl
    try simp only[Act.put,List.setIfInBounds_toArray,List.set_cons_zero]
    refine wpAnyH_done (by kernel_rfl) ?_ _;go_wp2_with fail;go_ret;exact⟨_,rfl,⟨_,_,H25.out,Xjv⟩,G22.out,B25.out⟩
   ·refine Xax _ (.tmp 1) (.tmp 3) (.func 78) 125 rfl 62 160 Xbh Tryz.underlying125 fnE m22 0 (DataW.map []) (by go_simp) H22.out (by decide) (.agg (bv k3).toArray) (.func (.func 78) #[] #[]) (KL k3) (by go_simp) (by go_simp) (KL_is Xaw.1 Xaw.2) (FnD14 78) [] (Xca _) ?_;intro y24 ho hg;have H24:=Hd ho;have B24:=Hd (B22.out.grown hg B22.out.size (fun k hk=>by cases hk;exact G22.out));clear ho hg;refine hK.out _ _ B24.out ?_;clear hK K;try simp only[Act.put]
    refine Rl 2 rfl fun K hK=>?_
    refine Xax _ (.tmp 1) (.tmp 2) (.func 76) 125 rfl 62 160 Xbh Tryz.underlying125 fnE m22 1 ((DataW.map []).put (KL k3) (FnD14 78)) (by go_simp) H24.out (by decide) (.agg (bv k0).toArray) (.func (.func 76) #[] #[]) (KL k0) (by go_simp) (by go_simp) (KL_is Xav.1 Xav.2) (FnD14 76) [] (Xca _) ?_;intro y26 ho hg;have H26:=Hd ho;have B26:=Hd (B24.out.grown hg B24.out.size (fun k hk=>by cases hk;exact G22.out));clear ho hg;refine hK.out _ _ B26.out ?_;clear hK K;try simp only[Act.put]
    refine Tk 5 rfl ?_ B26.out ?_ ⟨?_,rfl⟩
    ·intro w hw;(try dsimp only at hw);go_simp;try with_reducible rfl
    try simp only[nm]
    refine Tk 6 rfl ?_ B26.out ?_ ⟨?_,rfl⟩
    ·intro w hw;(try dsimp only at hw);go_simp;try with_reducible rfl
    try simp only[Act.put,List.setIfInBounds_toArray,List.set_cons_zero]
    refine wpAnyH_done (by kernel_rfl) ?_ _;go_wp2_with fail;go_ret;exact⟨_,rfl,⟨_,_,H26.out,Xqc⟩,G22.out,B26.out⟩
theorem Xub(v:Value)(q:List Value)(w:World):Calls Tryz.prog 78 #[v,.agg q.toArray] w fun e w'=>e=.returned .nilIface∧Below w.heap.size w w':=by
 go_enter Tryz.func78,Tryz.ntmps78
 go_wp2_with fail;go_ret;exact⟨rfl,(Br w.heap.size w).alloc (Lr _) _⟩
end Go.Proofs.YtaljfbbieefooaaGreatDoor
