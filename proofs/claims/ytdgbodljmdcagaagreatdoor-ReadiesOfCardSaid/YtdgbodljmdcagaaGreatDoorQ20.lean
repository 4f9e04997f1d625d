import Derived.Test.YtdgbodljmdcagaaGreatDoorQ19
set_option maxRecDepth 100000
set_option maxHeartbeats 16000000
set_option linter.unusedSimpArgs false
set_option linter.unusedVariables false
namespace Go.Proofs.YtdgbodljmdcagaaGreatDoor
open Go.RowKit
theorem Xns(A:Option Addr)(n c B:Nat)(zs:List Int)(w:World)(hs:Sees w B A n (bv zs))(hB:B≤w.heap.size)(hnc:n≤c)(hA:A=none→c=0)(hc:c≤maxLen)(hz:AllBytes zs) :
 Calls Tryz.prog 15 #[.slice A n c] w (WireDone w zs):=by
 obtain⟨W,HX,hb0,hr0,hz0⟩:∃W,Hid (∀z,z=tzero.toArray→w.alloc (.cells z 42)=W)∧Below w.heap.size w W∧Row W w.heap.size 42 tzero∧W.heap.size=w.heap.size+1:=by
  refine⟨_,Hd fun z h=>by rw[h],(Br w.heap.size w).alloc (Lr _) _,Row.new w 42 tzero,by simp⟩
 have HW:=Hd (Xrl A n c B zs W (hs.below (hb0.mono hB)) (Lq hB hb0.size) hnc hA hc hz);have HZ:=Hd hz;have B0:=Hd hb0;have R0:=Hd hr0;have Z0:=Hd hz0;clear hs hB hnc hA hc hz hb0 hr0 hz0;go_enter Tryz.func15,Tryz.ntmps15
 go_upto_region 1 with fail
 rw[HX.out];rotate_left
 ·kernel_rfl
 clear HX;go_wp2_with fail;refine HW.out.mono ?_;clear HW;rintro e w1 (⟨x,s,lo,hp,rfl,hlo,hv,hb⟩ | ⟨q,hp,rfl,hb⟩)
 ·have hg:=got11 HZ.out hp;have HR1:=Hd (R0.out.below hb R0.out.lt);have HB1:=Hd (B0.out.trans (hb.mono B0.out.size));have HSZ:=Hd (show(Tryz.prog.info? 42).map (·.size)=some (TRaw.cells s x).length by rw[Xba,Xac hv.in_.m.recent]);have HTL:=Hd (show(TRaw.cells s x).length=40 from Xac hv.in_.m.recent);have HCO:=Hd (Xbm (s:=s) (x:=x));have HV:=Hd hv;have HLO:=Hd hlo;have HP:=Hd hp;have HLT:=Hd HR1.out.lt;have HCK:=Hd (fun(V:World) (h:TxIn V w1.heap.size s x) (hz:w1.heap.size≤V.heap.size)=>Xqc s x w1.heap.size V h hz hg.small hg.wf.m);obtain⟨cs,hcs⟩:∃cs,cs=TRaw.cells s x:=⟨_,rfl⟩;have CS:=Hd hcs;rw[←hcs]at HSZ HTL HCO HCK ⊢;clear hcs hv hlo hp hg hb R0 B0;by_cases hk:chk x=0
  ·go_wp2_with (first
    | ((with_reducible show wpList _ _ _ (⟨none,Op.store 42 (.tmp 4) _,_,_,_,_⟩::_) _ _);go_must(refine Xa1 rfl 42 (.tmp 4) (.tmp 9) rfl cs HSZ.out HCO.out (by rw[HTL.out];rfl) ?_ ?_ ?_;go_simp;go_simp;intro w3 hr3 hb3 hz3;have R3:=Hd hr3;have B3:=Hd hb3;have Z3:=Hd hz3;clear hr3 hb3 hz3))
    | ((with_reducible show wpList _ _ _ (⟨some 15,_,_,_,_,_⟩::_) _ _);go_must(refine Xa0 rfl 42 (.tmp 4) rfl w1.heap.size 42 cs _ Tryz.underlying42 rfl HSZ.out R3.out ?_ ?_;go_simp)))
   refine(HCK.out w3 ((HV.out.in_).below B3.out) B3.out.size).mono ?_;rintro e w4 ⟨rfl,hb4⟩;have R4:=Hd (R3.out.below hb4 R3.out.lt);have HR4:=Hd (HR1.out.below (B3.out.trans (hb4.mono B3.out.size)) HLT.out);have B4:=Hd (B3.out.trans (hb4.mono B3.out.size));rw[hk];clear hb4 R3 HCK;go_wp2_with (first
    | ((with_reducible show wpList _ _ _ (⟨some 21,_,_,_,_,_⟩::_) _ _);go_must(refine Xa0 rfl 42 (.tmp 4) rfl w1.heap.size 42 cs _ Tryz.underlying42 rfl HSZ.out R4.out ?_ ?_;go_simp))
    | ((with_reducible show wpList _ _ _ (⟨none,Op.store 42 (.tmp 2) _,_,_,_,_⟩::_) _ _);go_must(refine Xa4 rfl 42 (.tmp 2) (.tmp 21) rfl w.heap.size tzero cs HR4.out HSZ.out (by rw[HTL.out];rfl) HCO.out ?_ ?_ ?_;go_simp;go_simp;intro w5 hr5 ht5;have R5:=Hd hr5;have T5:=Hd ht5;clear hr5 ht5)))
   refine bodyPost_ret (Xaf (h:=rfl) _ w5 ⟨w.heap.size,0,none⟩ _ _ (by rfl) (by rfl) (run_loadVar_row w5 w.heap.size 42 42 cs.toArray (0,0) _ R5.out.is Tryz.underlying42 rfl (by rw[List.size_toArray];exact HSZ.out))) rfl ?_;refine .inl ⟨x,s,lo,HP.out,hk,by rw[CS.out];rfl,by have:=HLO.out;have:=Z0.out;omega,?_,(HB1.out.trans (B4.out.mono HB1.out.size)).trans (T5.out.below (Lr _))⟩;refine(HV.out.stay (w':=w5) (by rw[T5.out.size];exact B4.out.size) fun k a b=>(T5.out.block k ?_).trans (B4.out.block k b)).more (by rw[T5.out.size];exact B4.out.size);have:=Z0.out;have:=HLO.out;omega
  ·go_wp2_with (first
    | ((with_reducible show wpList _ _ _ (⟨none,Op.store 42 (.tmp 4) _,_,_,_,_⟩::_) _ _);go_must(refine Xa1 rfl 42 (.tmp 4) (.tmp 9) rfl cs HSZ.out HCO.out (by rw[HTL.out];rfl) ?_ ?_ ?_;go_simp;go_simp;intro w3 hr3 hb3 hz3;have R3:=Hd hr3;have B3:=Hd hb3;have Z3:=Hd hz3;clear hr3 hb3 hz3))
    | ((with_reducible show wpList _ _ _ (⟨some 15,_,_,_,_,_⟩::_) _ _);go_must(refine Xa0 rfl 42 (.tmp 4) rfl w1.heap.size 42 cs _ Tryz.underlying42 rfl HSZ.out R3.out ?_ ?_;go_simp)))
   refine(HCK.out w3 ((HV.out.in_).below B3.out) B3.out.size).mono ?_;rintro e w4 ⟨rfl,hb4⟩;have HR4:=Hd (HR1.out.below (B3.out.trans (hb4.mono B3.out.size)) HLT.out);have B4:=Hd (B3.out.trans (hb4.mono B3.out.size));have HWE:Hid (wErr zs=chk x):=Hd (Xeo HP.out);clear hb4 R3 HCK HP;generalize chk x=ce at *;go_wp2_with ((with_reducible show wpList _ _ _ (⟨none,Op.store 42 (.tmp 2) _,_,_,_,_⟩::_) _ _);go_must(refine Xa4 rfl 42 (.tmp 2) (.tmp 19) rfl w.heap.size tzero tzero HR4.out Xan rfl Xap ?_ ?_ ?_;go_simp;(go_simp;try kernel_rfl);intro w5 hr5 ht5;have R5:=Hd hr5;have T5:=Hd ht5;clear hr5 ht5))
   refine bodyPost_ret (Xaf (h:=rfl) _ w5 ⟨w.heap.size,0,none⟩ _ _ (by rfl) (by rfl) (run_loadVar_row w5 w.heap.size 42 42 tzero.toArray (0,0) _ R5.out.is Tryz.underlying42 rfl (by rw[List.size_toArray];exact Xan))) rfl ?_;exact .inr ⟨by rw[HWE.out];exact hk,by rw[HWE.out];rfl,(HB1.out.trans (B4.out.mono HB1.out.size)).trans (T5.out.below (Lr _))⟩
 ·have hq:=Xke HZ.out hp;have HWE:Hid (wErr zs=q):=Hd (Xk9 hp);have HR1:=Hd (R0.out.below hb R0.out.lt);have HB1:=Hd (B0.out.trans (hb.mono B0.out.size));have HLT:=Hd HR1.out.lt;clear hp hb R0 B0;go_wp2_with (first
   | ((with_reducible show wpList _ _ _ (⟨none,Op.store 42 (.tmp 4) _,_,_,_,_⟩::_) _ _);go_must(refine Xa1 rfl 42 (.tmp 4) (.tmp 9) rfl tzero Xan Xap rfl ?_ ?_ ?_;go_simp;go_simp;intro w3 hr3 hb3 hz3;have B3:=Hd hb3;have HR3:=Hd (HR1.out.below hb3 HLT.out);clear hr3 hb3 hz3))
   | ((with_reducible show wpList _ _ _ (⟨none,Op.store 42 (.tmp 2) _,_,_,_,_⟩::_) _ _);go_must(refine Xa4 rfl 42 (.tmp 2) (.tmp 13) rfl w.heap.size tzero tzero HR3.out Xan rfl Xap ?_ ?_ ?_;go_simp;(go_simp;try kernel_rfl);intro w5 hr5 ht5;have R5:=Hd hr5;have T5:=Hd ht5;clear hr5 ht5)))
  refine bodyPost_ret (Xaf (h:=rfl) _ w5 ⟨w.heap.size,0,none⟩ _ _ (by rfl) (by rfl) (run_loadVar_row w5 w.heap.size 42 42 tzero.toArray (0,0) _ R5.out.is Tryz.underlying42 rfl (by rw[List.size_toArray];exact Xan))) rfl ?_;exact .inr ⟨by rw[HWE.out];exact hq,by rw[HWE.out];rfl,(HB1.out.trans (B3.out.mono HB1.out.size)).trans (T5.out.below (Lr _))⟩
theorem Xgw{w:World}{base size n c g:Nat}{e:TypeId}{xs:List Value}(h:w.ownsRow base e size (.slice (some ⟨g,0,none⟩) n c) n xs)(i:Nat)(u:Value):(w.setCell ⟨g,i,none⟩ u).ownsRow base e size (.slice (some ⟨g,0,none⟩) n c) n (xs.set i u):=by
 refine⟨by rw[List.length_set];exact h.1,?_⟩;rcases h.2 with⟨hv,_⟩ | ⟨g',cap,cur,hv,hg,hh,h1,h2,h3,h4⟩
 ·cases hv
 ·cases hv
  have hr:Row w g e cur.toList:=⟨by simpa using hh⟩;have hr2:=(hr.set_ i u).is;refine .inr ⟨g,c,(cur.toList.set i u).toArray,rfl,hg,hr2,h1,h2,by simp[h3],?_⟩;simp only[List.take_set];rw[←h4]
theorem Xe6{w:World}{base size n c g:Nat}{e:TypeId}{xs:List Value}(h:w.ownsRow base e size (.slice (some ⟨g,0,none⟩) n c) n xs){i:Nat}{u:Value}(hi:xs[i]?=some u):w.cell? ⟨g,i,none⟩=some u∧w.frozen? ⟨g,i,none⟩=false:=by
 have h2:=h.cells (g:=g) rfl i u hi;rcases h.2 with⟨hv,_⟩ | ⟨g',cap,cur,hv,hg,hh,_⟩
 ·cases hv
 ·cases hv
  have hr:Row w g e cur.toList:=⟨by simpa using hh⟩;refine⟨?_,hr.frozen i⟩;rw[Xa5,Nat.zero_add]at h2;exact h2
theorem Xsa{w:World}{base size n c:Nat}{A:Option Addr}{e:TypeId}{xs:List Value}(h:w.ownsRow base e size (.slice A n c) n xs)(hn:1≤n):∃g,A=some ⟨g,0,none⟩∧base≤g∧g<w.heap.size:=by
 rcases h.2 with⟨_,h0⟩ | ⟨g,cap,cur,hv,hg,hh,_⟩
 ·omega
 ·injection hv with h1
  exact⟨g,h1,hg,(Array.getElem?_eq_some_iff.1 hh).1⟩
def ownU(m:LMsg)(j:Nat):List LRole:=(List.range j).map fun i=>⟨m.keys.getD i [],decide ((i:Int)<m.s),decide ((i:Int)<below7 m i)⟩
def wU(k:List Int):LRole:=⟨k,false,true⟩
def rolesU(m:LMsg)(wl rl:List (List Int)):List LRole:=ownU m m.keys.length++(wl.map wU++rl.map rRole)
def st7(r:LRole):LRole:=⟨r.key,r.sg,r.wr&&!kn r.key⟩
theorem Xqw(m:LMsg)(k:Nat):ownU m (k+1)=ownU m k++[⟨m.keys.getD k [],decide ((k:Int)<m.s),decide ((k:Int)<below7 m k)⟩]:=by
 unfold ownU;rw[List.range_succ,List.map_append];rfl
theorem Xkt(m:LMsg)(wl rl:List (List Int)):(rolesU m wl rl).map st7=rolesL m wl rl:=by
 unfold rolesU rolesL ownU ownRoles;rw[List.map_append,List.map_append,List.map_map,List.map_map,List.map_map];have h1:(st7∘wU)=wRole:=funext fun k=>by simp[st7,wU,wRole]
 have h2:(st7∘rRole)=rRole:=funext fun k=>by simp[st7,rRole]
 rw[h1,h2];rfl
theorem Xpt(m:LMsg)(wl rl:List (List Int)):(rolesU m wl rl).length=m.keys.length+wl.length+rl.length:=by
 have:=congrArg List.length (Xkt m wl rl);rw[List.length_map,Xgh]at this;exact this
theorem Xhm(m:LMsg)(wl rl:List (List Int)):(rolesU m wl rl).map LRole.key=m.keys++(wl++rl):=by
 unfold rolesU ownU;rw[List.map_append,List.map_append,List.map_map,List.map_map,List.map_map];have h1:(LRole.key∘wU)=id:=rfl;have h2:(LRole.key∘rRole)=id:=rfl;rw[h1,h2,List.map_id,List.map_id];congr 1
 refine List.ext_getElem? fun i=>?_
 rw[List.getElem?_map];rcases Nat.lt_or_ge i m.keys.length with h | h
 ·rw[List.getElem?_range h,List.getElem?_eq_getElem h];show some (m.keys.getD i [])=_
  rw[List.getD_eq_getElem?_getD,List.getElem?_eq_getElem h];rfl
 ·rw[List.getElem?_eq_none (by simpa using h),List.getElem?_eq_none h];rfl
theorem Xrg{m:LMsg}{wl rl:List (List Int)}(hm:∀k ∈ m.keys,KeyOk7 k)(hw:∀k ∈ wl,KeyOk7 k)(hr:∀k ∈ rl,KeyOk7 k):∀r ∈ rolesU m wl rl,RoleOk r:=fun r h=>by
 have h1:r.key ∈ (rolesU m wl rl).map LRole.key:=List.mem_map.2 ⟨r,h,rfl⟩;rw[Xhm]at h1;rcases List.mem_append.1 h1 with h1 | h1
 ·exact hm _ h1
 ·rcases List.mem_append.1 h1 with h1 | h1
  ·exact hw _ h1
  ·exact hr _ h1
def mixU(l:List LRole)(k:Nat):List LRole:=(l.take k).map st7++l.drop k
theorem Xpy(l:List LRole):mixU l 0=l:=by simp[mixU]
theorem Xui{l:List LRole}{n:Nat}(h:l.length=n):mixU l n=l.map st7:=by
 unfold mixU;rw[List.take_of_length_le (by omega),List.drop_of_length_le (by omega),List.append_nil]
theorem Xvo{r:LRole}(h:RoleOk r):RoleOk (st7 r):=h
theorem Xtr{l:List LRole}{k i:Nat}{r:LRole}(h:l[i]?=some r):∃r',(mixU l k)[i]?=some r'∧r'.key=r.key∧(k≤i→r'=r):=by
 have hi:=(List.getElem?_eq_some_iff.1 h).1;unfold mixU;rcases Nat.lt_or_ge i k with hik | hik
 ·refine⟨st7 r,?_,rfl,fun h=>by omega⟩;rw[List.getElem?_append_left (by rw[List.length_map,List.length_take];omega),List.getElem?_map,List.getElem?_take_of_lt hik,h];rfl
 ·refine⟨r,?_,rfl,fun _=>rfl⟩;have hl:((l.take k).map st7).length=k:=by rw[List.length_map,List.length_take];omega
  rw[List.getElem?_append_right (by omega),hl,List.getElem?_drop,show k+(i - k)=i by omega];exact h
theorem Xw1{l:List LRole}(h:∀r ∈ l,RoleOk r)(k:Nat):∀r ∈ mixU l k,RoleOk r:=fun r hr=>by
 unfold mixU at hr;rcases List.mem_append.1 hr with hr | hr
 ·obtain⟨r',hr',rfl⟩:=List.mem_map.1 hr;exact Xvo (h r' (List.mem_of_mem_take hr'))
 ·exact h r (List.mem_of_mem_drop hr)
theorem Xnt{l:List LRole}(hok:∀r ∈ l,RoleOk r){k i:Nat}{r:LRole}(h:l[i]?=some r)(j:Nat)(u:Value)(hu:(bv r.key)[j]?=some u):(cellsR (mixU l k))[i*34+j]?=some u:=by
 obtain⟨r',h1,h2,_⟩:=Xtr (k:=k) h;refine Xbh 34 ((mixU l k).map LRole.cells) i r'.cells (fun t y hy=>?_) (by rw[List.getElem?_map,h1];rfl) j u (Xju (by rw[h2];exact hu));rw[List.getElem?_map]at hy;obtain⟨z,hz,rfl⟩:=Option.map_eq_some_iff.1 hy;exact Xc3 (Xw1 hok k z (List.mem_of_getElem? hz)).1
theorem Xhu{l:List LRole}{k:Nat}{r:LRole}(ho:∀r ∈ l,RoleOk r)(hr:l[k]?=some r) :
 (cellsR (mixU l k)).set (k*34+33) (.bool (r.wr&&!kn r.key))=cellsR (mixU l (k+1))∧(cellsR (mixU l k))[k*34+33]?=some (.bool r.wr):=by
 have hk:=(List.getElem?_eq_some_iff.1 hr).1;have hro:=ho r (List.mem_of_getElem? hr);have e1:mixU l k=(l.take k).map st7++(r::l.drop (k+1)):=by
  unfold mixU;rw[List.drop_eq_getElem_cons hk,(List.getElem?_eq_some_iff.1 hr).2]
 have e2:mixU l (k+1)=(l.take k).map st7++(st7 r::l.drop (k+1)):=by
  unfold mixU;rw[List.take_add_one,hr,List.map_append,List.append_assoc];rfl
 have hl:(((l.take k).map st7).map LRole.cells).flatten.length=k*34:=by
  rw[Xm7 (sz:=34) (fun y hy=>?_),List.length_map,List.length_map,List.length_take,Nat.min_eq_left (by omega)];obtain⟨z,hz,rfl⟩:=List.mem_map.1 hy;obtain⟨z',hz',rfl⟩:=List.mem_map.1 hz;exact Xc3 (Xvo (ho z' (List.mem_of_mem_take hz'))).1
 have hrc:r.cells=(bv r.key++[Value.bool r.sg])++[Value.bool r.wr]:=by simp[LRole.cells]
 have hcc:(st7 r).cells=(bv r.key++[Value.bool r.sg])++[Value.bool (r.wr&&!kn r.key)]:=by simp[LRole.cells,st7]
 have hl2:(bv r.key++[Value.bool r.sg]).length=33:=by simp[bL,hro.1]
 unfold cellsR;rw[e1,e2];simp only[List.map_append,List.map_cons,List.flatten_append,List.flatten_cons];constructor
 ·rw[List.set_append_right _ _ (by omega),hl,show k*34+33 - k*34=33 by omega,hrc,hcc,List.append_assoc (bv r.key++[Value.bool r.sg]),List.set_append_right _ _ (by omega),hl2,Nat.sub_self,List.append_assoc (bv r.key++[Value.bool r.sg])];rfl
 ·rw[List.getElem?_append_right (by omega),hl,show k*34+33 - k*34=33 by omega,hrc,List.append_assoc (bv r.key++[Value.bool r.sg]),List.getElem?_append_right (by omega),hl2,Nat.sub_self];rfl
theorem Xrk{l:List LRole}{k:Nat}{r:LRole}(ho:∀r ∈ l,RoleOk r)(hr:l[k]?=some r)(hn:kn r.key=false):cellsR (mixU l (k+1))=cellsR (mixU l k):=by
 obtain⟨h1,h2⟩:=Xhu ho hr;rw[←h1,hn];have e:(r.wr&&!false)=r.wr:=by simp
 rw[e];have hlt:=(List.getElem?_eq_some_iff.1 h2).1;have:=(List.getElem?_eq_some_iff.1 h2).2;rw[←this,List.set_getElem_self hlt]
theorem Xhx{l:List LRole}{k:Nat}{r:LRole}(ho:∀r ∈ l,RoleOk r)(hr:l[k]?=some r)(hn:kn r.key=true):(cellsR (mixU l k)).set (k*34+33) (.bool false)=cellsR (mixU l (k+1)):=by
 obtain⟨h1,h2⟩:=Xhu ho hr;rw[hn]at h1;simpa using h1
theorem Xcn{X:List Value}(hX:X.length=32)(a b:Value):(X++[a,b])[32]?=some a∧(X++[a,b])[33]?=some b∧∀v,(X++[a,b]).set 33 v=X++[a,v]:=by
 refine⟨?_,?_,fun v=>?_⟩
 ·rw[List.getElem?_append_right (by omega),hX];rfl
 ·rw[List.getElem?_append_right (by omega),hX];rfl
 ·rw[List.set_append_right _ _ (by omega),hX];rfl
theorem Xpw{α:Type}{l:List α}{k:Nat}{x:α}(h:l[k]?=some x)(hd:l.Nodup):x ∉ l.take k:=((Xbx h).1 ((List.take_sublist _ _).nodup hd)).2
def RefOf7Done(w:World)(m:LMsg)(wl rl:List (List Int))(e:Ending)(w':World):Prop:=
 Below w.heap.size w w'∧if (m.keys++(wl++rl)).Nodup then ∃A c,e=.returned (.tuple #[.slice A (rolesL m wl rl).length c,.int .i64 0])∧w'.ownsRow w.heap.size 101 34 (.slice A (rolesL m wl rl).length c) (rolesL m wl rl).length (cellsR (rolesL m wl rl))
  else e=.returned (.tuple #[.slice none 0 0,.int .i64 9])
theorem Xgg(w:World):Calls Tryz.prog 86 #[] w fun e w'=>e=.returned (.agg (bv k0).toArray)∧Below w.heap.size w w':=by
 go_enter Tryz.func86,Tryz.ntmps86
 go_wp2_with (first
  | ((with_reducible show wpList _ _ _ (⟨some 1,_,_,_,_,_⟩::_) _ _);go_must(refine wpList_plain rfl fun K hK=>Xav _ _ _ rfl (by simp only[List.map_toArray,List.map_nil];exact Xn1) (hK _ _ ?_)))
  | ((with_reducible show wpList _ _ _ (⟨none,Op.store 78 _ _,_,_,_,_⟩::_) _ _);go_must(refine Xa1 rfl 78 (.tmp 0) (.tmp 1) rfl (bv k0) Xab (Xae _) rfl ?_ ?_ ?_;go_simp;go_simp;intro w1 hr1 hb1 hz1;have HR1:=Hd hr1;have HB1:=Hd hb1;clear hr1 hb1)))
 refine bodyPost_ret (results_cell_row (h:=rfl) _ w1 w.heap.size 78 _ (0,0) _ (by rfl) HR1.out.is Tryz.underlying78 rfl Xab) rfl ?_;exact⟨rfl,HB1.out⟩
theorem Xiu(w:World):Calls Tryz.prog 87 #[] w fun e w'=>e=.returned (.agg (bv k3).toArray)∧Below w.heap.size w w':=by
 go_enter Tryz.func87,Tryz.ntmps87
 go_wp2_with (first
  | ((with_reducible show wpList _ _ _ (⟨some 1,_,_,_,_,_⟩::_) _ _);go_must(refine wpList_plain rfl fun K hK=>Xav _ _ _ rfl (by simp only[List.map_toArray,List.map_cons,List.map_nil];exact Xkf) (hK _ _ ?_)))
  | ((with_reducible show wpList _ _ _ (⟨none,Op.store 78 _ _,_,_,_,_⟩::_) _ _);go_must(refine Xa1 rfl 78 (.tmp 0) (.tmp 1) rfl (bv k3) Xab (Xae _) rfl ?_ ?_ ?_;go_simp;go_simp;intro w1 hr1 hb1 hz1;have HR1:=Hd hr1;have HB1:=Hd hb1;clear hr1 hb1)))
 refine bodyPost_ret (results_cell_row (h:=rfl) _ w1 w.heap.size 78 _ (0,0) _ (by rfl) HR1.out.is Tryz.underlying78 rfl Xab) rfl ?_;exact⟨rfl,HB1.out⟩
theorem refOf7(q:Raw)(m:LMsg)(x y:KL7)(B:Nat)(w:World)(hk:KeysIn w B q.KA q.kn m.keys)(hko:∀k ∈ m.keys,KeyOk7 k)(hre:m.recent.length=32)(hB:B≤w.heap.size)(hs:IsByte m.s)(hr:IsByte m.r)(ho:IsByte m.o)(hn:q.kn≤4000)(hx:x.In w B)(hy:y.In w B) :
 Calls Tryz.prog 45 #[.agg (q.cells m).toArray,x.val,y.val] w (RefOf7Done w m x.l y.l):=by
 have hlen:=hk.len;have hxl:=hx.keys.len;have hyl:=hy.keys.len;have hxm:=hx.most;have hym:=hy.most;have rm:=Row.new w 40 (q.cells m);have hb0:Below w.heap.size w (w.alloc (.cells (q.cells m).toArray 40)):=(Br w.heap.size w).alloc (Lr _) _;have hc1:=rm.cell 1;have hc2:=rm.cell 2;have hc3:=rm.cell 3;have hc4:=rm.cell 4;rw[Xjr]at hc1;rw[Xjm]at hc2;rw[Xka]at hc3;rw[Xjx]at hc4;have HUO:=Hd (Xrg hko hx.ok hy.ok);have HUK:=Hd (Xhm m x.l y.l);have HUS:=Hd (Xkt m x.l y.l);have HUN:Hid ((rolesU m x.l y.l).length=q.kn+x.n+y.n):=Hd (by rw[Xpt,hlen,hxl,hyl]);have HUD:Hid (rolesU m x.l y.l=ownU m q.kn++(x.l.map wU++y.l.map rRole)):=Hd (by unfold rolesU;rw[hlen]);have HSS:=Hd (Xqw m);have HBL:Hid (∀i:Nat,below7 m i=if (i:Int)<m.s then m.s - m.r else(q.kn:Int) - m.o):=Hd fun i=>by unfold below7;rw[hlen]
 have HK:=Hd (hk.below (hb0.mono hB));have HKO:=Hd hko;have HX:=Hd (hx.below (hb0.mono hB));have HY:=Hd (hy.below (hb0.mono hB));have HBW:=Hd hB;have B0:=Hd hb0;have RM:=Hd rm;have C1:=Hd hc1;have C2:=Hd hc2;have C3:=Hd hc3;have C4:=Hd hc4;obtain⟨s0,s1⟩:0≤m.s∧m.s<256:=hs;obtain⟨t0,t1⟩:0≤m.r∧m.r<256:=hr;obtain⟨o0,o1⟩:0≤m.o∧m.o<256:=ho;have ws:IntKind.i64.wrap m.s=m.s:=IntWalk.i64_in _ (by omega);have wrr:IntKind.i64.wrap m.r=m.r:=IntWalk.i64_in _ (by omega);have wo:IntKind.i64.wrap m.o=m.o:=IntWalk.i64_in _ (by omega);have HXL:=Hd hxl;have HYL:=Hd hyl;clear hk hko hre hx hy rm hb0 hc1 hc2 hc3 hc4 hlen hB hxl hyl;generalize (q.cells m).toArray=MC at *;obtain⟨KA,n,kc,IA,ni,ic,LA,ln,lc⟩:=q;obtain⟨xA,xn,xc,xl⟩:=x;obtain⟨yA,yn,yc,yl⟩:=y;dsimp only[KL7.val]at *
 generalize hms:m.s=s at *;generalize hmr:m.r=r at *;generalize hmo:m.o=o at *;have HMS:=Hd hms;clear hms hmr hmo;generalize hU:rolesU m xl yl=U at *;obtain⟨W,hW⟩:∃W,W=w.alloc (.cells MC 40):=⟨_,rfl⟩;rw[←hW]at HK HX HY B0 C1 C2 C3 C4;have HLT:Hid (w.heap.size<W.heap.size):=Hd (by rw[hW];simp);have HWB:Hid (∀V,Below W.heap.size W V→Below w.heap.size w V):=Hd fun V h=>B0.out.trans (h.mono B0.out.size)
 have c1:W.cell? ⟨w.heap.size,1,none⟩=some (.int .u8 s):=C1.out;have c4:W.cell? ⟨w.heap.size,4,none⟩=some (.slice KA n kc):=C4.out;have HW:=Hd hW;clear hW hU RM;go_enter Tryz.func45,Tryz.ntmps45
 go_upto_region 1 with fail
 rw[←HW.out];go_wp2_with fail;clear c1 c4;go_loopw [10,8] (fun i v wr=>∃k:Nat,k≤n∧i=.int .i64 k∧wr.ownsRow W.heap.size 101 34 v k (cellsR (ownU m k))∧Below W.heap.size W wr) (fun i _ _=>n - (intOf i).toNat)
 case atStart=>exact⟨0,Nat.zero_le _,rfl,by simpa [ownU,cellsR]using World.ownsRow_nil _ _ _ _,Br _ _⟩
 case round =>
 obtain⟨k,hkn,rfl,ho,hb⟩:=hrel;have HO:=Hd ho;have HB:=Hd hb;clear ho hb;have c1:wr.cell? ⟨w.heap.size,1,none⟩=some (.int .u8 s):=(HB.out.cell (p:=⟨w.heap.size,1,none⟩) HLT.out).trans C1.out;have c4:wr.cell? ⟨w.heap.size,4,none⟩=some (.slice KA n kc):=(HB.out.cell (p:=⟨w.heap.size,4,none⟩) HLT.out).trans C4.out;by_cases hlt:k<n
 ·obtain⟨a,z,hKA,hab,hz,hat⟩:=(HK.out.below (HB.out.mono (Lq HBW.out B0.out.size))).get hlt;subst hKA;have HU1:=Hd (show cellsR (ownU m (k+1))=cellsR (ownU m k)++(bv z++[Value.bool (decide ((k:Int)<s)),.bool (decide ((k:Int)<below7 m k))]) by
   rw[HSS.out,Xct,show m.keys.getD k []=z by rw[List.getD_eq_getElem?_getD,hz];rfl];rfl)
  have HBK:=Hd (HBL.out k);have HSZ:=Hd (show(Tryz.prog.info? 78).map (·.size)=some (bv z).length by rw[bL,hat.len];exact Xab);have HXN:=Hd (show(bv z).length=32 by rw[bL,hat.len]);have HCE:=Hd hat.cells;have HSR:Hid (∀x y,(Tryz.prog.info? 101).map (·.size)=some (bv z++[Value.bool x,.bool y]).length):=Hd fun x y=>Xfp (r:=⟨z,x,y⟩) hat.len
  have HSL:Hid (∀x y,(bv z++[Value.bool x,.bool y]).length=34):=Hd fun x y=>Xc3 (r:=⟨z,x,y⟩) hat.len
  have HSO:Hid (∀x y,∀u ∈ bv z++[Value.bool x,.bool y],u.oneCell'=true):=Hd fun x y=>Xd3 ⟨z,x,y⟩
  have C2R:=Hd ((HB.out.cell (p:=⟨w.heap.size,2,none⟩) HLT.out).trans C2.out);have C3R:=Hd ((HB.out.cell (p:=⟨w.heap.size,3,none⟩) HLT.out).trans C3.out);have C4R:=Hd c4;have HLR:Hid (w.heap.size<wr.heap.size):=Hd (Nat.lt_of_lt_of_le HLT.out HB.out.size);clear hz hat;generalize bv z=X at *;have n0:(0:Int)≤(k:Int):=Int.natCast_nonneg _;have e1:IntKind.i64.wrap (s - r)=s - r:=IntWalk.i64_in _ (by omega);have e2:IntKind.i64.wrap ((n:Int) - o)=(n:Int) - o:=IntWalk.i64_in _ (by omega);by_cases hsg:(k:Int)<s
  ·obtain⟨bw,hbw⟩:∃bw,bw=decide ((k:Int)<s - r):=⟨_,rfl⟩;have HBW2:Hid (decide ((k:Int)<s - r)=bw):=Hd hbw.symm;clear hbw;have HQ:Hid (cellsR (ownU m (k+1))=cellsR (ownU m k)++(X++[Value.bool true,.bool bw])):=Hd (by
    rw[HU1.out,HBK.out,decide_eq_true hsg,if_pos hsg,HBW2.out])
   clear HU1 HBK;go_upto_region 10 with(first
    | ((with_reducible show wpList _ _ _ (⟨some 31,_,_,_,_,_⟩::_) _ _);go_must(refine Xa3 rfl 78 (.tmp 30) rfl (a.add (k*32)) X _ Tryz.underlying78 rfl HSZ.out HCE.out ?_ ?_;go_simp))
    | ((with_reducible show wpList _ _ _ (⟨some 35,_,_,_,_,_⟩::_) _ _);go_must(refine wpList_plain rfl fun K hK=>Xav _ _ _ rfl (by simp only[List.map_toArray,List.map_cons,List.map_nil];exact Xhg HXN.out _) (hK _ _ ?_)))
    | ((with_reducible show wpList _ _ _ (⟨none,Op.store 101 _ _,_,_,_,_⟩::_) _ _);go_must(refine Xa1 rfl 101 (.tmp 11) (.tmp 35) rfl (X++[Value.bool true,.bool false]) (HSR.out _ _) (HSO.out _ _) (by rw[HSL.out];rfl) ?_ ?_ ?_;go_simp;go_simp;intro w2 hr2 hb2 hz2;have R2:=Hd hr2;have B2:=Hd hb2;have Z2:=Hd hz2;have c32:w2.cell? ⟨wr.heap.size,32,none⟩=some (.bool true):=(hr2.cell 32).trans (Xcn HXN.out _ _).1;have c33:w2.cell? ⟨wr.heap.size,33,none⟩=some (.bool false):=(hr2.cell 33).trans (Xcn HXN.out _ _).2.1;have f33:w2.frozen? ⟨wr.heap.size,33,none⟩=false:=hr2.frozen 33;have d2:w2.cell? ⟨w.heap.size,2,none⟩=some (.int .u8 r):=(hb2.cell (p:=⟨w.heap.size,2,none⟩) HLR.out).trans C2R.out;have d3:w2.cell? ⟨w.heap.size,3,none⟩=some (.int .u8 o):=(hb2.cell (p:=⟨w.heap.size,3,none⟩) HLR.out).trans C3R.out;have d4:w2.cell? ⟨w.heap.size,4,none⟩=some (.slice (some a) n kc):=(hb2.cell (p:=⟨w.heap.size,4,none⟩) HLR.out).trans C4R.out;clear hr2 hb2 hz2)))
   have r3:=R2.out.set_ 33 (.bool bw);rw[(Xcn HXN.out _ _).2.2]at r3;have ht3:=Xa2 w2 ⟨wr.heap.size,33,none⟩ (.bool bw);have e3:w2.setCell ⟨wr.heap.size,33,none⟩ (.bool (decide ((k:Int)<s - r)))=w2.setCell ⟨wr.heap.size,33,none⟩ (.bool bw):=by rw[HBW2.out]
   first | rw[e3] | skip
   clear c32 c33 f33 d2 d3 d4 e3 c1 c4;generalize w2.setCell ⟨wr.heap.size,33,none⟩ (.bool bw)=w3 at *;have R3:=Hd r3;have B3:=Hd (B2.out.trans (ht3.below (Lr _)));clear r3 ht3 R2 B2;have O3:=Hd (Xal HO.out B3.out);have BB3:=Hd (HB.out.trans (B3.out.mono HB.out.size));go_wp2_with (first
    | ((with_reducible show wpList _ _ _ (⟨some 59,_,_,_,_,_⟩::_) _ _);go_must(refine Xa0 rfl 101 (.tmp 11) rfl wr.heap.size 101 (X++[Value.bool true,.bool bw]) _ Tryz.underlying101 rfl (HSR.out _ _) R3.out ?_ ?_;go_simp))
    | ((with_reducible show wpList _ _ _ (⟨some 60,_,_,_,_,_⟩::_) _ _);go_must(refine Xaa rfl 43 101 (.tmp 59) rfl (X++[Value.bool true,.bool bw]) _ 34 34 Tryz.underlying43 infoR zszR (by omega) (by omega) (HSL.out _ _) ?_ ?_;go_simp))
    | (at_builtin;go_must(refine Xag rfl (.tmp 58) (.tmp 60) 43 rfl W.heap.size 101 _ 34 34 Tryz.underlying43 infoR zszR (by omega) _ k (cellsR (ownU m k)) (X++[Value.bool true,.bool bw]) 1 (HSL.out _ _) (HSO.out _ _) rfl ?_ O3.out ?_ BB3.out.size (by unfold maxLen;omega) (by omega) ?_;go_simp;go_simp;intro v4 w4 ho4 hg4;have O4:=Hd ho4;have G4:=Hd hg4;clear ho4 hg4)))
   go_roundw
   case rel=>exact⟨k+1,by omega,by go_num,by rw[HQ.out];exact O4.out,BB3.out.grown G4.out.grown BB3.out.size fun j hj=>(O3.out.lt j hj).1⟩
   case measure=>simp[intOf];omega
  ·obtain⟨bw,hbw⟩:∃bw,bw=decide ((k:Int)<(n:Int) - o):=⟨_,rfl⟩;have HBW2:Hid (decide ((k:Int)<(n:Int) - o)=bw):=Hd hbw.symm;clear hbw;have HQ:Hid (cellsR (ownU m (k+1))=cellsR (ownU m k)++(X++[Value.bool false,.bool bw])):=Hd (by
    rw[HU1.out,HBK.out,decide_eq_false hsg,if_neg hsg,HBW2.out])
   clear HU1 HBK;go_upto_region 10 with(first
    | ((with_reducible show wpList _ _ _ (⟨some 31,_,_,_,_,_⟩::_) _ _);go_must(refine Xa3 rfl 78 (.tmp 30) rfl (a.add (k*32)) X _ Tryz.underlying78 rfl HSZ.out HCE.out ?_ ?_;go_simp))
    | ((with_reducible show wpList _ _ _ (⟨some 35,_,_,_,_,_⟩::_) _ _);go_must(refine wpList_plain rfl fun K hK=>Xav _ _ _ rfl (by simp only[List.map_toArray,List.map_cons,List.map_nil];exact Xhg HXN.out _) (hK _ _ ?_)))
    | ((with_reducible show wpList _ _ _ (⟨none,Op.store 101 _ _,_,_,_,_⟩::_) _ _);go_must(refine Xa1 rfl 101 (.tmp 11) (.tmp 35) rfl (X++[Value.bool false,.bool false]) (HSR.out _ _) (HSO.out _ _) (by rw[HSL.out];rfl) ?_ ?_ ?_;go_simp;go_simp;intro w2 hr2 hb2 hz2;have R2:=Hd hr2;have B2:=Hd hb2;have Z2:=Hd hz2;have c32:w2.cell? ⟨wr.heap.size,32,none⟩=some (.bool false):=(hr2.cell 32).trans (Xcn HXN.out _ _).1;have c33:w2.cell? ⟨wr.heap.size,33,none⟩=some (.bool false):=(hr2.cell 33).trans (Xcn HXN.out _ _).2.1;have f33:w2.frozen? ⟨wr.heap.size,33,none⟩=false:=hr2.frozen 33;have d2:w2.cell? ⟨w.heap.size,2,none⟩=some (.int .u8 r):=(hb2.cell (p:=⟨w.heap.size,2,none⟩) HLR.out).trans C2R.out;have d3:w2.cell? ⟨w.heap.size,3,none⟩=some (.int .u8 o):=(hb2.cell (p:=⟨w.heap.size,3,none⟩) HLR.out).trans C3R.out;have d4:w2.cell? ⟨w.heap.size,4,none⟩=some (.slice (some a) n kc):=(hb2.cell (p:=⟨w.heap.size,4,none⟩) HLR.out).trans C4R.out;clear hr2 hb2 hz2)))
   have r3:=R2.out.set_ 33 (.bool bw);rw[(Xcn HXN.out _ _).2.2]at r3;have ht3:=Xa2 w2 ⟨wr.heap.size,33,none⟩ (.bool bw);have e3:w2.setCell ⟨wr.heap.size,33,none⟩ (.bool (decide ((k:Int)<(n:Int) - o)))=w2.setCell ⟨wr.heap.size,33,none⟩ (.bool bw):=by rw[HBW2.out]
   first | rw[e3] | skip
   clear c32 c33 f33 d2 d3 d4 e3 c1 c4;generalize w2.setCell ⟨wr.heap.size,33,none⟩ (.bool bw)=w3 at *;have R3:=Hd r3;have B3:=Hd (B2.out.trans (ht3.below (Lr _)));clear r3 ht3 R2 B2;have O3:=Hd (Xal HO.out B3.out);have BB3:=Hd (HB.out.trans (B3.out.mono HB.out.size));go_wp2_with (first
    | ((with_reducible show wpList _ _ _ (⟨some 59,_,_,_,_,_⟩::_) _ _);go_must(refine Xa0 rfl 101 (.tmp 11) rfl wr.heap.size 101 (X++[Value.bool false,.bool bw]) _ Tryz.underlying101 rfl (HSR.out _ _) R3.out ?_ ?_;go_simp))
    | ((with_reducible show wpList _ _ _ (⟨some 60,_,_,_,_,_⟩::_) _ _);go_must(refine Xaa rfl 43 101 (.tmp 59) rfl (X++[Value.bool false,.bool bw]) _ 34 34 Tryz.underlying43 infoR zszR (by omega) (by omega) (HSL.out _ _) ?_ ?_;go_simp))
    | (at_builtin;go_must(refine Xag rfl (.tmp 58) (.tmp 60) 43 rfl W.heap.size 101 _ 34 34 Tryz.underlying43 infoR zszR (by omega) _ k (cellsR (ownU m k)) (X++[Value.bool false,.bool bw]) 1 (HSL.out _ _) (HSO.out _ _) rfl ?_ O3.out ?_ BB3.out.size (by unfold maxLen;omega) (by omega) ?_;go_simp;go_simp;intro v4 w4 ho4 hg4;have O4:=Hd ho4;have G4:=Hd hg4;clear ho4 hg4)))
   go_roundw
   case rel=>exact⟨k+1,by omega,by go_num,by rw[HQ.out];exact O4.out,BB3.out.grown G4.out.grown BB3.out.size fun j hj=>(O3.out.lt j hj).1⟩
   case measure=>simp[intOf];omega
 obtain rfl:k=n:=by omega
 go_wp2_with fail;obtain⟨wm,hwm⟩:∃u:World,u=wr:=⟨_,rfl⟩;subst hwm;clear c1 c4;go_loopw [12,8] (fun i v wr=>∃j:Nat,j≤xn∧i=.int .i64 j∧wr.ownsRow W.heap.size 101 34 v (k+j) (cellsR (ownU m k++(xl.take j).map wU))∧Below W.heap.size W wr) (fun i _ _=>xn - (intOf i).toNat)
 case atStart=>exact⟨0,Nat.zero_le _,rfl,by simpa using HO.out,HB.out⟩
 case round =>
 clear HO HB;obtain⟨j,hj,rfl,ho,hb⟩:=hrel;have HO:=Hd ho;have HB:=Hd hb;clear ho hb;by_cases hlt2:j<xn
 ·obtain⟨a,z,hA,hab,hz,hat⟩:=(HX.out.keys.below (HB.out.mono (Lq HBW.out B0.out.size))).get hlt2;subst hA;have HSZ:=Hd (show(Tryz.prog.info? 78).map (·.size)=some (bv z).length by rw[bL,hat.len];exact Xab);have HXN:=Hd (show(bv z).length=32 by rw[bL,hat.len]);have HCE:=Hd hat.cells;have HSU:Hid (cellsR (ownU m k++(xl.take (j+1)).map wU)=cellsR (ownU m k++(xl.take j).map wU)++(bv z++[Value.bool false,.bool true])):=Hd (by rw[Xd6 wU hz,←List.append_assoc,Xct];rfl);have HRL:Hid ((bv z++[Value.bool false,.bool true]).length=34∧∀u ∈ bv z++[Value.bool false,.bool true],u.oneCell'=true):=Hd ⟨Xc3 (r:=⟨z,false,true⟩) hat.len,Xd3 ⟨z,false,true⟩⟩;clear hat hz;generalize bv z=X at *;go_wp2_with (first
   | ((with_reducible show wpList _ _ _ (⟨some 72,_,_,_,_,_⟩::_) _ _);go_must(refine Xa3 rfl 78 (.tmp 71) rfl (a.add (j*32)) X _ Tryz.underlying78 rfl HSZ.out HCE.out ?_ ?_;go_simp))
   | ((with_reducible show wpList _ _ _ (⟨some 73,_,_,_,_,_⟩::_) _ _);go_must(refine wpList_plain rfl fun K hK=>Xav _ _ _ rfl (by simp only[List.map_toArray,List.map_cons,List.map_nil];exact Xii HXN.out _) (hK _ _ ?_)))
   | ((with_reducible show wpList _ _ _ (⟨some 74,_,_,_,_,_⟩::_) _ _);go_must(refine Xaa rfl 43 101 (.tmp 73) rfl (X++[Value.bool false,.bool true]) _ 34 34 Tryz.underlying43 infoR zszR (by omega) (by omega) HRL.out.1 ?_ ?_;go_simp))
   | (at_builtin;(with_reducible show wpList _ _ _ (⟨some 75,_,_,_,_,_⟩::_) _ _);go_must(refine Xag rfl (.tmp 68) (.tmp 74) 43 rfl W.heap.size 101 _ 34 34 Tryz.underlying43 infoR zszR (by omega) _ (k+j) (cellsR (ownU m k++(xl.take j).map wU)) (X++[Value.bool false,.bool true]) 1 HRL.out.1 HRL.out.2 rfl ?_ HO.out ?_ HB.out.size (by unfold maxLen;omega) (by omega) ?_;go_simp;go_simp;intro v4 w4 ho4 hg4;have O4:=Hd ho4;have G4:=Hd hg4;clear ho4 hg4)))
  go_roundw
  case rel=>exact⟨j+1,by omega,by go_num,by rw[HSU.out];exact O4.out,HB.out.grown G4.out.grown HB.out.size fun j hj=>(HO.out.lt j hj).1⟩
  case measure=>simp[intOf];omega
 obtain rfl:j=xn:=by omega
 have HO2:Hid (wr.ownsRow W.heap.size 101 34 u8 (k+j) (cellsR (ownU m k++xl.map wU))):=Hd (by
  have:=HO.out;rwa [List.take_of_length_le (by rw[HXL.out];exact Lr _)]at this)
 clear HO;go_wp2_with fail;obtain⟨wm,hwm⟩:∃u:World,u=wr:=⟨_,rfl⟩;subst hwm;go_loopw [13,8] (fun i v wr=>∃t:Nat,t≤yn∧i=.int .i64 t∧wr.ownsRow W.heap.size 101 34 v (k+j+t) (cellsR (ownU m k++xl.map wU++(yl.take t).map rRole))∧Below W.heap.size W wr) (fun i _ _=>yn - (intOf i).toNat)
 case atStart=>exact⟨0,Nat.zero_le _,rfl,by simpa using HO2.out,HB.out⟩
 case round =>
 clear HO2 HB;obtain⟨t,ht,rfl,ho,hb⟩:=hrel;have HO:=Hd ho;have HB:=Hd hb;clear ho hb;by_cases hlt3:t<yn
 ·obtain⟨a,z,hA,hab,hz,hat⟩:=(HY.out.keys.below (HB.out.mono (Lq HBW.out B0.out.size))).get hlt3;subst hA;have HSZ:=Hd (show(Tryz.prog.info? 78).map (·.size)=some (bv z).length by rw[bL,hat.len];exact Xab);have HXN:=Hd (show(bv z).length=32 by rw[bL,hat.len]);have HCE:=Hd hat.cells;have HSU:Hid (cellsR (ownU m k++xl.map wU++(yl.take (t+1)).map rRole)=cellsR (ownU m k++xl.map wU++(yl.take t).map rRole)++(bv z++[Value.bool false,.bool false])):=Hd (by rw[Xd6 rRole hz,←List.append_assoc,Xct];rfl);have HRL:Hid ((bv z++[Value.bool false,.bool false]).length=34∧∀u ∈ bv z++[Value.bool false,.bool false],u.oneCell'=true):=Hd ⟨Xc3 (r:=⟨z,false,false⟩) hat.len,Xd3 ⟨z,false,false⟩⟩;clear hat hz;generalize bv z=X at *;go_wp2_with (first
   | ((with_reducible show wpList _ _ _ (⟨some 86,_,_,_,_,_⟩::_) _ _);go_must(refine Xa3 rfl 78 (.tmp 85) rfl (a.add (t*32)) X _ Tryz.underlying78 rfl HSZ.out HCE.out ?_ ?_;go_simp))
   | ((with_reducible show wpList _ _ _ (⟨some 87,_,_,_,_,_⟩::_) _ _);go_must(refine wpList_plain rfl fun K hK=>Xav _ _ _ rfl (by simp only[List.map_toArray,List.map_cons,List.map_nil];exact Xcf HXN.out) (hK _ _ ?_)))
   | ((with_reducible show wpList _ _ _ (⟨some 88,_,_,_,_,_⟩::_) _ _);go_must(refine Xaa rfl 43 101 (.tmp 87) rfl (X++[Value.bool false,.bool false]) _ 34 34 Tryz.underlying43 infoR zszR (by omega) (by omega) HRL.out.1 ?_ ?_;go_simp))
   | (at_builtin;(with_reducible show wpList _ _ _ (⟨some 89,_,_,_,_,_⟩::_) _ _);go_must(refine Xag rfl (.tmp 82) (.tmp 88) 43 rfl W.heap.size 101 _ 34 34 Tryz.underlying43 infoR zszR (by omega) _ (k+j+t) (cellsR (ownU m k++xl.map wU++(yl.take t).map rRole)) (X++[Value.bool false,.bool false]) 1 HRL.out.1 HRL.out.2 rfl ?_ HO.out ?_ HB.out.size (by unfold maxLen;omega) (by omega) ?_;go_simp;go_simp;intro v4 w4 ho4 hg4;have O4:=Hd ho4;have G4:=Hd hg4;clear ho4 hg4)))
  go_roundw
  case rel=>exact⟨t+1,by omega,by go_num,by rw[HSU.out];exact O4.out,HB.out.grown G4.out.grown HB.out.size fun j hj=>(HO.out.lt j hj).1⟩
  case measure=>simp[intOf];omega
 obtain rfl:t=yn:=by omega
 have HO2:Hid (wr.ownsRow W.heap.size 101 34 u8 (k+j+t) (cellsR (mixU U 0))):=Hd (by
  have:=HO.out;rwa [List.take_of_length_le (by rw[HYL.out];exact Lr _),List.append_assoc,←HUD.out,←Xpy U]at this)
 obtain⟨A,c,he⟩:=Xao HO2.out;subst he;obtain⟨N,hN⟩:∃N,N=k+j+t:=⟨_,rfl⟩;have HNN:Hid (N≤12000):=Hd (by omega);rw[←hN]at HO2 HUN ⊢;clear HO hN;go_wp2_with fail;obtain⟨wm,hwm⟩:∃u:World,u=wr:=⟨_,rfl⟩;subst hwm;go_loopw [14] (fun i wr=>∃p:Nat,p≤N∧i=.int .i64 p∧wr.ownsRow W.heap.size 101 34 (.slice A N c) N (cellsR (mixU U p))∧((U.map LRole.key).take p).Nodup∧Below W.heap.size W wr) (fun i _=>N - (intOf i).toNat)
 case atStart=>exact⟨0,Nat.zero_le _,rfl,HO2.out,by simp,HB.out⟩
 case round =>
 clear HO2 HB;obtain⟨p,hp,rfl,ho,hnd,hb⟩:=hrel;have HO:=Hd ho;have HND:=Hd hnd;have HB:=Hd hb;clear ho hnd hb;have hNm:=HNN.out;by_cases hlt4:p<N
 ·obtain⟨r1,hr1⟩:∃r1,U[p]?=some r1:=⟨_,List.getElem?_eq_getElem (by rw[HUN.out];exact hlt4)⟩;obtain⟨g,hA,hg1,hg2⟩:=Xsa HO.out (by omega);subst hA;have HR1:=Hd hr1;have hro:=HUO.out r1 (List.mem_of_getElem? hr1);have HG:=Hd (And.intro hg1 hg2);have HKX:Hid (∀j u,(bv r1.key)[j]?=some u→wr.cell? ⟨g,p*34+j,none⟩=some u):=Hd fun j u hu=>(Xe6 HO.out (Xnt HUO.out hr1 j u hu)).1
  have HSX:=Hd (show(Tryz.prog.info? 78).map (·.size)=some (bv r1.key).length by rw[bL,hro.1];exact Xab);have HUM:Hid ((U.map LRole.key)[p]?=some r1.key):=Hd (by rw[List.getElem?_map,hr1];rfl);have HRO:=Hd hro;clear hr1 hg1 hg2 hro;go_wp2_with fail;obtain⟨wv,hwv⟩:∃u:World,u=wr:=⟨_,rfl⟩;subst hwv;go_loopw [15] (fun i wr=>∃e nq:Nat,e≤p∧i=.int .i64 e∧wr=wv.drewN nq∧r1.key ∉ (U.map LRole.key).take e) (fun i _=>p - (intOf i).toNat)
  case atStart=>exact⟨0,0,Nat.zero_le _,rfl,rfl,by simp⟩
  case round =>
   obtain⟨e,nq0,he,rfl,rfl,hni⟩:=hrel;have HNI:=Hd hni;clear hni;by_cases hlt5:e<p
   ·obtain⟨r2,hr2⟩:∃r2,U[e]?=some r2:=⟨_,List.getElem?_eq_getElem (by rw[HUN.out];omega)⟩;have hro2:=HUO.out r2 (List.mem_of_getElem? hr2);have HKY:Hid (∀j u,(bv r2.key)[j]?=some u→wv.cell? ⟨g,e*34+j,none⟩=some u):=Hd fun j u hu=>(Xe6 HO.out (Xnt HUO.out hr2 j u hu)).1
    have HSY:=Hd (show(Tryz.prog.info? 78).map (·.size)=some (bv r2.key).length by rw[bL,hro2.1];exact Xab);have HUE:Hid ((U.map LRole.key)[e]?=some r2.key):=Hd (by rw[List.getElem?_map,hr2];rfl);have NQ:=fun w=>Xej HRO.out.1 hro2.1 w
    clear hr2 hro2;by_cases hkk:r1.key=r2.key
    ·have HE:Hid (¬(m.keys++(xl++yl)).Nodup):=Hd fun h=>by
      rw[←HUK.out]at h;refine Xpw HUM.out h ?_;rw[hkk];exact List.mem_of_getElem? (List.getElem?_take_of_lt hlt5 ▸ HUE.out)
     rw[decide_eq_true hkk]at NQ;clear hkk HUE;obtain⟨X,hX⟩:∃X,X=bv r1.key:=⟨_,rfl⟩;obtain⟨Y,hY⟩:∃Y,Y=bv r2.key:=⟨_,rfl⟩;rw[←hX]at HKX HSX NQ;rw[←hY]at HKY HSY NQ;clear hX hY;go_wp2_with fail;refine wp_region_quiet_lit (by kernel_rfl) (by kernel_rfl) ?_;repeat (first
      | ((with_reducible show wpQuiet _ _ _ _ (⟨some 105,_,_,_,_,_⟩::_) _);go_must(refine Xa6 (by kernel_rfl) 78 (.tmp 104) rfl ⟨g,p*34,none⟩ X _ Tryz.underlying78 rfl HSX.out (by rintro _ ⟨nq,rfl⟩ j u hu;rw[Xa5];exact HKX.out j u hu) ?_ ?_;go_simp;go_simp))
      | ((with_reducible show wpQuiet _ _ _ _ (⟨some 110,_,_,_,_,_⟩::_) _);go_must(refine Xa6 (by kernel_rfl) 78 (.tmp 109) rfl ⟨g,e*34,none⟩ Y _ Tryz.underlying78 rfl HSY.out (by rintro _ ⟨nq,rfl⟩ j u hu;rw[Xa5];exact HKY.out j u hu) ?_ ?_;go_simp;go_simp))
      | go_big_quiet_step (fail))
     refine wpQuiet_nil ?_;intro nq;go_wp2_with fail;go_ret2
     refine⟨HWB.out _ (below_drewN HB.out _),?_⟩;rw[if_neg HE.out];rfl
    ·have HE:Hid (r1.key ∉ (U.map LRole.key).take (e+1)):=Hd (by
      rw[List.take_add_one,HUE.out];intro h;rcases List.mem_append.1 h with h | h
      ·exact HNI.out h
      ·simp at h;exact hkk h)
     rw[decide_eq_false hkk]at NQ;clear hkk HUE;obtain⟨X,hX⟩:∃X,X=bv r1.key:=⟨_,rfl⟩;obtain⟨Y,hY⟩:∃Y,Y=bv r2.key:=⟨_,rfl⟩;rw[←hX]at HKX HSX NQ;rw[←hY]at HKY HSY NQ;clear hX hY;go_wp2_with fail;refine wp_region_quiet_lit (by kernel_rfl) (by kernel_rfl) ?_;repeat (first
      | ((with_reducible show wpQuiet _ _ _ _ (⟨some 105,_,_,_,_,_⟩::_) _);go_must(refine Xa6 (by kernel_rfl) 78 (.tmp 104) rfl ⟨g,p*34,none⟩ X _ Tryz.underlying78 rfl HSX.out (by rintro _ ⟨nq,rfl⟩ j u hu;rw[Xa5];exact HKX.out j u hu) ?_ ?_;go_simp;go_simp))
      | ((with_reducible show wpQuiet _ _ _ _ (⟨some 110,_,_,_,_,_⟩::_) _);go_must(refine Xa6 (by kernel_rfl) 78 (.tmp 109) rfl ⟨g,e*34,none⟩ Y _ Tryz.underlying78 rfl HSY.out (by rintro _ ⟨nq,rfl⟩ j u hu;rw[Xa5];exact HKY.out j u hu) ?_ ?_;go_simp;go_simp))
      | go_big_quiet_step (fail))
     refine wpQuiet_nil ?_;intro nq;go_wp2_with fail;go_roundw
     case rel=>exact⟨e+1,nq0+nq,by omega,by go_num,by simp,HE.out⟩
     case measure=>simp[intOf];omega
   obtain rfl:e=p:=by omega
   have HN2:Hid (((U.map LRole.key).take (e+1)).Nodup):=Hd ((Xbx HUM.out).2 ⟨HND.out,HNI.out⟩);clear HNI HND;obtain⟨WW,hWW⟩:∃WW,WW=wv.drewN nq0:=⟨_,rfl⟩;have OW:WW.ownsRow W.heap.size 101 34 (.slice (some ⟨g,0,none⟩) N c) N (cellsR (mixU U e)):=by rw[hWW];exact Xal HO.out (below_drewN (Br _ _) _)
   have BW:=Hd (show Below W.heap.size W WW by rw[hWW];exact below_drewN HB.out _);have HKW:Hid (∀j u,(bv r1.key)[j]?=some u→WW.cell? ⟨g,e*34+j,none⟩=some u):=Hd fun j u hu=>by rw[hWW];exact HKX.out j u hu
   have HGW:Hid (W.heap.size≤g∧g<WW.heap.size):=Hd (by rw[hWW];exact HG.out);have OWH:=Hd OW;rw[←hWW];clear hWW OW HKX HG HO HB;obtain⟨q1,q2⟩:=Xhu HUO.out HR1.out;have Q2:=Hd q2;have N0:=fun w=>Xej HRO.out.1 Xvq w
   have N3:=fun w=>Xej HRO.out.1 Xn8 w
   have HKN:Hid (kn r1.key=(decide (r1.key=k0)||decide (r1.key=k3))):=Hd rfl;clear q1 q2;obtain⟨X,hX⟩:∃X,X=bv r1.key:=⟨_,rfl⟩;rw[←hX]at HKW HSX N0 N3;clear hX;by_cases hk0:r1.key=k0
   ·have HKT:Hid (kn r1.key=true):=Hd (by rw[HKN.out,decide_eq_true hk0];rfl);rw[decide_eq_true hk0]at N0;clear hk0 HKN N3;go_wp2_with fail;refine wp_region_held_drew (S:=(fun V=>Below WW.heap.size WW V)) (by kernel_rfl) (Br WW.heap.size WW).drew (fun _=>?_);have S0:=Hd (Br WW.heap.size WW).drew;refine Tk 0 rfl ?_ S0.out ?_ ⟨?_,rfl⟩
    ·intro w hw;(try dsimp only at hw);go_simp;try with_reducible rfl
    try simp only[nm]
    refine Tk 1 rfl ?_ S0.out ?_ ⟨?_,rfl⟩
    ·intro w hw;(try dsimp only at hw);go_simp;try with_reducible rfl
    try simp only[nm]
    refine Tk 2 rfl ?_ S0.out ?_ ⟨?_,rfl⟩
    ·intro w hw;(try dsimp only at hw);go_simp;try with_reducible rfl
    try simp only[nm]
    refine Tk 3 rfl ?_ S0.out ?_ ⟨?_,rfl⟩
    ·intro w hw;(try dsimp only at hw);go_simp;try with_reducible rfl
    try simp only[nm]
    refine Tl 4 (v:=.agg X.toArray) rfl (Or.inl ⟨by rfl,fun wz hwz=>Xa8 wz 78 (.tmp 115) rfl ⟨g,e*34,none⟩ X _ Tryz.underlying78 rfl HSX.out (fun j u hu=>(hwz.cell (by rw[Xa5];exact HGW.out.2)).trans (by rw[Xa5];exact HKW.out j u hu)) (by go_simp)⟩) S0.out ?_;try simp only[nm]
    refine Rl 5 rfl fun K hK=>?_
    go_simp;refine(Xgg _).mono ?_;rintro e1 w5 ⟨rfl,hb5⟩;have S5:=Hd (show Below WW.heap.size WW w5 from S0.out.trans hb5);clear hb5;refine hK.out _ _ S5.out ?_;clear hK K;try simp only[nm]
    refine Tk 6 rfl ?_ S5.out ?_ ⟨?_,rfl⟩
    ·intro w hw;(try dsimp only at hw);go_simp;try with_reducible rfl
    try simp only[nm]
    refine Tk 7 rfl ?_ S5.out ?_ ⟨?_,rfl⟩
    ·intro w hw;(try dsimp only at hw);go_simp;try with_reducible rfl
    try simp only[nm]
    refine Tl 8 (v:=undef) rfl (Or.inr ⟨by rfl,rfl⟩) S5.out ?_;try simp only[nm]
    refine Tl 9 (v:=undef) rfl (Or.inr ⟨by rfl,rfl⟩) S5.out ?_;try simp only[nm]
    refine Tl 10 (v:=undef) rfl (Or.inr ⟨by rfl,rfl⟩) S5.out ?_;try simp only[nm]
    refine Tl 11 (v:=undef) rfl (Or.inr ⟨by rfl,rfl⟩) S5.out ?_;try simp only[nm]
    refine Tl 12 (v:=undef) rfl (Or.inr ⟨by rfl,rfl⟩) S5.out ?_;try simp only[nm]
    refine Tl 13 (v:=undef) rfl (Or.inr ⟨by rfl,rfl⟩) S5.out ?_;try simp only[nm]
    refine Tl 14 (v:=undef) rfl (Or.inr ⟨by rfl,rfl⟩) S5.out ?_;try simp only[nm]
    refine Tk 15 rfl ?_ S5.out ?_ ⟨?_,rfl⟩
    ·intro w hw;(try dsimp only at hw);go_simp;try with_reducible rfl
    try simp only[nm]
    refine wpAnyH_done (by kernel_rfl) ?_ _;have OQ:=Hd (Xal OWH.out S5.out);have d1:w5.cell? ⟨g,e*34+33,none⟩=some (.bool r1.wr):=(Xe6 OQ.out Q2.out).1;have d2:w5.frozen? ⟨g,e*34+33,none⟩=false:=(Xe6 OQ.out Q2.out).2;go_wp2_with fail;go_roundw
    case rel =>
     refine⟨e+1,by omega,by go_num,?_,HN2.out,(BW.out.trans (S5.out.mono BW.out.size)).trans ((Xa2 w5 ⟨g,e*34+33,none⟩ (.bool false)).below HGW.out.1)⟩;rw[←Xhx HUO.out HR1.out HKT.out];exact Xgw OQ.out _ _
    case measure=>simp[intOf];omega
   by_cases hk3:r1.key=k3
   ·have HKT:Hid (kn r1.key=true):=Hd (by rw[HKN.out,decide_eq_true hk3,Bool.or_true]);rw[decide_eq_false hk0]at N0;rw[decide_eq_true hk3]at N3;clear hk0 hk3 HKN;go_wp2_with fail;refine wp_region_held_drew (S:=(fun V=>Below WW.heap.size WW V)) (by kernel_rfl) (Br WW.heap.size WW).drew (fun _=>?_);have S0:=Hd (Br WW.heap.size WW).drew;refine Tk 0 rfl ?_ S0.out ?_ ⟨?_,rfl⟩
    ·intro w hw;(try dsimp only at hw);go_simp;try with_reducible rfl
    try simp only[nm]
    refine Tk 1 rfl ?_ S0.out ?_ ⟨?_,rfl⟩
    ·intro w hw;(try dsimp only at hw);go_simp;try with_reducible rfl
    try simp only[nm]
    refine Tk 2 rfl ?_ S0.out ?_ ⟨?_,rfl⟩
    ·intro w hw;(try dsimp only at hw);go_simp;try with_reducible rfl
    try simp only[nm]
    refine Tk 3 rfl ?_ S0.out ?_ ⟨?_,rfl⟩
    ·intro w hw;(try dsimp only at hw);go_simp;try with_reducible rfl
    try simp only[nm]
    refine Tl 4 (v:=.agg X.toArray) rfl (Or.inl ⟨by rfl,fun wz hwz=>Xa8 wz 78 (.tmp 115) rfl ⟨g,e*34,none⟩ X _ Tryz.underlying78 rfl HSX.out (fun j u hu=>(hwz.cell (by rw[Xa5];exact HGW.out.2)).trans (by rw[Xa5];exact HKW.out j u hu)) (by go_simp)⟩) S0.out ?_;try simp only[nm]
    refine Rl 5 rfl fun K hK=>?_
    go_simp;refine(Xgg _).mono ?_;rintro e1 w5 ⟨rfl,hb5⟩;have S5:=Hd (show Below WW.heap.size WW w5 from S0.out.trans hb5);clear hb5;refine hK.out _ _ S5.out ?_;clear hK K;try simp only[nm]
    refine Tk 6 rfl ?_ S5.out ?_ ⟨?_,rfl⟩
    ·intro w hw;(try dsimp only at hw);go_simp;try with_reducible rfl
    try simp only[nm]
    refine Tk 7 rfl ?_ S5.out ?_ ⟨?_,rfl⟩
    ·intro w hw;(try dsimp only at hw);go_simp;try with_reducible rfl
    try simp only[nm]
    refine Tk 8 rfl ?_ S5.out ?_ ⟨?_,rfl⟩
    ·intro w hw;(try dsimp only at hw);go_simp;try with_reducible rfl
    try simp only[nm]
    refine Tk 9 rfl ?_ S5.out ?_ ⟨?_,rfl⟩
    ·intro w hw;(try dsimp only at hw);go_simp;try with_reducible rfl
    try simp only[nm]
    refine Tk 10 rfl ?_ S5.out ?_ ⟨?_,rfl⟩
    ·intro w hw;(try dsimp only at hw);go_simp;try with_reducible rfl
    try simp only[nm]
    refine Tk 11 rfl ?_ S5.out ?_ ⟨?_,rfl⟩
    ·intro w hw;(try dsimp only at hw);go_simp;try with_reducible rfl
    try simp only[nm]
    refine Tl 12 (v:=.agg X.toArray) rfl (Or.inl ⟨by rfl,fun wz hwz=>Xa8 wz 78 (.tmp 123) rfl ⟨g,e*34,none⟩ X _ Tryz.underlying78 rfl HSX.out (fun j u hu=>(hwz.cell (by rw[Xa5];exact HGW.out.2)).trans (by rw[Xa5];exact HKW.out j u hu)) (by go_simp)⟩) S5.out ?_;try simp only[nm]
    refine Rl 13 rfl fun K hK=>?_
    go_simp;refine(Xiu _).mono ?_;rintro e1 w6 ⟨rfl,hb6⟩;have S6:=Hd (show Below WW.heap.size WW w6 from S5.out.trans (hb6.mono S5.out.size));clear hb6;refine hK.out _ _ S6.out ?_;clear hK K;try simp only[nm]
    refine Tk 14 rfl ?_ S6.out ?_ ⟨?_,rfl⟩
    ·intro w hw;(try dsimp only at hw);go_simp;try with_reducible rfl
    try simp only[nm]
    refine Tk 15 rfl ?_ S6.out ?_ ⟨?_,rfl⟩
    ·intro w hw;(try dsimp only at hw);go_simp;try with_reducible rfl
    try simp only[nm]
    refine wpAnyH_done (by kernel_rfl) ?_ _;have OQ:=Hd (Xal OWH.out S6.out);have d1:w6.cell? ⟨g,e*34+33,none⟩=some (.bool r1.wr):=(Xe6 OQ.out Q2.out).1;have d2:w6.frozen? ⟨g,e*34+33,none⟩=false:=(Xe6 OQ.out Q2.out).2;go_wp2_with fail;go_roundw
    case rel =>
     refine⟨e+1,by omega,by go_num,?_,HN2.out,(BW.out.trans (S6.out.mono BW.out.size)).trans ((Xa2 w6 ⟨g,e*34+33,none⟩ (.bool false)).below HGW.out.1)⟩;rw[←Xhx HUO.out HR1.out HKT.out];exact Xgw OQ.out _ _
    case measure=>simp[intOf];omega
   ·have HKT:Hid (kn r1.key=false):=Hd (by rw[HKN.out,decide_eq_false hk0,decide_eq_false hk3];rfl);rw[decide_eq_false hk0]at N0;rw[decide_eq_false hk3]at N3;clear hk0 hk3 HKN;go_wp2_with fail;refine wp_region_held_drew (S:=(fun V=>Below WW.heap.size WW V)) (by kernel_rfl) (Br WW.heap.size WW).drew (fun _=>?_);have S0:=Hd (Br WW.heap.size WW).drew;refine Tk 0 rfl ?_ S0.out ?_ ⟨?_,rfl⟩
    ·intro w hw;(try dsimp only at hw);go_simp;try with_reducible rfl
    try simp only[nm]
    refine Tk 1 rfl ?_ S0.out ?_ ⟨?_,rfl⟩
    ·intro w hw;(try dsimp only at hw);go_simp;try with_reducible rfl
    try simp only[nm]
    refine Tk 2 rfl ?_ S0.out ?_ ⟨?_,rfl⟩
    ·intro w hw;(try dsimp only at hw);go_simp;try with_reducible rfl
    try simp only[nm]
    refine Tk 3 rfl ?_ S0.out ?_ ⟨?_,rfl⟩
    ·intro w hw;(try dsimp only at hw);go_simp;try with_reducible rfl
    try simp only[nm]
    refine Tl 4 (v:=.agg X.toArray) rfl (Or.inl ⟨by rfl,fun wz hwz=>Xa8 wz 78 (.tmp 115) rfl ⟨g,e*34,none⟩ X _ Tryz.underlying78 rfl HSX.out (fun j u hu=>(hwz.cell (by rw[Xa5];exact HGW.out.2)).trans (by rw[Xa5];exact HKW.out j u hu)) (by go_simp)⟩) S0.out ?_;try simp only[nm]
    refine Rl 5 rfl fun K hK=>?_
    go_simp;refine(Xgg _).mono ?_;rintro e1 w5 ⟨rfl,hb5⟩;have S5:=Hd (show Below WW.heap.size WW w5 from S0.out.trans hb5);clear hb5;refine hK.out _ _ S5.out ?_;clear hK K;try simp only[nm]
    refine Tk 6 rfl ?_ S5.out ?_ ⟨?_,rfl⟩
    ·intro w hw;(try dsimp only at hw);go_simp;try with_reducible rfl
    try simp only[nm]
    refine Tk 7 rfl ?_ S5.out ?_ ⟨?_,rfl⟩
    ·intro w hw;(try dsimp only at hw);go_simp;try with_reducible rfl
    try simp only[nm]
    refine Tk 8 rfl ?_ S5.out ?_ ⟨?_,rfl⟩
    ·intro w hw;(try dsimp only at hw);go_simp;try with_reducible rfl
    try simp only[nm]
    refine Tk 9 rfl ?_ S5.out ?_ ⟨?_,rfl⟩
    ·intro w hw;(try dsimp only at hw);go_simp;try with_reducible rfl
    try simp only[nm]
    refine Tk 10 rfl ?_ S5.out ?_ ⟨?_,rfl⟩
    ·intro w hw;(try dsimp only at hw);go_simp;try with_reducible rfl
    try simp only[nm]
    refine Tk 11 rfl ?_ S5.out ?_ ⟨?_,rfl⟩
    ·intro w hw;(try dsimp only at hw);go_simp;try with_reducible rfl
    try simp only[nm]
    refine Tl 12 (v:=.agg X.toArray) rfl (Or.inl ⟨by rfl,fun wz hwz=>Xa8 wz 78 (.tmp 123) rfl ⟨g,e*34,none⟩ X _ Tryz.underlying78 rfl HSX.out (fun j u hu=>(hwz.cell (by rw[Xa5];exact HGW.out.2)).trans (by rw[Xa5];exact HKW.out j u hu)) (by go_simp)⟩) S5.out ?_;try simp only[nm]
    refine Rl 13 rfl fun K hK=>?_
    go_simp;refine(Xiu _).mono ?_;rintro e1 w6 ⟨rfl,hb6⟩;have S6:=Hd (show Below WW.heap.size WW w6 from S5.out.trans (hb6.mono S5.out.size));clear hb6;refine hK.out _ _ S6.out ?_;clear hK K;try simp only[nm]
    refine Tk 14 rfl ?_ S6.out ?_ ⟨?_,rfl⟩
    ·intro w hw;(try dsimp only at hw);go_simp;try with_reducible rfl
    try simp only[nm]
    refine Tk 15 rfl ?_ S6.out ?_ ⟨?_,rfl⟩
    ·intro w hw;(try dsimp only at hw);go_simp;try with_reducible rfl
    try simp only[nm]
    refine wpAnyH_done (by kernel_rfl) ?_ _;have OQ:=Hd (Xal OWH.out S6.out);go_wp2_with fail;go_roundw
    case rel=>exact⟨e+1,by omega,by go_num,by rw[Xrk HUO.out HR1.out HKT.out];exact OQ.out,HN2.out,BW.out.trans (S6.out.mono BW.out.size)⟩
    case measure=>simp[intOf];omega
 obtain rfl:p=N:=by omega
 have HFN:Hid ((m.keys++(xl++yl)).Nodup):=Hd (by
  have:=HND.out;rwa [List.take_of_length_le (by rw[List.length_map,HUN.out];exact Lr _),HUK.out]at this)
 have HFL:Hid ((rolesL m xl yl).length=p):=Hd (by rw[←HUS.out,List.length_map];exact HUN.out);have HFO:Hid (wr.ownsRow W.heap.size 101 34 (.slice A p c) p (cellsR (rolesL m xl yl))):=Hd (by
  have:=HO.out;rwa [Xui HUN.out,HUS.out]at this)
 go_wp2_with fail;go_ret2
 refine⟨HWB.out _ HB.out,?_⟩;rw[if_pos HFN.out,HFL.out];exact⟨A,c,rfl,Xij HFO.out (Nat.le_of_lt HLT.out)⟩
theorem Xk5(x y:Int):held [x,y]=cap (x+y):=by simp[held]
theorem Xkr(n:Int)(w:World)(h0 : -9223372036854775808≤n)(h1:n<9223372036854775808) :
 Calls Tryz.prog 91 #[.int .i64 n] w fun e w'=>e=.returned (.int .u64 (base10 n))∧Below w.heap.size w w':=by
 have T:=Hd (fun w=>Xeu (max 0 n) 5000 1 false w ⟨by omega,by omega⟩ ⟨by decide,by decide⟩ ⟨by decide,by decide⟩ (by decide));have e64:IntKind.u64.wrap (max 0 n)=max 0 n:=IntWalk.u64_in _ (by omega);have E:Hid (times (max 0 n) 5000 1 false=base10 n):=Hd (by unfold base10;rw[Int.max_comm]);rw[E.out]at T;go_enter Tryz.func91,Tryz.ntmps91
 go_wp2_with fail;refine(T.out _).mono ?_;rintro e w1 ⟨rfl,hb⟩;have HB:=Hd hb;clear hb;go_wp2;go_ret;exact⟨rfl,HB.out⟩
theorem Xje(u p b:Int)(w:World)(hu:Word u)(hp:Word p) :
 Calls Tryz.prog 92 #[.agg #[.int .u64 u,.int .u64 p,.int .i64 b]] w fun e w'=>e=.returned (.int .u64 (offer10 p u))∧Below w.heap.size w w':=by
 have hb0:=(Br w.heap.size w).alloc (Lr _) (.cells #[.int .u64 u,.int .u64 p,.int .i64 b] 46);have T:=Hd (fun w=>Xeu p u 1000000 true w hp hu ⟨by decide,by decide⟩ (by decide));have E:Hid (times p u 1000000 true=offer10 p u):=Hd rfl;rw[E.out]at T;go_enter Tryz.func92,Tryz.ntmps92
 go_wp2_with fail;refine(T.out _).mono ?_;rintro e w1 ⟨rfl,hb⟩;have HB:=Hd (hb0.trans (hb.mono hb0.size));clear hb hb0;go_wp2;go_ret;exact⟨rfl,HB.out⟩
theorem Xve(n u p b:Int)(w:World)(h0 : -9223372036854775808≤n)(h1:n<9223372036854775808)(hu:Word u)(hp:Word p) :
 Calls Tryz.prog 47 #[.int .i64 n,.agg #[.int .u64 u,.int .u64 p,.int .i64 b]] w fun e w'=>e=.returned (.int .u64 (fee10 n p u))∧Below w.heap.size w w':=by
 have hb0:=(Br w.heap.size w).alloc (Lr _) (.cells #[.int .u64 u,.int .u64 p,.int .i64 b] 46);have RB:=Hd (Row.new w 46 [.int .u64 u,.int .u64 p,.int .i64 b]);have HLT:Hid (w.heap.size<(w.alloc (.cells #[.int .u64 u,.int .u64 p,.int .i64 b] 46)).heap.size):=Hd RB.out.lt;have HBS:=Hd (Xaz u p b);have B0:=Hd hb0;have XB:=Hd (fun w=>Xkr n w h0 h1);have XO:=Hd (fun w=>Xje u p b w hu hp);have WB:=Hd (Xce (n:=n) (by omega));have WO:=Hd (Xcl hp hu);have HE:Hid (held [base10 n,offer10 p u]=fee10 n p u):=Hd (Xk5 _ _);clear hb0 h0 h1 hu hp;generalize base10 n=x at *;generalize offer10 p u=y at *;generalize fee10 n p u=z at *;have HW:Hid (∀v ∈ [x,y],Word v):=Hd fun v hv=>by
  simp only[List.mem_cons,List.not_mem_nil,or_false]at hv;rcases hv with rfl | rfl
  ·exact WB.out
  ·exact WO.out
 go_enter Tryz.func47,Tryz.ntmps47
 go_upto_region 1 with fail
 generalize hWW:w.alloc (.cells #[.int .u64 u,.int .u64 p,.int .i64 b] 46)=W at *;have HS:=Hd (Br W.heap.size W).drew;refine wp_region_held_drew (S:=(fun V=>Below W.heap.size W V)) (by kernel_rfl) HS.out (fun _=>?_);refine Tk 0 rfl ?_ HS.out ?_ ⟨?_,rfl⟩
 ·intro w hw;(try dsimp only at hw);go_simp;try with_reducible rfl
 try simp only[nm]
 refine Tl 2 (v:=.agg #[.int .u64 u,.int .u64 p,.int .i64 b]) rfl (Or.inl ⟨by rfl,fun wz hwz=>Xa8 wz 46 (.tmp 3) rfl ⟨w.heap.size,0,none⟩ [.int .u64 u,.int .u64 p,.int .i64 b] _ Tryz.underlying46 rfl HBS.out (fun j v hv=>(hwz.cell (by rw[Xa5];exact HLT.out)).trans (by rw[Xa5,Nat.zero_add];exact(RB.out.cell j).trans hv)) (by go_simp)⟩) HS.out ?_;try simp only[nm]
 refine Rl 1 rfl fun K hK=>?_
 go_simp;refine(XB.out _).mono ?_;rintro e w1 ⟨rfl,hb⟩;have S1:=Hd (HS.out.trans (hb.mono HS.out.size));clear hb;refine hK.out _ _ S1.out ?_;clear hK K;try simp only[nm]
 refine Rl 3 rfl fun K hK=>?_
 go_simp;refine(XO.out _).mono ?_;rintro e w2 ⟨rfl,hb⟩;have S2:=Hd (S1.out.trans (hb.mono S1.out.size));clear hb;refine hK.out _ _ S2.out ?_;clear hK K;try simp only[nm]
 refine Rl 4 rfl fun K hK=>?_
 go_simp;have S3:=Hd (S2.out.alloc S2.out.size (.cells #[.int .u64 x,.int .u64 y] 44));have R3:=Hd (Row.new w2 44 [.int .u64 x,.int .u64 y]);refine hK.out _ _ S3.out ?_;clear hK K;try simp only[nm]
 refine Rl 5 rfl fun K hK=>?_
 go_simp;refine(Xk7 _ 2 _ [x,y] _ _ R3.out.sees0 (by simp[maxLen]) HW.out).mono ?_;rintro e w4 ⟨rfl,rfl⟩;rw[HE.out];refine hK.out _ _ S3.out ?_;clear hK K;try simp only[nm]
 refine Tk 6 rfl ?_ S3.out ?_ ⟨?_,rfl⟩
 ·intro w hw;(try dsimp only at hw);go_simp;try with_reducible rfl
 try simp only[nm]
 refine wpAnyH_done (by kernel_rfl) ?_ _;go_wp2_with fail;go_ret;exact⟨rfl,B0.out.trans (S3.out.mono B0.out.size)⟩
theorem Xv0(n u p b k:Int)(w:World)(h0 : -9223372036854775808≤n)(h1:n<9223372036854775808)(hu:Word u)(hp:Word p)(hk:Word k) :
 Calls Tryz.prog 50 #[.int .i64 n,.agg #[.int .u64 u,.int .u64 p,.int .i64 b],.int .u64 k] w fun e w'=>e=.returned (.int .u64 (pri10 n p u k))∧Below w.heap.size w w':=by
 have hb0:=(Br w.heap.size w).alloc (Lr _) (.cells #[.int .u64 u,.int .u64 p,.int .i64 b] 46);have RB:=Hd (Row.new w 46 [.int .u64 u,.int .u64 p,.int .i64 b]);have HLT:Hid (w.heap.size<(w.alloc (.cells #[.int .u64 u,.int .u64 p,.int .i64 b] 46)).heap.size):=Hd RB.out.lt;have HBS:=Hd (Xaz u p b);have B0:=Hd hb0;have XB:=Hd (fun w=>Xkr n w h0 h1);have XO:=Hd (fun w=>Xje u p b w hu hp);have WB:=Hd (Xce (n:=n) (by omega));have WO:=Hd (Xcl hp hu);have WH:=Hd (Xi1 WB.out);have XT:=Hd (fun w=>Xeu (cap (base10 n / 2+offer10 p u)) 1000000 (cap (k+1)) false w (Xil (n:=n) (by omega) hp hu) ⟨by decide,by decide⟩ (Xik hk) (by have:=hk.1;unfold cap;split <;> omega));have E1:Hid (times (cap (base10 n / 2+offer10 p u)) 1000000 (cap (k+1)) false=pri10 n p u k):=Hd rfl;rw[E1.out]at XT;have HE:Hid (held [base10 n / 2,offer10 p u]=cap (base10 n / 2+offer10 p u)):=Hd (Xk5 _ _);have HE2:Hid (held [k,1]=cap (k+1)):=Hd (Xk5 _ _);have HK:=Hd hk;have wh:IntKind.u64.wrap (base10 n / 2)=base10 n / 2:=IntWalk.u64_in _ (by have:=WH.out.1;have:=WH.out.2;omega);have x0:=WB.out.1;have hdv:Int.tdiv (base10 n) 2=base10 n / 2:=Int.tdiv_eq_ediv_of_nonneg x0;clear hb0 h0 h1 hu hp E1 hk x0;generalize hh:base10 n / 2=h at *;clear hh;generalize base10 n=x at *;generalize offer10 p u=y at *;generalize pri10 n p u k=z at *;have HW:Hid (∀v ∈ [h,y],Word v):=Hd fun v hv=>by
  simp only[List.mem_cons,List.not_mem_nil,or_false]at hv;rcases hv with rfl | rfl
  ·exact WH.out
  ·exact WO.out
 have HW2:Hid (∀v ∈ [k,1],Word v):=Hd fun v hv=>by
  simp only[List.mem_cons,List.not_mem_nil,or_false]at hv;rcases hv with rfl | rfl
  ·exact HK.out
  ·exact⟨by decide,by decide⟩
 generalize cap (h+y)=c1 at *;generalize cap (k+1)=c2 at *;go_enter Tryz.func50,Tryz.ntmps50
 go_upto_region 1 with fail
 generalize hWW:w.alloc (.cells #[.int .u64 u,.int .u64 p,.int .i64 b] 46)=W at *;have HS:=Hd (Br W.heap.size W).drew;refine wp_region_held_drew (S:=(fun V=>Below W.heap.size W V)) (by kernel_rfl) HS.out (fun _=>?_);refine Tk 0 rfl ?_ HS.out ?_ ⟨?_,rfl⟩
 ·intro w hw;(try dsimp only at hw);go_simp;try with_reducible rfl
 try simp only[nm]
 refine Tl 3 (v:=.agg #[.int .u64 u,.int .u64 p,.int .i64 b]) rfl (Or.inl ⟨by rfl,fun wz hwz=>Xa8 wz 46 (.tmp 4) rfl ⟨w.heap.size,0,none⟩ [.int .u64 u,.int .u64 p,.int .i64 b] _ Tryz.underlying46 rfl HBS.out (fun j v hv=>(hwz.cell (by rw[Xa5];exact HLT.out)).trans (by rw[Xa5,Nat.zero_add];exact(RB.out.cell j).trans hv)) (by go_simp)⟩) HS.out ?_;try simp only[nm]
 refine Rl 1 rfl fun K hK=>?_
 go_simp;refine(XB.out _).mono ?_;rintro e w1 ⟨rfl,hb⟩;have S1:=Hd (HS.out.trans (hb.mono HS.out.size));clear hb;refine hK.out _ _ S1.out ?_;clear hK K;try simp only[nm]
 refine Tk 2 rfl ?_ S1.out ?_ ⟨?_,rfl⟩
 ·intro w hw;(try dsimp only at hw);go_simp;try with_reducible rfl
 try simp only[nm]
 refine Rl 4 rfl fun K hK=>?_
 go_simp;refine(XO.out _).mono ?_;rintro e w2 ⟨rfl,hb⟩;have S2:=Hd (S1.out.trans (hb.mono S1.out.size));clear hb;refine hK.out _ _ S2.out ?_;clear hK K;try simp only[nm]
 refine Rl 5 rfl fun K hK=>?_
 go_simp;have S3:=Hd (S2.out.alloc S2.out.size (.cells #[.int .u64 h,.int .u64 y] 44));have R3:=Hd (Row.new w2 44 [.int .u64 h,.int .u64 y]);refine hK.out _ _ S3.out ?_;clear hK K;try simp only[nm]
 refine Rl 6 rfl fun K hK=>?_
 go_simp;refine(Xk7 _ 2 _ [h,y] _ _ R3.out.sees0 (by simp[maxLen]) HW.out).mono ?_;rintro e w4 ⟨rfl,rfl⟩;rw[HE.out];refine hK.out _ _ S3.out ?_;clear hK K;try simp only[nm]
 refine Tk 7 rfl ?_ S3.out ?_ ⟨?_,rfl⟩
 ·intro w hw;(try dsimp only at hw);go_simp;try with_reducible rfl
 try simp only[nm]
 refine wpAnyH_done (by kernel_rfl) ?_ _;have B3:=Hd (B0.out.trans (S3.out.mono B0.out.size));clear S1 S2 S3 R3 HS RB HLT;generalize w2.alloc (.cells #[.int .u64 h,.int .u64 y] 44)=w3 at *;go_wp2_with fail;refine(Xk7 _ 2 _ [k,1] _ _ (Row.new' w3 44 [.int .u64 k,.int .u64 1] rfl).sees0 (by simp[maxLen]) HW2.out).mono ?_;rintro e w4 ⟨rfl,rfl⟩;rw[HE2.out];go_wp2_with fail;refine(XT.out _).mono ?_;rintro e w5 ⟨rfl,hb⟩;have B4:=B3.out.alloc B3.out.size (.cells #[.int .u64 k,.int .u64 1] 44);have B5:=Hd (B4.trans (hb.mono B4.size));clear hb B4;go_wp2;go_ret;exact⟨rfl,B5.out⟩
theorem Xp9{zs:List Int}(hb:Bytes zs)(j:Nat):Bytes (zs.drop j):=by
 intro i;have:=hb (j+i);simpa [List.getD_eq_getElem?_getD]using this
theorem Xth(zs:List Int)(hb:Bytes zs)(k j:Nat)(hk:k+1+j≤8) :
 IntKind.u64.wrap (IntKind.u64.wrap (256*num (zs.drop (k+1)) j)+IntKind.u64.wrap (zs.getD k 0))=num (zs.drop k) (j+1):=by
 have h:=hb k;have hn:=Xfw (zs.drop (k+1)) (Xp9 hb _) j;have e:num (zs.drop k) (j+1)=zs.getD k 0+256*num (zs.drop (k+1)) j:=by
  rw[Xqf,List.drop_drop];simp[List.getD_eq_getElem?_getD]
 rw[e];have hp:(256:Int) ^ j≤72057594037927936:=by
  have h1:(256:Nat) ^ j≤256 ^ 7:=Nat.pow_le_pow_right (by omega) (by omega);have h2:((256 ^ j:Nat):Int)=(256:Int) ^ j:=by simp
  omega
 generalize num (zs.drop (k+1)) j=p at *;generalize zs.getD k 0=z at *;rw[u64_in (256*p) (by omega) (by omega),u64_in z (by omega) (by omega),u64_in _ (by omega) (by omega)];omega
theorem Xvi(A:Option Addr)(n c:Nat)(zs:List Int)(m:Int)(w:World)(S:Nat)
 (hx:Sees w S A n (bv zs)) (hn:n≤maxLen) (hb:Bytes zs) :
 Calls Tryz.prog 89 #[.slice A n c,.int .i64 m] w fun e w'=>e=.returned (.tuple #[.int .u64 (getN zs m).1,.int .i64 (getN zs m).2])∧w=w':=by
 unfold maxLen at hn;have lx:=Hd (show zs.length=n by have:=hx.len;rwa [bL]at this);by_cases hm:m<1∨8<m
 ·have hg:getN zs m=(0,1):=by simp[getN,hm]
  have HG:=Hd hg;clear hg;rcases hm with hm | hm
  ·go_enter Tryz.func89,Tryz.ntmps89
   go_wp2;go_ret2
   exact⟨Xcu HG.out,rfl⟩
  ·have h2:¬m<1:=by omega
   go_enter Tryz.func89,Tryz.ntmps89
   go_wp2;go_ret2
   exact⟨Xcu HG.out,rfl⟩
 ·have hm1:¬m<1:=by omega
  have hm2:¬8<m:=by omega
  by_cases hl:(n:Int)<m
  ·have hg:getN zs m=(0,5):=by simp[getN,hm];rw[lx.out];exact hl
   have HG:=Hd hg;clear hg hm;go_enter Tryz.func89,Tryz.ntmps89
   go_wp2;go_ret2
   exact⟨Xcu HG.out,rfl⟩
  ·obtain⟨mm,rfl⟩:=Int.eq_ofNat_of_zero_le (show 0≤m by omega);have hg:getN zs mm=(num zs mm,0):=by simp[getN,hm];rw[lx.out];omega
   have hm8:mm≤8:=by omega
   have hm1:1≤mm:=by omega
   have hmn:mm≤n:=by omega
   have HG:=Hd hg;clear hg hm hl hm2;go_enter Tryz.func89,Tryz.ntmps89
   go_wp2;go_loop [6,7] (fun v i=>∃(k:Nat),k≤mm∧i=.int .i64 ((k:Int) - 1)∧v=.int .u64 (num (zs.drop k) (mm - k))) (fun _ i=>(intOf i+1).toNat)
   case atStart=>exact⟨mm,Lr _,rfl,by simp[num]⟩
   case round =>
    obtain⟨k,hk,rfl,rfl⟩:=hrel;by_cases hlt:0<k
    ·obtain⟨k,rfl⟩:∃j,k=j+1:=⟨k - 1,by omega⟩;obtain⟨a,rfl,ha,hca⟩:=hx.byte (k:=k) (by omega);have HS:=Hd (Xth zs hb k (mm - (k+1)) (by omega));generalize zs.getD k 0=z at *;generalize num (zs.drop (k+1)) (mm - (k+1))=p at *;have hc1:(((k+1:Nat):Int) - 1)=(k:Int):=by omega
     rw[hc1];clear hc1;go_wp2;go_round
     case rel=>exact⟨k,by omega,by go_num,by rw[HS.out,show mm - (k+1)+1=mm - k by omega]⟩
     case measure=>simp[intOf]
    ·have hk0:k=0:=by omega
     subst hk0;have hc1:(((0:Nat):Int) - 1) = -1:=by omega
     rw[hc1];clear hc1;go_wp2;go_ret2
     exact⟨Xcu HG.out,rfl⟩
end Go.Proofs.YtdgbodljmdcagaaGreatDoor
