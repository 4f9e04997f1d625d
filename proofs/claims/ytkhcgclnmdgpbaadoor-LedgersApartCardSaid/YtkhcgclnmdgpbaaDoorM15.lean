import Derived.Test.YtkhcgclnmdgpbaaDoorM14
set_option maxRecDepth 100000
set_option maxHeartbeats 16000000
set_option linter.unusedSimpArgs false
set_option linter.unusedVariables false
namespace Go.Proofs.YtkhcgclnmdgpbaaDoor
theorem Xsu{n t i:Nat}(hi:i<n):∃j,j<n∧(j+t) % n=i:=by
 refine⟨(i+(n - t % n)) % n,Nat.mod_lt _ (by omega),?_⟩;rw[Nat.mod_add_mod];have h1:=Nat.div_add_mod t n;have h2:=Nat.mod_lt t (show 0<n by omega);have h3:i+(n - t % n)+t=i+n*(1+t / n):=by
  rw[Nat.mul_add,Nat.mul_one];omega
 rw[h3,Nat.add_mul_mod_self_left,Nat.mod_eq_of_lt hi]
theorem Xl3{n t i:Nat}(hi:i<n):∃j,j<n∧(n - 1 - j+t) % n=i:=by
 obtain⟨j,hj,e⟩:=Xsu (t:=t) hi;exact⟨n - 1 - j,by omega,by rw[show n - 1 - (n - 1 - j)=j by omega];exact e⟩
structure Free2_16(L:List LHold)(F:List (YRaw × LReady)):Prop where
 f:∀p ∈ F,RdF16 p.2
 pay:∀p ∈ F,pay15 L p.2=true
 ap:Apart16 F
section
variable{L:List LHold}{F:List (YRaw × LReady)}
theorem Free2_16.ch(h:Free2_16 L F)(hs:Sto L){p:YRaw × LReady}(hp:p ∈ F):ChOk16 p.2 (ch16 L p.2):=
 Xfa (h.f p hp).key (Xdm hs (h.pay p hp) (h.f p hp)) (h.f p hp).ins
theorem Free2_16.far(h:Free2_16 L F)(hs:Sto L){i j:Nat}{y x:YRaw × LReady}(hij:i<j)(hy:F[i]?=some y)(hx:F[j]?=some x):(∀k ∈ ch16 L y.2,∀s ∈ x.2.roles,s.key≠k.k)∧(∀k ∈ ch16 L x.2,∀s ∈ y.2.roles,s.key≠k.k):=by
 have hc:=Xki (h.ap j i x y hij hx hy);refine⟨fun k hk s hsr=>?_,fun k hk s hsr=>?_⟩
 ·obtain⟨r,hr,hw,e⟩:=(h.ch hs (List.mem_of_getElem? hy)).key k hk;rw[←e];exact hc.1 r hr hw s hsr
 ·obtain⟨r,hr,hw,e⟩:=(h.ch hs (List.mem_of_getElem? hx)).key k hk;rw[←e];exact hc.2 r hr hw s hsr
theorem Free2_16.agree(h:Free2_16 L F)(hs:Sto L):Agree16 (F.map fun p=>ch16 L p.2):=fun A hA B hB k a b ha hb=>by
 obtain⟨x,hx,rfl⟩:=List.mem_map.1 hA;obtain⟨y,hy,rfl⟩:=List.mem_map.1 hB;obtain⟨i,hi,e1⟩:=List.getElem_of_mem hx;obtain⟨j,hj,e2⟩:=List.getElem_of_mem hy;have hxi:F[i]?=some x:=by rw[List.getElem?_eq_getElem hi,e1]
 have hyj:F[j]?=some y:=by rw[List.getElem?_eq_getElem hj,e2]
 obtain⟨p,hp,ep⟩:=Xgx ha;obtain⟨q,hq,eq⟩:=Xgx hb;obtain⟨r,hr,_,er⟩:=(h.ch hs hx).key p hp;obtain⟨s,hsr,_,es⟩:=(h.ch hs hy).key q hq;rcases Nat.lt_trichotomy i j with hij | rfl | hij
 ·exact absurd (es.trans (eq.trans ep.symm)) ((h.far hs hij hxi hyj).1 p hp s hsr)
 ·obtain rfl:x=y:=Option.some.inj (hxi.symm.trans hyj);rw[ha]at hb;exact Option.some.inj hb
 ·exact absurd (er.trans (ep.trans eq.symm)) ((h.far hs hij hyj hxi).1 q hq r hr)
theorem Free2_16.oks(h:Free2_16 L F)(hs:Sto L):∀B ∈ F.map fun p=>ch16 L p.2,∀k ∈ B,HoldOk k:=fun B hB k hk=>by
 obtain⟨x,hx,rfl⟩:=List.mem_map.1 hB;exact(h.ch hs hx).ok k hk
theorem Free2_16.fold(h:Free2_16 L F)(hs:Sto L) :
 ((∀p ∈ F,(run15 p.2 (load15 L p.2)).2=0)→(fold16 (F.map (·.2)) ⟨[],0,0,L⟩).outs=F.map (fun p=>(run15 p.2 (load15 L p.2)).1)∧(fold16 (F.map (·.2)) ⟨[],0,0,L⟩).e=0∧(fold16 (F.map (·.2)) ⟨[],0,0,L⟩).L=commit16 L (F.map fun p=>ch16 L p.2).flatten) ∧
 ((¬∀p ∈ F,(run15 p.2 (load15 L p.2)).2=0)→(fold16 (F.map (·.2)) ⟨[],0,0,L⟩).e=1):=by
 have hm:=Xg5 hs (F.map (·.2)) [] ⟨[],0,0,L⟩ rfl rfl (fun k hk=>by cases hk) (fun x hx=>by
  obtain⟨p,hp,rfl⟩:=List.mem_map.1 hx;exact⟨h.f p hp,h.pay p hp⟩) (fun x hx k hk=>by cases hk) (by
  rw[List.pairwise_iff_getElem];intro i j hi hj hij;rw[List.getElem_map,List.getElem_map];exact(h.far hs hij (List.getElem?_eq_getElem (by simpa using hi)) (List.getElem?_eq_getElem (by simpa using hj))).1)
 refine⟨fun ha=>?_,fun hn=>hm.2 fun ha=>hn fun p hp=>ha _ (List.mem_map.2 ⟨p,hp,rfl⟩)⟩;obtain⟨h1,h2,h3⟩:=hm.1 fun x hx=>by
  obtain⟨p,hp,rfl⟩:=List.mem_map.1 hx;exact ha p hp
 refine⟨?_,h2,?_⟩
 ·rw[h1,List.nil_append,List.map_map];rfl
 ·rw[h3,List.nil_append,List.map_map];rfl
theorem Free2_16.any(h:Free2_16 L F)(hs:Sto L){n t:Nat}(hn:F.length=n){Ps:List (List LHold)}(hl:Ps.length=n)(hp:∀j,j<n→∃p,F[(n - 1 - j+t) % n]?=some p∧Ps[j]?=some (ch16 L p.2)):commit16 L Ps.flatten=commit16 L (F.map fun p=>ch16 L p.2).flatten:=by
 refine Xiz hs (h.oks hs) (h.agree hs) (fun P hP=>?_) fun B hB=>?_
 ·obtain⟨j,hj,rfl⟩:=List.getElem_of_mem hP;obtain⟨p,hp1,hp2⟩:=hp j (by omega);rw[List.getElem?_eq_getElem hj]at hp2;rw[Option.some.inj hp2];exact List.mem_map.2 ⟨p,List.mem_of_getElem? hp1,rfl⟩
 ·obtain⟨x,hx,rfl⟩:=List.mem_map.1 hB;obtain⟨i,hi,e⟩:=List.getElem_of_mem hx;obtain⟨j,hj,ej⟩:=Xl3 (t:=t) (show i<n by omega);obtain⟨p,hp1,hp2⟩:=hp j hj;rw[ej,List.getElem?_eq_getElem hi,e]at hp1;obtain rfl:=Option.some.inj hp1;exact List.mem_of_getElem? hp2
end
theorem Xh6:∀{a b:List (List Int)},a.Nodup→(∀x ∈ a,x ∈ b)→a.length≤b.length
 | [],_,_,_=>Nat.zero_le _
 | x::a,b,h,hs=>by
  obtain⟨h1,h2⟩:=List.nodup_cons.1 h;have hx:x ∈ b:=hs x List.mem_cons_self;have ih:=Xh6 (b:=b.erase x) h2 (fun y hy=>(List.mem_erase_of_ne (fun e=>by subst e;exact h1 hy)).2 (hs y (List.mem_cons_of_mem _ hy)));rw[List.length_erase_of_mem hx]at ih;have:=List.length_pos_of_mem hx;rw[List.length_cons];omega
theorem Xfj:∀{ch L:List LHold} {x:LHold},x ∈ commit16 L ch→x.k ∈ L.map LHold.k++ch.map LHold.k
 | [],L,x,h=>List.mem_append_left _ (List.mem_map.2 ⟨x,h,rfl⟩)
 | h::r,L,x,hx=>by
  rw[Xc1]at hx;rcases List.mem_append.1 (Xfj hx)with h1 | h1
  ·obtain⟨y,hy,e⟩:=List.mem_map.1 h1;rw[←e];rcases Xc7.1 hy with⟨hy,_⟩ | ⟨_,rfl⟩
   ·exact List.mem_append_left _ (List.mem_map.2 ⟨y,hy,rfl⟩)
   ·exact List.mem_append_right _ List.mem_cons_self
  ·exact List.mem_append_right _ (List.mem_cons_of_mem _ h1)
theorem Xhy(q:YRaw × LReady)(r:List (YRaw × LReady)):sum16 (q::r)=(q.2.roles.length+q.2.tx.m.ins.length)+sum16 r:=by
 unfold sum16;rw[List.map_cons,List.sum_cons]
theorem Xoq{F:List (YRaw × LReady)}{p:YRaw × LReady}(h:p ∈ F):p.2.roles.length≤sum16 F:=by
 induction F with
 | nil=>cases h
 | cons q r ih =>
  rw[Xhy];rcases List.mem_cons.1 h with rfl | h
  ·omega
  ·have:=ih h;omega
theorem Xmv{L:List LHold}{F:List (YRaw × LReady)}(h:∀p ∈ F,(ch16 L p.2).length≤p.2.roles.length):(F.map fun p=>ch16 L p.2).flatten.length≤sum16 F:=by
 induction F with
 | nil=>exact Nat.zero_le _
 | cons q r ih =>
  have h1:=ih fun p hp=>h p (List.mem_cons_of_mem _ hp)
  have h2:=h q List.mem_cons_self;rw[Xhy,List.map_cons,List.flatten_cons,List.length_append];omega
section
variable{L:List LHold}{F:List (YRaw × LReady)}
theorem Free2_16.bound(h:Free2_16 L F)(hs:Sto L){Ps:List (List LHold)}(hp:∀P ∈ Ps,∃p ∈ F,P=ch16 L p.2):(commit16 L Ps.flatten).length≤L.length+sum16 F:=by
 have hok:∀k ∈ Ps.flatten,HoldOk k:=fun k hk=>by
  obtain⟨P,hP,hkP⟩:=List.mem_flatten.1 hk;obtain⟨p,hpF,rfl⟩:=hp P hP;exact(h.ch hs hpF).ok k hkP
 have h1:=Xcc hs hok;have h2:((commit16 L Ps.flatten).map LHold.k).Nodup:=by
  rw[List.Nodup,List.pairwise_map];exact h1.rise.imp fun e=>Xei e
 have h3:=Xh6 h2 (b:=L.map LHold.k++(F.map fun p=>ch16 L p.2).flatten.map LHold.k) fun k hk=>by
  obtain⟨x,hx,rfl⟩:=List.mem_map.1 hk;rcases List.mem_append.1 (Xfj hx)with h4 | h4
  ·exact List.mem_append_left _ h4
  ·obtain⟨y,hy,e⟩:=List.mem_map.1 h4;obtain⟨P,hP,hyP⟩:=List.mem_flatten.1 hy;obtain⟨p,hpF,rfl⟩:=hp P hP;exact List.mem_append_right _ (List.mem_map.2 ⟨y,List.mem_flatten.2 ⟨_,List.mem_map.2 ⟨p,hpF,rfl⟩,hyP⟩,e⟩)
 rw[List.length_append,List.length_map,List.length_map,List.length_map]at h3;have h4:=Xmv (L:=L) (F:=F) fun p hpF=>(h.ch hs hpF).len
 omega
theorem Free2_16.bound1(h:Free2_16 L F)(hs:Sto L){p:YRaw × LReady}(hp:p ∈ F):(ch16 L p.2).length≤sum16 F:=
 Lq (h.ch hs hp).len (Xoq hp)
end
open Go.RowKit
theorem Xj5:∀(r:List LReady) (S:F16),(∀x ∈ r,RdF16 x)→Sto S.L→(∀o ∈ S.outs,∀h ∈ o.ch,HoldOk h)→∀o ∈ (fold16 r S).outs,∀h ∈ o.ch,HoldOk h
 | [],S,_,_,h=>h
 | x::r,S,hx,hs,h=>by
  rw[Xbg];by_cases h0:(apply16 S.L x).1.2=0
  ·rw[if_pos h0];obtain⟨_,_,h3,_,h5⟩:=Xd2 hs (hx x (by simp)) h0;refine Xj5 r _ (fun y hy=>hx y (by simp[hy])) (Xdf hs (hx x (by simp))).1 fun o ho=>?_
   rcases List.mem_append.1 ho with ho | ho
   ·exact h o ho
   ·rw[List.mem_singleton.1 ho,h3];exact h5.ok
  ·rw[if_neg h0];exact h
theorem Xe5:∀(r:List LReady) (S:F16),(∀x ∈ r,RdF16 x)→Sto S.L→(fold16 r S).L.length≤S.L.length+(r.map fun x=>x.roles.length).sum
 | [],S,_,_=>by simp[fold16]
 | x::r,S,hx,hs=>by
  rw[Xbg];have hx0:=hx x (by simp);have ha:=Xdf hs hx0;by_cases h0:(apply16 S.L x).1.2=0
  ·rw[if_pos h0];have h1:=Xe5 r ⟨S.outs++[(apply16 S.L x).1.1],sat16 (S.fees+(apply16 S.L x).1.1.fee),0,(apply16 S.L x).2⟩ (fun y hy=>hx y (by simp[hy])) ha.1;have h2:=ha.2;simp only[List.map_cons,List.sum_cons];have h3:(⟨S.outs++[(apply16 S.L x).1.1],sat16 (S.fees+(apply16 S.L x).1.1.fee),0,(apply16 S.L x).2⟩:F16).L.length=(apply16 S.L x).2.length:=rfl;omega
  ·rw[if_neg h0];simp only[List.map_cons,List.sum_cons];show S.L.length≤_
   omega
structure OutsIn16(w:World)(B:Nat)(A:Option Addr)(n:Nat)(os:List (LOut × Option Addr)):Prop where
 cs:CsIn 6 w B A n (os.map oC16)
 hol:∀p ∈ os,CsIn 66 w B p.2 p.1.ch.length (p.1.ch.map LHold.cells)
theorem OutsIn16.keep{w w':World}{B n:Nat}{A:Option Addr}{os:List (LOut × Option Addr)}(h:OutsIn16 w B A n os)(hk:∀p:Addr,p.block<B→w'.cell? p=w.cell? p):OutsIn16 w' B A n os:=⟨h.cs.keep hk,fun p hp=>(h.hol p hp).keep hk⟩
theorem OutsIn16.below{w w':World}{B n:Nat}{A:Option Addr}{os:List (LOut × Option Addr)}(h:OutsIn16 w B A n os)(hb:Below B w w'):OutsIn16 w' B A n os:=h.keep fun _ hp=>hb.cell hp
theorem OutsIn16.more{w:World}{B B' n:Nat}{A:Option Addr}{os:List (LOut × Option Addr)}(h:OutsIn16 w B A n os)(hB:B≤B'):OutsIn16 w B' A n os:=⟨h.cs.more hB,fun p hp=>(h.hol p hp).more hB⟩
theorem Xpf{w:World}{base b2 c:Nat}{A:Option Addr}{os:List (LOut × Option Addr)}(h:w.ownsRow base 60 6 (.slice A os.length c) os.length (osC16 os))(hh:∀p ∈ os,Hol16 w b2 p)(ho:∀p ∈ os,∀x ∈ p.1.ch,HoldOk x):OutsIn16 w w.heap.size A os.length os:=
 ⟨Xmb h (List.length_map _) (fun k hk=>by obtain⟨p,_,rfl⟩:=List.mem_map.1 hk;rfl) (by omega),fun p hp=>by obtain⟨c',hc⟩:=hh p hp;exact Xh7 hc (ho p hp)⟩
theorem Xnn(os ps:List (LOut × Option Addr))(A B:Option Addr)(n c d:Nat)(w:World)(hx:OutsIn16 w w.heap.size A n os)(hy:OutsIn16 w w.heap.size B n ps)(he:os.map (·.1)=ps.map (·.1))(ho:∀p ∈ os,∀x ∈ p.1.ch,HoldOk x)(hm:∀p ∈ os,p.1.ch.length≤100000)(hn:n≤100000) :
 Calls Tryd.prog 13 #[.slice A n c,.slice B n d] w fun e w'=>e=.returned (.bool true)∧Below w.heap.size w w':=by
 have HX:=Hd hx;have HY:=Hd hy;have HO:=Hd ho;have HM:=Hd hm;have HLN:Hid (os.length=n∧ps.length=n):=Hd ⟨by have:=hx.cs.len;rwa [List.length_map]at this,by have:=hy.cs.len;rwa [List.length_map]at this⟩;have HE:Hid (∀(k:Nat) (p r:LOut × Option Addr),os[k]?=some p→ps[k]?=some r→p.1=r.1):=Hd fun k p r hp hr=>by
  have h1:(os.map (·.1))[k]?=(ps.map (·.1))[k]?:=by rw[he]
  rw[List.getElem?_map,List.getElem?_map,hp,hr]at h1;exact Option.some.inj h1
 clear hx hy ho hm he;go_enter Tryd.func13,Tryd.ntmps13
 go_wp2_with fail;go_loopw [5] (fun i wr=>∃k:Nat,k≤n∧i=.int .i64 k∧Below w.heap.size w wr) (fun i _=>n - (intOf i).toNat)
 case atStart=>exact⟨0,Nat.zero_le _,rfl,Br _ _⟩
 case round =>
  obtain⟨k,hk,rfl,hb⟩:=hrel;have BW:=Hd hb;clear hb;rename World=>wr
  by_cases hlt:k<n
  ·have hlt':(k:Int)<n:=by omega
   obtain⟨⟨o,A1⟩,hp⟩:∃p,os[k]?=some p:=⟨_,List.getElem?_eq_getElem (by rw[HLN.out.1];exact hlt)⟩;obtain⟨⟨o2,B1⟩,hr⟩:∃p,ps[k]?=some p:=⟨_,List.getElem?_eq_getElem (by rw[HLN.out.2];exact hlt)⟩;obtain rfl:o=o2:=HE.out k _ _ hp hr;have hmx:=List.mem_of_getElem? hp;have hmy:=List.mem_of_getElem? hr;obtain⟨a,xs,ea,hab,hxs,_,hcs⟩:=HX.out.cs.get hlt (by omega);obtain⟨b,ys,eb,hbb,hys,_,hds⟩:=HY.out.cs.get hlt (by omega);rw[List.getElem?_map,hp]at hxs;rw[List.getElem?_map,hr]at hys;obtain rfl:oC16 (o,A1)=xs:=Option.some.inj hxs;obtain rfl:oC16 (o,B1)=ys:=Option.some.inj hys;have HH1:=Hd (HX.out.hol _ hmx);have HH2:=Hd (HY.out.hol _ hmy);have HOK:Hid (HolsOk o.ch):=Hd fun x hx=>⟨(HO.out _ hmx x hx).k.1,(HO.out _ hmx x hx).a.o.1⟩
   have HCL:=Hd (HM.out _ hmx);have HCX:Hid (∀V,Below w.heap.size w V→∀j u,(oC16 (o,A1))[j]?=some u→V.cell? ((a.add (k*6)).add j)=some u):=Hd fun V hV j u hu=>(hV.cell (by rw[Xab,Xab];exact hab)).trans (hcs j u hu)
   have HDX:Hid (∀V,Below w.heap.size w V→∀j u,(oC16 (o,B1))[j]?=some u→V.cell? ((b.add (k*6)).add j)=some u):=Hd fun V hV j u hu=>(hV.cell (by rw[Xab,Xab];exact hbb)).trans (hds j u hu)
   subst ea eb;clear hp hr hmx hmy hab hbb hxs hys hcs hds;go_upto_region 6 with fail
   have SB:=Hd (show Below w.heap.size w wr.drew from BW.out.drew);refine wp_region_held_drew (S:=fun V=>Below w.heap.size w V) (by kernel_rfl) SB.out (fun _=>?_);try dsimp only[List.append]
   clear BW;generalize wr.drew=wd at *;refine Tk 0 rfl ?_ SB.out ?_ ⟨?_,rfl⟩
   ·intro w hw;(try dsimp only at hw);go_simp;try with_reducible rfl
   try simp only[nm]
   refine Tk 1 rfl ?_ SB.out ?_ ⟨?_,rfl⟩
   ·intro w hw;(try dsimp only at hw);go_simp;try with_reducible rfl
   try simp only[nm]
   refine Tk 2 rfl ?_ SB.out ?_ ⟨?_,rfl⟩
   ·intro w hw;(try dsimp only at hw);go_simp;try with_reducible rfl
   try simp only[nm]
   refine Tl 3 (v:=.agg (oC16 (o,A1)).toArray) rfl (Or.inl ⟨by rfl,fun wz hwz=>Xa4 wz 60 (.tmp 19) rfl (a.add (k*6)) (oC16 (o,A1)) _ Tryd.underlying60 rfl (Xag _ _) (HCX.out wz hwz) (by go_simp)⟩) SB.out ?_;try simp only[nm]
   refine Tk 4 rfl ?_ SB.out ?_ ⟨?_,rfl⟩
   ·intro w hw;(try dsimp only at hw);go_simp;try with_reducible rfl
   try simp only[nm]
   refine Tk 5 rfl ?_ SB.out ?_ ⟨?_,rfl⟩
   ·intro w hw;(try dsimp only at hw);go_simp;try with_reducible rfl
   try simp only[nm]
   refine Tk 6 rfl ?_ SB.out ?_ ⟨?_,rfl⟩
   ·intro w hw;(try dsimp only at hw);go_simp;try with_reducible rfl
   try simp only[nm]
   refine Tl 7 (v:=.agg (oC16 (o,B1)).toArray) rfl (Or.inl ⟨by rfl,fun wz hwz=>Xa4 wz 60 (.tmp 23) rfl (b.add (k*6)) (oC16 (o,B1)) _ Tryd.underlying60 rfl (Xag _ _) (HDX.out wz hwz) (by go_simp)⟩) SB.out ?_;try simp only[nm]
   refine Rl 8 rfl fun K hK=>?_
   go_simp;refine(Xor o A1 B1 o.ch.length o.ch.length o.ch.length w.heap.size w.heap.size wd (HH1.out.below SB.out) SB.out.size (HH2.out.below SB.out) SB.out.size HOK.out (by have:=HCL.out;have h2:o.ch.length≤100000:=this;unfold maxLen;omega)).mono ?_;rintro e w1 ⟨rfl,hb1⟩;have SB:=Hd (SB.out.trans (hb1.mono SB.out.size));clear hb1;refine hK.out _ _ SB.out ?_;clear hK K;try simp only[nm]
   refine Tk 9 rfl ?_ SB.out ?_ ⟨?_,rfl⟩
   ·intro w hw;(try dsimp only at hw);go_simp;try with_reducible rfl
   try simp only[nm]
   refine wpAnyH_done (by kernel_rfl) ?_ _;go_wp2_with fail;go_roundw
   case rel=>exact⟨k+1,by omega,by go_num,SB.out⟩
   case measure=>simp[intOf];omega
  ·have hke:k=n:=by omega
   have hlt':¬(k:Int)<n:=by omega
   go_wp2_with fail;go_ret;exact⟨rfl,BW.out⟩
theorem Xh0(l:List (YRaw × LReady)):((l.map (·.2)).map fun x=>x.roles.length).sum≤sum16 l:=by
 induction l with
 | nil=>simp[sum16]
 | cons p r ih =>
  have e:sum16 (p::r)=(p.2.roles.length+p.2.tx.m.ins.length)+sum16 r:=by simp[sum16]
  rw[e];simp only[List.map_cons,List.sum_cons];omega
theorem Xds(a b:List (YRaw × LReady)):sum16 (a++b)=sum16 a+sum16 b:=by simp[sum16]
theorem Xhz(l:List (YRaw × LReady))(k:Nat):sum16 (l.take k)≤sum16 l∧sum16 (l.drop k)≤sum16 l:=by
 have:=Xds (l.take k) (l.drop k);rw[List.take_append_drop]at this;omega
theorem hlen16{L:List LHold}{l:List (YRaw × LReady)}(hs:Sto L)(hp:∀(k:Nat) (p:YRaw × LReady),l[k]?=some p→RdP16 p.1 p.2)(hL:L.length≤1000)(h:sum16 l≤800):(∀(k:Nat) (p:YRaw × LReady),l[k]?=some p→(sto16 L l k).length+p.1.rn≤5000)∧(fold16 (l.map (·.2)) ⟨[],0,0,L⟩).L.length≤L.length+sum16 l:=by
 have hf:∀x ∈ l.map (·.2),RdF16 x:=fun x hx=>by
  obtain⟨q,hq,rfl⟩:=List.mem_map.1 hx;obtain⟨i,hi,rfl⟩:=List.getElem_of_mem hq;exact(hp i _ (List.getElem?_eq_getElem hi)).f
 refine⟨fun k p hk=>?_,?_⟩
 ·have h1:=Xe5 ((l.take k).map (·.2)) ⟨[],0,0,L⟩ (fun x hx=>hf x (by
   obtain⟨q,hq,rfl⟩:=List.mem_map.1 hx;exact List.mem_map.2 ⟨q,List.mem_of_mem_take hq,rfl⟩)) hs
  have h2:=Xh0 (l.take k);have h3:=(Xhz l k).1;have h4:=(hp k p hk).rn;have h5:(sto16 L l k).length≤L.length+(((l.take k).map (·.2)).map fun x=>x.roles.length).sum:=h1;omega
 ·have h1:=Xe5 (l.map (·.2)) ⟨[],0,0,L⟩ hf hs;have h2:=Xh0 l;have h3:(fold16 (l.map (·.2)) ⟨[],0,0,L⟩).L.length≤L.length+((l.map (·.2)).map fun x=>x.roles.length).sum:=h1;omega
theorem Xkc:∀(r:List LReady) (S:F16),(∀x ∈ r,RdF16 x)→Sto S.L→(∀x ∈ r,x.roles.length≤100000)→(∀o ∈ S.outs,o.ch.length≤100000)→∀o ∈ (fold16 r S).outs,o.ch.length≤100000
 | [],S,_,_,_,h=>h
 | x::r,S,hx,hs,hn,h=>by
  rw[Xbg];by_cases h0:(apply16 S.L x).1.2=0
  ·rw[if_pos h0];obtain⟨_,_,h3,_,h5⟩:=Xd2 hs (hx x (by simp)) h0;refine Xkc r _ (fun y hy=>hx y (by simp[hy])) (Xdf hs (hx x (by simp))).1 (fun y hy=>hn y (by simp[hy])) fun o ho=>?_
   rcases List.mem_append.1 ho with ho | ho
   ·exact h o ho
   ·rw[List.mem_singleton.1 ho,h3];exact Lq h5.len (hn x (by simp))
  ·rw[if_neg h0];exact h
def rdC16(F:List (YRaw × LReady)):List Value:=(F.map fun p=>p.1.cells p.2).flatten
theorem Xmg(F:List (YRaw × LReady))(p:YRaw × LReady):rdC16 (F++[p])=rdC16 F++p.1.cells p.2:=by simp[rdC16]
theorem Xpl(F:List (YRaw × LReady)):∀u ∈ rdC16 F,u.oneCell'=true:=fun u hu=>by
 obtain⟨l,hl,hu⟩:=List.mem_flatten.1 hu;obtain⟨p,_,rfl⟩:=List.mem_map.1 hl;exact Xfu u hu
structure Free16(w:World)(base:Nat)(v:Value)(rs F:List (YRaw × LReady)):Prop where
 own:w.ownsRow base 48 48 v F.length (rdC16 F)
 mem:∀p ∈ F,p ∈ rs
section
variable{w w':World}{base:Nat}{v:Value}{rs F:List (YRaw × LReady)}
theorem Free16.nil(w:World)(base:Nat)(rs:List (YRaw × LReady)):Free16 w base (.slice none 0 0) rs []:=⟨Xcg _ _ _ _,fun p hp=>by cases hp⟩
theorem Free16.below(h:Free16 w base v rs F)(hb:Below w.heap.size w w'):Free16 w' base v rs F:=⟨Xaa h.own hb,h.mem⟩
theorem Free16.form(h:Free16 w base v rs F):∃A c,v=.slice A F.length c∧F.length≤c∧c≤maxLen∧Sees w w.heap.size A (F.length*48) (rdC16 F):=by
 obtain⟨A,c,e,hs,h1,h2,_⟩:=Xan h.own;exact⟨A,c,e,h1,h2,hs⟩
theorem Free16.rds{A:Option Addr}{c:Nat}(h:Free16 w base (.slice A F.length c) rs F)(hr:∀p ∈ rs,ReadyIn w w.heap.size p.1 p.2):RdsIn w w.heap.size A F.length F:=
 Xi6 (Xmb h.own (List.length_map _) (fun k hk=>by
  obtain⟨p,hp,rfl⟩:=List.mem_map.1 hk;exact Xbv (hr p (h.mem p hp)).tx.m.recent) (by omega)) fun k p hp=>hr p (h.mem p (List.mem_of_getElem? hp))
end
theorem Xjh{w:World}{o:Oper}{a:Act}{K:Act→World→Prop}{Q:Exit→Act→World→Prop}(x:Operand)(ho:o.op=.call { callee:=.builtin .append,args:=#[.const (.slice none 0 0),x],argTypes:=#[23,23] }){base:Nat}{v:Value}{rs F:List (YRaw × LReady)}(h:Free16 w base v rs F)(hx:a.eval x=v)(hn:F.length≤1000)(hb:base≤w.heap.size)
 (k:∀v' w',Free16 w' base v' rs F→Free16 w' base v rs F→(∀g,v.ownBlock=some g→v'.ownBlock≠some g)→Below w.heap.size w w'→K (a.put o.dst v') w'):o.wp Tryd.prog a w K Q:=by
 obtain⟨A,c,rfl,h1,h2,hs⟩:=h.form;refine Xas (.const (.slice none 0 0)) x 23 48 _ 48 232 ho Tryd.underlying23 Xe2 Xf9 (by omega) (.slice none 0 0) 0 [] w.heap.size w.heap.size A F.length c (rdC16 F) rfl (Xcg _ _ _ _) hx hs (Xpl F) (by unfold maxLen;omega) (by omega) (Lr _) ?_;intro v' w' ho' hg;rw[Nat.zero_add,List.nil_append]at ho';have hbl:=hg.below (Xcg w w.heap.size 48 48) (Lr _);exact k v' w' ⟨Xc0 ho' hb,h.mem⟩ (h.below hbl) (fun g h3 h4=>by have h5:=(h.own.lt g h3).2;have h6:=(ho'.lt g h4).1;omega) hbl
theorem Xk3{w:World}{o:Oper}{a:Act}{K:Act→World→Prop}{Q:Exit→Act→World→Prop}{g:Nat}(s x:Operand)(ho:o.op=.call { callee:=.builtin .append,args:=#[s,x],argTypes:=#[23,23] }){base:Nat}{v u:Value}{rs F:List (YRaw × LReady)}{p:YRaw × LReady}(h:Free16 w base v rs F)(h2:Free16 w base u rs F)(hne:∀g,u.ownBlock=some g→v.ownBlock≠some g)(hs:a.eval s=v)(hx:a.eval x=.slice (some ⟨g,0,none⟩) 1 1)(hr:Row w g 48 (p.1.cells p.2))(hp:p ∈ rs)(h32:p.2.tx.m.recent.length=32)(hn:F.length≤1000)(hb:base≤w.heap.size)
 (k:∀v' w',Free16 w' base v' rs (F++[p])→Free16 w' base u rs F→Below base w w'→K (a.put o.dst v') w'):o.wp Tryd.prog a w K Q:=by
 have hs1:=hr.sees0;rw[Xbv h32]at hs1;refine Xas s x 23 48 _ 48 232 ho Tryd.underlying23 Xe2 Xf9 (by omega) v F.length (rdC16 F) base w.heap.size (some ⟨g,0,none⟩) 1 1 (p.1.cells p.2) hs h.own hx hs1 Xfu (by unfold maxLen;omega) (by omega) hb ?_;intro v' w' ho' hg;refine k v' w' ⟨by rw[Xmg,List.length_append];exact ho',fun y hy=>?_⟩ ⟨h2.own.kept hg.grown ?_,h2.mem⟩ (hg.below h.own hb)
 ·rcases List.mem_append.1 hy with hy | hy
  ·exact h.mem y hy
  ·rw[List.mem_singleton.1 hy];exact hp
 ·cases hub:u.ownBlock with
  | none=>exact .inl rfl
  | some g1 =>
   exact .inr fun e=>hne g1 hub e.symm
structure AW16(w V:World)(sb mb:Nat)(L:List LHold)(A:Option Addr)(n:Nat)(rs:List (YRaw × LReady)):Prop where
 b:Below w.heap.size w V
 s:StIn V sb mb L
 r:RdsIn V w.heap.size A n rs
theorem AW16.below{w V V':World}{sb mb n:Nat}{L:List LHold}{A:Option Addr}{rs:List (YRaw × LReady)}(h:AW16 w V sb mb L A n rs)(hb:Below V.heap.size V V'):AW16 w V' sb mb L A n rs:=⟨h.b.trans (hb.mono h.b.size),h.s.below hb,h.r.below (hb.mono h.b.size)⟩
theorem AW16.ready{w V:World}{sb mb n:Nat}{L:List LHold}{A:Option Addr}{rs:List (YRaw × LReady)}(h:AW16 w V sb mb L A n rs):∀p ∈ rs,ReadyIn V V.heap.size p.1 p.2:=fun p hp=>by
 obtain⟨i,hi,rfl⟩:=List.getElem_of_mem hp;exact(h.r.each i _ (List.getElem?_eq_getElem hi)).more h.b.size
structure Ld16(V:World)(g base:Nat)(L:List LHold)(F:List (YRaw × LReady))(k:Nat)(vs:List Value):Prop where
 row:Row V g 49 vs
 len:vs.length=F.length
 each:∀(j:Nat) (p:YRaw × LReady),j<k→F[j]?=some p→∃gj cap rest,vs[j]?=some (.slice (some ⟨gj,0,none⟩) p.2.roles.length p.2.roles.length)∧OutAt V base gj cap p.2.roles.length rest (load15 L p.2)
 lt:g<base
section
variable{V V':World}{g base k:Nat}{L:List LHold}{F:List (YRaw × LReady)}{vs:List Value}
theorem Ld16.below(h:Ld16 V g base L F k vs)(hb:Below V.heap.size V V'):Ld16 V' g base L F k vs:=
 ⟨h.row.below hb h.row.lt,h.len,fun j p hj hp=>by
  obtain⟨gj,cap,rest,e,ho⟩:=h.each j p hj hp;exact⟨gj,cap,rest,e,ho.below hb⟩,h.lt⟩
theorem Ld16.set{p:YRaw × LReady}{gk cap:Nat}{rest:List Value}(h:Ld16 V g base L F k vs)(hp:F[k]?=some p)(ho:OutAt V base gk cap p.2.roles.length rest (load15 L p.2)) :
 Ld16 (V.setCell ⟨g,k,none⟩ (.slice (some ⟨gk,0,none⟩) p.2.roles.length p.2.roles.length)) g base L F (k+1) (vs.set k (.slice (some ⟨gk,0,none⟩) p.2.roles.length p.2.roles.length)):=by
 have hk:k<vs.length:=by rw[h.len];exact(List.getElem?_eq_some_iff.1 hp).1
 have hfar:∀{g2 cap:Nat} {n:Nat} {rest:List Value} {out:List LAcc},OutAt V base g2 cap n rest out→OutAt (V.setCell ⟨g,k,none⟩ (.slice (some ⟨gk,0,none⟩) p.2.roles.length p.2.roles.length)) base g2 cap n rest out:=fun {g2 cap n rest out} ho=>⟨ho.row.far (by have h1:=ho.lo;have h2:=h.lt;show g2≠g;omega) _,ho.lo,ho.len,ho.room,ho.all,ho.ok⟩
 refine⟨h.row.set_ k _,by rw[List.length_set];exact h.len,fun j q hj hq=>?_,h.lt⟩;rcases Nat.lt_succ_iff_lt_or_eq.1 hj with hj | rfl
 ·obtain⟨gj,cap',rest',e,ho'⟩:=h.each j q hj hq;exact⟨gj,cap',rest',by rw[List.getElem?_set_ne (by omega)];exact e,hfar ho'⟩
 ·obtain rfl:p=q:=Option.some.inj (hp.symm.trans hq);exact⟨gk,cap,rest,by rw[List.getElem?_set_self hk],hfar ho⟩
end
theorem Xm1{w:World}{g1 g2 t1 t2:Nat}{xs ys:List Value}(h1:Row w g1 t1 xs)(h2:Row w g2 t2 ys)(hne:t1≠t2):g1≠g2:=fun e=>by
 subst e;have h:=h1.is.symm.trans h2.is;simp only[Option.some.injEq,Obj.cells.injEq]at h;exact hne h.2.1
theorem Ld16.turned{V V':World}{g base k g2:Nat}{L:List LHold}{F:List (YRaw × LReady)}{vs cs:List Value}(h:Ld16 V g base L F k vs)(hr:Row V g2 60 cs)(ht:Turned V V' g2):Ld16 V' g base L F k vs:=
 ⟨⟨(ht.block g (Xm1 h.row hr (by decide))).trans h.row.is⟩,h.len,fun j p hj hp=>by
  obtain⟨gj,cap,rest,e,ho⟩:=h.each j p hj hp;exact⟨gj,cap,rest,e,⟨⟨(ht.block gj (Xm1 ho.row hr (by decide))).trans ho.row.is⟩,ho.lo,ho.len,ho.room,ho.all,ho.ok⟩⟩,h.lt⟩
theorem Xpv:(Tryd.prog.info? 49).map (fun i=>(i.zero,i.size,i.bytes))=some (some (.slice none 0 0),1,24):=by kernel_rfl
theorem Xo3{w:World}{base size n g:Nat}{e:TypeId}{xs:List Value}(h:w.ownsRow base e size (.slice (some ⟨g,0,none⟩) n n) n xs):Row w g e xs∧xs.length=n*size:=by
 refine⟨?_,h.1⟩;rcases h.2 with⟨hv,_⟩ | ⟨g',cap,cur,hv,_,hh,_,_,hs,ht⟩
 ·cases hv
 ·cases hv
  have:cur=xs.toArray:=by
   rw[←ht,List.take_of_length_le (by simp;omega)]
  exact⟨by rw[hh,this]⟩
structure Rn16(V:World)(g base:Nat)(L:List LHold)(F:List (YRaw × LReady))(t i:Nat)(cs:List Value):Prop where
 row:Row V g 60 cs
 len:cs.length=F.length*6
 each:∀(j:Nat) (p:YRaw × LReady),j<i→F[(j+t) % F.length]?=some p→∃A c,(∀m u,(oC16 ((run15 p.2 (load15 L p.2)).1,A))[m]?=some u→cs[(j+t) % F.length*6+m]?=some u)∧V.ownsRow base 78 66 (.slice A (ch16 L p.2).length c) (ch16 L p.2).length (holC (ch16 L p.2))
 lt:g<base
section
variable{V V':World}{g base t i:Nat}{L:List LHold}{F:List (YRaw × LReady)}{cs:List Value}
theorem Rn16.below(h:Rn16 V g base L F t i cs)(hb:Below V.heap.size V V'):Rn16 V' g base L F t i cs:=
 ⟨h.row.below hb h.row.lt,h.len,fun j p hj hp=>by
  obtain⟨A,c,h1,h2⟩:=h.each j p hj hp;exact⟨A,c,h1,Xaa h2 hb⟩,h.lt⟩
theorem Rn16.set{p:YRaw × LReady}{A:Option Addr}{c:Nat}(h:Rn16 V g base L F t i cs)(hp:F[(i+t) % F.length]?=some p)(ho:V.ownsRow base 78 66 (.slice A (ch16 L p.2).length c) (ch16 L p.2).length (holC (ch16 L p.2)))
 (hr:Row V' g 60 (cs.take ((i+t) % F.length*6)++oC16 ((run15 p.2 (load15 L p.2)).1,A)++cs.drop ((i+t) % F.length*6+(oC16 ((run15 p.2 (load15 L p.2)).1,A)).length))) (ht:Turned V V' g) :
 Rn16 V' g base L F t (i+1) (cs.take ((i+t) % F.length*6)++oC16 ((run15 p.2 (load15 L p.2)).1,A)++cs.drop ((i+t) % F.length*6+(oC16 ((run15 p.2 (load15 L p.2)).1,A)).length)):=by
 have hk:=(List.getElem?_eq_some_iff.1 hp).1;generalize hK:(i+t) % F.length=K at *;have hl:=h.len;have hKl:K*6+6≤cs.length:=by omega
 have hol:(oC16 ((run15 p.2 (load15 L p.2)).1,A)).length=6:=rfl;have hself:∀m u,(oC16 ((run15 p.2 (load15 L p.2)).1,A))[m]?=some u→(cs.take (K*6)++oC16 ((run15 p.2 (load15 L p.2)).1,A)++cs.drop (K*6+(oC16 ((run15 p.2 (load15 L p.2)).1,A)).length))[K*6+m]?=some u:=fun m u hu=>by
  have hm:=(List.getElem?_eq_some_iff.1 hu).1;have h1:(cs.take (K*6)).length=K*6:=by rw[List.length_take];omega
  rw[List.append_assoc,List.getElem?_append_right (by omega),h1,Nat.add_sub_cancel_left,List.getElem?_append_left hm];exact hu
 refine⟨hr,?_,fun j q hj hq=>?_,h.lt⟩
 ·rw[List.length_append,List.length_append,List.length_take,List.length_drop,hol];omega
 ·by_cases hjK:(j+t) % F.length=K
  ·rw[hjK]at hq ⊢;obtain rfl:p=q:=Option.some.inj (hp.symm.trans hq);exact⟨A,c,hself,Xa5 ho h.row (by decide) ht⟩
  ·have hj':j<i:=by
    rcases Nat.lt_succ_iff_lt_or_eq.1 hj with h1 | rfl
    ·exact h1
    ·exact absurd hK hjK
   obtain⟨A',c',h1,h2⟩:=h.each j q hj' hq;refine⟨A',c',fun m u hu=>?_,Xa5 h2 h.row (by decide) ht⟩;have hm:=(List.getElem?_eq_some_iff.1 hu).1;rw[Xrh]at hm;have h3:=h1 m u hu;generalize (j+t) % F.length=J at *;have h5:(cs.take (K*6)).length=K*6:=by rw[List.length_take];omega
   rcases Nat.lt_or_gt_of_ne hjK with h4 | h4
   ·rw[List.append_assoc,List.getElem?_append_left (by omega),List.getElem?_take_of_lt (by omega)];exact h3
   ·rw[List.getElem?_append_right (by rw[List.length_append,h5,hol];omega),List.length_append,h5,hol,List.getElem?_drop];rw[show K*6+6+(J*6+m - (K*6+6))=J*6+m by omega];exact h3
end
theorem Rn16.outs{V:World}{g base t:Nat}{L:List LHold}{F:List (YRaw × LReady)}{cs:List Value}(h:Rn16 V g base L F t F.length cs)(ok:∀p ∈ F,∀x ∈ ch16 L p.2,HoldOk x) :
 ∃ps:List (LOut × Option Addr),ps.map (·.1)=F.map (fun p=>(run15 p.2 (load15 L p.2)).1)∧OutsIn16 V V.heap.size (some ⟨g,0,none⟩) F.length ps:=by
 obtain⟨ps,hl,hp⟩:=Xc6 (α:=LOut × Option Addr) (p:=fun i z=>∃p c,F[i]?=some p∧z.1=(run15 p.2 (load15 L p.2)).1∧(∀m u,(oC16 z)[m]?=some u→cs[i*6+m]?=some u)∧V.ownsRow base 78 66 (.slice z.2 z.1.ch.length c) z.1.ch.length (holC z.1.ch)) F.length fun i hi=>by
  obtain⟨j,hj,e⟩:=Xsu (t:=t) hi;have hp:F[i]?=some F[i]:=List.getElem?_eq_getElem hi;obtain⟨A,c,h1,h2⟩:=h.each j F[i] hj (by rw[e];exact hp);rw[e]at h1;exact⟨((run15 F[i].2 (load15 L F[i].2)).1,A),F[i],c,hp,rfl,h1,h2⟩
 refine⟨ps,?_,Xhc (by omega) (by rw[List.length_map,hl]) fun i x hx=>?_,fun z hz=>?_⟩
 ·refine List.ext_getElem? fun i=>?_
  rw[List.getElem?_map,List.getElem?_map];by_cases hi:i<F.length
  ·have hz:ps[i]?=some ps[i]:=List.getElem?_eq_getElem (by omega);obtain⟨p,c,h1,h2,_⟩:=hp i _ hz;rw[hz,h1];show some ps[i].1=_
   rw[h2];rfl
  ·rw[List.getElem?_eq_none (by omega),List.getElem?_eq_none (by omega)];rfl
 ·rw[List.getElem?_map]at hx;obtain⟨z,hz,rfl⟩:=Option.map_eq_some_iff.1 hx;obtain⟨p,c,h1,h2,h3,_⟩:=hp i z hz;refine⟨rfl,_,rfl,h.row.lt,fun j u hu=>?_⟩;rw[Xac,Nat.zero_add,h.row.cell];exact h3 j u hu
 ·obtain⟨i,hi,e⟩:=List.getElem_of_mem hz;obtain⟨p,c,h1,h2,_,h4⟩:=hp i z (by rw[List.getElem?_eq_getElem hi,e]);exact Xh7 h4 (fun x hx=>ok p (List.mem_of_getElem? h1) x (by unfold ch16;rw[←h2];exact hx))
theorem Xq4(n:Nat):(madeCells (Value.slice none 0 0).cells (n*1)).toList.length=n:=by simp[madeCells]
structure AX16(w V:World)(B sb mb sc mc:Nat)(L L':List LHold)(FA:Option Addr)(fn:Nat)(F:List (YRaw × LReady))(A6:Option Addr)(os:List (LOut × Option Addr)):Prop where
 b:Below w.heap.size w V
 s:StIn V sb mb L'
 c:StIn V sc mc L
 r:RdsIn V B FA fn F
 o:OutsIn16 V B A6 fn os
theorem AX16.below{w V V':World}{B sb mb sc mc fn:Nat}{L L':List LHold}{F:List (YRaw × LReady)}{FA A6:Option Addr}{os:List (LOut × Option Addr)}(h:AX16 w V B sb mb sc mc L L' FA fn F A6 os)(hB:B≤V.heap.size)(hb:Below V.heap.size V V'):AX16 w V' B sb mb sc mc L L' FA fn F A6 os:=
 ⟨h.b.trans (hb.mono h.b.size),h.s.below hb,h.c.below hb,h.r.below (hb.mono hB),h.o.below (hb.mono hB)⟩
theorem Xkt(A:Option Addr)(n c:Nat)(l:List LHold)(LA:Option Addr)(ln lc:Nat)(rs:List (YRaw × LReady))(at_:Int)(w:World)(hl:HolsIn16 w w.heap.size A n l)(hnc:n≤c∧c≤maxLen)(hr:RdsIn w w.heap.size LA ln rs)(hlc:ln≤lc∧lc≤maxLen)(hok:∀p ∈ rs,RdOk p.2)(hat:IsByte at_)(htw:TypAt w) :
 Calls Tryd.prog 3 #[.slice A n c,.slice LA ln lc,.int .u8 at_] w fun e w'=>e=.returned (.bool true)∧Below w.heap.size w w':=by
 have HL:=Hd hl;have HR:=Hd hr;have HOK:=Hd hok;have HT:=Hd htw;have HLC:=Hd hlc;have HGR:=Hd (Xt9 A LA n c ln lc w.heap.size rs w hr (Lr _) (fun p hp=>Xpz (hok p hp)) hnc hlc);have HAT:Hid (0≤at_∧at_<256):=Hd hat;clear hl hr hok htw;go_enter Tryd.func3,Tryd.ntmps3
 go_wp2_with fail;refine HGR.out.mono ?_;rintro e w2 ⟨⟨b,rfl,hfew⟩,hb2⟩;have B2:=Hd hb2;have HFW:=Hd hfew;clear hb2 hfew HGR;cases b with
 | true =>
  go_wp2_with fail;refine(Xiq _ (HT.out.below B2.out HT.out.pos)).mono ?_;rintro e wl ⟨rfl,hbl⟩;have BL:=Hd (B2.out.trans (hbl.mono B2.out.size));clear hbl;go_wp2_with fail;go_ret;exact⟨rfl,BL.out⟩
 | false =>
 have hfw:=HFW.out rfl;have HN:Hid (n≤200∧ln≤40):=Hd ⟨hfw.hn,by have h1:=hfw.hl;have h2:=HR.out.len;omega⟩;have HSM:Hid (sum16 rs≤800):=Hd hfw.s;have HP:Hid (∀(k:Nat) (p:YRaw × LReady),rs[k]?=some p→RdP16 p.1 p.2):=Hd fun k p hp=>rd_p16 (HOK.out p (List.mem_of_getElem? hp)) (HR.out.each k p hp) (hfw.f p (List.mem_of_getElem? hp))
 have HPM:Hid (∀p ∈ rs,RdP16 p.1 p.2):=Hd fun p hp=>by
  obtain⟨i,hi,rfl⟩:=List.getElem_of_mem hp;exact HP.out i _ (List.getElem?_eq_getElem hi)
 clear hfw HFW HOK;go_wp2_with fail;refine(Xrv A n c w.heap.size l w2 ⟨HL.out.cs.below B2.out,HL.out.ok⟩ B2.out.size HN.out.1).mono ?_;rintro e w3 ⟨sb,mb,pb,rfl,hs3,hsl,hml,hb3⟩;have HLL:Hid ((commit16 [] l).length≤200):=Hd (by have h1:=Xhq l;have h2:=HL.out.len;have h3:=HN.out;omega);generalize commit16 [] l=L at *;have B3:=Hd (B2.out.trans (hb3.mono B2.out.size));have X3:Hid (AW16 w w3 sb mb L LA ln rs):=Hd ⟨B3.out,hs3,HR.out.below B3.out⟩;have HMB:Hid (w.heap.size≤mb∧w.heap.size≤sb):=Hd ⟨Lq B2.out.size hml,Lq B2.out.size hsl⟩;clear hs3 hsl hml hb3 B2 B3;have hn40:=HN.out.2;go_wp2_with fail;go_loopw [9,10,11,12,13] (fun fr i _ _ _ wr=>∃(k:Nat) (F:List (YRaw × LReady)),k≤ln∧i=.int .i64 k∧Free16 wr w3.heap.size fr rs F∧((∀p ∈ F,pay15 L p.2=true)∧Apart16 F∧sum16 F≤sum16 (rs.take k)∧F.length≤k)∧Below w3.heap.size w3 wr) (fun _ i _ _ _ _=>ln - (intOf i).toNat)
 case atStart=>exact⟨0,[],Nat.zero_le _,rfl,Free16.nil _ _ _,⟨(fun p hp=>(by cases hp)),(fun i k y z _ h=>(by cases h)),Nat.zero_le _,Nat.zero_le _⟩,Br _ _⟩
 case round =>
  obtain⟨k,F,hk,rfl,hfr,hfp,hb⟩:=hrel;have BW:=Hd hb;have FR:=Hd hfr;have FP:=Hd hfp;clear hb hfr hfp;rename World=>wr
  by_cases hlt:k<ln
  ·have hlt':(k:Int)<ln:=by omega
   obtain⟨p,hp⟩:∃p,rs[k]?=some p:=⟨_,List.getElem?_eq_getElem (by rw[HR.out.len];exact hlt)⟩;have HPK:=Hd (HPM.out p (List.mem_of_getElem? hp));have HPE:=Hd (List.mem_of_getElem? hp);have HPT:=Hd hp;obtain⟨a,ea,hab,hac⟩:=X3.out.r.sees k p hp;have HPI:=Hd (X3.out.r.each k p hp);have H32:=Hd HPI.out.tx.m.recent;have HCP:Hid (∀V,Below w3.heap.size w3 V→∀j u,(p.1.cells p.2)[j]?=some u→V.cell? ((a.add (k*48)).add j)=some u):=Hd fun V hV j u hu=>(hV.cell (by rw[Xab,Xab];have:=X3.out.b.size;omega)).trans (hac j u hu)
   have HLF:Hid (F.length≤1000):=Hd (by have h1:=FP.out.2.2.2;omega);have EA:=Hd ea;subst ea;clear hab hac hp;go_upto_region 8 with fail
   have SB:=Hd (show Below w3.heap.size w3 wr.drew from BW.out.drew);have FD:=Hd (FR.out.below (show Below wr.heap.size wr wr.drew from(Br _ _).drew));refine wp_region_held_drew (S:=fun V=>Below w3.heap.size w3 V) (by kernel_rfl) SB.out (fun _=>?_);try dsimp only[List.append]
   clear BW FR;generalize wr.drew=wd at *;refine Tk 0 rfl ?_ SB.out ?_ ⟨?_,rfl⟩
   ·intro w hw;(try dsimp only at hw);go_simp;try with_reducible rfl
   try simp only[nm]
   refine Tk 2 rfl ?_ SB.out ?_ ⟨?_,rfl⟩
   ·intro w hw;(try dsimp only at hw);go_simp;try with_reducible rfl
   try simp only[nm]
   refine Tk 3 rfl ?_ SB.out ?_ ⟨?_,rfl⟩
   ·intro w hw;(try dsimp only at hw);go_simp;try with_reducible rfl
   try simp only[nm]
   refine Tk 4 rfl ?_ SB.out ?_ ⟨?_,rfl⟩
   ·intro w hw;(try dsimp only at hw);go_simp;try with_reducible rfl
   try simp only[nm]
   refine Tl 5 (v:=.agg (p.1.cells p.2).toArray) rfl (Or.inl ⟨by rfl,fun wz hwz=>Xa4 wz 48 (.tmp 48) rfl (a.add (k*48)) (p.1.cells p.2) _ Tryd.underlying48 rfl (Xby H32.out) (HCP.out wz hwz) (by go_simp)⟩) SB.out ?_;try simp only[nm]
   refine Xar (i:=1) (j:=6) rfl rfl (by kernel_rfl) (by kernel_rfl) (by kernel_rfl) (fun K hK=>?_) (fun K hK=>?_)
   ·refine Xjh (.tmp 44) rfl FD.out (by go_simp) HLF.out SB.out.size ?_;intro v4 w4 hf4 hg4 hne4 hb4;have F4:=Hd hf4;have G4:=Hd hg4;have NE4:=Hd hne4;have SB:=Hd (SB.out.trans (hb4.mono SB.out.size));clear hf4 hg4 hne4 FD;refine hK.out _ _ SB.out ?_;clear hK K;try simp only[nm]
    refine Rl 6 rfl fun K hK=>?_
    refine Xb2 23 48 (.tmp 49) rfl (p.1.cells p.2) _ 48 232 Tryd.underlying23 Xe2 Xf9 (by omega) (by omega) (Xbv H32.out) (by go_simp) ?_;have hbx:=(Br w4.heap.size w4).alloc (Lr _) (.cells (p.1.cells p.2).toArray 48);have RX:=Hd (Row.new w4 48 (p.1.cells p.2));have F4:=Hd (F4.out.below hbx);have G4:=Hd (G4.out.below hbx);have SB:=Hd (SB.out.trans (hbx.mono SB.out.size));obtain⟨gx,hgx⟩:∃g,g=w4.heap.size:=⟨_,rfl⟩;rw[←hgx]at RX ⊢;clear hgx;generalize w4.alloc (.cells (p.1.cells p.2).toArray 48)=w5 at *;clear hb4 hbx;refine hK.out _ _ SB.out ?_;clear hK K;try simp only[nm]
    refine Rl 7 rfl fun K hK=>?_
    refine Xk3 (.tmp 45) (.tmp 50) rfl F4.out G4.out NE4.out (by go_simp) (by go_simp) RX.out HPE.out H32.out HLF.out SB.out.size ?_;intro v6 w6 hf6 hg6 hb6;have F6:=Hd hf6;have G6:=Hd hg6;have SB:=Hd (SB.out.trans hb6);clear hf6 hg6 hb6;refine hK.out _ _ SB.out ?_;clear hK K;try simp only[nm]
    refine Tk 8 rfl ?_ SB.out ?_ ⟨?_,rfl⟩
    ·intro w hw;(try dsimp only at hw);go_simp;try with_reducible rfl
    try simp only[nm]
    refine wpAnyH_done (by kernel_rfl) ?_ _;have X6:=Hd (X3.out.below SB.out);go_wp2_with (first
     | ((with_reducible show wpList _ _ _ (⟨some 57,_,_,_,_,_⟩::_) _ _);go_must(refine Xa9 rfl 48 (.tmp 56) rfl (a.add (k*48)) (p.1.cells p.2) _ Tryd.underlying48 rfl (Xby H32.out) (HCP.out w6 SB.out) ?_ ?_;go_simp))
     | fail)
    refine(loadC sb mb L p.1 p.2 w.heap.size w6 X6.out.s (X6.out.r.each k p HPT.out) X6.out.b.size (by have:=HPK.out.rn;omega) (fun r hr=>(HPK.out.f.key r hr).2) HPK.out.f.fee).mono ?_;rintro e w7 ⟨hb7,hcs⟩;have S7:=Hd (SB.out.trans (hb7.mono SB.out.size));have F7:=Hd (F6.out.below hb7);have G7:=Hd (G6.out.below hb7);clear hb7 F6 G6 SB X6 F4 G4 NE4 RX;have HS1:Hid (sum16 (rs.take (k+1))=sum16 (rs.take k)+sum16 [p]):=Hd (by rw[List.take_add_one,HPT.out,Option.toList_some,Xds]);rcases hcs with⟨_,rfl⟩ | ⟨hpay,gl,cap,rest,rfl,hol⟩
    ·go_wp2_with fail;go_roundw
     case rel=>exact⟨k+1,F,by omega,by go_num,G7.out,⟨FP.out.1,FP.out.2.1,by have h1:=HS1.out;have h2:=FP.out.2.2.1;omega,by have h1:=FP.out.2.2.2;omega⟩,S7.out⟩
     case measure=>simp[intOf];omega
    ·have HPY:=Hd hpay;clear hpay hol;have X7:=Hd (X3.out.below S7.out);obtain⟨A6,c6,rfl,_⟩:=F7.out.form;obtain⟨nx,hnx⟩:∃m,m=(F++[p]).length:=⟨_,rfl⟩;have HRX:Hid (RdsIn w7 w7.heap.size A6 nx (F++[p])):=Hd (by rw[hnx];exact F7.out.rds X7.out.ready);have HNX:Hid (nx≤100):=Hd (by have h1:=FP.out.2.2.2;rw[hnx,List.length_append];show F.length+1≤100;omega);rw[←hnx];have HNQ:=Hd hnx;clear hnx;go_wp2_with fail;refine(Xph A6 nx c6 (F++[p]) w7 HRX.out HNX.out (fun y hy=>by have:=(HPM.out y (F7.out.mem y hy)).rn;omega)).mono ?_;rintro e w8 ⟨⟨b,rfl,hap⟩,hb8⟩;have S8:=Hd (S7.out.trans (hb8.mono S7.out.size));have F8:=Hd (F7.out.below hb8);have G8:=Hd (G7.out.below hb8);have HAPX:=Hd hap;clear hb8 hap S7 F7 G7 X7 HRX;cases b with
     | false =>
      go_wp2_with fail;go_roundw
      case rel=>exact⟨k+1,F,by omega,by go_num,G8.out,⟨FP.out.1,FP.out.2.1,by have h1:=HS1.out;have h2:=FP.out.2.2.1;omega,by have h1:=FP.out.2.2.2;omega⟩,S8.out⟩
      case measure=>simp[intOf];omega
     | true =>
      go_wp2_with fail;go_roundw
      case rel=>exact⟨k+1,F++[p],by omega,by go_num,by rw[HNQ.out];exact F8.out,⟨fun y hy=>by
       rcases List.mem_append.1 hy with hy | hy
       ·exact FP.out.1 y hy
       ·rw[List.mem_singleton.1 hy];exact HPY.out,HAPX.out (by first | rfl | trivial),by have h1:=HS1.out;have h2:=FP.out.2.2.1;rw[Xds];omega,by have h1:=FP.out.2.2.2;rw[List.length_append];show F.length+1≤k+1;omega⟩,S8.out⟩
      case measure=>simp[intOf];omega
   ·refine Xb2 23 48 (.tmp 49) rfl (p.1.cells p.2) _ 48 232 Tryd.underlying23 Xe2 Xf9 (by omega) (by omega) (Xbv H32.out) (by go_simp) ?_;have hbx:=(Br wd.heap.size wd).alloc (Lr _) (.cells (p.1.cells p.2).toArray 48);have RX:=Hd (Row.new wd 48 (p.1.cells p.2));have FD:=Hd (FD.out.below hbx);have SB:=Hd (SB.out.trans (hbx.mono SB.out.size));obtain⟨gx,hgx⟩:∃g,g=wd.heap.size:=⟨_,rfl⟩;rw[←hgx]at RX ⊢;clear hgx;generalize wd.alloc (.cells (p.1.cells p.2).toArray 48)=w5 at *;clear hbx;refine hK.out _ _ SB.out ?_;clear hK K;try simp only[nm]
    refine Rl 1 rfl fun K hK=>?_
    refine Xjh (.tmp 44) rfl FD.out (by go_simp) HLF.out SB.out.size ?_;intro v4 w4 hf4 hg4 hne4 hb4;have F4:=Hd hf4;have G4:=Hd hg4;have NE4:=Hd hne4;have SB:=Hd (SB.out.trans (hb4.mono SB.out.size));clear hf4 hg4 hne4 FD;have RX:=Hd (RX.out.below hb4 RX.out.lt);clear hb4;refine hK.out _ _ SB.out ?_;clear hK K;try simp only[nm]
    refine Rl 7 rfl fun K hK=>?_
    refine Xk3 (.tmp 45) (.tmp 50) rfl F4.out G4.out NE4.out (by go_simp) (by go_simp) RX.out HPE.out H32.out HLF.out SB.out.size ?_;intro v6 w6 hf6 hg6 hb6;have F6:=Hd hf6;have G6:=Hd hg6;have SB:=Hd (SB.out.trans hb6);clear hf6 hg6 hb6;refine hK.out _ _ SB.out ?_;clear hK K;try simp only[nm]
    refine Tk 8 rfl ?_ SB.out ?_ ⟨?_,rfl⟩
    ·intro w hw;(try dsimp only at hw);go_simp;try with_reducible rfl
    try simp only[nm]
    refine wpAnyH_done (by kernel_rfl) ?_ _;have X6:=Hd (X3.out.below SB.out);go_wp2_with (first
     | ((with_reducible show wpList _ _ _ (⟨some 57,_,_,_,_,_⟩::_) _ _);go_must(refine Xa9 rfl 48 (.tmp 56) rfl (a.add (k*48)) (p.1.cells p.2) _ Tryd.underlying48 rfl (Xby H32.out) (HCP.out w6 SB.out) ?_ ?_;go_simp))
     | fail)
    refine(loadC sb mb L p.1 p.2 w.heap.size w6 X6.out.s (X6.out.r.each k p HPT.out) X6.out.b.size (by have:=HPK.out.rn;omega) (fun r hr=>(HPK.out.f.key r hr).2) HPK.out.f.fee).mono ?_;rintro e w7 ⟨hb7,hcs⟩;have S7:=Hd (SB.out.trans (hb7.mono SB.out.size));have F7:=Hd (F6.out.below hb7);have G7:=Hd (G6.out.below hb7);clear hb7 F6 G6 SB X6 F4 G4 NE4 RX;have HS1:Hid (sum16 (rs.take (k+1))=sum16 (rs.take k)+sum16 [p]):=Hd (by rw[List.take_add_one,HPT.out,Option.toList_some,Xds]);rcases hcs with⟨_,rfl⟩ | ⟨hpay,gl,cap,rest,rfl,hol⟩
    ·go_wp2_with fail;go_roundw
     case rel=>exact⟨k+1,F,by omega,by go_num,G7.out,⟨FP.out.1,FP.out.2.1,by have h1:=HS1.out;have h2:=FP.out.2.2.1;omega,by have h1:=FP.out.2.2.2;omega⟩,S7.out⟩
     case measure=>simp[intOf];omega
    ·have HPY:=Hd hpay;clear hpay hol;have X7:=Hd (X3.out.below S7.out);obtain⟨A6,c6,rfl,_⟩:=F7.out.form;obtain⟨nx,hnx⟩:∃m,m=(F++[p]).length:=⟨_,rfl⟩;have HRX:Hid (RdsIn w7 w7.heap.size A6 nx (F++[p])):=Hd (by rw[hnx];exact F7.out.rds X7.out.ready);have HNX:Hid (nx≤100):=Hd (by have h1:=FP.out.2.2.2;rw[hnx,List.length_append];show F.length+1≤100;omega);rw[←hnx];have HNQ:=Hd hnx;clear hnx;go_wp2_with fail;refine(Xph A6 nx c6 (F++[p]) w7 HRX.out HNX.out (fun y hy=>by have:=(HPM.out y (F7.out.mem y hy)).rn;omega)).mono ?_;rintro e w8 ⟨⟨b,rfl,hap⟩,hb8⟩;have S8:=Hd (S7.out.trans (hb8.mono S7.out.size));have F8:=Hd (F7.out.below hb8);have G8:=Hd (G7.out.below hb8);have HAPX:=Hd hap;clear hb8 hap S7 F7 G7 X7 HRX;cases b with
     | false =>
      go_wp2_with fail;go_roundw
      case rel=>exact⟨k+1,F,by omega,by go_num,G8.out,⟨FP.out.1,FP.out.2.1,by have h1:=HS1.out;have h2:=FP.out.2.2.1;omega,by have h1:=FP.out.2.2.2;omega⟩,S8.out⟩
      case measure=>simp[intOf];omega
     | true =>
      go_wp2_with fail;go_roundw
      case rel=>exact⟨k+1,F++[p],by omega,by go_num,by rw[HNQ.out];exact F8.out,⟨fun y hy=>by
       rcases List.mem_append.1 hy with hy | hy
       ·exact FP.out.1 y hy
       ·rw[List.mem_singleton.1 hy];exact HPY.out,HAPX.out (by first | rfl | trivial),by have h1:=HS1.out;have h2:=FP.out.2.2.1;rw[Xds];omega,by have h1:=FP.out.2.2.2;rw[List.length_append];show F.length+1≤k+1;omega⟩,S8.out⟩
      case measure=>simp[intOf];omega
  ·have hke:k=ln:=by omega
   have hlt':¬(k:Int)<ln:=by omega
   have HFP:Hid ((∀p ∈ F,pay15 L p.2=true)∧Apart16 F∧sum16 F≤800∧F.length≤40):=Hd ⟨FP.out.1,FP.out.2.1,by have h1:=FP.out.2.2.1;have h2:=(Xhz rs k).1;have h3:=HSM.out;omega,by have h1:=FP.out.2.2.2;omega⟩;have X4:=Hd (X3.out.below BW.out);clear BW FP X3 hke;obtain⟨FA,fc,rfl,hf1,hf2,_⟩:=FR.out.form;have HFO:=Hd FR.out;obtain⟨fn,hfn⟩:∃m,m=F.length:=⟨_,rfl⟩;have HFR:Hid (RdsIn wr wr.heap.size FA fn F):=Hd (by rw[hfn];exact FR.out.rds X4.out.ready);have HFN:Hid (F.length=fn):=Hd hfn.symm;have HFM:Hid (∀p ∈ F,p ∈ rs):=Hd FR.out.mem;have HFL:Hid (fn≤fc∧fc≤maxLen):=Hd (by rw[hfn];exact⟨hf1,hf2⟩);rw[←hfn];clear hfn hf1 hf2 FR;have hfn40:fn≤40:=by have h1:=HFP.out.2.2.2;have h2:=HFN.out;omega
   by_cases hf0:fn=0
   ·subst hf0;have BV:=Hd X4.out.b;go_wp2_with fail;refine(Xiq _ (HT.out.below BV.out HT.out.pos)).mono ?_;rintro e wl ⟨rfl,hbl⟩;have BL:=Hd (BV.out.trans (hbl.mono BV.out.size));clear hbl;go_wp2_with fail;go_ret;exact⟨rfl,BL.out⟩
   have hf0':¬(fn:Int)=0:=by omega
   go_wp2_with fail;refine(copy13 sb mb L wr X4.out.s (by have:=HLL.out;omega)).mono ?_;rintro e w4 ⟨sc,mc,rfl,hs4,hsl,hml,hb4⟩;have X5:=Hd (X4.out.below hb4);have C5:=Hd hs4;have HFO5:=Hd (HFO.out.below hb4);have HNE:Hid (sc≠mb∧mc≠mb∧sb≠mc∧mb≠mc∧w.heap.size≤mc):=Hd (by have h1:=X4.out.s.lt;have h2:=X4.out.b.size;omega);clear hs4 hsl hml hb4 X4 HFR HFO;have HSO:=Hd X5.out.s.sto;have HPF:Hid (∀(k:Nat) (p:YRaw × LReady),F[k]?=some p→RdP16 p.1 p.2):=Hd fun k p hp=>HPM.out p (HFM.out p (List.mem_of_getElem? hp))
   have HF2:Hid (Free2_16 L F):=Hd ⟨fun p hp=>(HPM.out p (HFM.out p hp)).f,HFP.out.1,HFP.out.2.1⟩;have HLE:=Hd (hlen16 HSO.out HPF.out (by have:=HLL.out;omega) HFP.out.2.2.1);have HRF5:Hid (RdsIn w4 w4.heap.size FA fn F):=Hd (by rw[←HFN.out];exact HFO5.out.rds X5.out.ready);go_wp2_with fail;refine(foldC sb mb L F FA fn fc w4.heap.size w4 X5.out.s HRF5.out (Lr _) HPF.out HFL.out.1 (by omega) (HT.out.below X5.out.b HT.out.pos) HLE.out.1).mono ?_;rintro e w5 ⟨os,A6,c6,rfl,hos,ho5,hh5,hs5,hg5⟩;have HRFX:Hid (∀x ∈ F.map (·.2),RdF16 x):=Hd fun x hx=>by
    obtain⟨p,hp,rfl⟩:=List.mem_map.1 hx;exact HF2.out.f p hp
   have HOK5:Hid (∀p ∈ os,∀x ∈ p.1.ch,HoldOk x):=Hd fun p hp=>Xj5 _ ⟨[],0,0,L⟩ HRFX.out HSO.out (fun o ho=>by cases ho) p.1 (by rw[←hos];exact List.mem_map.2 ⟨p,hp,rfl⟩)
   have O5:=Hd (Xpf ho5 hh5 HOK5.out);have HCH5:Hid (∀p ∈ os,p.1.ch.length≤100000):=Hd fun p hp=>Xkc _ ⟨[],0,0,L⟩ HRFX.out HSO.out (fun x hx=>by
    obtain⟨y,hy,rfl⟩:=List.mem_map.1 hx;have h1:=(HPM.out y (HFM.out y hy)).rn;have h2:=(X5.out.ready y (HFM.out y hy)).rs.len;omega) (fun o ho=>by cases ho) p.1 (by rw[←hos];exact List.mem_map.2 ⟨p,hp,rfl⟩)
   have HON:Hid (os.length≤100000):=Hd (by
    have h1:=Xft (F.map (·.2)) ⟨[],0,0,L⟩;rw[←hos,List.length_map,List.length_map]at h1;have h2:=HFP.out.2.2.2;have h3:([]:List LOut).length+F.length=F.length:=by simp
    have h4:os.length≤([]:List LOut).length+F.length:=h1;omega)
   have S6:=Hd hs5;have HFD:=Hd (HF2.out.fold HSO.out);have HOS:=Hd hos;have B6:=Hd (X5.out.b.trans (Xem (B:=w.heap.size) hg5 HMB.out.1 X5.out.b.size));have C6:=Hd (C5.out.keep (hg5.block _ C5.out.lt.1 (fun e=>HNE.out.1 (Option.some.inj e))) (hg5.block _ C5.out.lt.2 (fun e=>HNE.out.2.1 (Option.some.inj e))));have HFO6:Hid (Free16 w5 w3.heap.size (.slice FA fn fc) rs F):=Hd ⟨by rw[←HFN.out];exact HFO5.out.own.kept hg5 (X5.out.s.own_ne16 HFO5.out.own),HFM.out⟩;clear hos ho5 hh5 hs5 hg5 C5 X5 HFO5 HRF5;generalize hFd:fold16 (F.map (·.2)) ⟨[],0,0,L⟩=Z at *;clear hFd;by_cases hall:∀p ∈ F,(run15 p.2 (load15 L p.2)).2=0
   rotate_left
   ·have he:=HFD.out.2 hall;rw[he];go_wp2_with fail;refine(Xiq _ (HT.out.below B6.out HT.out.pos)).mono ?_;rintro e wl ⟨rfl,hbl⟩;have BL:=Hd (B6.out.trans (hbl.mono B6.out.size));clear hbl;go_wp2_with fail;go_ret;exact⟨rfl,BL.out⟩
   obtain⟨hz1,hz2,hz3⟩:=HFD.out.1 hall;have HALL:=Hd hall;have HOE:Hid (os.map (·.1)=F.map fun p=>(run15 p.2 (load15 L p.2)).1):=Hd (by rw[HOS.out,hz1]);have HZL:=Hd hz3;have hol:os.length=fn:=by have:=congrArg List.length HOE.out;rw[List.length_map,List.length_map,HFN.out]at this;exact this
   rw[hz2,hol];clear hall HFD hz1 hz2 hz3 HOS;have X7:Hid (AX16 w w5 w5.heap.size sb mb sc mc L Z.L FA fn F A6 os):=Hd ⟨B6.out,S6.out,C6.out,by rw[←HFN.out];exact(show Free16 w5 w3.heap.size (.slice FA F.length fc) rs F from by rw[HFN.out];exact HFO6.out).rds (fun p hp=>by
    obtain⟨i,hi,rfl⟩:=List.getElem_of_mem hp;exact((HR.out.below B6.out).each i _ (List.getElem?_eq_getElem hi)).more B6.out.size),by rw[←hol];exact O5.out⟩
   clear B6 S6 C6 HFO6 O5;have hfnm:fn≤maxLen:=by unfold maxLen;omega
   go_upto_region 20 with(first
    | (at_make;(obtain⟨i0,hi,hz0,hz1,hz2⟩:=info_parts Xpv);go_must(refine wpList_make_full _ rfl (.tmp 95) (.tmp 95) 58 rfl w5.heap.size 49 i0 _ 1 Tryd.underlying58 hi hz0 hz1 .i64 .i64 _ _ fn rfl rfl rfl rfl (by rw[hz2];omega) hfnm (Lr _) ?_;intro w6 hown hgrow)))
   have hb6:=(Br w5.heap.size w5).grown hgrow (Lr _) (fun k hk=>by cases hk);have XA:Hid (∀V,Below w5.heap.size w5 V→AX16 w V w5.heap.size sb mb sc mc L Z.L FA fn F A6 os):=Hd fun V hV=>X7.out.below (Lr _) hV
   have HB6:=Hd hb6;obtain⟨g19,hg19⟩:∃g,g=w5.heap.size:=⟨_,rfl⟩;rw[←hg19]at hown ⊢;have LD0:Hid (Ld16 w6 g19 w6.heap.size L F 0 (madeCells (Value.slice none 0 0).cells (fn*1)).toList):=Hd ⟨Row.of_own hown,by rw[Xq4];exact HFN.out.symm,fun j p hj=>absurd hj (Nat.not_lt_zero _),(Row.of_own hown).lt⟩;have HG19:Hid (w5.heap.size=g19):=Hd hg19.symm;generalize (madeCells (Value.slice none 0 0).cells (fn*1)).toList=vs0 at *;clear hown hgrow hb6 hg19 X7;go_wp2_with fail;go_loopw [20,21,22] (fun i _ _ wr=>∃(k:Nat) (vs:List Value),k≤fn∧i=.int .i64 k∧Ld16 wr g19 w6.heap.size L F k vs∧Below w5.heap.size w5 wr∧w6.heap.size≤wr.heap.size) (fun i _ _ _=>fn - (intOf i).toNat)
   case atStart=>exact⟨0,_,Nat.zero_le _,rfl,LD0.out,HB6.out,Lr _⟩
   case round =>
    obtain⟨k,vs,hk,rfl,hld,hbw,hsz⟩:=hrel;have BW:=Hd hbw;have SZ:=Hd hsz;have LD:=Hd hld;clear hld hbw hsz;rename World=>wr
    have XW:=Hd (XA.out wr BW.out);by_cases hlt:k<fn
    ·have hlt':(k:Int)<fn:=by omega
     obtain⟨p,hp⟩:∃p,F[k]?=some p:=⟨_,List.getElem?_eq_getElem (by rw[HFN.out];exact hlt)⟩;have HPK:=Hd (HPF.out k p hp);have HPY:=Hd (HFP.out.1 p (List.mem_of_getElem? hp));have HPT:=Hd hp;obtain⟨a,ea,hab,hac⟩:=XW.out.r.sees k p hp;have H32:=Hd (XW.out.r.each k p hp).tx.m.recent;have HCP:=Hd hac;subst ea;clear hab hac hp;go_wp2_with (first
      | ((with_reducible show wpList _ _ _ (⟨some 107,_,_,_,_,_⟩::_) _ _);go_must(refine Xa9 rfl 48 (.tmp 106) rfl (a.add (k*48)) (p.1.cells p.2) _ Tryd.underlying48 rfl (Xby H32.out) HCP.out ?_ ?_;go_simp))
      | fail)
     refine(loadC sc mc L p.1 p.2 w5.heap.size wr XW.out.c (XW.out.r.each k p HPT.out) BW.out.size (by have:=HPK.out.rn;omega) (fun r hr=>(HPK.out.f.key r hr).2) HPK.out.f.fee).mono ?_;rintro e w7 ⟨hb7,hcs⟩;have B7:=Hd (BW.out.trans (hb7.mono BW.out.size));have L7:=Hd (LD.out.below hb7);have SZ7:=Hd (Lq SZ.out hb7.size);rcases hcs with⟨hno,rfl⟩ | ⟨_,gl,cap,rest,rfl,hol2⟩
     ·rw[HPY.out]at hno;cases hno
     have OL:=Hd (hol2.low (b':=w6.heap.size) SZ.out);have hvk:k<vs.length:=by rw[LD.out.len,HFN.out];exact hlt
     have q19:w7.cell? ⟨g19,k,none⟩=some vs[k]:=(L7.out.row.cell k).trans (List.getElem?_eq_getElem hvk);have f19:w7.frozen? ⟨g19,k,none⟩=false:=L7.out.row.frozen k;have LS:=Hd (L7.out.set HPT.out OL.out);obtain⟨rk,hrk⟩:∃m,m=p.2.roles.length:=⟨_,rfl⟩;rw[←hrk]at LS ⊢;clear hb7 hol2 hrk BW SZ LD XW HCP;go_wp2_with fail;go_roundw
     case rel=>exact⟨k+1,_,by omega,by go_num,LS.out,B7.out.setCell (p:=⟨g19,k,none⟩) (by show w5.heap.size≤g19;exact Nat.le_of_eq HG19.out) _,by have:=SZ7.out;simpa using this⟩
     case measure=>simp[intOf];omega
    ·have hke:k=fn:=by omega
     have hlt':¬(k:Int)<fn:=by omega
     have LDA:=Hd LD.out;rw[hke]at LDA;have BW2:=Hd BW.out;have SZ2:=Hd SZ.out;clear LD BW SZ XW hke;obtain⟨t,htn⟩:∃t:Nat,at_=t:=⟨at_.toNat,by have:=HAT.out;omega⟩;have ht256:t<256:=by have:=HAT.out;omega
     subst htn;go_upto_region 28 with(first
      | (at_make;(obtain⟨i0,hi,hz0,hz1,hz2⟩:=info_parts Xah);go_must(refine wpList_make_full _ rfl (.tmp 117) (.tmp 117) 55 rfl wr.heap.size 60 i0 _ 6 Tryd.underlying55 hi hz0 hz1 .i64 .i64 _ _ fn rfl rfl rfl rfl (by rw[hz2];omega) hfnm (Lr _) ?_;intro w8 hown hgrow)))
     have hb8:=(Br wr.heap.size wr).grown hgrow (Lr _) (fun k hk=>by cases hk);obtain⟨hrow,hrl⟩:=Xo3 hown;have LD8:=Hd (LDA.out.below hb8);have BW8:=Hd (BW2.out.trans (hb8.mono BW2.out.size));have HZ8:Hid (wr.heap.size≤w8.heap.size):=Hd hb8.size;obtain⟨g23,hg23⟩:∃g,g=wr.heap.size:=⟨_,rfl⟩;have HG23:Hid (wr.heap.size=g23):=Hd hg23.symm;have HG5:Hid (w5.heap.size≤g23∧g19<g23):=Hd ⟨by rw[hg23];exact BW2.out.size,by rw[hg23];have h1:=LDA.out.lt;have h2:=SZ2.out;omega⟩;rw[←hg23]at hrow ⊢;have RN0:Hid (Rn16 w8 g23 w8.heap.size L F t 0 _):=Hd ⟨hrow,by rw[hrl,HFN.out],fun j p hj=>absurd hj (Nat.not_lt_zero _),hrow.lt⟩;clear hown hgrow hb8 hrow hrl hg23 LDA BW2 SZ2;go_wp2_with fail;go_loopw [24,25,26,27] (fun i _ _ _ wv=>∃(k:Nat) (cs:List Value),k≤fn∧i=.int .i64 k∧Rn16 wv g23 w8.heap.size L F t k cs∧Ld16 wv g19 w6.heap.size L F fn vs∧Below w5.heap.size w5 wv∧w8.heap.size≤wv.heap.size) (fun i _ _ _ _=>fn - (intOf i).toNat)
     case atStart=>exact⟨0,_,Nat.zero_le _,rfl,RN0.out,LD8.out,BW8.out,Lr _⟩
     case round =>
      obtain⟨k,cs,hk,rfl,hrn,hld,hbw,hsz⟩:=hrel;have RN:=Hd hrn;have LD:=Hd hld;have BW:=Hd hbw;have SZ:=Hd hsz;clear hrn hld hbw hsz RN0 LD8 BW8;rename World=>wv
      by_cases hlt:k<fn
      ·have hlt':(k:Int)<fn:=by omega
       obtain⟨kk,hkk⟩:∃m,m=(k+t) % fn:=⟨_,rfl⟩;have hkf:kk<fn:=by rw[hkk];exact Nat.mod_lt _ (by omega)
       have hkf':(kk:Int)<fn:=by omega
       have hrm:((k:Int)+(t:Int)).tmod (fn:Int)=(kk:Int):=by rw[hkk];exact_mod_cast rfl
       have HKK:=Hd hkk;clear hkk;go_upto_region 32 with fail
       obtain⟨p,hp⟩:∃p,F[kk]?=some p:=⟨_,List.getElem?_eq_getElem (by rw[HFN.out];exact hkf)⟩;have HPT:=Hd hp;have HPK:=Hd (HPF.out kk p hp);have XW:=Hd (XA.out wv BW.out);obtain⟨a,ea,hab,hac⟩:=XW.out.r.sees kk p hp;have H32:=Hd (XW.out.r.each kk p hp).tx.m.recent;have HCP:Hid (∀V,Below wv.heap.size wv V→∀j u,(p.1.cells p.2)[j]?=some u→V.cell? ((a.add (kk*48)).add j)=some u):=Hd fun V hV j u hu=>(hV.cell (by rw[Xab,Xab];have:=BW.out.size;omega)).trans (hac j u hu)
       obtain⟨gj,cap,rest,hvs,hoj⟩:=LD.out.each kk p hkf hp;have H19:Hid (∀V,Below wv.heap.size wv V→V.cell? ⟨g19,kk,none⟩=some (.slice (some ⟨gj,0,none⟩) p.2.roles.length p.2.roles.length)):=Hd fun V hV=>(hV.cell (p:=⟨g19,kk,none⟩) LD.out.row.lt).trans ((LD.out.row.cell kk).trans hvs)
       obtain⟨o,ho⟩:∃o,run15 p.2 (load15 L p.2)=(o,0):=⟨_,Prod.ext rfl (HALL.out p (List.mem_of_getElem? hp))⟩;have HO:=Hd ho;have HRLP:=Hd (XW.out.r.each kk p hp).rs.len;have HOJ:=Hd hoj;have HRC:Hid (∀V,Below wv.heap.size wv V→Calls Tryd.prog 11 #[.agg (p.1.cells p.2).toArray,.slice (some ⟨gj,0,none⟩) p.2.roles.length p.2.roles.length] V (RunDoneC V (o,0))):=Hd fun V hV=>by
        have hV5:=BW.out.trans (hV.mono BW.out.size);rw[←HO.out];exact runC p.1 p.2 V.heap.size (some ⟨gj,0,none⟩) _ _ (load15 L p.2) V (((XA.out V hV5).r.each kk p HPT.out).more hV5.size) (Xlj (HOJ.out.below hV)) ⟨Lr _,by have h1:=HRLP.out;have h2:=HPK.out.rn;unfold maxLen;omega⟩ (Lr _) (by have h1:=HRLP.out;have h2:=HPK.out.rn;omega) HPK.out.pb HPK.out.f.ins HPK.out.u HPK.out.sm (HT.out.below (XA.out V hV5).b HT.out.pos)
       clear hab hac hp hvs hoj ho;subst ea;generalize p.2.roles.length=rl at *;have SB:=Hd (show Below wv.heap.size wv wv.drew from(Br _ _).drew);refine wp_region_held_drew (S:=fun V=>Below wv.heap.size wv V) (by kernel_rfl) SB.out (fun _=>?_);try dsimp only[List.append]
       generalize wv.drew=wd at *;refine Tk 0 rfl ?_ SB.out ?_ ⟨?_,rfl⟩
       ·intro w hw;(try dsimp only at hw);go_simp;try with_reducible rfl
       try simp only[nm]
       refine Tk 1 rfl ?_ SB.out ?_ ⟨?_,rfl⟩
       ·intro w hw;(try dsimp only at hw);go_simp;try with_reducible rfl
       try simp only[nm]
       refine Tk 2 rfl ?_ SB.out ?_ ⟨?_,rfl⟩
       ·intro w hw;(try dsimp only at hw);go_simp;try with_reducible rfl
       try simp only[nm]
       refine Tl 3 (v:=.agg (p.1.cells p.2).toArray) rfl (Or.inl ⟨by rfl,fun wz hwz=>Xa4 wz 48 (.tmp 133) rfl (a.add (kk*48)) (p.1.cells p.2) _ Tryd.underlying48 rfl (Xby H32.out) (HCP.out wz hwz) (by go_simp)⟩) SB.out ?_;try simp only[nm]
       refine Tk 4 rfl ?_ SB.out ?_ ⟨?_,rfl⟩
       ·intro w hw;(try dsimp only at hw);go_simp;try with_reducible rfl
       try simp only[nm]
       refine Tk 5 rfl ?_ SB.out ?_ ⟨?_,rfl⟩
       ·intro w hw;(try dsimp only at hw);go_simp;try with_reducible rfl
       try simp only[nm]
       refine Tk 6 rfl ?_ SB.out ?_ ⟨?_,rfl⟩
       ·intro w hw;(try dsimp only at hw);go_simp;try with_reducible rfl
       try simp only[nm]
       refine Tk 7 rfl ?_ SB.out ?_ ⟨?_,rfl⟩
       ·intro w hw;try dsimp only at hw
        have oc:=H19.out w hw;go_simp;try with_reducible rfl
       try simp only[nm]
       refine Xar (i:=8) (j:=12) rfl rfl (by kernel_rfl) (by kernel_rfl) (by kernel_rfl) (fun K hK=>?_) (fun K hK=>?_)
       ·go_simp;refine(HRC.out _ SB.out).mono ?_;rintro e w9 ⟨A9,c9,rfl,ho9,hb9⟩;have O9:=Hd (Xc0 ho9 (Lq SZ.out SB.out.size));have SB:=Hd (SB.out.trans (hb9.mono SB.out.size));clear ho9 hb9;refine hK.out _ _ SB.out ?_;clear hK K;try simp only[]
        refine Tk 9 rfl ?_ SB.out ?_ ⟨?_,rfl⟩
        ·intro w hw;(try dsimp only at hw);go_simp;try with_reducible rfl
        try simp only[nm]
        refine Tk 10 rfl ?_ SB.out ?_ ⟨?_,rfl⟩
        ·intro w hw;(try dsimp only at hw);go_simp;try with_reducible rfl
        try simp only[nm]
        refine Tk 11 rfl ?_ SB.out ?_ ⟨?_,rfl⟩
        ·intro w hw;(try dsimp only at hw);go_simp;try with_reducible rfl
        try simp only[nm]
        refine Rl 12 rfl fun K hK=>?_
        refine Xbm 60 rfl (out0.cells (.slice none 0 0)) Xbh ?_;have hbx:=(Br w9.heap.size w9).alloc (Lr _) (.cells (out0.cells (.slice none 0 0)).toArray 60);have R26:=Hd (Row.new w9 60 (out0.cells (.slice none 0 0)));have HG26:Hid (wv.heap.size≤w9.heap.size):=Hd SB.out.size;have SB:=Hd (SB.out.trans (hbx.mono SB.out.size));have O9:=Hd (Xaa O9.out hbx);obtain⟨g26,hg26⟩:∃g,g=w9.heap.size:=⟨_,rfl⟩;rw[←hg26]at R26 HG26 ⊢;clear hg26 hbx;generalize w9.alloc (.cells (out0.cells (.slice none 0 0)).toArray 60)=w10 at *;refine hK.out _ _ SB.out ?_;clear hK K;try simp only[nm]
        refine Rl 13 rfl fun K hK=>?_
        refine Xbp 60 (.tmp 26) (.tmp 140) rfl g26 (out0.cells (.slice none 0 0)) (o.cells (.slice A9 o.ch.length o.ch.length)) R26.out (Xag _ _) rfl (Xbe _ rfl) ?_ ?_ ?_
        ·go_simp
        ·go_simp
        intro w11 hr11 ht11;have O11:=Hd (Xa5 O9.out R26.out (by decide) ht11);have R11:=Hd hr11;have SB:=Hd (SB.out.trans (ht11.below HG26.out));clear hr11 ht11 R26 O9;refine hK.out _ _ SB.out ?_;clear hK K;try simp only[Act.put]
        refine Tk 14 rfl ?_ SB.out ?_ ⟨?_,rfl⟩
        ·intro w hw;(try dsimp only at hw);go_simp;try with_reducible rfl
        try simp only[nm]
        refine wpAnyH_done (by kernel_rfl) ?_ _;have RNW:=Hd (RN.out.below SB.out);have LDW:=Hd (LD.out.below SB.out);have HKF:Hid (kk=(k+t) % F.length):=Hd (by rw[HFN.out];exact HKK.out);have HCHO:Hid (ch16 L p.2=o.ch):=Hd (by unfold ch16;rw[HO.out]);go_wp2_with (first
         | ((with_reducible show wpList _ _ _ (⟨some 146,_,_,_,_,_⟩::_) _ _);go_must(refine Xa3 rfl 60 (.tmp 26) rfl g26 60 (o.cells (.slice A9 o.ch.length o.ch.length)) _ Tryd.underlying60 rfl (Xag _ _) R11.out ?_ ?_;go_simp))
         | ((with_reducible show wpList _ _ _ (⟨none,Op.store 60 (.tmp 147) _,_,_,_,_⟩::_) _ _);go_must(refine Xbk rfl 60 (.tmp 147) (.tmp 146) rfl g23 60 (kk*6) cs (o.cells (.slice A9 o.ch.length o.ch.length)) RNW.out.row (Xag _ _) (by rw[RNW.out.len,HFN.out];show kk*6+6≤fn*6;omega) (Xbe _ rfl) ?_ ?_ ?_;go_simp;go_simp;intro w12 hr12 ht12)))
        have RNS:=Hd (RNW.out.set (p:=p) (A:=A9) (c:=c9) (V':=w12) (by rw[←HKF.out];exact HPT.out) (by rw[HCHO.out];exact O11.out) (by rw[←HKF.out,HO.out];exact hr12) ht12);have LDS:=Hd (LDW.out.turned RNW.out.row ht12);have hbt:=ht12.below (B:=w5.heap.size) HG5.out.1;have BWS:=Hd ((BW.out.trans (SB.out.mono BW.out.size)).trans hbt);have SZS:=Hd (Lq (Lq SZ.out SB.out.size) hbt.size);clear hr12 ht12 hbt;go_roundw
        case rel=>exact⟨k+1,_,by omega,by go_num,RNS.out,LDS.out,BWS.out,SZS.out⟩
        case measure=>simp[intOf];omega
       ·refine Xbm 60 rfl (out0.cells (.slice none 0 0)) Xbh ?_;have hbx:=(Br wd.heap.size wd).alloc (Lr _) (.cells (out0.cells (.slice none 0 0)).toArray 60);have R26:=Hd (Row.new wd 60 (out0.cells (.slice none 0 0)));have HG26:Hid (wv.heap.size≤wd.heap.size):=Hd SB.out.size;have SB:=Hd (SB.out.trans (hbx.mono SB.out.size));obtain⟨g26,hg26⟩:∃g,g=wd.heap.size:=⟨_,rfl⟩;rw[←hg26]at R26 HG26 ⊢;clear hg26 hbx;generalize wd.alloc (.cells (out0.cells (.slice none 0 0)).toArray 60)=w10 at *;refine hK.out _ _ SB.out ?_;clear hK K;try simp only[nm]
        refine Rl 8 rfl fun K hK=>?_
        go_simp;refine(HRC.out _ SB.out).mono ?_;rintro e w9 ⟨A9,c9,rfl,ho9,hb9⟩;have O9:=Hd (Xc0 ho9 (Lq SZ.out SB.out.size));have SB:=Hd (SB.out.trans (hb9.mono SB.out.size));have R26:=Hd (R26.out.below hb9 R26.out.lt);clear ho9 hb9;refine hK.out _ _ SB.out ?_;clear hK K;try simp only[]
        refine Tk 9 rfl ?_ SB.out ?_ ⟨?_,rfl⟩
        ·intro w hw;(try dsimp only at hw);go_simp;try with_reducible rfl
        try simp only[nm]
        refine Tk 10 rfl ?_ SB.out ?_ ⟨?_,rfl⟩
        ·intro w hw;(try dsimp only at hw);go_simp;try with_reducible rfl
        try simp only[nm]
        refine Tk 11 rfl ?_ SB.out ?_ ⟨?_,rfl⟩
        ·intro w hw;(try dsimp only at hw);go_simp;try with_reducible rfl
        try simp only[nm]
        refine Rl 13 rfl fun K hK=>?_
        refine Xbp 60 (.tmp 26) (.tmp 140) rfl g26 (out0.cells (.slice none 0 0)) (o.cells (.slice A9 o.ch.length o.ch.length)) R26.out (Xag _ _) rfl (Xbe _ rfl) ?_ ?_ ?_
        ·go_simp
        ·go_simp
        intro w11 hr11 ht11;have O11:=Hd (Xa5 O9.out R26.out (by decide) ht11);have R11:=Hd hr11;have SB:=Hd (SB.out.trans (ht11.below HG26.out));clear hr11 ht11 R26 O9;refine hK.out _ _ SB.out ?_;clear hK K;try simp only[Act.put]
        refine Tk 14 rfl ?_ SB.out ?_ ⟨?_,rfl⟩
        ·intro w hw;(try dsimp only at hw);go_simp;try with_reducible rfl
        try simp only[nm]
        refine wpAnyH_done (by kernel_rfl) ?_ _;have RNW:=Hd (RN.out.below SB.out);have LDW:=Hd (LD.out.below SB.out);have HKF:Hid (kk=(k+t) % F.length):=Hd (by rw[HFN.out];exact HKK.out);have HCHO:Hid (ch16 L p.2=o.ch):=Hd (by unfold ch16;rw[HO.out]);go_wp2_with (first
         | ((with_reducible show wpList _ _ _ (⟨some 146,_,_,_,_,_⟩::_) _ _);go_must(refine Xa3 rfl 60 (.tmp 26) rfl g26 60 (o.cells (.slice A9 o.ch.length o.ch.length)) _ Tryd.underlying60 rfl (Xag _ _) R11.out ?_ ?_;go_simp))
         | ((with_reducible show wpList _ _ _ (⟨none,Op.store 60 (.tmp 147) _,_,_,_,_⟩::_) _ _);go_must(refine Xbk rfl 60 (.tmp 147) (.tmp 146) rfl g23 60 (kk*6) cs (o.cells (.slice A9 o.ch.length o.ch.length)) RNW.out.row (Xag _ _) (by rw[RNW.out.len,HFN.out];show kk*6+6≤fn*6;omega) (Xbe _ rfl) ?_ ?_ ?_;go_simp;go_simp;intro w12 hr12 ht12)))
        have RNS:=Hd (RNW.out.set (p:=p) (A:=A9) (c:=c9) (V':=w12) (by rw[←HKF.out];exact HPT.out) (by rw[HCHO.out];exact O11.out) (by rw[←HKF.out,HO.out];exact hr12) ht12);have LDS:=Hd (LDW.out.turned RNW.out.row ht12);have hbt:=ht12.below (B:=w5.heap.size) HG5.out.1;have BWS:=Hd ((BW.out.trans (SB.out.mono BW.out.size)).trans hbt);have SZS:=Hd (Lq (Lq SZ.out SB.out.size) hbt.size);clear hr12 ht12 hbt;go_roundw
        case rel=>exact⟨k+1,_,by omega,by go_num,RNS.out,LDS.out,BWS.out,SZS.out⟩
        case measure=>simp[intOf];omega
      ·have hke:k=fn:=by omega
       have hlt':¬(k:Int)<fn:=by omega
       have hkF:k=F.length:=by rw[HFN.out];exact hke
       rw[hkF]at RN;obtain⟨ps,hps,hout⟩:=RN.out.outs (fun p hp x hx=>(HF2.out.ch HSO.out hp).ok x hx);rw[HFN.out]at hout;have PS:=Hd hout;have HPS:=Hd hps;have X9:=Hd (XA.out wv BW.out);have BWV:=Hd BW.out;clear hkF hps hout RN LD SZ BW;go_wp2_with fail;go_loopw [28] (fun i wu=>∃(k2:Nat) (Ps:List (List LHold)),k2≤fn∧i=.int .i64 k2∧(Ps.length=k2∧∀j,j<k2→∃p,F[(fn - 1 - j+t) % fn]?=some p∧Ps[j]?=some (ch16 L p.2))∧StIn wu sc mc (commit16 L Ps.flatten)∧wv.grownBy wu (some mc)) (fun i _=>fn - (intOf i).toNat)
       case atStart=>exact⟨0,[],Nat.zero_le _,rfl,⟨rfl,fun j hj=>absurd hj (Nat.not_lt_zero _)⟩,X9.out.c,World.grownBy.refl wv _⟩
       case round =>
        obtain⟨k2,Ps,hk2,rfl,hps,hst,hgr⟩:=hrel;have HB:=Hd hps;have ST:=Hd hst;have GR:=Hd hgr;clear hps hst hgr;rename World=>wu
        have PU:=Hd ((PS.out.keep (Xg3 X9.out.c ST.out GR.out (Lr _))).more GR.out.size);by_cases hlt2:k2<fn
        ·have hlt2':(k2:Int)<fn:=by omega
         obtain⟨kk,hkk⟩:∃m,m=(fn - 1 - k2+t) % fn:=⟨_,rfl⟩;have hkf:kk<fn:=by rw[hkk];exact Nat.mod_lt _ (by omega)
         have hkf':(kk:Int)<fn:=by omega
         have hrm:((fn:Int) - 1 - (k2:Int)+(t:Int)).tmod (fn:Int)=(kk:Int):=by
          rw[show(fn:Int) - 1 - (k2:Int)+(t:Int)=((fn - 1 - k2+t:Nat):Int) by omega,hkk];exact_mod_cast rfl
         obtain⟨p,hp⟩:∃p,F[kk]?=some p:=⟨_,List.getElem?_eq_getElem (by rw[HFN.out];exact hkf)⟩;obtain⟨z,hz⟩:∃z,ps[kk]?=some z:=⟨_,List.getElem?_eq_getElem (by have:=congrArg List.length HPS.out;rw[List.length_map,List.length_map,HFN.out]at this;rw[this];exact hkf)⟩;obtain⟨o,zA⟩:=z;have HPT:=Hd hp;have HZM:=Hd (List.mem_of_getElem? hz);have HCHO:Hid (ch16 L p.2=o.ch):=Hd (by
          have h1:(ps.map (·.1))[kk]?=(F.map fun p=>(run15 p.2 (load15 L p.2)).1)[kk]?:=by rw[HPS.out]
          rw[List.getElem?_map,List.getElem?_map,hz,hp]at h1;unfold ch16;exact congrArg LOut.ch (show o=(run15 p.2 (load15 L p.2)).1 from Option.some.inj h1).symm)
         have HPSM:Hid (∀P ∈ Ps,∃p ∈ F,P=ch16 L p.2):=Hd fun P hP=>by
          obtain⟨j,hj,rfl⟩:=List.getElem_of_mem hP;obtain⟨q,hq1,hq2⟩:=HB.out.2 j (by rw[←HB.out.1];exact hj);rw[List.getElem?_eq_getElem hj]at hq2;exact⟨q,List.mem_of_getElem? hq1,Option.some.inj hq2⟩
         have HBD:Hid ((commit16 L Ps.flatten).length+o.ch.length≤5000):=Hd (by
          have h1:=HF2.out.bound HSO.out HPSM.out;have h2:=HF2.out.bound1 HSO.out (List.mem_of_getElem? HPT.out);rw[HCHO.out]at h2;have h3:=HLL.out;have h4:=HFP.out.2.2.1;omega)
         have HOKZ:Hid (∀x ∈ o.ch,HoldOk x):=Hd (by rw[←HCHO.out];exact(HF2.out.ch HSO.out (List.mem_of_getElem? HPT.out)).ok);obtain⟨a9,x9,ea9,_,hx9,_,hc9⟩:=PU.out.cs.get hkf (by omega);cases ea9
         rw[List.getElem?_map,hz]at hx9;cases hx9
         have HCZ:=Hd hc9;have HKK:=Hd hkk;have HB1:=Hd HB.out.1;clear hc9 hp hz hkk;go_wp2_with (first
          | ((with_reducible show wpList _ _ _ (⟨some 165,_,_,_,_,_⟩::_) _ _);go_must(refine Xa9 rfl 60 (.tmp 164) rfl ((⟨g23,0,none⟩:Addr).add (kk*6)) (o.cells (.slice zA o.ch.length o.ch.length)) _ Tryd.underlying60 rfl (Xag _ _) HCZ.out ?_ ?_;go_simp))
          | fail)
         refine(Xqq sc mc (commit16 L Ps.flatten) o zA o.ch.length o.ch.length wu.heap.size wu ST.out (PU.out.hol (o,zA) HZM.out) (Lr _) HOKZ.out HBD.out).mono ?_;rintro e w9 ⟨rfl,hs9,hg9⟩;have S9:Hid (StIn w9 sc mc (commit16 L (Ps++[ch16 L p.2]).flatten)):=Hd (by rw[List.flatten_append,Xdv,HCHO.out,List.flatten_cons,List.flatten_nil,List.append_nil];exact hs9);have G9:=Hd (GR.out.trans hg9);clear hs9 hg9;go_wp2_with fail;go_roundw
         case rel=>exact⟨k2+1,Ps++[ch16 L p.2],by omega,by go_num,⟨by rw[List.length_append,HB1.out];rfl,fun j hj=>by
          rcases Nat.lt_succ_iff_lt_or_eq.1 hj with hj | rfl
          ·obtain⟨q,hq1,hq2⟩:=HB.out.2 j hj;exact⟨q,hq1,by rw[List.getElem?_append_left (by rw[HB1.out];exact hj)];exact hq2⟩
          ·exact⟨p,by rw[←HKK.out];exact HPT.out,by rw[List.getElem?_append_right (by rw[HB1.out];exact Lr _),HB1.out,Nat.sub_self];rfl⟩⟩,S9.out,G9.out⟩
         case measure=>simp[intOf];omega
        ·have hke2:k2=fn:=by omega
         have hlt2':¬(k2:Int)<fn:=by omega
         have HSC:Hid (commit16 L Ps.flatten=Z.L):=Hd (by rw[HZL.out];exact HF2.out.any HSO.out HFN.out (by rw[HB.out.1,hke2]) fun j hj=>HB.out.2 j (by rw[hke2];exact hj));have C9:Hid (StIn wu sc mc Z.L):=Hd (by rw[←HSC.out];exact ST.out);have S9:=Hd (X9.out.s.keep (GR.out.block _ X9.out.s.lt.1 (fun e=>HNE.out.2.2.1 (Option.some.inj e))) (GR.out.block _ X9.out.s.lt.2 (fun e=>HNE.out.2.2.2.1 (Option.some.inj e))));have O9:=Hd ((X9.out.o.more BWV.out.size).keep (Xg3 X9.out.c ST.out GR.out (Lr _)) |>.more GR.out.size);have B9:=Hd (X9.out.b.trans (Xem (B:=w.heap.size) GR.out HNE.out.2.2.2.2 X9.out.b.size));have HEQ:Hid (os.map (·.1)=ps.map (·.1)):=Hd (HOE.out.trans HPS.out.symm);have HLB:Hid (Z.L.length≤2000):=Hd (by have h1:=HLE.out.2;have h2:=HLL.out;have h3:=HFP.out.2.2.1;omega);have hfn100:fn≤100000:=by omega
         go_wp2_with fail;refine(Xnn os ps A6 (some ⟨g23,0,none⟩) fn _ _ wu O9.out PU.out HEQ.out HOK5.out HCH5.out hfn100).mono ?_;rintro e wa ⟨rfl,hba⟩;have BA:=Hd (B9.out.trans (hba.mono B9.out.size));have SA:=Hd (S9.out.below hba);have CA:=Hd (C9.out.below hba);clear hba;go_wp2_with fail;refine(same13 sb mb sc mc _ _ wa SA.out CA.out (by have h1:=HLB.out;omega) (by have h1:=HLB.out;omega)).mono ?_;rintro e wb ⟨rfl,hbb⟩;rw[decide_eq_true rfl];have BB:=Hd (BA.out.trans (hbb.mono BA.out.size));clear hbb;go_wp2_with fail;refine(Xiq _ (HT.out.below BB.out HT.out.pos)).mono ?_;rintro e wl ⟨rfl,hbl⟩;have BL:=Hd (BB.out.trans (hbl.mono BB.out.size));clear hbl;go_wp2_with fail;go_ret;exact⟨rfl,BL.out⟩
end Go.Proofs.YtkhcgclnmdgpbaaDoor
