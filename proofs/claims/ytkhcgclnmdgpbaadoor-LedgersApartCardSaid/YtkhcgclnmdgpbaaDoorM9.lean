import Derived.Test.YtkhcgclnmdgpbaaDoorM8
import Derived.LaidHandle
import Derived.LaidLaws
import Derived.RangeFuncOwn
set_option maxRecDepth 100000
set_option maxHeartbeats 16000000
set_option linter.unusedSimpArgs false
set_option linter.unusedVariables false
namespace Go.Proofs.YtkhcgclnmdgpbaaDoor
def commit16(L ch:List LHold):List LHold:=ch.foldl (fun L h=>putH L h.k h.a) L
def apply16(L:List LHold)(x:LReady):(LOut × Int) × List LHold:=
 if pay15 L x=true then(if (run15 x (load15 L x)).2=0 then(((run15 x (load15 L x)).1,0),commit16 L (run15 x (load15 L x)).1.ch)else((out0,1),L))else((out0,22),L)
def sat16(n:Int):Int:=if n≤18446744073709551615 then n else 18446744073709551615
structure F16 where
 outs:List LOut
 fees:Int
 e:Int
 L:List LHold
def fold16:List LReady→F16→F16
 | [],S=>S
 | x::r,S=>if (apply16 S.L x).1.2=0 then fold16 r ⟨S.outs++[(apply16 S.L x).1.1],sat16 (S.fees+(apply16 S.L x).1.1.fee),0,(apply16 S.L x).2⟩else⟨S.outs,S.fees,(apply16 S.L x).1.2,S.L⟩
theorem Xj4(L:List LHold):commit16 L []=L:=rfl
theorem Xc1(L:List LHold)(h:LHold)(r:List LHold):commit16 L (h::r)=commit16 (putH L h.k h.a) r:=rfl
theorem Xdv(L a b:List LHold):commit16 L (a++b)=commit16 (commit16 L a) b:=List.foldl_append
theorem Xcc:∀{ch L:List LHold},Sto L→(∀h ∈ ch,HoldOk h)→Sto (commit16 L ch)
 | [],L,hs,_=>hs
 | h::r,L,hs,hc=>by
  rw[Xc1];exact Xcc (hs.put (hc h (by simp)).k (hc h (by simp)).a) fun y hy=>hc y (by simp[hy])
theorem Xct:∀(ch L:List LHold),(commit16 L ch).length≤L.length+ch.length
 | [],L=>by simp[Xj4]
 | h::r,L=>by
  rw[Xc1];have:=Xct r (putH L h.k h.a);have:=Xrf L h.k h.a;rw[List.length_cons];omega
theorem Xen:∀{ch L:List LHold},Sto L→(∀h ∈ ch,HoldOk h)→∀k,(∀h ∈ ch,h.k≠k)→getH (commit16 L ch) k=getH L k
 | [],L,hs,_,k,_=>rfl
 | h::r,L,hs,hc,k,hk=>by
  have hh:=hc h (by simp);rw[Xc1,Xen (hs.put hh.k hh.a) (fun y hy=>hc y (by simp[hy])) k (fun y hy=>hk y (by simp[hy])),Xgf hs hh.k hh.a,if_neg (fun e=>hk h (by simp) e.symm)]
theorem Xe0:∀{rs:List LRole} {l:List LAcc} {h:LHold},h ∈ chg15 rs l→h.a ∈ l∧∃r ∈ rs,r.wr=true∧r.key=h.k
 | [],l,h,hm=>by cases l <;> cases hm
 | r::rs,[],h,hm=>by cases hm
 | r::rs,a::l,h,hm=>by
  unfold chg15 at hm;split at hm
  ·rename_i hw
   rcases List.mem_cons.1 hm with rfl | hm
   ·exact⟨by simp,r,by simp,hw,rfl⟩
   ·obtain⟨h1,r',h2,h3⟩:=Xe0 hm;exact⟨by simp[h1],r',by simp[h2],h3⟩
  ·obtain⟨h1,r',h2,h3⟩:=Xe0 hm;exact⟨by simp[h1],r',by simp[h2],h3⟩
theorem Xhn:∀(rs:List LRole) (l:List LAcc),(chg15 rs l).length≤rs.length
 | [],l=>by cases l <;> simp[chg15]
 | r::rs,[]=>by simp[chg15]
 | r::rs,a::l=>by
  unfold chg15;have:=Xhn rs l;split <;> simp only[List.length_cons] <;> omega
theorem Xew:∀{rs:List LRole} {l:List LAcc},(rs.map LRole.key).Nodup→((chg15 rs l).map LHold.k).Nodup
 | [],l,_=>by cases l <;> simp[chg15]
 | r::rs,[],_=>by simp[chg15]
 | r::rs,a::l,h=>by
  rw[List.map_cons,List.nodup_cons]at h;unfold chg15;split
  ·rw[List.map_cons,List.nodup_cons];refine⟨fun hm=>?_,Xew h.2⟩;obtain⟨y,hy,e⟩:=List.mem_map.1 hm;obtain⟨_,r',h1,_,h3⟩:=Xe0 hy;exact h.1 (List.mem_map.2 ⟨r',h1,h3.trans e⟩)
  ·exact Xew h.2
theorem Xod{x:LReady}{k:Nat}{a:LIn}{S:S15}(h:∀y ∈ S.now,AccOk y)(ha:AllBytes a.acc∧AllBytes a.dat):∀y ∈ (step15 x k a S).2.now,AccOk y:=by
 unfold step15;split
 ·exact h
 split
 ·exact h
 split
 ·split
  ·rename_i he
   obtain⟨p,q,hw⟩:=Xi9 (r:=x.roles) h ha.2 ha.1 he;exact hw.d.ok
  ·exact h
 split
 ·exact h
 ·exact h
theorem Xqf{x:LReady}:∀(I:List LIn) (k:Nat) (S:S15),(∀y ∈ S.now,AccOk y)→(∀a ∈ I,AllBytes a.acc∧AllBytes a.dat)→∀y ∈ (go15 x I k S).2.2.now,AccOk y
 | [],k,S,h,_=>h
 | a::r,k,S,h,ha=>by
  have h1:=Xod (x:=x) (k:=k) h (ha a (by simp));unfold go15;split
  ·exact Xqf r (k+1) _ h1 fun b hb=>ha b (by simp[hb])
  ·exact h1
structure ChOk16(x:LReady)(ch:List LHold):Prop where
 ok:∀h ∈ ch,HoldOk h
 key:∀h ∈ ch,∃r ∈ x.roles,r.wr=true∧r.key=h.k
 len:ch.length≤x.roles.length
 nd:(x.roles.map LRole.key).Nodup→(ch.map LHold.k).Nodup
theorem Xlm(x:LReady):ChOk16 x []:=⟨fun h hh=>(by cases hh),fun h hh=>(by cases hh),by simp,fun _=>by simp⟩
theorem Xow{x:LReady}{l:List LAcc}(hk:∀r ∈ x.roles,r.key.length=32∧AllBytes r.key)(hl:∀y ∈ l,AccOk y):ChOk16 x (chg15 x.roles l):=
 ⟨fun h hh=>by
  obtain⟨h1,r,h2,_,h3⟩:=Xe0 hh;exact⟨h3 ▸ hk r h2,hl _ h1⟩,
  fun h hh=>(Xe0 hh).2,Xhn _ _,Xew⟩
theorem Xfa{x:LReady}{l:List LAcc}(hk:∀r ∈ x.roles,r.key.length=32∧AllBytes r.key)(hl:∀y ∈ l,AccOk y)(hi:∀a ∈ x.tx.m.ins,AllBytes a.acc∧AllBytes a.dat):ChOk16 x (run15 x l).1.ch:=by
 unfold run15;split
 ·exact Xlm x
 split
 ·exact Xlm x
 split
 ·exact Xow hk (Xqf _ _ _ hl hi)
 ·exact Xow hk hl
theorem Xu4(x:LReady)(l:List LAcc):(run15 x l).2=0∨(run15 x l)=(out0,1):=by
 unfold run15;split
 ·exact .inr rfl
 split
 ·exact .inr rfl
 split
 ·exact .inl rfl
 ·exact .inl rfl
theorem Xju(x:LReady)(l:List LAcc)(h:(run15 x l).2=0):(run15 x l).1.fee=x.fee:=by
 revert h
 unfold run15;split
 ·intro h;cases h
 split
 ·intro h;cases h
 split
 ·intro _;rfl
 ·intro _;rfl
structure RdF16(x:LReady):Prop where
 key:∀r ∈ x.roles,r.key.length=32∧AllBytes r.key
 ins:∀a ∈ x.tx.m.ins,AllBytes a.acc∧AllBytes a.dat
 fee:0≤x.fee∧x.fee<18446744073709551616
theorem Xra{L:List LHold}{rs:List LRole}{i:Nat}:getA (ld15 L rs) i=match rs[i]? with | some r=>getH L r.key | none=>blank13:=by
 unfold getA ld15;rw[List.getD_eq_getElem?_getD,List.getElem?_map];cases rs[i]? <;> rfl
theorem Xdm{L:List LHold}{x:LReady}(hs:Sto L)(hp:pay15 L x=true)(hf:RdF16 x):∀y ∈ load15 L x,AccOk y:=by
 intro y hy;unfold load15 at hy;rcases List.mem_or_eq_of_mem_set hy with h | rfl
 ·exact Xp4 hs _ y h
 ·have ha:=Xaf (Xp4 hs x.roles) 0;unfold pay15 at hp;revert hp
  rw[Xra]at ha ⊢;cases hr:x.roles with
  | nil=>simp
  | cons r rs =>
   rw[hr]at ha;simp only[List.getElem?_cons_zero]at ha ⊢;intro hp;simp only[Bool.and_eq_true,decide_eq_true_iff]at hp;have:=hf.fee;exact⟨⟨by show 0≤(getH L r.key).c - x.fee;omega,by show(getH L r.key).c - x.fee<18446744073709551616;have:=ha.c;omega⟩,ha.o,ha.s⟩
theorem Xd2{L:List LHold}{x:LReady}(hs:Sto L)(hf:RdF16 x)(h:(apply16 L x).1.2=0) :
 pay15 L x=true∧(run15 x (load15 L x)).2=0∧(apply16 L x).1=((run15 x (load15 L x)).1,0)∧(apply16 L x).2=commit16 L (run15 x (load15 L x)).1.ch∧ChOk16 x (run15 x (load15 L x)).1.ch:=by
 unfold apply16 at h ⊢;by_cases hp:pay15 L x=true
 ·rw[if_pos hp]at h ⊢;by_cases hr:(run15 x (load15 L x)).2=0
  ·rw[if_pos hr];exact⟨hp,hr,rfl,rfl,Xfa hf.key (Xdm hs hp hf) hf.ins⟩
  ·rw[if_neg hr]at h;cases h
 ·rw[if_neg hp]at h;cases h
theorem Xh8{L:List LHold}{x:LReady}(h:(apply16 L x).1.2≠0):(apply16 L x).2=L∧(apply16 L x).1.1=out0∧((apply16 L x).1.2=1∨(apply16 L x).1.2=22):=by
 unfold apply16 at h ⊢;by_cases hp:pay15 L x=true
 ·rw[if_pos hp]at h ⊢;by_cases hr:(run15 x (load15 L x)).2=0
  ·rw[if_pos hr]at h;exact absurd rfl h
  ·rw[if_neg hr];exact⟨rfl,rfl,.inl rfl⟩
 ·rw[if_neg hp];exact⟨rfl,rfl,.inr rfl⟩
theorem Xdf{L:List LHold}{x:LReady}(hs:Sto L)(hf:RdF16 x):Sto (apply16 L x).2∧(apply16 L x).2.length≤L.length+x.roles.length:=by
 by_cases h:(apply16 L x).1.2=0
 ·obtain⟨_,_,_,h4,h5⟩:=Xd2 hs hf h;rw[h4];exact⟨Xcc hs h5.ok,Lq (Xct _ _) (Nat.add_le_add_left h5.len _)⟩
 ·rw[(Xh8 h).1];exact⟨hs,Nat.le_add_right _ _⟩
theorem Xr0{a:Int}(h:0≤a):0≤sat16 a∧sat16 a<18446744073709551616:=by
 unfold sat16;split <;> omega
theorem Xbg(x:LReady)(r:List LReady)(S:F16):fold16 (x::r) S=if (apply16 S.L x).1.2=0 then fold16 r ⟨S.outs++[(apply16 S.L x).1.1],sat16 (S.fees+(apply16 S.L x).1.1.fee),0,(apply16 S.L x).2⟩else⟨S.outs,S.fees,(apply16 S.L x).1.2,S.L⟩:=rfl
theorem Xfs:∀(a b:List LReady) (S:F16),S.e=0→fold16 (a++b) S=if (fold16 a S).e=0 then fold16 b (fold16 a S)else fold16 a S
 | [],b,S,h=>by
  show fold16 b S=if S.e=0 then fold16 b S else S
  rw[if_pos h]
 | x::r,b,S,h=>by
  rw[List.cons_append,Xbg,Xbg];by_cases h0:(apply16 S.L x).1.2=0
  ·rw[if_pos h0,if_pos h0];exact Xfs r b _ rfl
  ·rw[if_neg h0,if_neg h0,if_neg h0]
theorem Xjb:∀(r:List LReady) (S:F16),(∀x ∈ r,RdF16 x)→Sto S.L→(0≤S.fees∧S.fees<18446744073709551616)→Sto (fold16 r S).L∧(0≤(fold16 r S).fees∧(fold16 r S).fees<18446744073709551616)
 | [],S,_,hs,hf=>⟨hs,hf⟩
 | x::r,S,hx,hs,hf=>by
  rw[Xbg];by_cases h0:(apply16 S.L x).1.2=0
  ·rw[if_pos h0];have hx0:=hx x (by simp);obtain⟨_,h2,h3,_,_⟩:=Xd2 hs hx0 h0;refine Xjb r _ (fun y hy=>hx y (by simp[hy])) (Xdf hs hx0).1 (Xr0 ?_);rw[h3];show 0≤S.fees+(run15 x (load15 S.L x)).1.fee
   rw[Xju _ _ h2];have:=hx0.fee;omega
  ·rw[if_neg h0];exact⟨hs,hf⟩
open Go.ChangeShapes Go.WideShapes Go.ChangeAt Go.RowKit
structure TypAt(w:World):Prop where
 c:w.cell? ⟨0,0,none⟩=some (.iface 149 (.agg #[.pointer (some ⟨1,96,none⟩)]))
theorem TypAt.pos{w:World}(h:TypAt w):0<w.heap.size:=block_lt_of_cell h.c
theorem TypAt.below{w w':World}{B:Nat}(h:TypAt w)(hb:Below B w w')(hB:0<B):TypAt w':=⟨(hb.cell (p:=⟨0,0,none⟩) hB).trans h.c⟩
theorem gTyp : Tryd.prog.globalNamed "errors.errorType" = some 0 := by kernel_rfl
theorem rTyp : (Tryd.prog.cutTypes.find? (·.1 == "internal/reflectlite.rtype")).map (·.2) = some 149 := by kernel_rfl
theorem Xr9:((List.range Tryd.prog.types.size).filter fun t=>Tryd.prog.rowNamed t [101,114,114,111,114])=[96]:=by kernel_rfl
theorem Xn7 (os : Os) (args : Array Value) : laidMetH Tryd.prog [("errors.errorType", Rows.laid_errors_errorType)] ((World.doorLaid Tryd.prog 400 os).forCall (fun _ _ => 0) ⟨#[], args, []⟩).memory :=
 laidMetH_of_parts3 (fuel:=8) (laidMet_of_run' 8 (by kernel_rfl) (by kernel_rfl)) (by kernel_rfl) (by kernel_rfl)
theorem Xog {W : World} (h : laidMetH Tryd.prog [("errors.errorType", Rows.laid_errors_errorType)] W) : TypAt W := by
 have h' : laidMet Tryd.prog [] W ∧ handlesMet Tryd.prog [("errors.errorType", Rows.laid_errors_errorType)] W := h;obtain⟨name,u,ty,e1,e2,e3,e4,e5⟩:=h'.2 _ (List.mem_singleton.2 rfl);have en:name=[101,114,114,111,114]:=(Option.some.inj e1).symm;subst en;obtain rfl:=Option.some.inj (rTyp.symm.trans e2);have hm:ty ∈ (List.range Tryd.prog.types.size).filter fun t=>Tryd.prog.rowNamed t [101,114,114,111,114]:=List.mem_filter.2 ⟨List.mem_range.2 e3,e4⟩
 rw[Xr9]at hm;obtain rfl:=List.mem_singleton.1 hm;have hh:typeHandle Tryd.prog 96=.pointer (some ⟨1,96,none⟩):=by kernel_rfl
 rw[hh]at e5;exact⟨by simpa using World.var?_cell gTyp e5 0⟩
open Go.RowKit
theorem StIn.no_cell{w:World}{sb mb:Nat}{L:List LHold}(h:StIn w sb mb L){p:Addr}(hp:p.block=mb):w.cell? p=none:=by
 obtain⟨es,cl,hm⟩:=h.heap;cases hc:w.cell? p with
 | none=>rfl
 | some v =>
  obtain⟨o,ho,hk⟩:=cells_of_cell hc;rw[hp,hm]at ho;cases ho
  cases hk
theorem Xg3{w w':World}{sb mb:Nat}{L L':List LHold}(h:StIn w sb mb L)(h':StIn w' sb mb L')(hg:w.grownBy w' (some mb)){B:Nat}(hB:B≤w.heap.size):∀p:Addr,p.block<B→w'.cell? p=w.cell? p:=fun p hp=>by
 by_cases he:p.block=mb
 ·rw[h.no_cell he,h'.no_cell he]
 ·exact World.cell?_of_block (hg.block _ (Nat.lt_of_lt_of_le hp hB) (fun e=>he (Option.some.inj e)))
theorem StIn.own_ne16{w:World}{sb mb base size n:Nat}{e:TypeId}{u:Value}{L:List LHold}{xs:List Value}(h:StIn w sb mb L)(ho:w.ownsRow base e size u n xs):u.ownBlock=none∨u.ownBlock≠some mb:=by
 rcases ho.2 with⟨hv,_⟩ | ⟨g,cap,cur,hv,_,hh,_⟩
 ·exact .inl (by rw[hv];rfl)
 ·refine .inr (fun e=>?_);rw[hv]at e;obtain rfl:g=mb:=Option.some.inj e;obtain⟨es,cl,hm⟩:=h.heap;rw[hh]at hm;cases hm
theorem ReadyIn.keep{w w':World}{B:Nat}{q:YRaw}{x:LReady}(h:ReadyIn w B q x)(hk:∀p:Addr,p.block<B→w'.cell? p=w.cell? p):ReadyIn w' B q x:=⟨h.bs.keep hk,h.bn,h.tx.keep hk,h.rs.keep hk,h.rn⟩
theorem TypAt.keep{w w':World}{B:Nat}(h:TypAt w)(hk:∀p:Addr,p.block<B→w'.cell? p=w.cell? p)(hB:0<B):TypAt w':=⟨(hk ⟨0,0,none⟩ hB).trans h.c⟩
theorem Xem{w w':World}{m B:Nat}(h:w.grownBy w' (some m))(hm:B≤m)(hB:B≤w.heap.size):Below B w w':=(Br B w).grown h hB (fun k hk=>by cases hk;exact hm)
theorem Xj1(sb mb:Nat)(L:List LHold)(V:World)(hs:StIn V sb mb L):Calls Tryd.prog 26 #[.pointer (some ⟨sb,0,none⟩)] V fun e w'=>e=.returned (.bool false)∧V=w':=by
 have HS:=Hd hs;clear hs;go_enter Tryd.func26,Tryd.ntmps26
 go_wp2_with fail;refine(Xj2 sb mb L V HS.out).mono ?_;rintro e w1 ⟨rfl,rfl⟩;go_wp2_with fail;go_ret;exact⟨rfl,rfl⟩
theorem Xf1{L ch:List LHold}{k:Nat}{h:LHold}(hh:ch[k]?=some h):commit16 L (ch.take (k+1))=putH (commit16 L (ch.take k)) h.k h.a:=by
 rw[List.take_add_one,hh,Option.toList_some,Xdv];rfl
theorem Xqq(sb mb:Nat)(L:List LHold)(o:LOut)(A:Option Addr)(n c B:Nat)(w:World)(hs:StIn w sb mb L)(hc:CsIn 66 w B A n (o.ch.map LHold.cells))(hB:B≤w.heap.size)(ho:∀h ∈ o.ch,HoldOk h)(hL:L.length+n≤5000) :
 Calls Tryd.prog 12 #[.pointer (some ⟨sb,0,none⟩),.agg (o.cells (.slice A n c)).toArray] w fun e w'=>e=.returned (.int .i64 0)∧StIn w' sb mb (commit16 L o.ch)∧w.grownBy w' (some mb):=by
 have HCS:=Hd hc;have HB:=Hd hB;have HO:=Hd ho;have HLN:Hid (o.ch.length=n):=Hd (by have:=hc.len;rwa [List.length_map]at this);have b0:=(Br w.heap.size w).alloc (Lr _) (.cells (o.cells (.slice A n c)).toArray 60);have R1:=Hd (Row.new w 60 (o.cells (.slice A n c)));have S1:=Hd (hs.below b0);have G1:Hid (w.grownBy (w.alloc (.cells (o.cells (.slice A n c)).toArray 60)) (some mb)):=Hd (gb_of _ b0);have C1:=Hd (hc.keep (fun p hp=>World.cell?_alloc_lt w (.cells (o.cells (.slice A n c)).toArray 60) p (by omega)));obtain⟨g3,hg3⟩:∃g,g=w.heap.size:=⟨_,rfl⟩;have HG3:Hid (w.heap.size=g3):=Hd hg3.symm;rw[←hg3]at R1;have HSZ:Hid (B≤(w.alloc (.cells (o.cells (.slice A n c)).toArray 60)).heap.size):=Hd (Lq hB b0.size);clear hg3 b0 hs hc hB ho;generalize hW:w.alloc (.cells (o.cells (.slice A n c)).toArray 60)=W at *;have HW:=Hd hW;clear hW;go_enter Tryd.func12,Tryd.ntmps12
 go_upto_region 1 with fail
 try rw[HG3.out]
 rw[HW.out];clear HG3 HW;go_wp2_with fail;refine(Xj1 sb mb L W S1.out).mono ?_;rintro e w1 ⟨rfl,rfl⟩;have c5:W.cell? ⟨g3,5,none⟩=some (.slice A n c):=R1.out.cell 5;go_wp2_with fail;clear c5;go_loopw [12] (fun i wr=>∃k:Nat,k≤n∧i=.int .i64 k∧StIn wr sb mb (commit16 L (o.ch.take k))∧W.grownBy wr (some mb)) (fun i _=>n - (intOf i).toNat)
 case atStart=>exact⟨0,Nat.zero_le _,rfl,S1.out,gb_of _ (Br _ _)⟩
 case round =>
  obtain⟨k,hk,rfl,hst,hgr⟩:=hrel;have ST:=Hd hst;have GR:=Hd hgr;clear hst hgr;rename World=>wr
  by_cases hlt:k<n
  ·have hlt':(k:Int)<n:=by omega
   have CW:=C1.out.keep (Xg3 S1.out ST.out GR.out HSZ.out);obtain⟨a,xs,ea,hab,hxs,hxl,hcs⟩:=CW.get hlt (by omega);obtain⟨h,hh,rfl⟩:∃h,o.ch[k]?=some h∧h.cells=xs:=by
    rw[List.getElem?_map]at hxs;obtain⟨h,h1,h2⟩:=Option.map_eq_some_iff.1 hxs;exact⟨h,h1,h2⟩
   have HH:=Hd (HO.out h (List.mem_of_getElem? hh));have HMT:=Hd (Xf1 (L:=L) hh);have HPL:Hid ((commit16 L (o.ch.take k)).length≤5000):=Hd (by have:=Xct (o.ch.take k) L;have:=List.length_take_le k o.ch;omega);have HCX:=Hd hcs;have HSH:=Hd (Xh4 HH.out.k.1 HH.out.a.o.1);have HONE:=Hd (Xe9 h);have HLL:=Hd (Xch HH.out.k.1 HH.out.a.o.1);have HSK:Hid ((Tryd.prog.info? 68).map (·.size)=some (bv h.k).length):=Hd (by rw[Xb7,bL,HH.out.k.1]);have HSA:=Hd (Xay HH.out.a.o.1);have HKK:Hid (∀j u,(bv h.k)[j]?=some u→h.cells[j]?=some u):=Hd fun j u hu=>Xot hu
   have HAA:Hid (∀j u,h.a.cells[j]?=some u→h.cells[32+j]?=some u):=Hd fun j u hu=>Xsv HH.out.k.1 hu
   subst ea;clear hab hxs hxl hcs hh CW;generalize hhc:h.cells=hc at *;clear hhc;go_upto_region 6 with(first
    | ((with_reducible show wpList _ _ _ (⟨some 15,_,_,_,_,_⟩::_) _ _);go_must(refine Xa9 rfl 78 (.tmp 14) rfl (a.add (k*66)) hc _ Tryd.underlying78 rfl HSH.out HCX.out ?_ ?_;go_simp))
    | ((with_reducible show wpList _ _ _ (⟨none,Op.store 78 _ _,_,_,_,_⟩::_) _ _);go_must(refine Xa6 rfl 78 (.tmp 6) (.tmp 15) rfl hc HSH.out HONE.out (by rw[HLL.out];rfl) ?_ ?_ ?_;go_simp;go_simp;intro w8 hr8 hb8 hz8)))
   have R8:=Hd hr8;have ST8:=Hd (ST.out.below hb8);have GR8:=Hd (Xm5 GR.out hb8);obtain⟨g8,hg8⟩:∃v,v=wr.heap.size:=⟨_,rfl⟩;rw[←hg8]at R8 ⊢;clear hr8 hb8 hz8 hg8 ST GR;go_wp2_with (first
    | ((with_reducible show wpList _ _ _ (⟨some 18,_,_,_,_,_⟩::_) _ _);go_must(refine Xa9 rfl 68 (.tmp 17) rfl ⟨g8,0,none⟩ (bv h.k) _ Tryd.underlying68 rfl HSK.out (fun j u hu=>by rw[Xac,Nat.zero_add];exact(R8.out.cell j).trans (HKK.out j u hu)) ?_ ?_;go_simp))
    | ((with_reducible show wpList _ _ _ (⟨some 20,_,_,_,_,_⟩::_) _ _);go_must(refine Xa9 rfl 72 (.tmp 19) rfl ⟨g8,32,none⟩ h.a.cells _ Tryd.underlying72 rfl HSA.out (fun j u hu=>by rw[Xac];exact(R8.out.cell _).trans (HAA.out j u hu)) ?_ ?_;go_simp)))
   refine(put13 sb mb _ h.k h.a w8 ST8.out HH.out.k HH.out.a HPL.out).mono ?_;rintro e w9 ⟨rfl,hs9,hg9⟩;rw[←HMT.out]at hs9;have ST9:=Hd hs9;have GR9:=Hd (Xcl GR8.out hg9);clear hs9 hg9;go_wp2_with fail;go_roundw
   case rel=>exact⟨k+1,by omega,by go_num,ST9.out,GR9.out⟩
   case measure=>simp[intOf];omega
  ·have hke:k=n:=by omega
   have hlt':¬(k:Int)<n:=by omega
   have HT:Hid (o.ch.take k=o.ch):=Hd (by rw[hke,←HLN.out];exact List.take_length);rw[HT.out]at ST;go_wp2_with fail;go_ret;exact⟨rfl,ST.out,Xcl G1.out GR.out⟩
open Go.RowKit Go.Maps
theorem Xaw:k0.length=32∧AllBytes k0:=by
 refine⟨rfl,fun x hx=>?_⟩;obtain rfl:=List.eq_of_mem_replicate (show x ∈ List.replicate 32 0 from hx);exact⟨by decide,by decide⟩
theorem Xax:k3.length=32∧AllBytes k3:=by
 refine⟨rfl,fun x hx=>?_⟩;have h:∀y ∈ k3,0≤y∧y<256:=by decide
 exact h x hx
theorem Xpk:k0≠k3:=by decide
theorem Xlh{v:Value}{ps:List MemPlace}(h:fnE v=some (.lit (.int .i64 (-1)),ps)):v=.nilFunc:=by
 unfold fnE at h;split at h
 ·rename_i hx
  injection h with h
  injection h with h _
  injection h with h
  injection h with _ h
  omega
 ·split at h
  ·assumption
  ·cases h
structure PD15(D:DataW Unit):Prop where
 at0:∀z,D.atKey (KL k0) z=FnD14 55
 at3:∀z,D.atKey (KL k3) z=FnD14 57
 no:∀k,k.length=32∧AllBytes k→k≠k0→k≠k3→Go.Maps.has D (KL k)=false
theorem Xjw:PD15 (((DataW.map []).put (KL k0) (FnD14 55)).put (KL k3) (FnD14 57)):=by
 have hk0:=Xg0 Xaw.1 Xaw.2;have hk3:=Xg0 Xax.1 Xax.2;have hm:=(isMap_empty (H:=Unit)).put (KL k0) (FnD14 55);have ne:KL k0≠KL k3:=fun e=>Xpk (Xdl Xaw.1 Xaw.2 Xax.1 Xax.2 e)
 refine⟨fun z=>?_,fun z=>atKey_put_same hm hk3 _ _,fun k hk h0 h3=>?_⟩
 ·rw[atKey_put_other ne,atKey_put_same isMap_empty hk0]
 ·rw[has_put_other (fun e=>h3 (Xdl hk.1 hk.2 Xax.1 Xax.2 e)),has_put_other (fun e=>h0 (Xdl hk.1 hk.2 Xaw.1 Xaw.2 e))];rfl
theorem Xp0:PD15 (((DataW.map []).put (KL k3) (FnD14 57)).put (KL k0) (FnD14 55)):=by
 have hk0:=Xg0 Xaw.1 Xaw.2;have hk3:=Xg0 Xax.1 Xax.2;have hm:=(isMap_empty (H:=Unit)).put (KL k3) (FnD14 57);have ne:KL k3≠KL k0:=fun e=>Xpk (Xdl Xax.1 Xax.2 Xaw.1 Xaw.2 e).symm
 refine⟨fun z=>atKey_put_same hm hk0 _ _,fun z=>?_,fun k hk h0 h3=>?_⟩
 ·rw[atKey_put_other ne,atKey_put_same isMap_empty hk3]
 ·rw[has_put_other (fun e=>h0 (Xdl hk.1 hk.2 Xaw.1 Xaw.2 e)),has_put_other (fun e=>h3 (Xdl hk.1 hk.2 Xax.1 Xax.2 e))];rfl
def PM15(w:World)(mb:Nat):Prop:=∃n D,w.ownsMap Tryd.prog 68 fnE mb n D∧PD15 D
theorem PM15.lt{w:World}{mb:Nat}(h:PM15 w mb):mb<w.heap.size:=by
 obtain⟨n,D,⟨es,cl,hm,_⟩,_⟩:=h;exact(Array.getElem?_eq_some_iff.1 hm).1
theorem PM15.keep{w w':World}{mb:Nat}(h:PM15 w mb)(h2:w'.heap[mb]?=w.heap[mb]?):PM15 w' mb:=by
 obtain⟨n,D,⟨es,cl,hm,F,hs,hD⟩,had⟩:=h;exact⟨n,D,⟨es,cl,h2.trans hm,F,hs,hD⟩,had⟩
theorem PM15.below{w w':World}{mb:Nat}(h:PM15 w mb)(hb:Below w.heap.size w w'):PM15 w' mb:=h.keep (hb.block _ h.lt)
theorem PM15.row_ne{w:World}{mb g t:Nat}{xs:List Value}(h:PM15 w mb)(hr:Row w g t xs):g≠mb:=by
 rintro rfl;obtain⟨n,D,⟨es,cl,hm,_⟩,_⟩:=h;rw[hr.is]at hm;cases hm
def fnV15(k:List Int):Value:=if k=k0 then .func (.func 55) #[] #[]else if k=k3 then .func (.func 57) #[] #[]else .nilFunc
theorem Xoi(w:World):(zeroValue 146).run Tryd.prog w=.ok .nilFunc w:=by kernel_rfl
theorem PM15.look{w:World}{mb:Nat}(h:PM15 w mb){k:List Int}(hk:k.length=32∧AllBytes k):(Instr.lookup 125 (.map (some mb)) (.agg (bv k).toArray) true).run Tryd.prog w=.ok (.tuple #[fnV15 k,.bool (decide (k=k0∨k=k3))]) w:=by
 obtain⟨n,D,hown,hd⟩:=h;obtain⟨v,ps,hrun,hv⟩:=hown.look_ok Xb9 Tryd.underlying125 (Xoi w) Xqi (KL_is hk.1 hk.2);rw[hrun];unfold fnV15;by_cases e0:k=k0
 ·subst e0;rw[hd.at0]at hv;rw[Xkp hv,has_true_of_atKey hd.at0,if_pos rfl,decide_eq_true (.inl rfl)]
 ·by_cases e3:k=k3
  ·subst e3;rw[hd.at3]at hv;rw[Xkp hv,has_true_of_atKey hd.at3,if_neg e0,if_pos rfl,decide_eq_true (.inr rfl)]
  ·have hn:=hd.no k hk e0 e3;rw[atKey_of_not_has hn]at hv;rw[Xlh hv,hn,if_neg e0,if_neg e3,decide_eq_false (by rintro(h | h);exact e0 h;exact e3 h)]
theorem Xd8{a:Act}{o:Oper}(w:World)(m x:Operand)(hop:o.op=Op.lookup 125 m x true)(b:Nat)(k:List Int)(v:Value)(hm:a.eval m=.map (some b))(hx:a.eval x=.agg (bv k).toArray)
 (hr:(Instr.lookup 125 (.map (some b)) (.agg (bv k).toArray) true).run Tryd.prog w=.ok v w):(execOp a.eval o).run Tryd.prog w=.ok (.value v) w:=by
 unfold execOp;simp only[hop,hm,hx,Sem.run_bind,Sem.run_pure,hr,Result.andThen_ok]
theorem Xdy{P:Program}{o:Oper}{a:Act}{w w':World}{K:Act→World→Prop}{Q:Exit→Act→World→Prop}(t:TypeId)(hop:o.op=Op.makeMap t none){v:Value}(hrun:(Instr.makeMap t none).run P w=.ok v w')(h:K (a.put o.dst v) w'):o.wp P a w K Q:=by
 unfold Oper.wp;simp[execOp,hop,hrun,Result.andThen];exact h
theorem Xb0{H:Type}{P:Program}(w:World){o:Oper}{a:Act}{K:Act→World→Prop}{Q:Exit→Act→World→Prop}(m x v:Operand)(t:TypeId)(hop:o.op=Op.insert t m x v)
 (k e:TypeId) (KK:Keyed P k) (ht:P.underlying t=some (.map k e)) (R:Value→Option (DataW H × List MemPlace)) (b n:Nat) (D:DataW H)
 (hm:a.eval m=.map (some b)) (hown:w.ownsMap P k R b n D) (hn:n<maxLen) (key val:Value) (kl:Lit) (hx:a.eval x=key) (hv:a.eval v=val) (hkey:Go.keyOf P k key=some kl)
 (d:DataW H) (ps:List MemPlace) (hval:R val=some (d,ps))
 (hK:∀w',w'.ownsMap P k R b (n+1) (D.put kl d)→w.grownBy w' (some b)→K (a.put o.dst undef) w'):o.wp P a w K Q:=by
 obtain⟨w',hrun,r1,r2⟩:=hown.update KK ht hn hkey hval;unfold Oper.wp;simp[execOp,hop,hm,hx,hv,hrun,Result.andThen];exact hK w' r1 r2
theorem Xcs{k:TypeId}{R:Value→Option (DataW Unit × List MemPlace)}{w w':World}{b n:Nat}{D:DataW Unit}(h:w.ownsMap Tryd.prog k R b n D)(hb:Below w.heap.size w w'):w'.ownsMap Tryd.prog k R b n D:=by
 have hlt:=h.lt;obtain⟨es,cl,hm,F,hs,hD⟩:=h;exact⟨es,cl,(hb.block _ hlt).trans hm,F,hs,hD⟩
theorem Xnl(w:World):Calls Tryd.prog 45 #[] w fun e w'=>∃mb,e=.returned (.map (some mb))∧PM15 w' mb∧w.heap.size≤mb∧Below w.heap.size w w':=by
 have hmm:∀w,(Instr.makeMap 125 none).run Tryd.prog w=.ok (.map (some w.heap.size)) (w.alloc (.map #[] 0)):=fun w=>by first | rfl | kernel_rfl
 go_enter Tryd.func45,Tryd.ntmps45
 go_upto_region 1 with fail
 have B0:=Hd (Br w.heap.size w).drew;refine wp_region_held_drew (S:=fun V=>Below w.heap.size w V) (by kernel_rfl) B0.out (fun _=>?_);try dsimp only[List.append]
 obtain⟨y0,hy0⟩:∃u,u=w.drew:=⟨_,rfl⟩;rw[←hy0]at B0 ⊢;clear hy0;refine Xar (i:=0) (j:=1) rfl rfl (by kernel_rfl) (by kernel_rfl) (by kernel_rfl) (fun K hK=>?_) (fun K hK=>?_)
 ·have hx:=hmm y0;have H1:=Hd (World.ownsMap_made y0 Tryd.prog 68 fnE);have B1:=Hd (B0.out.alloc B0.out.size (.map #[] 0));have G1:Hid (w.heap.size≤y0.heap.size):=Hd B0.out.size;refine Xdy 125 rfl hx ?_;clear hx;obtain⟨m1,hm1⟩:∃m,m=y0.heap.size:=⟨_,rfl⟩;rw[←hm1]at H1 G1 ⊢;clear hm1;generalize y0.alloc (.map #[] 0)=y1 at *;refine hK.out _ _ B1.out ?_;clear hK K;try simp only[nm]
  refine Rl 1 rfl fun K hK=>?_
  go_simp;refine(Xbw _).mono ?_;rintro e y3 ⟨rfl,hb⟩;have B3:=Hd (B1.out.trans (hb.mono B1.out.size));have H3:=Hd (Xcs H1.out hb);clear hb;refine hK.out _ _ B3.out ?_;clear hK K;try simp only[nm]
  refine Xar (i:=2) (j:=3) rfl rfl (by kernel_rfl) (by kernel_rfl) (by kernel_rfl) (fun K hK=>?_) (fun K hK=>?_)
  ·refine Xb0 _ (.tmp 1) (.tmp 2) (.func 55) 125 rfl 68 146 Xb9 Tryd.underlying125 fnE m1 0 (DataW.map []) (by go_simp) H3.out (by decide) (.agg (bv k0).toArray) (.func (.func 55) #[] #[]) (KL k0) (by go_simp) (by go_simp) (KL_is Xaw.1 Xaw.2) (FnD14 55) [] (Xbx _) ?_;intro y4 ho hg;have H4:=Hd ho;have B4:=Hd (B3.out.grown hg B3.out.size (fun k hk=>by cases hk;exact G1.out));clear ho hg;refine hK.out _ _ B4.out ?_;clear hK K;try simp only[Act.put]
   refine Rl 3 rfl fun K hK=>?_
   go_simp;refine(Xgw _).mono ?_;rintro e y6 ⟨rfl,hb⟩;have B6:=Hd (B4.out.trans (hb.mono B4.out.size));have H6:=Hd (Xcs H4.out hb);clear hb;refine hK.out _ _ B6.out ?_;clear hK K;try simp only[nm]
   refine Rl 4 rfl fun K hK=>?_
   refine Xb0 _ (.tmp 1) (.tmp 3) (.func 57) 125 rfl 68 146 Xb9 Tryd.underlying125 fnE m1 1 ((DataW.map []).put (KL k0) (FnD14 55)) (by go_simp) H6.out (by decide) (.agg (bv k3).toArray) (.func (.func 57) #[] #[]) (KL k3) (by go_simp) (by go_simp) (KL_is Xax.1 Xax.2) (FnD14 57) [] (Xbx _) ?_;intro y7 ho hg;have H7:=Hd ho;have B7:=Hd (B6.out.grown hg B6.out.size (fun k hk=>by cases hk;exact G1.out));clear ho hg;refine hK.out _ _ B7.out ?_;clear hK K;try simp only[Act.put]
   refine Tk 5 rfl ?_ B7.out ?_ ⟨?_,rfl⟩
   ·intro w hw;(try dsimp only at hw);go_simp;try with_reducible rfl
   try simp only[nm]
   refine Tk 6 rfl ?_ B7.out ?_ ⟨?_,rfl⟩
   ·intro w hw;(try dsimp only at hw);go_simp;try with_reducible rfl
   try simp only[Act.put,List.setIfInBounds_toArray,List.set_cons_zero]
   refine wpAnyH_done (by kernel_rfl) ?_ _;go_wp2_with fail;go_ret;exact⟨_,rfl,⟨_,_,H7.out,Xjw⟩,G1.out,B7.out⟩
  ·go_simp;refine(Xgw _).mono ?_;rintro e y5 ⟨rfl,hb⟩;have B5:=Hd (B3.out.trans (hb.mono B3.out.size));have H5:=Hd (Xcs H3.out hb);clear hb;refine hK.out _ _ B5.out ?_;clear hK K;try simp only[nm]
   refine Xar (i:=2) (j:=4) rfl rfl (by kernel_rfl) (by kernel_rfl) (by kernel_rfl) (fun K hK=>?_) (fun K hK=>?_)
   ·refine Xb0 _ (.tmp 1) (.tmp 2) (.func 55) 125 rfl 68 146 Xb9 Tryd.underlying125 fnE m1 0 (DataW.map []) (by go_simp) H5.out (by decide) (.agg (bv k0).toArray) (.func (.func 55) #[] #[]) (KL k0) (by go_simp) (by go_simp) (KL_is Xaw.1 Xaw.2) (FnD14 55) [] (Xbx _) ?_;intro y8 ho hg;have H8:=Hd ho;have B8:=Hd (B5.out.grown hg B5.out.size (fun k hk=>by cases hk;exact G1.out));clear ho hg;refine hK.out _ _ B8.out ?_;clear hK K;try simp only[Act.put]
    refine Rl 4 rfl fun K hK=>?_
    refine Xb0 _ (.tmp 1) (.tmp 3) (.func 57) 125 rfl 68 146 Xb9 Tryd.underlying125 fnE m1 1 ((DataW.map []).put (KL k0) (FnD14 55)) (by go_simp) H8.out (by decide) (.agg (bv k3).toArray) (.func (.func 57) #[] #[]) (KL k3) (by go_simp) (by go_simp) (KL_is Xax.1 Xax.2) (FnD14 57) [] (Xbx _) ?_;intro y10 ho hg;have H10:=Hd ho;have B10:=Hd (B8.out.grown hg B8.out.size (fun k hk=>by cases hk;exact G1.out));clear ho hg;refine hK.out _ _ B10.out ?_;clear hK K;try simp only[Act.put]
    refine Tk 5 rfl ?_ B10.out ?_ ⟨?_,rfl⟩
    ·intro w hw;(try dsimp only at hw);go_simp;try with_reducible rfl
    try simp only[nm]
    refine Tk 6 rfl ?_ B10.out ?_ ⟨?_,rfl⟩
    ·intro w hw;(try dsimp only at hw);go_simp;try with_reducible rfl
    try simp only[Act.put,List.setIfInBounds_toArray,List.set_cons_zero]
    refine wpAnyH_done (by kernel_rfl) ?_ _;go_wp2_with fail;go_ret;exact⟨_,rfl,⟨_,_,H10.out,Xjw⟩,G1.out,B10.out⟩
   ·refine Xb0 _ (.tmp 1) (.tmp 3) (.func 57) 125 rfl 68 146 Xb9 Tryd.underlying125 fnE m1 0 (DataW.map []) (by go_simp) H5.out (by decide) (.agg (bv k3).toArray) (.func (.func 57) #[] #[]) (KL k3) (by go_simp) (by go_simp) (KL_is Xax.1 Xax.2) (FnD14 57) [] (Xbx _) ?_;intro y9 ho hg;have H9:=Hd ho;have B9:=Hd (B5.out.grown hg B5.out.size (fun k hk=>by cases hk;exact G1.out));clear ho hg;refine hK.out _ _ B9.out ?_;clear hK K;try simp only[Act.put]
    refine Rl 2 rfl fun K hK=>?_
    refine Xb0 _ (.tmp 1) (.tmp 2) (.func 55) 125 rfl 68 146 Xb9 Tryd.underlying125 fnE m1 1 ((DataW.map []).put (KL k3) (FnD14 57)) (by go_simp) H9.out (by decide) (.agg (bv k0).toArray) (.func (.func 55) #[] #[]) (KL k0) (by go_simp) (by go_simp) (KL_is Xaw.1 Xaw.2) (FnD14 55) [] (Xbx _) ?_;intro y11 ho hg;have H11:=Hd ho;have B11:=Hd (B9.out.grown hg B9.out.size (fun k hk=>by cases hk;exact G1.out));clear ho hg;refine hK.out _ _ B11.out ?_;clear hK K;try simp only[Act.put]
    refine Tk 5 rfl ?_ B11.out ?_ ⟨?_,rfl⟩
    ·intro w hw;(try dsimp only at hw);go_simp;try with_reducible rfl
    try simp only[nm]
    refine Tk 6 rfl ?_ B11.out ?_ ⟨?_,rfl⟩
    ·intro w hw;(try dsimp only at hw);go_simp;try with_reducible rfl
    try simp only[Act.put,List.setIfInBounds_toArray,List.set_cons_zero]
    refine wpAnyH_done (by kernel_rfl) ?_ _;go_wp2_with fail;go_ret;exact⟨_,rfl,⟨_,_,H11.out,Xp0⟩,G1.out,B11.out⟩
 ·go_simp;refine(Xbw _).mono ?_;rintro e y2 ⟨rfl,hb⟩;have B2:=Hd (B0.out.trans (hb.mono B0.out.size));clear hb;refine hK.out _ _ B2.out ?_;clear hK K;try simp only[nm]
  refine Xar (i:=0) (j:=3) rfl rfl (by kernel_rfl) (by kernel_rfl) (by kernel_rfl) (fun K hK=>?_) (fun K hK=>?_)
  ·have hx:=hmm y2;have H12:=Hd (World.ownsMap_made y2 Tryd.prog 68 fnE);have B12:=Hd (B2.out.alloc B2.out.size (.map #[] 0));have G12:Hid (w.heap.size≤y2.heap.size):=Hd B2.out.size;refine Xdy 125 rfl hx ?_;clear hx;obtain⟨m12,hm12⟩:∃m,m=y2.heap.size:=⟨_,rfl⟩;rw[←hm12]at H12 G12 ⊢;clear hm12;generalize y2.alloc (.map #[] 0)=y12 at *;refine hK.out _ _ B12.out ?_;clear hK K;try simp only[nm]
   refine Xar (i:=2) (j:=3) rfl rfl (by kernel_rfl) (by kernel_rfl) (by kernel_rfl) (fun K hK=>?_) (fun K hK=>?_)
   ·refine Xb0 _ (.tmp 1) (.tmp 2) (.func 55) 125 rfl 68 146 Xb9 Tryd.underlying125 fnE m12 0 (DataW.map []) (by go_simp) H12.out (by decide) (.agg (bv k0).toArray) (.func (.func 55) #[] #[]) (KL k0) (by go_simp) (by go_simp) (KL_is Xaw.1 Xaw.2) (FnD14 55) [] (Xbx _) ?_;intro y14 ho hg;have H14:=Hd ho;have B14:=Hd (B12.out.grown hg B12.out.size (fun k hk=>by cases hk;exact G12.out));clear ho hg;refine hK.out _ _ B14.out ?_;clear hK K;try simp only[Act.put]
    refine Rl 3 rfl fun K hK=>?_
    go_simp;refine(Xgw _).mono ?_;rintro e y16 ⟨rfl,hb⟩;have B16:=Hd (B14.out.trans (hb.mono B14.out.size));have H16:=Hd (Xcs H14.out hb);clear hb;refine hK.out _ _ B16.out ?_;clear hK K;try simp only[nm]
    refine Rl 4 rfl fun K hK=>?_
    refine Xb0 _ (.tmp 1) (.tmp 3) (.func 57) 125 rfl 68 146 Xb9 Tryd.underlying125 fnE m12 1 ((DataW.map []).put (KL k0) (FnD14 55)) (by go_simp) H16.out (by decide) (.agg (bv k3).toArray) (.func (.func 57) #[] #[]) (KL k3) (by go_simp) (by go_simp) (KL_is Xax.1 Xax.2) (FnD14 57) [] (Xbx _) ?_;intro y17 ho hg;have H17:=Hd ho;have B17:=Hd (B16.out.grown hg B16.out.size (fun k hk=>by cases hk;exact G12.out));clear ho hg;refine hK.out _ _ B17.out ?_;clear hK K;try simp only[Act.put]
    refine Tk 5 rfl ?_ B17.out ?_ ⟨?_,rfl⟩
    ·intro w hw;(try dsimp only at hw);go_simp;try with_reducible rfl
    try simp only[nm]
    refine Tk 6 rfl ?_ B17.out ?_ ⟨?_,rfl⟩
    ·intro w hw;(try dsimp only at hw);go_simp;try with_reducible rfl
    try simp only[Act.put,List.setIfInBounds_toArray,List.set_cons_zero]
    refine wpAnyH_done (by kernel_rfl) ?_ _;go_wp2_with fail;go_ret;exact⟨_,rfl,⟨_,_,H17.out,Xjw⟩,G12.out,B17.out⟩
   ·go_simp;refine(Xgw _).mono ?_;rintro e y15 ⟨rfl,hb⟩;have B15:=Hd (B12.out.trans (hb.mono B12.out.size));have H15:=Hd (Xcs H12.out hb);clear hb;refine hK.out _ _ B15.out ?_;clear hK K;try simp only[nm]
    refine Xar (i:=2) (j:=4) rfl rfl (by kernel_rfl) (by kernel_rfl) (by kernel_rfl) (fun K hK=>?_) (fun K hK=>?_)
    ·refine Xb0 _ (.tmp 1) (.tmp 2) (.func 55) 125 rfl 68 146 Xb9 Tryd.underlying125 fnE m12 0 (DataW.map []) (by go_simp) H15.out (by decide) (.agg (bv k0).toArray) (.func (.func 55) #[] #[]) (KL k0) (by go_simp) (by go_simp) (KL_is Xaw.1 Xaw.2) (FnD14 55) [] (Xbx _) ?_;intro y18 ho hg;have H18:=Hd ho;have B18:=Hd (B15.out.grown hg B15.out.size (fun k hk=>by cases hk;exact G12.out));clear ho hg;refine hK.out _ _ B18.out ?_;clear hK K;try simp only[Act.put]
     refine Rl 4 rfl fun K hK=>?_
     refine Xb0 _ (.tmp 1) (.tmp 3) (.func 57) 125 rfl 68 146 Xb9 Tryd.underlying125 fnE m12 1 ((DataW.map []).put (KL k0) (FnD14 55)) (by go_simp) H18.out (by decide) (.agg (bv k3).toArray) (.func (.func 57) #[] #[]) (KL k3) (by go_simp) (by go_simp) (KL_is Xax.1 Xax.2) (FnD14 57) [] (Xbx _) ?_;intro y20 ho hg;have H20:=Hd ho;have B20:=Hd (B18.out.grown hg B18.out.size (fun k hk=>by cases hk;exact G12.out));clear ho hg;refine hK.out _ _ B20.out ?_;clear hK K;try simp only[Act.put]
     refine Tk 5 rfl ?_ B20.out ?_ ⟨?_,rfl⟩
     ·intro w hw;(try dsimp only at hw);go_simp;try with_reducible rfl
     try simp only[nm]
     refine Tk 6 rfl ?_ B20.out ?_ ⟨?_,rfl⟩
     ·intro w hw;(try dsimp only at hw);go_simp;try with_reducible rfl
     try simp only[Act.put,List.setIfInBounds_toArray,List.set_cons_zero]
     refine wpAnyH_done (by kernel_rfl) ?_ _;go_wp2_with fail;go_ret;exact⟨_,rfl,⟨_,_,H20.out,Xjw⟩,G12.out,B20.out⟩
    ·refine Xb0 _ (.tmp 1) (.tmp 3) (.func 57) 125 rfl 68 146 Xb9 Tryd.underlying125 fnE m12 0 (DataW.map []) (by go_simp) H15.out (by decide) (.agg (bv k3).toArray) (.func (.func 57) #[] #[]) (KL k3) (by go_simp) (by go_simp) (KL_is Xax.1 Xax.2) (FnD14 57) [] (Xbx _) ?_;intro y19 ho hg;have H19:=Hd ho;have B19:=Hd (B15.out.grown hg B15.out.size (fun k hk=>by cases hk;exact G12.out));clear ho hg;refine hK.out _ _ B19.out ?_;clear hK K;try simp only[Act.put]
     refine Rl 2 rfl fun K hK=>?_
     refine Xb0 _ (.tmp 1) (.tmp 2) (.func 55) 125 rfl 68 146 Xb9 Tryd.underlying125 fnE m12 1 ((DataW.map []).put (KL k3) (FnD14 57)) (by go_simp) H19.out (by decide) (.agg (bv k0).toArray) (.func (.func 55) #[] #[]) (KL k0) (by go_simp) (by go_simp) (KL_is Xaw.1 Xaw.2) (FnD14 55) [] (Xbx _) ?_;intro y21 ho hg;have H21:=Hd ho;have B21:=Hd (B19.out.grown hg B19.out.size (fun k hk=>by cases hk;exact G12.out));clear ho hg;refine hK.out _ _ B21.out ?_;clear hK K;try simp only[Act.put]
     refine Tk 5 rfl ?_ B21.out ?_ ⟨?_,rfl⟩
     ·intro w hw;(try dsimp only at hw);go_simp;try with_reducible rfl
     try simp only[nm]
     refine Tk 6 rfl ?_ B21.out ?_ ⟨?_,rfl⟩
     ·intro w hw;(try dsimp only at hw);go_simp;try with_reducible rfl
     try simp only[Act.put,List.setIfInBounds_toArray,List.set_cons_zero]
     refine wpAnyH_done (by kernel_rfl) ?_ _;go_wp2_with fail;go_ret;exact⟨_,rfl,⟨_,_,H21.out,Xp0⟩,G12.out,B21.out⟩
  ·go_simp;refine(Xgw _).mono ?_;rintro e y13 ⟨rfl,hb⟩;have B13:=Hd (B2.out.trans (hb.mono B2.out.size));clear hb;refine hK.out _ _ B13.out ?_;clear hK K;try simp only[nm]
   refine Rl 0 rfl fun K hK=>?_
   have hx:=hmm y13;have H22:=Hd (World.ownsMap_made y13 Tryd.prog 68 fnE);have B22:=Hd (B13.out.alloc B13.out.size (.map #[] 0));have G22:Hid (w.heap.size≤y13.heap.size):=Hd B13.out.size;refine Xdy 125 rfl hx ?_;clear hx;obtain⟨m22,hm22⟩:∃m,m=y13.heap.size:=⟨_,rfl⟩;rw[←hm22]at H22 G22 ⊢;clear hm22;generalize y13.alloc (.map #[] 0)=y22 at *;refine hK.out _ _ B22.out ?_;clear hK K;try simp only[nm]
   refine Xar (i:=2) (j:=4) rfl rfl (by kernel_rfl) (by kernel_rfl) (by kernel_rfl) (fun K hK=>?_) (fun K hK=>?_)
   ·refine Xb0 _ (.tmp 1) (.tmp 2) (.func 55) 125 rfl 68 146 Xb9 Tryd.underlying125 fnE m22 0 (DataW.map []) (by go_simp) H22.out (by decide) (.agg (bv k0).toArray) (.func (.func 55) #[] #[]) (KL k0) (by go_simp) (by go_simp) (KL_is Xaw.1 Xaw.2) (FnD14 55) [] (Xbx _) ?_;intro y23 ho hg;have H23:=Hd ho;have B23:=Hd (B22.out.grown hg B22.out.size (fun k hk=>by cases hk;exact G22.out));clear ho hg;refine hK.out _ _ B23.out ?_;clear hK K;try simp only[Act.put]
    refine Rl 4 rfl fun K hK=>?_
    refine Xb0 _ (.tmp 1) (.tmp 3) (.func 57) 125 rfl 68 146 Xb9 Tryd.underlying125 fnE m22 1 ((DataW.map []).put (KL k0) (FnD14 55)) (by go_simp) H23.out (by decide) (.agg (bv k3).toArray) (.func (.func 57) #[] #[]) (KL k3) (by go_simp) (by go_simp) (KL_is Xax.1 Xax.2) (FnD14 57) [] (Xbx _) ?_;intro y25 ho hg;have H25:=Hd ho;have B25:=Hd (B23.out.grown hg B23.out.size (fun k hk=>by cases hk;exact G22.out));clear ho hg;refine hK.out _ _ B25.out ?_;clear hK K;try simp only[Act.put]
    refine Tk 5 rfl ?_ B25.out ?_ ⟨?_,rfl⟩
    ·intro w hw;(try dsimp only at hw);go_simp;try with_reducible rfl
    try simp only[nm]
    refine Tk 6 rfl ?_ B25.out ?_ ⟨?_,rfl⟩
    ·intro w hw;(try dsimp only at hw);go_simp;try with_reducible rfl
    try simp only[Act.put,List.setIfInBounds_toArray,List.set_cons_zero]
    refine wpAnyH_done (by kernel_rfl) ?_ _;go_wp2_with fail;go_ret;exact⟨_,rfl,⟨_,_,H25.out,Xjw⟩,G22.out,B25.out⟩
   ·refine Xb0 _ (.tmp 1) (.tmp 3) (.func 57) 125 rfl 68 146 Xb9 Tryd.underlying125 fnE m22 0 (DataW.map []) (by go_simp) H22.out (by decide) (.agg (bv k3).toArray) (.func (.func 57) #[] #[]) (KL k3) (by go_simp) (by go_simp) (KL_is Xax.1 Xax.2) (FnD14 57) [] (Xbx _) ?_;intro y24 ho hg;have H24:=Hd ho;have B24:=Hd (B22.out.grown hg B22.out.size (fun k hk=>by cases hk;exact G22.out));clear ho hg;refine hK.out _ _ B24.out ?_;clear hK K;try simp only[Act.put]
    refine Rl 2 rfl fun K hK=>?_
    refine Xb0 _ (.tmp 1) (.tmp 2) (.func 55) 125 rfl 68 146 Xb9 Tryd.underlying125 fnE m22 1 ((DataW.map []).put (KL k3) (FnD14 57)) (by go_simp) H24.out (by decide) (.agg (bv k0).toArray) (.func (.func 55) #[] #[]) (KL k0) (by go_simp) (by go_simp) (KL_is Xaw.1 Xaw.2) (FnD14 55) [] (Xbx _) ?_;intro y26 ho hg;have H26:=Hd ho;have B26:=Hd (B24.out.grown hg B24.out.size (fun k hk=>by cases hk;exact G22.out));clear ho hg;refine hK.out _ _ B26.out ?_;clear hK K;try simp only[Act.put]
    refine Tk 5 rfl ?_ B26.out ?_ ⟨?_,rfl⟩
    ·intro w hw;(try dsimp only at hw);go_simp;try with_reducible rfl
    try simp only[nm]
    refine Tk 6 rfl ?_ B26.out ?_ ⟨?_,rfl⟩
    ·intro w hw;(try dsimp only at hw);go_simp;try with_reducible rfl
    try simp only[Act.put,List.setIfInBounds_toArray,List.set_cons_zero]
    refine wpAnyH_done (by kernel_rfl) ?_ _;go_wp2_with fail;go_ret;exact⟨_,rfl,⟨_,_,H26.out,Xp0⟩,G22.out,B26.out⟩
theorem Xsc(v:Value)(q:List Value)(w:World):Calls Tryd.prog 57 #[v,.agg q.toArray] w fun e w'=>e=.returned .nilIface∧Below w.heap.size w w':=by
 go_enter Tryd.func57,Tryd.ntmps57
 go_wp2_with fail;go_ret;exact⟨rfl,(Br w.heap.size w).alloc (Lr _) _⟩
end Go.Proofs.YtkhcgclnmdgpbaaDoor
